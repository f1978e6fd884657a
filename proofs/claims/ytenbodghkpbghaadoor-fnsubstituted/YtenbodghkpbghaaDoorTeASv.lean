import Derived.Test.YtenbodghkpbghaaDoorFmJSv
import Derived.Test.YtenbodghkpbghaaDoorGnYSv
import Derived.Test.YtenbodghkpbghaaDoorFmCSv
import Derived.Deep.QuietTactic
import Derived.BigQuiet
import Derived.Deep.RegionWith
import Derived.WalkSmall
namespace Go.Proofs.YtenbodghkpbghaaDoor
open Go.RowKit
set_option linter.unusedVariables false
set_option linter.unusedSimpArgs false
set_option maxHeartbeats 2000000 in
set_option maxRecDepth 100000 in
theorem sameInstL (lo lo' : Nat) (d : InstD) (u : Option Addr) (c : Nat) (v : Option Addr) (q : Nat) (w : World) (hl : d.args.length ≤ 1048576) (h : IntsAt w lo u d.args) (h' : IntsAt w lo' v d.args) :
  Calls Tryd.prog 54 #[.agg #[.int .i64 d.op, .int .i64 d.w, .int .i64 d.a, .int .i64 d.b, .int .i64 d.c, .int .i64 d.imm, .slice u d.args.length c], .agg #[.int .i64 d.op, .int .i64 d.w, .int .i64 d.a, .int .i64 d.b, .int .i64 d.c, .int .i64 d.imm, .slice v d.args.length q]] w fun e w' => e = .returned (.bool true) ∧ Below w.heap.size w w' := by
 have B1 : Below w.heap.size w ((w.alloc (.cells #[.int .i64 d.op, .int .i64 d.w, .int .i64 d.a, .int .i64 d.b, .int .i64 d.c, .int .i64 d.imm, .slice u d.args.length c] 44)).alloc (.cells #[.int .i64 d.op, .int .i64 d.w, .int .i64 d.a, .int .i64 d.b, .int .i64 d.c, .int .i64 d.imm, .slice v d.args.length q] 44)) := ((Below.refl _ _).alloc (Nat.le_refl _) _).alloc (by simp) _
 have P := sameL lo lo' u v c q d.args _ hl (h.keep (agree_of_below B1 _)) (h'.keep (agree_of_below B1 _))
 have HB : Hid (Below w.heap.size w _) := B1
 clear B1 h h'
 go_enter Tryd.func54, Tryd.ntmps54
 go_wp2_with fail
 refine P.mono ?_
 rintro e w1 ⟨rfl, n, rfl⟩
 go_wp2_with fail
 go_ret
 exact ⟨rfl, below_drewN HB.out n⟩
theorem sameLB (lo lo' : Nat) (a b : Option Addr) (c c' : Nat) (l : List Int) (w : World) (hl : l.length ≤ 1048576) (h : IntsAt w lo a l) (h' : IntsAt w lo' b l) :
  Calls Tryd.prog 32 #[.slice a l.length c, .slice b l.length c'] w fun e w' => e = .returned (.bool true) ∧ Below w.heap.size w w' :=
 (sameL lo lo' a b c c' l w hl h h').mono fun e w' h => by
  obtain ⟨h1, n, rfl⟩ := h
  exact ⟨h1, below_drewN (Below.refl _ _) n⟩
set_option maxHeartbeats 4000000 in
set_option maxRecDepth 100000 in
theorem sameBlockL (lo lo' : Nat) (d : BlockD) (u0 : Option Addr) (c0 : Nat) (u1 : Option Addr) (c1 : Nat) (v0 : Option Addr) (q0 : Nat) (v1 : Option Addr) (q1 : Nat) (w : World) (hp : ∀ p ∈ d.phis, p.ins.length ≤ 1048576) (hy : ∀ i ∈ d.insts, i.args.length ≤ 1048576) (k0 : PhisAt w lo u0 d.phis) (k1 : InstsAt w lo u1 d.insts) (n0 : PhisAt w lo' v0 d.phis) (n1 : InstsAt w lo' v1 d.insts) :
  Calls Tryd.prog 33 #[.agg #[.slice u0 d.phis.length c0, .slice u1 d.insts.length c1, .int .i64 d.term.kind, .int .i64 d.term.a, .int .i64 d.term.x, .int .i64 d.term.y], .agg #[.slice v0 d.phis.length q0, .slice v1 d.insts.length q1, .int .i64 d.term.kind, .int .i64 d.term.a, .int .i64 d.term.x, .int .i64 d.term.y]] w fun e w' => e = .returned (.bool true) ∧ Below w.heap.size w w' := by
 have B1 : Below w.heap.size w ((w.alloc (.cells #[.slice u0 d.phis.length c0, .slice u1 d.insts.length c1, .int .i64 d.term.kind, .int .i64 d.term.a, .int .i64 d.term.x, .int .i64 d.term.y] 41)).alloc (.cells #[.slice v0 d.phis.length q0, .slice v1 d.insts.length q1, .int .i64 d.term.kind, .int .i64 d.term.a, .int .i64 d.term.x, .int .i64 d.term.y] 41)) := ((Below.refl _ _).alloc (Nat.le_refl _) _).alloc (by simp) _
 have HA : Hid (At ((w.alloc (.cells #[.slice u0 d.phis.length c0, .slice u1 d.insts.length c1, .int .i64 d.term.kind, .int .i64 d.term.a, .int .i64 d.term.x, .int .i64 d.term.y] 41)).alloc (.cells #[.slice v0 d.phis.length q0, .slice v1 d.insts.length q1, .int .i64 d.term.kind, .int .i64 d.term.a, .int .i64 d.term.x, .int .i64 d.term.y] 41)) w.heap.size #[.slice u0 d.phis.length c0, .slice u1 d.insts.length c1, .int .i64 d.term.kind, .int .i64 d.term.a, .int .i64 d.term.x, .int .i64 d.term.y] 41) := (At.new w _ _).below ((Below.refl _ _).alloc (Nat.le_refl _) _)
 have HB : Hid (At ((w.alloc (.cells #[.slice u0 d.phis.length c0, .slice u1 d.insts.length c1, .int .i64 d.term.kind, .int .i64 d.term.a, .int .i64 d.term.x, .int .i64 d.term.y] 41)).alloc (.cells #[.slice v0 d.phis.length q0, .slice v1 d.insts.length q1, .int .i64 d.term.kind, .int .i64 d.term.a, .int .i64 d.term.x, .int .i64 d.term.y] 41)) (w.heap.size + 1) #[.slice v0 d.phis.length q0, .slice v1 d.insts.length q1, .int .i64 d.term.kind, .int .i64 d.term.a, .int .i64 d.term.x, .int .i64 d.term.y] 41) := by
  have h := At.new (w.alloc (.cells #[.slice u0 d.phis.length c0, .slice u1 d.insts.length c1, .int .i64 d.term.kind, .int .i64 d.term.a, .int .i64 d.term.x, .int .i64 d.term.y] 41)) #[.slice v0 d.phis.length q0, .slice v1 d.insts.length q1, .int .i64 d.term.kind, .int .i64 d.term.a, .int .i64 d.term.x, .int .i64 d.term.y] 41
  have e : (w.alloc (.cells #[.slice u0 d.phis.length c0, .slice u1 d.insts.length c1, .int .i64 d.term.kind, .int .i64 d.term.a, .int .i64 d.term.x, .int .i64 d.term.y] 41)).heap.size = w.heap.size + 1 := by simp
  rw [e] at h
  exact h
 have hz : ((w.alloc (.cells #[.slice u0 d.phis.length c0, .slice u1 d.insts.length c1, .int .i64 d.term.kind, .int .i64 d.term.a, .int .i64 d.term.x, .int .i64 d.term.y] 41)).alloc (.cells #[.slice v0 d.phis.length q0, .slice v1 d.insts.length q1, .int .i64 d.term.kind, .int .i64 d.term.a, .int .i64 d.term.x, .int .i64 d.term.y] 41)).heap.size = w.heap.size + 2 := by simp
 have K0 : Hid (PhisAt ((w.alloc (.cells #[.slice u0 d.phis.length c0, .slice u1 d.insts.length c1, .int .i64 d.term.kind, .int .i64 d.term.a, .int .i64 d.term.x, .int .i64 d.term.y] 41)).alloc (.cells #[.slice v0 d.phis.length q0, .slice v1 d.insts.length q1, .int .i64 d.term.kind, .int .i64 d.term.a, .int .i64 d.term.x, .int .i64 d.term.y] 41)) lo u0 d.phis) := k0.keep (agree_of_below B1 _)
 have K1 : Hid (InstsAt ((w.alloc (.cells #[.slice u0 d.phis.length c0, .slice u1 d.insts.length c1, .int .i64 d.term.kind, .int .i64 d.term.a, .int .i64 d.term.x, .int .i64 d.term.y] 41)).alloc (.cells #[.slice v0 d.phis.length q0, .slice v1 d.insts.length q1, .int .i64 d.term.kind, .int .i64 d.term.a, .int .i64 d.term.x, .int .i64 d.term.y] 41)) lo u1 d.insts) := k1.keep (agree_of_below B1 _)
 have N0 : Hid (PhisAt ((w.alloc (.cells #[.slice u0 d.phis.length c0, .slice u1 d.insts.length c1, .int .i64 d.term.kind, .int .i64 d.term.a, .int .i64 d.term.x, .int .i64 d.term.y] 41)).alloc (.cells #[.slice v0 d.phis.length q0, .slice v1 d.insts.length q1, .int .i64 d.term.kind, .int .i64 d.term.a, .int .i64 d.term.x, .int .i64 d.term.y] 41)) lo' v0 d.phis) := n0.keep (agree_of_below B1 _)
 have N1 : Hid (InstsAt ((w.alloc (.cells #[.slice u0 d.phis.length c0, .slice u1 d.insts.length c1, .int .i64 d.term.kind, .int .i64 d.term.a, .int .i64 d.term.x, .int .i64 d.term.y] 41)).alloc (.cells #[.slice v0 d.phis.length q0, .slice v1 d.insts.length q1, .int .i64 d.term.kind, .int .i64 d.term.a, .int .i64 d.term.x, .int .i64 d.term.y] 41)) lo' v1 d.insts) := n1.keep (agree_of_below B1 _)
 have HW : Hid (Below w.heap.size w ((w.alloc (.cells #[.slice u0 d.phis.length c0, .slice u1 d.insts.length c1, .int .i64 d.term.kind, .int .i64 d.term.a, .int .i64 d.term.x, .int .i64 d.term.y] 41)).alloc (.cells #[.slice v0 d.phis.length q0, .slice v1 d.insts.length q1, .int .i64 d.term.kind, .int .i64 d.term.a, .int .i64 d.term.x, .int .i64 d.term.y] 41))) := B1
 clear B1 k0 k1 n0 n1
 go_enter Tryd.func33, Tryd.ntmps33
 go_wp2_with fail
 obtain ⟨W2, hW2⟩ : ∃ W, ((w.alloc (.cells #[.slice u0 d.phis.length c0, .slice u1 d.insts.length c1, .int .i64 d.term.kind, .int .i64 d.term.a, .int .i64 d.term.x, .int .i64 d.term.y] 41)).alloc (.cells #[.slice v0 d.phis.length q0, .slice v1 d.insts.length q1, .int .i64 d.term.kind, .int .i64 d.term.a, .int .i64 d.term.x, .int .i64 d.term.y] 41)) = W := ⟨_, rfl⟩
 rw [hW2] at HA HB hz HW K0 K1 N0 N1 ⊢
 clear hW2
 go_loopw [5] (fun i wr => ∃ (k : Nat), k ≤ d.phis.length ∧ i = .int .i64 k ∧ Hid (Below W2.heap.size W2 wr)) (fun i _ => d.phis.length - (intOf i).toNat)
 case atStart => exact ⟨0, by omega, rfl, Below.refl _ _⟩
 case round =>
  obtain ⟨k, hk, rfl, HR⟩ := hrel
  have xa : wr.cell? ⟨w.heap.size, 0, none⟩ = some (.slice u0 d.phis.length c0) := (cell_block (HR.out.block w.heap.size (by omega))).trans (HA.out.cell 0)
  have xb : wr.cell? ⟨w.heap.size + 1, 0, none⟩ = some (.slice v0 d.phis.length q0) := (cell_block (HR.out.block (w.heap.size + 1) (by omega))).trans (HB.out.cell 0)
  have hne : Nonempty (Abv (fun v => Below W2.heap.size W2 v)) := abv_ne (Below.refl _ _)
  have za : ∀ z : Abv (fun v => Below W2.heap.size W2 v), z.v.cell? ⟨w.heap.size, 0, none⟩ = some (.slice u0 d.phis.length c0) := fun z => (cell_block (z.ok.block w.heap.size (by omega))).trans (HA.out.cell 0)
  have zb : ∀ z : Abv (fun v => Below W2.heap.size W2 v), z.v.cell? ⟨w.heap.size + 1, 0, none⟩ = some (.slice v0 d.phis.length q0) := fun z => (cell_block (z.ok.block (w.heap.size + 1) (by omega))).trans (HB.out.cell 0)
  by_cases hlt : k < d.phis.length
  ·have ha := K0.out
   have hb := N0.out
   rcases ha.2 with h | ⟨ba, offa, rfl, hla, hba, hca⟩
   ·rw [h] at hlt
    simp at hlt
   rcases hb.2 with h | ⟨bb, offb, rfl, hlb, hbb, hcb⟩
   ·rw [h] at hlt
    simp at hlt
   have hmem : d.phis.getD k phi0 ∈ d.phis := by
    rw [List.getD, List.getElem?_eq_getElem hlt]
    exact List.getElem_mem hlt
   obtain ⟨hA0, ⟨uA1, cA1, hA1, kA1⟩⟩ := hca k hlt
   obtain ⟨hB0, ⟨uB1, cB1, hB1, kB1⟩⟩ := hcb k hlt
   generalize d.phis.getD k phi0 = x at hmem hA0 hA1 kA1 hB0 hB1 kB1
   have eA0 : ∀ z : Abv (fun v => Below W2.heap.size W2 v), z.v.cell? ⟨ba, offa + k * 2, none⟩ = some (.int .i64 x.w) := fun z => (cell_block (z.ok.block ba hba)).trans hA0
   have eA1 : ∀ z : Abv (fun v => Below W2.heap.size W2 v), z.v.cell? ⟨ba, offa + k * 2 + 1, none⟩ = some (.slice uA1 x.ins.length cA1) := fun z => (cell_block (z.ok.block ba hba)).trans hA1
   have eB0 : ∀ z : Abv (fun v => Below W2.heap.size W2 v), z.v.cell? ⟨bb, offb + k * 2, none⟩ = some (.int .i64 x.w) := fun z => (cell_block (z.ok.block bb hbb)).trans hB0
   have eB1 : ∀ z : Abv (fun v => Below W2.heap.size W2 v), z.v.cell? ⟨bb, offb + k * 2 + 1, none⟩ = some (.slice uB1 x.ins.length cB1) := fun z => (cell_block (z.ok.block bb hbb)).trans hB1
   have Ts : ∀ z : Abv (fun v => Below W2.heap.size W2 v), Calls Tryd.prog 32 #[.slice uA1 x.ins.length cA1, .slice uB1 x.ins.length cB1] z.v fun e w'' => e = .returned (.bool true) ∧ ∃ y : Abv (fun v => Below W2.heap.size W2 v), w'' = y.v := fun z => (sameLB lo lo' _ _ _ _ _ _ (hp x hmem) (kA1.keep (agree_of_below z.ok _)) (kB1.keep (agree_of_below z.ok _))).mono fun e w' h => ⟨h.1, ⟨w', z.ok.trans (h.2.mono z.ok.size)⟩, rfl⟩
   have hm := ha.1
   clear ha hb hca hcb hA0 hA1 hB0 hB1 kA1 kB1
   go_wp2_with fail
   clear hz
   refine wp_region_abv (fun v => Below W2.heap.size W2 v) (by kernel_rfl) (by kernel_rfl) (drew_below HR.out) ?_
   repeat (go_big_quiet_step (first | (go_at_call 32; with_reducible exact Ts _)))
   refine wpQuiet_nil ?_
   rintro w9 ⟨⟨w9, h9⟩, rfl⟩
   have H9 : Hid (Below W2.heap.size W2 w9) := h9
   clear h9 za zb eA0 eA1 eB0 eB1 Ts
   go_wp2_with fail
   go_roundw
   case rel => exact ⟨k + 1, by omega, by go_num, H9.out⟩
   case measure => simp [intOf]; omega
  ·go_wp2_with fail
   obtain ⟨WS, hWS⟩ : ∃ W, W = wr := ⟨_, rfl⟩
   subst hWS
   have HS : Hid (Below W2.heap.size W2 WS) := HR.out
   clear HR
   go_loopw [6] (fun i wr => ∃ (k : Nat), k ≤ d.insts.length ∧ i = .int .i64 k ∧ Hid (Below W2.heap.size W2 wr)) (fun i _ => d.insts.length - (intOf i).toNat)
   case atStart => exact ⟨0, by omega, rfl, HS.out⟩
   case round =>
    obtain ⟨k, hk, rfl, HR⟩ := hrel
    have xa : wr.cell? ⟨w.heap.size, 1, none⟩ = some (.slice u1 d.insts.length c1) := (cell_block (HR.out.block w.heap.size (by omega))).trans (HA.out.cell 1)
    have xb : wr.cell? ⟨w.heap.size + 1, 1, none⟩ = some (.slice v1 d.insts.length q1) := (cell_block (HR.out.block (w.heap.size + 1) (by omega))).trans (HB.out.cell 1)
    by_cases hlt : k < d.insts.length
    ·have ha := K1.out
     have hb := N1.out
     rcases ha.2 with h | ⟨ba, offa, rfl, hla, hba, hca⟩
     ·rw [h] at hlt
      simp at hlt
     rcases hb.2 with h | ⟨bb, offb, rfl, hlb, hbb, hcb⟩
     ·rw [h] at hlt
      simp at hlt
     have hmem : d.insts.getD k inst0 ∈ d.insts := by
      rw [List.getD, List.getElem?_eq_getElem hlt]
      exact List.getElem_mem hlt
     obtain ⟨hA0, hA1, hA2, hA3, hA4, hA5, ⟨uA6, cA6, hA6, kA6⟩⟩ := hca k hlt
     obtain ⟨hB0, hB1, hB2, hB3, hB4, hB5, ⟨uB6, cB6, hB6, kB6⟩⟩ := hcb k hlt
     generalize d.insts.getD k inst0 = x at hmem hA0 hA1 hA2 hA3 hA4 hA5 hA6 kA6 hB0 hB1 hB2 hB3 hB4 hB5 hB6 kB6
     have eA0 : wr.cell? ⟨ba, offa + k * 7, none⟩ = some (.int .i64 x.op) := (cell_block (HR.out.block ba hba)).trans hA0
     have eA1 : wr.cell? ⟨ba, offa + k * 7 + 1, none⟩ = some (.int .i64 x.w) := (cell_block (HR.out.block ba hba)).trans hA1
     have eA2 : wr.cell? ⟨ba, offa + k * 7 + 2, none⟩ = some (.int .i64 x.a) := (cell_block (HR.out.block ba hba)).trans hA2
     have eA3 : wr.cell? ⟨ba, offa + k * 7 + 3, none⟩ = some (.int .i64 x.b) := (cell_block (HR.out.block ba hba)).trans hA3
     have eA4 : wr.cell? ⟨ba, offa + k * 7 + 4, none⟩ = some (.int .i64 x.c) := (cell_block (HR.out.block ba hba)).trans hA4
     have eA5 : wr.cell? ⟨ba, offa + k * 7 + 5, none⟩ = some (.int .i64 x.imm) := (cell_block (HR.out.block ba hba)).trans hA5
     have eA6 : wr.cell? ⟨ba, offa + k * 7 + 6, none⟩ = some (.slice uA6 x.args.length cA6) := (cell_block (HR.out.block ba hba)).trans hA6
     have mA6 := kA6.keep (agree_of_below HR.out _)
     have eB0 : wr.cell? ⟨bb, offb + k * 7, none⟩ = some (.int .i64 x.op) := (cell_block (HR.out.block bb hbb)).trans hB0
     have eB1 : wr.cell? ⟨bb, offb + k * 7 + 1, none⟩ = some (.int .i64 x.w) := (cell_block (HR.out.block bb hbb)).trans hB1
     have eB2 : wr.cell? ⟨bb, offb + k * 7 + 2, none⟩ = some (.int .i64 x.a) := (cell_block (HR.out.block bb hbb)).trans hB2
     have eB3 : wr.cell? ⟨bb, offb + k * 7 + 3, none⟩ = some (.int .i64 x.b) := (cell_block (HR.out.block bb hbb)).trans hB3
     have eB4 : wr.cell? ⟨bb, offb + k * 7 + 4, none⟩ = some (.int .i64 x.c) := (cell_block (HR.out.block bb hbb)).trans hB4
     have eB5 : wr.cell? ⟨bb, offb + k * 7 + 5, none⟩ = some (.int .i64 x.imm) := (cell_block (HR.out.block bb hbb)).trans hB5
     have eB6 : wr.cell? ⟨bb, offb + k * 7 + 6, none⟩ = some (.slice uB6 x.args.length cB6) := (cell_block (HR.out.block bb hbb)).trans hB6
     have mB6 := kB6.keep (agree_of_below HR.out _)
     have hl := hy x hmem
     have hm := ha.1
     clear ha hb hca hcb hA0 hA1 hA2 hA3 hA4 hA5 hA6 kA6 hB0 hB1 hB2 hB3 hB4 hB5 hB6 kB6
     go_wp2_with fail
     go_region_with (go_at_call 54; refine (sameInstL lo lo' x _ _ _ _ _ hl (by exact mA6) (by exact mB6)).mono ?_; rintro e w1 ⟨rfl, hb1⟩)
     all_goals
      go_wp2_with fail
      go_roundw
      case rel => exact ⟨k + 1, by omega, by go_num, HR.out.drew.trans (hb1.mono HR.out.size)⟩
      case measure => simp [intOf]; omega
    ·go_wp2_with fail
     go_ret
     exact ⟨rfl, HW.out.trans (HR.out.mono HW.out.size)⟩
set_option maxHeartbeats 4000000 in
set_option maxRecDepth 100000 in
theorem sameFuncL (lo lo' : Nat) (d : FuncD) (u0 : Option Addr) (c0 : Nat) (u2 : Option Addr) (c2 : Nat) (v0 : Option Addr) (q0 : Nat) (v2 : Option Addr) (q2 : Nat) (w : World) (hq : d.params.length ≤ 1048576) (hb0 : ∀ b ∈ d.blocks, (∀ p ∈ b.phis, p.ins.length ≤ 1048576) ∧ ∀ i ∈ b.insts, i.args.length ≤ 1048576) (k0 : IntsAt w lo u0 d.params) (k2 : BlocksAt w lo u2 d.blocks) (n0 : IntsAt w lo' v0 d.params) (n2 : BlocksAt w lo' v2 d.blocks) :
  Calls Tryd.prog 9 #[.agg #[.slice u0 d.params.length c0, .int .i64 d.ret, .slice u2 d.blocks.length c2], .agg #[.slice v0 d.params.length q0, .int .i64 d.ret, .slice v2 d.blocks.length q2]] w fun e w' => e = .returned (.bool true) ∧ Below w.heap.size w w' := by
 have B1 : Below w.heap.size w ((w.alloc (.cells #[.slice u0 d.params.length c0, .int .i64 d.ret, .slice u2 d.blocks.length c2] 27)).alloc (.cells #[.slice v0 d.params.length q0, .int .i64 d.ret, .slice v2 d.blocks.length q2] 27)) := ((Below.refl _ _).alloc (Nat.le_refl _) _).alloc (by simp) _
 have HA : Hid (At ((w.alloc (.cells #[.slice u0 d.params.length c0, .int .i64 d.ret, .slice u2 d.blocks.length c2] 27)).alloc (.cells #[.slice v0 d.params.length q0, .int .i64 d.ret, .slice v2 d.blocks.length q2] 27)) w.heap.size #[.slice u0 d.params.length c0, .int .i64 d.ret, .slice u2 d.blocks.length c2] 27) := (At.new w _ _).below ((Below.refl _ _).alloc (Nat.le_refl _) _)
 have HB : Hid (At ((w.alloc (.cells #[.slice u0 d.params.length c0, .int .i64 d.ret, .slice u2 d.blocks.length c2] 27)).alloc (.cells #[.slice v0 d.params.length q0, .int .i64 d.ret, .slice v2 d.blocks.length q2] 27)) (w.heap.size + 1) #[.slice v0 d.params.length q0, .int .i64 d.ret, .slice v2 d.blocks.length q2] 27) := by
  have h := At.new (w.alloc (.cells #[.slice u0 d.params.length c0, .int .i64 d.ret, .slice u2 d.blocks.length c2] 27)) #[.slice v0 d.params.length q0, .int .i64 d.ret, .slice v2 d.blocks.length q2] 27
  have e : (w.alloc (.cells #[.slice u0 d.params.length c0, .int .i64 d.ret, .slice u2 d.blocks.length c2] 27)).heap.size = w.heap.size + 1 := by simp
  rw [e] at h
  exact h
 have hz : ((w.alloc (.cells #[.slice u0 d.params.length c0, .int .i64 d.ret, .slice u2 d.blocks.length c2] 27)).alloc (.cells #[.slice v0 d.params.length q0, .int .i64 d.ret, .slice v2 d.blocks.length q2] 27)).heap.size = w.heap.size + 2 := by simp
 have K0 : Hid (IntsAt ((w.alloc (.cells #[.slice u0 d.params.length c0, .int .i64 d.ret, .slice u2 d.blocks.length c2] 27)).alloc (.cells #[.slice v0 d.params.length q0, .int .i64 d.ret, .slice v2 d.blocks.length q2] 27)) lo u0 d.params) := k0.keep (agree_of_below B1 _)
 have K2 : Hid (BlocksAt ((w.alloc (.cells #[.slice u0 d.params.length c0, .int .i64 d.ret, .slice u2 d.blocks.length c2] 27)).alloc (.cells #[.slice v0 d.params.length q0, .int .i64 d.ret, .slice v2 d.blocks.length q2] 27)) lo u2 d.blocks) := k2.keep (agree_of_below B1 _)
 have N0 : Hid (IntsAt ((w.alloc (.cells #[.slice u0 d.params.length c0, .int .i64 d.ret, .slice u2 d.blocks.length c2] 27)).alloc (.cells #[.slice v0 d.params.length q0, .int .i64 d.ret, .slice v2 d.blocks.length q2] 27)) lo' v0 d.params) := n0.keep (agree_of_below B1 _)
 have N2 : Hid (BlocksAt ((w.alloc (.cells #[.slice u0 d.params.length c0, .int .i64 d.ret, .slice u2 d.blocks.length c2] 27)).alloc (.cells #[.slice v0 d.params.length q0, .int .i64 d.ret, .slice v2 d.blocks.length q2] 27)) lo' v2 d.blocks) := n2.keep (agree_of_below B1 _)
 have HW : Hid (Below w.heap.size w ((w.alloc (.cells #[.slice u0 d.params.length c0, .int .i64 d.ret, .slice u2 d.blocks.length c2] 27)).alloc (.cells #[.slice v0 d.params.length q0, .int .i64 d.ret, .slice v2 d.blocks.length q2] 27))) := B1
 clear B1 k0 k2 n0 n2
 go_enter Tryd.func9, Tryd.ntmps9
 have P := sameLB lo lo' u0 v0 c0 q0 d.params _ hq K0.out N0.out
 go_wp2_with fail
 obtain ⟨W2, hW2⟩ : ∃ W, ((w.alloc (.cells #[.slice u0 d.params.length c0, .int .i64 d.ret, .slice u2 d.blocks.length c2] 27)).alloc (.cells #[.slice v0 d.params.length q0, .int .i64 d.ret, .slice v2 d.blocks.length q2] 27)) = W := ⟨_, rfl⟩
 rw [hW2] at HA HB hz HW K0 K2 N0 N2 P ⊢
 clear hW2
 refine P.mono ?_
 rintro e WS ⟨rfl, hb1⟩
 have HS : Hid (Below W2.heap.size W2 WS) := hb1
 have xc : WS.cell? ⟨w.heap.size, 1, none⟩ = some (.int .i64 d.ret) := (cell_block (HS.out.block w.heap.size (by omega))).trans (HA.out.cell 1)
 have xd : WS.cell? ⟨w.heap.size + 1, 1, none⟩ = some (.int .i64 d.ret) := (cell_block (HS.out.block (w.heap.size + 1) (by omega))).trans (HB.out.cell 1)
 have xe : WS.cell? ⟨w.heap.size, 2, none⟩ = some (.slice u2 d.blocks.length c2) := (cell_block (HS.out.block w.heap.size (by omega))).trans (HA.out.cell 2)
 have xf : WS.cell? ⟨w.heap.size + 1, 2, none⟩ = some (.slice v2 d.blocks.length q2) := (cell_block (HS.out.block (w.heap.size + 1) (by omega))).trans (HB.out.cell 2)
 clear P hb1
 go_wp2_with fail
 clear xc xd xe xf
 go_loopw [5] (fun i wr => ∃ (k : Nat), k ≤ d.blocks.length ∧ i = .int .i64 k ∧ Hid (Below W2.heap.size W2 wr)) (fun i _ => d.blocks.length - (intOf i).toNat)
 case atStart => exact ⟨0, by omega, rfl, HS.out⟩
 case round =>
  obtain ⟨k, hk, rfl, HR⟩ := hrel
  have xa : wr.cell? ⟨w.heap.size, 2, none⟩ = some (.slice u2 d.blocks.length c2) := (cell_block (HR.out.block w.heap.size (by omega))).trans (HA.out.cell 2)
  have xb : wr.cell? ⟨w.heap.size + 1, 2, none⟩ = some (.slice v2 d.blocks.length q2) := (cell_block (HR.out.block (w.heap.size + 1) (by omega))).trans (HB.out.cell 2)
  by_cases hlt : k < d.blocks.length
  ·have ha := K2.out
   have hb := N2.out
   rcases ha.2 with h | ⟨ba, offa, rfl, hla, hba, hca⟩
   ·rw [h] at hlt
    simp at hlt
   rcases hb.2 with h | ⟨bb, offb, rfl, hlb, hbb, hcb⟩
   ·rw [h] at hlt
    simp at hlt
   have hmem : d.blocks.getD k block0 ∈ d.blocks := by
    rw [List.getD, List.getElem?_eq_getElem hlt]
    exact List.getElem_mem hlt
   obtain ⟨⟨uA0, cA0, hA0, kA0⟩, ⟨uA1, cA1, hA1, kA1⟩, hA2, hA3, hA4, hA5⟩ := hca k hlt
   obtain ⟨⟨uB0, cB0, hB0, kB0⟩, ⟨uB1, cB1, hB1, kB1⟩, hB2, hB3, hB4, hB5⟩ := hcb k hlt
   generalize d.blocks.getD k block0 = x at hmem hA0 kA0 hA1 kA1 hA2 hA3 hA4 hA5 hB0 kB0 hB1 kB1 hB2 hB3 hB4 hB5
   have eA0 : wr.cell? ⟨ba, offa + k * 6, none⟩ = some (.slice uA0 x.phis.length cA0) := (cell_block (HR.out.block ba hba)).trans hA0
   have mA0 := kA0.keep (agree_of_below HR.out _)
   have eA1 : wr.cell? ⟨ba, offa + k * 6 + 1, none⟩ = some (.slice uA1 x.insts.length cA1) := (cell_block (HR.out.block ba hba)).trans hA1
   have mA1 := kA1.keep (agree_of_below HR.out _)
   have eA2 : wr.cell? ⟨ba, offa + k * 6 + 2, none⟩ = some (.int .i64 x.term.kind) := (cell_block (HR.out.block ba hba)).trans hA2
   have eA3 : wr.cell? ⟨ba, offa + k * 6 + 3, none⟩ = some (.int .i64 x.term.a) := (cell_block (HR.out.block ba hba)).trans hA3
   have eA4 : wr.cell? ⟨ba, offa + k * 6 + 4, none⟩ = some (.int .i64 x.term.x) := (cell_block (HR.out.block ba hba)).trans hA4
   have eA5 : wr.cell? ⟨ba, offa + k * 6 + 5, none⟩ = some (.int .i64 x.term.y) := (cell_block (HR.out.block ba hba)).trans hA5
   have eB0 : wr.cell? ⟨bb, offb + k * 6, none⟩ = some (.slice uB0 x.phis.length cB0) := (cell_block (HR.out.block bb hbb)).trans hB0
   have mB0 := kB0.keep (agree_of_below HR.out _)
   have eB1 : wr.cell? ⟨bb, offb + k * 6 + 1, none⟩ = some (.slice uB1 x.insts.length cB1) := (cell_block (HR.out.block bb hbb)).trans hB1
   have mB1 := kB1.keep (agree_of_below HR.out _)
   have eB2 : wr.cell? ⟨bb, offb + k * 6 + 2, none⟩ = some (.int .i64 x.term.kind) := (cell_block (HR.out.block bb hbb)).trans hB2
   have eB3 : wr.cell? ⟨bb, offb + k * 6 + 3, none⟩ = some (.int .i64 x.term.a) := (cell_block (HR.out.block bb hbb)).trans hB3
   have eB4 : wr.cell? ⟨bb, offb + k * 6 + 4, none⟩ = some (.int .i64 x.term.x) := (cell_block (HR.out.block bb hbb)).trans hB4
   have eB5 : wr.cell? ⟨bb, offb + k * 6 + 5, none⟩ = some (.int .i64 x.term.y) := (cell_block (HR.out.block bb hbb)).trans hB5
   have hl := hb0 x hmem
   have hm := ha.1
   clear ha hb hca hcb hA0 kA0 hA1 kA1 hA2 hA3 hA4 hA5 hB0 kB0 hB1 kB1 hB2 hB3 hB4 hB5
   go_wp2_with fail
   go_region_with (go_at_call 33; refine (sameBlockL lo lo' x _ _ _ _ _ _ _ _ _ hl.1 hl.2 (by exact mA0) (by exact mA1) (by exact mB0) (by exact mB1)).mono ?_; rintro e w1 ⟨rfl, hb1⟩)
   all_goals
    go_wp2_with fail
    go_roundw
    case rel => exact ⟨k + 1, by omega, by go_num, HR.out.drew.trans (hb1.mono HR.out.size)⟩
    case measure => simp [intOf]; omega
  ·go_wp2_with fail
   go_ret
   exact ⟨rfl, HW.out.trans (HR.out.mono HW.out.size)⟩
end Go.Proofs.YtenbodghkpbghaaDoor
