import Derived.Test.YtenbodghkpbghaaDoorTowQ
import Derived.Test.YtenbodghkpbghaaDoorTo2Q
import Derived.Test.YtenbodghkpbghaaDoorSbEQ
import Derived.Deep.DeepCutAuto
namespace Go.Proofs.YtenbodghkpbghaaDoor
open Go.RowKit
structure Only (g : Nat) (w w' : World) : Prop where
 os : w'.os = w.os
 tape : w'.tape = w.tape
 output : w'.output = w.output
 size : w'.heap.size = w.heap.size
 other : ∀ k : Nat, k ≠ g → w'.heap[k]? = w.heap[k]?
theorem Only.refl (g : Nat) (w : World) : Only g w w := ⟨rfl, rfl, rfl, rfl, fun _ _ => rfl⟩
theorem Only.set {g : Nat} {w w1 : World} (h : Only g w w1) (o : Nat) (v : Value) : Only g w (w1.setCell ⟨g, o, none⟩ v) :=
 ⟨h.os, h.tape, h.output, by simp [World.setCell]; exact h.size, fun k hk => (Below.heap_setCell _ _ _ _ hk).trans (h.other k hk)⟩
def marks (k : Int) (n : Nat) : List Int := (List.range n).map fun i : Nat => k + (i : Int)
set_option maxHeartbeats 1000000 in
theorem markVals (g c n : Nat) (k : Int) (cur : Array Value) (w : World) (hn : n ≤ 1048576) (hk0 : 0 ≤ k) (hk : k ≤ 4611686018427387904) (hb : w.heap[g]? = some (.cells cur 2 (0, 0))) (hc : ∀ i, i < n → ∃ z : Int, cur[i]? = some (.int .i64 z)) :
  Calls Tryd.prog 19 #[.slice (some ⟨g, 0, none⟩) n c, .int .i64 k] w fun e w' => e = .returned (.int .i64 (k + n)) ∧ Only g w w' ∧ ∃ cur', w'.heap[g]? = some (.cells cur' 2 (0, 0)) ∧ Cur cur cur' ∧ ∀ i, i < n → cur'[i]? = some (.int .i64 (k + i)) := by
 have HB : Hid (w.heap[g]? = some (.cells cur 2 (0, 0))) := hb
 have HC : Hid (∀ i, i < n → ∃ z : Int, cur[i]? = some (.int .i64 z)) := hc
 clear hb hc
 go_enter Tryd.func19, Tryd.ntmps19
 go_wp2_with fail
 go_loopw [1, 5] (fun q i wr => ∃ (j : Nat) (cj : Array Value), j ≤ n ∧ i = .int .i64 j ∧ q = .int .i64 (k + j) ∧ Hid (wr.heap[g]? = some (.cells cj 2 (0, 0))) ∧ Hid (Cur cur cj) ∧ Hid (∀ i, i < j → cj[i]? = some (.int .i64 (k + i))) ∧ Hid (Only g w wr)) (fun _ i _ => n - (intOf i).toNat)
 case atStart => exact ⟨0, cur, by omega, rfl, by simp, HB.out, Cur.refl _, fun i hi => by omega, Only.refl _ _⟩
 case round =>
  obtain ⟨j, cj, hj, rfl, rfl, HJ, HCu, HD, HO⟩ := hrel
  by_cases hlt : j < n
  ·obtain ⟨z, hz⟩ := HC.out j hlt
   obtain ⟨y, hy⟩ := HCu.out.int hz
   have e1 : wr.cell? ⟨g, j, none⟩ = some (.int .i64 y) := (cell_of_heap HJ.out).trans hy
   have e2 : wr.frozen? ⟨g, j, none⟩ = false := froz_of_heap HJ.out
   have HH : Hid ((wr.setCell ⟨g, j, none⟩ (.int .i64 (k + j))).heap[g]? = some (.cells (cj.setIfInBounds j (.int .i64 (k + j))) 2 (0, 0))) := heap_set HJ.out
   have HC2 : Hid (Cur cur (cj.setIfInBounds j (.int .i64 (k + j)))) := HCu.out.trans (Cur.set hy _)
   have HD2 : Hid (∀ i, i < j + 1 → (cj.setIfInBounds j (.int .i64 (k + j)))[i]? = some (.int .i64 (k + i))) := fun i hi => by
    by_cases e : i = j
    ·subst e
     have hl := (Array.getElem?_eq_some_iff.1 hy).1
     simp [hl]
    ·rw [Array.getElem?_setIfInBounds_ne (by omega)]; exact HD.out i (by omega)
   clear hz hy
   go_wp2_with fail
   go_roundw
   case rel => exact ⟨j + 1, _, by omega, by go_num, by refine congrArg (Value.int .i64) ?_; first | omega | (unfold wrap64; omega), HH.out, HC2.out, HD2.out, HO.out.set _ _⟩
   case measure => simp [intOf]; omega
  ·have hke : j = n := by omega
   subst hke
   go_wp2_with fail
   go_ret
   exact ⟨rfl, HO.out, cj, HJ.out, HCu.out, HD.out⟩
set_option maxHeartbeats 1000000 in
theorem markZero (a : Option Addr) (c : Nat) (k : Int) (w : World) :
  Calls Tryd.prog 19 #[.slice a 0 c, .int .i64 k] w fun e w' => e = .returned (.int .i64 k) ∧ w' = w := by
 go_enter Tryd.func19, Tryd.ntmps19
 go_wp2_with fail
 go_loop [1, 5] (fun q i => q = .int .i64 k ∧ i = .int .i64 0) (fun _ _ => 0)
 case atStart => exact ⟨rfl, rfl⟩
 case round =>
  obtain ⟨rfl, rfl⟩ := hrel
  go_wp2_with fail
  go_ret
  exact ⟨rfl, rfl⟩
theorem only_hdr {g lo hi : Nat} {w w' : World} {cur cur' : Array Value} {T : TypeId} (h : Only g w w') (hb : w.heap[g]? = some (.cells cur T (0, 0))) (hb' : w'.heap[g]? = some (.cells cur' T (0, 0))) (hc : Cur cur cur') (hl : lo ≤ g) (hh : g < hi) : Hdr lo hi w w' :=
 ⟨h.os, h.tape, h.output, by rw [h.size]; exact Nat.le_refl _, fun k hk _ => h.other k (by omega), fun k c1 T1 h1 => by
  by_cases e : k = g
  ·subst e
   rw [hb] at h1
   cases h1
   exact ⟨cur', hb', hc⟩
  ·exact ⟨c1, (h.other k e).trans h1, Cur.refl _⟩⟩
theorem markInts (lo hi : Nat) (a : Option Addr) (c n : Nat) (k : Int) (w : World) (hn : n ≤ 1048576) (hk0 : 0 ≤ k) (hk : k ≤ 4611686018427387904) (hv : SI w lo hi a n) :
  Calls Tryd.prog 19 #[.slice a n c, .int .i64 k] w fun e w' => e = .returned (.int .i64 (k + n)) ∧ Hdr lo hi w w' := by
 rcases hv with rfl | ⟨g, cur, rfl, hl, hh, hb, hc⟩
 ·refine (markZero a c k w).mono ?_
  rintro e w1 ⟨rfl, rfl⟩
  exact ⟨by simp, Hdr.refl _ _ _⟩
 ·refine (markVals g c n k cur w hn hk0 hk hb hc).mono ?_
  rintro e w1 ⟨rfl, ho, cur', hb', hcu, _⟩
  exact ⟨rfl, only_hdr ho hb hb' hcu hl hh⟩
end Go.Proofs.YtenbodghkpbghaaDoor
namespace Go.Proofs.YtenbodghkpbghaaDoor
open Go.RowKit
set_option maxHeartbeats 2000000 in
theorem markPhis (lo hi : Nat) (a : Option Addr) (c : Nat) (l : List PhiD) (k : Int) (w : World) (hl : l.length ≤ 1048576) (hsm : ∀ d ∈ l, SmPhi d) (hk0 : 0 ≤ k) (hk : k ≤ 4611683000000000000) (hv : SP w lo hi a l) :
  Calls Tryd.prog 59 #[.slice a l.length c, .int .i64 k] w fun e w' => ∃ x : Int, e = .returned (.int .i64 x) ∧ 0 ≤ x ∧ x ≤ k + l.length * 1048577 ∧ Hdr lo hi w w' := by
 have HV : Hid (SP w lo hi a l) := hv
 have HS : Hid (∀ d ∈ l, SmPhi d) := hsm
 clear hv hsm
 go_enter Tryd.func59, Tryd.ntmps59
 go_wp2_with fail
 go_loopw [1, 5] (fun q i wr => ∃ (j : Nat) (x : Int), j ≤ l.length ∧ i = .int .i64 j ∧ q = .int .i64 x ∧ 0 ≤ x ∧ x ≤ k + j * 1048577 ∧ Hid (Hdr lo hi w wr)) (fun _ i _ => l.length - (intOf i).toNat)
 case atStart => exact ⟨0, k, by omega, rfl, rfl, hk0, by omega, Hdr.refl _ _ _⟩
 case round =>
  obtain ⟨j, x, hj, rfl, rfl, hx0, hx1, HH⟩ := hrel
  by_cases hlt : j < l.length
  ·rcases HV.out.keep HH.out with h | ⟨g, cur, rfl, hlo, hhi, hb, hc⟩
   ·simp [h] at hlt
   obtain ⟨⟨z0, h0⟩, ⟨u, cc, hs, ks⟩⟩ := hc j hlt
   have hsd := HS.out _ (getD_mem phi0 l j hlt)
   generalize l.getD j phi0 = d at hs ks hsd
   have hsl : d.ins.length ≤ 1048576 := hsd
   have e0 : wr.cell? ⟨g, j * 2, none⟩ = some (.int .i64 z0) := (cell_of_heap hb).trans h0
   have f0 : wr.frozen? ⟨g, j * 2, none⟩ = false := froz_of_heap hb
   have es : wr.cell? ⟨g, j * 2 + 1, none⟩ = some (.slice u d.ins.length cc) := (cell_of_heap hb).trans hs
   have HW : Hid (Hdr lo hi wr (wr.setCell ⟨g, j * 2, none⟩ (.int .i64 x))) := (Hdr.refl lo hi wr).store hb h0 hlo hhi x
   have HK : Hid (SI wr lo hi u d.ins.length) := ks
   clear hc hb h0 hs ks hsd
   go_wp2_with (go_at_call 19; refine (markInts lo hi u cc d.ins.length (x + 1) _ hsl (by omega) (by omega) (HK.out.keep HW.out)).mono ?_; rintro e w1 ⟨rfl, hb1⟩; have HB1 : Hid _ := hb1; clear hb1)
   go_roundw
   case rel => exact ⟨j + 1, x + 1 + d.ins.length, by omega, by go_num, by refine congrArg (Value.int .i64) ?_; omega, by omega, by omega, (HH.out.trans HW.out).trans HB1.out⟩
   case measure => simp [intOf]; omega
  ·have hke : j = l.length := by omega
   go_wp2_with fail
   go_ret
   exact ⟨x, rfl, hx0, by omega, HH.out⟩
set_option maxHeartbeats 2000000 in
theorem markInsts (lo hi : Nat) (a : Option Addr) (c : Nat) (l : List InstD) (k : Int) (w : World) (hl : l.length ≤ 1048576) (hsm : ∀ d ∈ l, SmInst d) (hk0 : 0 ≤ k) (hk : k ≤ 4611683000000000000) (hv : SN w lo hi a l) :
  Calls Tryd.prog 60 #[.slice a l.length c, .int .i64 k] w fun e w' => ∃ x : Int, e = .returned (.int .i64 x) ∧ 0 ≤ x ∧ x ≤ k + l.length * 1048582 ∧ Hdr lo hi w w' := by
 have HV : Hid (SN w lo hi a l) := hv
 have HS : Hid (∀ d ∈ l, SmInst d) := hsm
 clear hv hsm
 go_enter Tryd.func60, Tryd.ntmps60
 go_wp2_with fail
 go_loopw [1, 5] (fun q i wr => ∃ (j : Nat) (x : Int), j ≤ l.length ∧ i = .int .i64 j ∧ q = .int .i64 x ∧ 0 ≤ x ∧ x ≤ k + j * 1048582 ∧ Hid (Hdr lo hi w wr)) (fun _ i _ => l.length - (intOf i).toNat)
 case atStart => exact ⟨0, k, by omega, rfl, rfl, hk0, by omega, Hdr.refl _ _ _⟩
 case round =>
  obtain ⟨j, x, hj, rfl, rfl, hx0, hx1, HH⟩ := hrel
  by_cases hlt : j < l.length
  ·rcases HV.out.keep HH.out with h | ⟨g, cur, rfl, hlo, hhi, hb, hc⟩
   ·simp [h] at hlt
   obtain ⟨⟨z0, h0⟩, ⟨z1, h1⟩, ⟨z2, h2⟩, ⟨z3, h3⟩, ⟨z4, h4⟩, ⟨z5, h5⟩, ⟨u, cc, hs, ks⟩⟩ := hc j hlt
   have hsd := HS.out _ (getD_mem inst0 l j hlt)
   generalize l.getD j inst0 = d at hs ks hsd
   have hsl : d.args.length ≤ 1048576 := hsd
   have e0 : wr.cell? ⟨g, j * 7, none⟩ = some (.int .i64 z0) := (cell_of_heap hb).trans h0
   have f0 : wr.frozen? ⟨g, j * 7, none⟩ = false := froz_of_heap hb
   have e1 : wr.cell? ⟨g, j * 7 + 1, none⟩ = some (.int .i64 z1) := (cell_of_heap hb).trans h1
   have f1 : wr.frozen? ⟨g, j * 7 + 1, none⟩ = false := froz_of_heap hb
   have e2 : wr.cell? ⟨g, j * 7 + 2, none⟩ = some (.int .i64 z2) := (cell_of_heap hb).trans h2
   have f2 : wr.frozen? ⟨g, j * 7 + 2, none⟩ = false := froz_of_heap hb
   have e3 : wr.cell? ⟨g, j * 7 + 3, none⟩ = some (.int .i64 z3) := (cell_of_heap hb).trans h3
   have f3 : wr.frozen? ⟨g, j * 7 + 3, none⟩ = false := froz_of_heap hb
   have e4 : wr.cell? ⟨g, j * 7 + 4, none⟩ = some (.int .i64 z4) := (cell_of_heap hb).trans h4
   have f4 : wr.frozen? ⟨g, j * 7 + 4, none⟩ = false := froz_of_heap hb
   have e5 : wr.cell? ⟨g, j * 7 + 5, none⟩ = some (.int .i64 z5) := (cell_of_heap hb).trans h5
   have f5 : wr.frozen? ⟨g, j * 7 + 5, none⟩ = false := froz_of_heap hb
   have es : wr.cell? ⟨g, j * 7 + 6, none⟩ = some (.slice u d.args.length cc) := (cell_of_heap hb).trans hs
   have HW : Hid (Hdr lo hi wr ((((((wr.setCell ⟨g, j * 7, none⟩ (.int .i64 x)).setCell ⟨g, j * 7 + 1, none⟩ (.int .i64 (x + 1))).setCell ⟨g, j * 7 + 2, none⟩ (.int .i64 (x + 1 + 1))).setCell ⟨g, j * 7 + 3, none⟩ (.int .i64 (x + 1 + 1 + 1))).setCell ⟨g, j * 7 + 4, none⟩ (.int .i64 (x + 1 + 1 + 1 + 1))).setCell ⟨g, j * 7 + 5, none⟩ (.int .i64 (x + 1 + 1 + 1 + 1 + 1)))) := ((((((Hdr.refl lo hi wr).store hb h0 hlo hhi x).store hb h1 hlo hhi (x + 1)).store hb h2 hlo hhi (x + 1 + 1)).store hb h3 hlo hhi (x + 1 + 1 + 1)).store hb h4 hlo hhi (x + 1 + 1 + 1 + 1)).store hb h5 hlo hhi (x + 1 + 1 + 1 + 1 + 1)
   have HK : Hid (SI wr lo hi u d.args.length) := ks
   clear hc hb h0 h1 h2 h3 h4 h5 hs ks hsd
   go_wp2_with (go_at_call 19; refine (markInts lo hi u cc d.args.length (x + 1 + 1 + 1 + 1 + 1 + 1) _ hsl (by omega) (by omega) (HK.out.keep HW.out)).mono ?_; rintro e w1 ⟨rfl, hb1⟩; have HB1 : Hid _ := hb1; clear hb1)
   go_roundw
   case rel => exact ⟨j + 1, x + 6 + d.args.length, by omega, by go_num, by refine congrArg (Value.int .i64) ?_; omega, by omega, by omega, (HH.out.trans HW.out).trans HB1.out⟩
   case measure => simp [intOf]; omega
  ·have hke : j = l.length := by omega
   go_wp2_with fail
   go_ret
   exact ⟨x, rfl, hx0, by omega, HH.out⟩
set_option maxHeartbeats 4000000 in
theorem markBlocks (lo hi : Nat) (a : Option Addr) (c : Nat) (l : List BlockD) (k : Int) (w : World) (hl : l.length ≤ 1048576) (hsm : ∀ d ∈ l, SmBlock d) (hk0 : 0 ≤ k) (hk : k ≤ 2000000000000000000) (hv : SB w lo hi a l) :
  Calls Tryd.prog 39 #[.slice a l.length c, .int .i64 k] w fun e w' => ∃ x : Int, e = .returned (.int .i64 x) ∧ 0 ≤ x ∧ x ≤ k + l.length * 2199030595588 ∧ Hdr lo hi w w' := by
 have HV : Hid (SB w lo hi a l) := hv
 have HS : Hid (∀ d ∈ l, SmBlock d) := hsm
 clear hv hsm
 go_enter Tryd.func39, Tryd.ntmps39
 go_wp2_with fail
 go_loopw [1, 5] (fun q i wr => ∃ (j : Nat) (x : Int), j ≤ l.length ∧ i = .int .i64 j ∧ q = .int .i64 x ∧ 0 ≤ x ∧ x ≤ k + j * 2199030595588 ∧ Hid (Hdr lo hi w wr)) (fun _ i _ => l.length - (intOf i).toNat)
 case atStart => exact ⟨0, k, by omega, rfl, rfl, hk0, by omega, Hdr.refl _ _ _⟩
 case round =>
  obtain ⟨j, x, hj, rfl, rfl, hx0, hx1, HH⟩ := hrel
  by_cases hlt : j < l.length
  ·rcases HV.out.keep HH.out with h | ⟨g, cur, rfl, hlo, hhi, hb, hc⟩
   ·simp [h] at hlt
   obtain ⟨⟨u0, c0, hs0, ks0⟩, ⟨u1, c1, hs1, ks1⟩, ⟨z2, h2⟩, ⟨z3, h3⟩, ⟨z4, h4⟩, ⟨z5, h5⟩⟩ := hc j hlt
   have hsd := HS.out _ (getD_mem block0 l j hlt)
   generalize l.getD j block0 = d at hs0 ks0 hs1 ks1 hsd
   have hp : d.phis.length ≤ 1048576 := hsd.1.1
   have hn : d.insts.length ≤ 1048576 := hsd.2.1
   have HSD : Hid (SmBlock d) := hsd
   have es0 : wr.cell? ⟨g, j * 6, none⟩ = some (.slice u0 d.phis.length c0) := (cell_of_heap hb).trans hs0
   have HK0 : Hid (SP wr lo hi u0 d.phis) := ks0
   have HK1 : Hid (SN wr lo hi u1 d.insts) := ks1
   have HBk : Hid (wr.heap[g]? = some (.cells cur 41 (0, 0))) := hb
   have HS1 : Hid (cur[j * 6 + 1]? = some (.slice u1 d.insts.length c1)) := hs1
   have H2 : Hid (cur[j * 6 + 2]? = some (.int .i64 z2)) := h2
   have H3 : Hid (cur[j * 6 + 3]? = some (.int .i64 z3)) := h3
   have H4 : Hid (cur[j * 6 + 4]? = some (.int .i64 z4)) := h4
   have H5 : Hid (cur[j * 6 + 5]? = some (.int .i64 z5)) := h5
   clear hc hb hs0 hs1 ks0 ks1 h2 h3 h4 h5 hsd
   go_wp2_with (first | (go_at_call 60; refine (markInsts lo hi u1 c1 d.insts x1 _ hn HSD.out.2.2 (by omega) (by omega) (HK1.out.keep HB1.out)).mono ?_; rintro e w2 ⟨x2, rfl, hx20, hx21, hb2⟩; have HB2 : Hid (Hdr lo hi wr w2) := HB1.out.trans hb2; obtain ⟨⟨y2, e2⟩, f2⟩ := HB2.out.cell HBk.out H2.out; obtain ⟨⟨y3, e3⟩, f3⟩ := HB2.out.cell HBk.out H3.out; obtain ⟨⟨y4, e4⟩, f4⟩ := HB2.out.cell HBk.out H4.out; obtain ⟨⟨y5, e5⟩, f5⟩ := HB2.out.cell HBk.out H5.out; clear hb2) | (go_at_call 59; refine (markPhis lo hi u0 c0 d.phis x _ hp HSD.out.1.2 (by omega) (by omega) HK0.out).mono ?_; rintro e w1 ⟨x1, rfl, hx10, hx11, hb1⟩; have HB1 : Hid (Hdr lo hi wr w1) := hb1; have es1 : w1.cell? ⟨g, j * 6 + 1, none⟩ = some (.slice u1 d.insts.length c1) := HB1.out.head HBk.out HS1.out; clear hb1))
   go_roundw
   case rel => exact ⟨j + 1, x2 + 4, by omega, by go_num, by refine congrArg (Value.int .i64) ?_; omega, by omega, by omega, HH.out.trans ((((HB2.out.store HBk.out H2.out hlo hhi _).store HBk.out H3.out hlo hhi _).store HBk.out H4.out hlo hhi _).store HBk.out H5.out hlo hhi _)⟩
   case measure => simp [intOf]; omega
  ·have hke : j = l.length := by omega
   go_wp2_with fail
   go_ret
   exact ⟨x, rfl, hx0, by omega, HH.out⟩
set_option maxHeartbeats 1000000 in
theorem markFunc_le (lo hi : Nat) (d : FuncD) (u0 : Option Addr) (c0 : Nat) (u2 : Option Addr) (c2 : Nat) (k : Int) (w : World) (hs : SmFunc d) (hk0 : 0 ≤ k) (hk : k ≤ 1000000000000000000) (hhi : hi ≤ w.heap.size) (k0 : SI w lo hi u0 d.params.length) (k2 : SB w lo hi u2 d.blocks) :
  Calls Tryd.prog 18 #[.agg #[.slice u0 d.params.length c0, .int .i64 d.ret, .slice u2 d.blocks.length c2], .int .i64 k] w fun e w' => ∃ x : Int, e = .returned (.int .i64 x) ∧ 0 ≤ x ∧ x ≤ 4000000000000000000 ∧ Hdr lo hi w w' := by
 have hp := hs.1
 have HS : Hid (SmFunc d) := hs
 have K0 : Hid (SI (w.alloc (.cells #[.slice u0 d.params.length c0, .int .i64 d.ret, .slice u2 d.blocks.length c2] 27)) lo hi u0 d.params.length) := k0.keep (Hdr.alloc _ _ _ _)
 have K2 : Hid (SB (w.alloc (.cells #[.slice u0 d.params.length c0, .int .i64 d.ret, .slice u2 d.blocks.length c2] 27)) lo hi u2 d.blocks) := k2.keep (Hdr.alloc _ _ _ _)
 have HA : Hid (Hdr lo hi w (w.alloc (.cells #[.slice u0 d.params.length c0, .int .i64 d.ret, .slice u2 d.blocks.length c2] 27))) := Hdr.alloc _ _ _ _
 clear hs k0 k2
 go_enter Tryd.func18, Tryd.ntmps18
 go_wp2_with (first | (go_at_call 19; refine (markInts lo hi u0 c0 d.params.length k _ hp hk0 (by omega) K0.out).mono ?_; rintro e w1 ⟨rfl, hb1⟩; have HB1 : Hid _ := hb1; have eb : w1.cell? ⟨w.heap.size, 2, none⟩ = some (.slice u2 d.blocks.length c2) := (cell_block (hb1.out w.heap.size (.inr hhi) (by simp))).trans (by simp); clear hb1) | (go_at_call 39; refine (markBlocks lo hi u2 c2 d.blocks (k + d.params.length) _ HS.out.2.1 HS.out.2.2 (by omega) (by omega) (K2.out.keep HB1.out)).mono ?_; rintro e w2 ⟨x, rfl, hx, hxb, hb2⟩; have HB2 : Hid _ := hb2; clear hb2))
 go_ret
 exact ⟨x, rfl, hx, by have := HS.out.2.1; omega, (HA.out.trans HB1.out).trans HB2.out⟩
end Go.Proofs.YtenbodghkpbghaaDoor
namespace Go.Proofs.YtenbodghkpbghaaDoor
open Go.RowKit
theorem below_hdr {B lo hi : Nat} {w a b : World} (h : Below B w a) (k : Hdr lo hi a b) (hB : B ≤ lo) (hz : B ≤ a.heap.size) : Below B w b :=
 ⟨k.os.trans h.os, k.tape.trans h.tape, k.output.trans h.output, Nat.le_trans h.size k.size, fun g hg => (k.out g (.inl (by omega)) (by omega)).trans (h.block g hg)⟩
theorem hdr_below {lo hi : Nat} {w w' : World} (h : Below w.heap.size w w') : Hdr lo hi w w' :=
 ⟨h.os, h.tape, h.output, h.size, fun g _ hg => h.block g hg, fun g cur _ hc => ⟨cur, (h.block g (Array.getElem?_eq_some_iff.1 hc).1).trans hc, Cur.refl _⟩⟩
end Go.Proofs.YtenbodghkpbghaaDoor
namespace Go.Proofs.YtenbodghkpbghaaDoor
open Go.RowKit
set_option linter.unusedVariables false
set_option maxHeartbeats 1000000 in
theorem markW (g o c n : Nat) (k : Int) (w : World) (hn : n ≤ 1048576) (hk0 : 0 ≤ k) (hk : k ≤ 4611686018427387904) (hc : ∀ i, i < n → ∃ z : Int, w.cell? ⟨g, o + i, none⟩ = some (.int .i64 z)) (hf : ∀ i, i < n → w.frozen? ⟨g, o + i, none⟩ = false) :
  Calls Tryd.prog 19 #[.slice (some ⟨g, o, none⟩) n c, .int .i64 k] w fun e w' => e = .returned (.int .i64 (k + n)) ∧ w' = mkw w (rowA g o n 1) k := by
 have HC : Hid (∀ i, i < n → ∃ z : Int, w.cell? ⟨g, o + i, none⟩ = some (.int .i64 z)) := hc
 have HF : Hid (∀ i, i < n → w.frozen? ⟨g, o + i, none⟩ = false) := hf
 clear hc hf
 go_enter Tryd.func19, Tryd.ntmps19
 go_wp2_with fail
 go_loopw [1, 5] (fun q i wr => ∃ (j : Nat), j ≤ n ∧ i = .int .i64 j ∧ q = .int .i64 (k + j) ∧ Hid (wr = mkw w (rowA g o j 1) k)) (fun _ i _ => n - (intOf i).toNat)
 case atStart => exact ⟨0, by omega, rfl, by simp, rfl⟩
 case round =>
  obtain ⟨j, hj, rfl, rfl, HE⟩ := hrel
  by_cases hlt : j < n
  ·obtain ⟨z, hz⟩ := HC.out j hlt
   have e0 : (⟨g, o + j, none⟩ : Addr) = ⟨g, o + j * 1, none⟩ := by simp
   have e1 : wr.cell? ⟨g, o + j, none⟩ = some (.int .i64 z) := by
    rw [HE.out, mkw_out _ _ _ _ (by rw [e0]; exact rowA_out g o j 1 (by omega))]
    exact hz
   have e2 : wr.frozen? ⟨g, o + j, none⟩ = false := by
    rw [HE.out, mkw_froz]
    exact HF.out j hlt
   have HE2 : Hid (wr.setCell ⟨g, o + j, none⟩ (.int .i64 (k + j)) = mkw w (rowA g o (j + 1) 1) k) := by
    show _ = _
    rw [rowA_succ, mkw_append, ← HE.out, rowA_len, e0]
    rfl
   clear hz e0
   go_wp2_with fail
   go_roundw
   case rel => exact ⟨j + 1, by omega, by go_num, by refine congrArg (Value.int .i64) ?_; first | omega | (unfold wrap64; omega), HE2.out⟩
   case measure => simp [intOf]; omega
  ·have hke : j = n := by omega
   subst hke
   go_wp2_with fail
   go_ret
   exact ⟨rfl, HE.out⟩
end Go.Proofs.YtenbodghkpbghaaDoor
namespace Go.Proofs.YtenbodghkpbghaaDoor
open Go.RowKit
set_option linter.unusedVariables false
def strA (g s : Nat) (F : List Nat) : Nat → List (List Addr × List Addr) → List Addr
 | _, [] => []
 | o, (P, Q) :: l => P ++ (F.map (fun f => (⟨g, o + f, none⟩ : Addr)) ++ (Q ++ strA g s F (o + s) l))
def subA : List (List Addr × List Addr) → List Addr
 | [] => []
 | (P, Q) :: l => P ++ (Q ++ subA l)
theorem strA_mem {g s : Nat} {F : List Nat} {a : Addr} : ∀ (l : List (List Addr × List Addr)) (o : Nat), a ∈ strA g s F o l → a ∈ subA l ∨ (a.block = g ∧ o ≤ a.off)
 | [], _, h => by simp [strA] at h
 | (P, Q) :: l, o, h => by
  simp only [strA, subA, List.mem_append, List.mem_map] at h ⊢
  rcases h with h | ⟨f, _, rfl⟩ | h | h
  ·exact .inl (.inl h)
  ·exact .inr ⟨rfl, Nat.le_add_right _ _⟩
  ·exact .inl (.inr (.inl h))
  ·rcases strA_mem l (o + s) h with h | ⟨h1, h2⟩
   ·exact .inl (.inr (.inr h))
   ·exact .inr ⟨h1, by omega⟩
theorem own_nodup (g o : Nat) : ∀ {F : List Nat}, F.Nodup → (F.map (fun f => (⟨g, o + f, none⟩ : Addr))).Nodup := by
 intro F h
 rw [List.nodup_iff_pairwise_ne, List.pairwise_map]
 refine List.Pairwise.imp ?_ (List.nodup_iff_pairwise_ne.1 h)
 intro i j hij e
 injection e with _ e2 _
 omega
theorem strA_nodup {g s : Nat} {F : List Nat} (hF : F.Nodup) (hs : ∀ f ∈ F, f < s) : ∀ (l : List (List Addr × List Addr)) (o : Nat), (subA l).Nodup → (∀ a ∈ subA l, a.block ≠ g) → (strA g s F o l).Nodup
 | [], _, _, _ => by simp [strA]
 | (P, Q) :: l, o, hn, hg => by
  simp only [subA] at hn hg
  rw [List.nodup_append] at hn
  obtain ⟨nP, nQl, dP⟩ := hn
  rw [List.nodup_append] at nQl
  obtain ⟨nQ, nl, dQ⟩ := nQl
  have gP : ∀ a ∈ P, a.block ≠ g := fun a ha => hg a (List.mem_append_left _ ha)
  have gQ : ∀ a ∈ Q, a.block ≠ g := fun a ha => hg a (List.mem_append_right _ (List.mem_append_left _ ha))
  have gl : ∀ a ∈ subA l, a.block ≠ g := fun a ha => hg a (List.mem_append_right _ (List.mem_append_right _ ha))
  have ih := strA_nodup hF hs l (o + s) nl gl
  rw [strA, List.nodup_append, List.nodup_append, List.nodup_append]
  refine ⟨nP, ⟨own_nodup g o hF, ⟨nQ, ih, ?_⟩, ?_⟩, ?_⟩
  ·intro a ha b hb e
   subst e
   rcases strA_mem l (o + s) hb with h | ⟨h, _⟩
   ·exact dQ a ha a h rfl
   ·exact gQ a ha h
  ·intro a ha b hb e
   subst e
   obtain ⟨f, hf, rfl⟩ := List.mem_map.1 ha
   rcases List.mem_append.1 hb with h | h
   ·exact gQ _ h rfl
   ·rcases strA_mem l (o + s) h with h | ⟨_, h⟩
    ·exact gl _ h rfl
    ·have h' : o + s ≤ o + f := h
     have := hs f hf
     omega
  ·intro a ha b hb e
   subst e
   rcases List.mem_append.1 hb with h | h
   ·obtain ⟨f, _, rfl⟩ := List.mem_map.1 h
    exact gP _ ha rfl
   ·rcases List.mem_append.1 h with h | h
    ·exact dP a ha a (List.mem_append_left _ h) rfl
    ·rcases strA_mem l (o + s) h with h | ⟨h, _⟩
     ·exact dP a ha a (List.mem_append_right _ h) rfl
     ·exact gP a ha h
def rowH (a : Option Addr) (n : Nat) : List Addr := match a with
 | some p => rowA p.block p.off n 1
 | none => []
theorem rowH_nodup (a : Option Addr) (n : Nat) : (rowH a n).Nodup := by
 cases a with
 | none => simp [rowH]
 | some p => exact rowA_nodup _ _ _ _ (by omega)
end Go.Proofs.YtenbodghkpbghaaDoor
namespace Go.Proofs.YtenbodghkpbghaaDoor
open Go.RowKit
set_option linter.unusedVariables false
set_option linter.unusedSimpArgs false
theorem strA_snoc (g s : Nat) (F : List Nat) (x : List Addr × List Addr) : ∀ (l : List (List Addr × List Addr)) (o : Nat), strA g s F o (l ++ [x]) = strA g s F o l ++ (x.1 ++ (F.map (fun f => (⟨g, o + l.length * s + f, none⟩ : Addr)) ++ x.2))
 | [], o => by obtain ⟨P, Q⟩ := x; simp [strA]
 | (P, Q) :: l, o => by
  simp only [List.cons_append, strA, strA_snoc g s F x l (o + s), List.append_assoc, List.length_cons, Nat.succ_mul]
  rw [show o + s + l.length * s = o + (l.length * s + s) by omega]
theorem mkw_int : ∀ (A : List Addr) (k : Int) (w : World) (a : Addr), (∃ z : Int, w.cell? a = some (.int .i64 z)) → ∃ z : Int, (mkw w A k).cell? a = some (.int .i64 z)
 | [], k, w, a, h => h
 | b :: A, k, w, a, h => by
  refine mkw_int A (k + 1) _ a ?_
  obtain ⟨z, hz⟩ := h
  by_cases e : a = b
  ·subst e
   exact ⟨k, by rw [World.cell?_setCell_same _ _ _ hz]⟩
  ·exact ⟨z, by rw [World.cell?_setCell_other _ _ _ _ (fun h => e h.symm)]; exact hz⟩
def IntR (w : World) (u : Option Addr) (n : Nat) : Prop := n ≤ 1048576 ∧ (n = 0 ∨ ∃ g o, u = some ⟨g, o, none⟩ ∧ ∀ i, i < n → (∃ z : Int, w.cell? ⟨g, o + i, none⟩ = some (.int .i64 z)) ∧ w.frozen? ⟨g, o + i, none⟩ = false)
theorem IntR.mk {w : World} {u : Option Addr} {n : Nat} (h : IntR w u n) (A : List Addr) (k : Int) : IntR (mkw w A k) u n := by
 refine ⟨h.1, ?_⟩
 rcases h.2 with h | ⟨g, o, e, h⟩
 ·exact .inl h
 ·exact .inr ⟨g, o, e, fun i hi => ⟨mkw_int A k w _ (h i hi).1, by rw [mkw_froz]; exact (h i hi).2⟩⟩
theorem rowH_zero (u : Option Addr) : rowH u 0 = [] := by
 cases u with
 | none => rfl
 | some p => simp [rowH, rowA]
theorem IntR.len {w : World} {u : Option Addr} {n : Nat} (h : IntR w u n) : (rowH u n).length = n := by
 rcases h.2 with h | ⟨g, o, rfl, h⟩
 ·subst h; rw [rowH_zero]; rfl
 ·simp [rowH, rowA_len]
set_option maxHeartbeats 1000000 in
theorem markIR (u : Option Addr) (c n : Nat) (k : Int) (w : World) (h : IntR w u n) (hk0 : 0 ≤ k) (hk : k ≤ 4611686018427387904) :
  Calls Tryd.prog 19 #[.slice u n c, .int .i64 k] w fun e w' => e = .returned (.int .i64 (k + n)) ∧ w' = mkw w (rowH u n) k := by
 rcases h.2 with e | ⟨g, o, rfl, hh⟩
 ·subst e
  rw [rowH_zero]
  go_enter Tryd.func19, Tryd.ntmps19
  go_wp2_with fail
  go_loopw [1, 5] (fun q i wr => i = .int .i64 0 ∧ q = .int .i64 k ∧ Hid (wr = w)) (fun _ _ _ => 0)
  case atStart => exact ⟨rfl, rfl, rfl⟩
  case round =>
   obtain ⟨rfl, rfl, HE⟩ := hrel
   go_wp2_with fail
   go_ret
   exact ⟨by simp, HE.out⟩
 ·exact markW g o c n k w h.1 hk0 hk (fun i hi => (hh i hi).1) (fun i hi => (hh i hi).2)
def OwnR (w : World) (g o s : Nat) (F : List Nat) (n : Nat) : Prop := ∀ i, i < n → ∀ f ∈ F, (∃ z : Int, w.cell? ⟨g, o + i * s + f, none⟩ = some (.int .i64 z)) ∧ w.frozen? ⟨g, o + i * s + f, none⟩ = false
theorem OwnR.mk {w : World} {g o s n : Nat} {F : List Nat} (h : OwnR w g o s F n) (A : List Addr) (k : Int) : OwnR (mkw w A k) g o s F n :=
 fun i hi f hf => ⟨mkw_int A k w _ (h i hi f hf).1, by rw [mkw_froz]; exact (h i hi f hf).2⟩
def HdrR (K : List Addr) (w : World) (g o s f : Nat) (hs : List (Option Addr × Nat)) : Prop := ∀ i, i < hs.length → (∃ c, w.cell? ⟨g, o + i * s + f, none⟩ = some (.slice (hs.getD i (none, 0)).1 (hs.getD i (none, 0)).2 c)) ∧ (⟨g, o + i * s + f, none⟩ : Addr) ∉ K ∧ IntR w (hs.getD i (none, 0)).1 (hs.getD i (none, 0)).2
theorem HdrR.mk {K : List Addr} {w : World} {g o s f : Nat} {hs : List (Option Addr × Nat)} (h : HdrR K w g o s f hs) {A : List Addr} (hA : ∀ a ∈ A, a ∈ K) (k : Int) : HdrR K (mkw w A k) g o s f hs := fun i hi => by
 obtain ⟨⟨c, h1⟩, h2, h3⟩ := h i hi
 exact ⟨⟨c, by rw [mkw_out _ _ _ _ (fun e => h2 (hA _ e))]; exact h1⟩, h2, h3.mk A k⟩
def rowsQ (hs : List (Option Addr × Nat)) : List (List Addr × List Addr) := hs.map fun h => ([], rowH h.1 h.2)
theorem take_snocK {α : Type} (z : α) {l : List α} {j : Nat} (h : j < l.length) : l.take (j + 1) = l.take j ++ [l.getD j z] := by
 rw [List.take_add_one, List.getElem?_eq_getElem h, List.getD, List.getElem?_eq_getElem h]
 rfl
theorem strA_next (g s : Nat) (F : List Nat) (o : Nat) (hs : List (Option Addr × Nat)) {j : Nat} (h : j < hs.length) : strA g s F o (rowsQ (hs.take (j + 1))) = strA g s F o (rowsQ (hs.take j)) ++ (F.map (fun f => (⟨g, o + j * s + f, none⟩ : Addr)) ++ rowH (hs.getD j (none, 0)).1 (hs.getD j (none, 0)).2) := by
 rw [take_snocK (none, 0) h]
 unfold rowsQ
 rw [List.map_append, List.map_singleton, strA_snoc]
 simp only [List.nil_append, List.length_map, List.length_take, Nat.min_eq_left (Nat.le_of_lt h)]
theorem strA_le (g s : Nat) (F : List Nat) (o : Nat) (hs : List (Option Addr × Nat)) : ∀ j, j ≤ hs.length → ∃ R, strA g s F o (rowsQ hs) = strA g s F o (rowsQ (hs.take j)) ++ R := by
 intro j hj
 suffices H : ∀ d j, j + d = hs.length → ∃ R, strA g s F o (rowsQ hs) = strA g s F o (rowsQ (hs.take j)) ++ R from H (hs.length - j) j (by omega)
 intro d
 induction d with
 | zero => intro j h; exact ⟨[], by rw [List.take_of_length_le (by omega), List.append_nil]⟩
 | succ d ih =>
  intro j h
  obtain ⟨R, hR⟩ := ih (j + 1) (by omega)
  rw [strA_next g s F o hs (by omega), List.append_assoc] at hR
  exact ⟨_, hR⟩
set_option maxHeartbeats 2000000 in
set_option maxRecDepth 100000 in
theorem markPhR (K : List Addr) (g o c : Nat) (hs : List (Option Addr × Nat)) (k : Int) (w : World) (hn : hs.length ≤ 1048576) (ho : OwnR w g o 2 [0] hs.length) (hh : HdrR K w g o 2 1 hs) (hA : ∀ a ∈ strA g 2 [0] o (rowsQ hs), a ∈ K) (hk0 : 0 ≤ k) (hk : k + (strA g 2 [0] o (rowsQ hs)).length ≤ 4611686018427387904) :
  Calls Tryd.prog 59 #[.slice (some ⟨g, o, none⟩) hs.length c, .int .i64 k] w fun e w' => e = .returned (.int .i64 (k + (strA g 2 [0] o (rowsQ hs)).length)) ∧ w' = mkw w (strA g 2 [0] o (rowsQ hs)) k := by
 have HO : Hid (OwnR w g o 2 [0] hs.length) := ho
 have HH : Hid (HdrR K w g o 2 1 hs) := hh
 have HA : Hid (∀ a ∈ strA g 2 [0] o (rowsQ hs), a ∈ K) := hA
 have HK : Hid (k + (strA g 2 [0] o (rowsQ hs)).length ≤ 4611686018427387904) := hk
 clear ho hh hA hk
 go_enter Tryd.func59, Tryd.ntmps59
 go_wp2_with fail
 go_loopw [1, 5] (fun q i wr => ∃ (j m : Nat), j ≤ hs.length ∧ i = .int .i64 j ∧ q = .int .i64 (k + m) ∧ Hid (m = (strA g 2 [0] o (rowsQ (hs.take j))).length) ∧ Hid (wr = mkw w (strA g 2 [0] o (rowsQ (hs.take j))) k)) (fun _ i _ => hs.length - (intOf i).toNat)
 case atStart => exact ⟨0, 0, by omega, rfl, by simp, rfl, rfl⟩
 case round =>
  obtain ⟨j, m, hj, rfl, rfl, HM, HE⟩ := hrel
  by_cases hlt : j < hs.length
  ·have hjI : (j : Int) < (hs.length : Int) := by omega
   obtain ⟨R, hR⟩ := strA_le g 2 [0] o hs j hj
   have hsub : ∀ a ∈ strA g 2 [0] o (rowsQ (hs.take j)), a ∈ K := fun a ha => HA.out a (by rw [hR]; exact List.mem_append_left _ ha)
   have hnx := strA_next g 2 [0] o hs hlt
   obtain ⟨R2, hR2⟩ := strA_le g 2 [0] o hs (j + 1) (by omega)
   have hbd := HK.out
   rw [hR2, hnx] at hbd
   simp only [List.length_append, List.length_map, List.length_cons, List.length_nil] at hbd
   rw [← HM.out] at hbd
   have hown := (HO.out.mk (strA g 2 [0] o (rowsQ (hs.take j))) k) j hlt 0 (by simp)
   rw [← HE.out] at hown
   obtain ⟨⟨z, hz⟩, hzf⟩ := hown
   have hhd := (HH.out.mk hsub k) j hlt
   rw [← HE.out] at hhd
   obtain ⟨⟨cq, hq⟩, hqK, hqI⟩ := hhd
   obtain ⟨u, n, hun⟩ : ∃ u n, hs.getD j (none, 0) = (u, n) := ⟨_, _, rfl⟩
   rw [hun] at hq hqI hnx hbd
   dsimp only at hq hqI hnx hbd
   have hln := hqI.len
   rw [hln] at hbd
   have hn0 : n ≤ 1048576 := hqI.1
   have e1 : wr.cell? ⟨g, o + j * 2, none⟩ = some (.int .i64 z) := hz
   have e2 : wr.frozen? ⟨g, o + j * 2, none⟩ = false := hzf
   have e3 : (wr.setCell ⟨g, o + j * 2, none⟩ (.int .i64 (k + m))).cell? ⟨g, o + j * 2 + 1, none⟩ = some (.slice u n cq) := by
    rw [World.cell?_setCell_other _ _ _ _ (by intro e; have h9 := congrArg Addr.off e; dsimp only at h9; omega)]
    exact hq
   have MI := markIR u cq n (k + m + 1) (wr.setCell ⟨g, o + j * 2, none⟩ (.int .i64 (k + m))) (by have := hqI.mk [⟨g, o + j * 2, none⟩] (k + m); exact this) (by omega) (by omega)
   have HE2 : Hid (mkw (wr.setCell ⟨g, o + j * 2, none⟩ (.int .i64 (k + m))) (rowH u n) (k + m + 1) = mkw w (strA g 2 [0] o (rowsQ (hs.take (j + 1)))) k) := by
    show _ = _
    rw [hnx, mkw_append, ← HE.out, ← HM.out]
    rfl
   have HM2 : Hid (m + 1 + n = (strA g 2 [0] o (rowsQ (hs.take (j + 1)))).length) := by
    show _ = _
    rw [hnx]
    simp only [List.length_append, List.length_map, List.length_cons, List.length_nil, hln, ← HM.out]
    omega
   clear hR hR2 hnx hz hzf hq hqI hqK hun hsub
   go_wp2_with (first | (go_at_call 19; refine MI.mono ?_; rintro e w5 ⟨rfl, h9⟩; have h8 := h9.symm; clear h9))
   go_roundw
   case rel => exact ⟨j + 1, m + 1 + n, by omega, by go_num, by refine congrArg (Value.int .i64) ?_; first | omega | (push_cast; omega), HM2.out, h8.symm.trans HE2.out⟩
   case measure => simp [intOf]; omega
  ·have hke : j = hs.length := by omega
   subst hke
   have hm : m = (strA g 2 [0] o (rowsQ hs)).length := by rw [HM.out, List.take_of_length_le (Nat.le_refl _)]
   have he : wr = mkw w (strA g 2 [0] o (rowsQ hs)) k := by rw [HE.out, List.take_of_length_le (Nat.le_refl _)]
   go_wp2_with fail
   go_ret
   exact ⟨by rw [← hm]; rfl, rfl⟩
end Go.Proofs.YtenbodghkpbghaaDoor
namespace Go.Proofs.YtenbodghkpbghaaDoor
open Go.RowKit
set_option linter.unusedVariables false
set_option linter.unusedSimpArgs false
def mkv (w : World) : List (Addr × Int) → World
 | [] => w
 | (a, k) :: l => mkv (w.setCell a (.int .i64 k)) l
theorem mkv_int : ∀ (w : World) (A : List (Addr × Int)) {a : Addr}, (∃ z : Int, w.cell? a = some (.int .i64 z)) → ∃ z : Int, (mkv w A).cell? a = some (.int .i64 z)
 | w, [], a, h => h
 | w, (b, k) :: A, a, h => by
  refine mkv_int _ A ?_
  obtain ⟨z, hz⟩ := h
  by_cases e : a = b
  ·subst e
   exact ⟨k, by rw [World.cell?_setCell_same _ _ _ hz]⟩
  ·exact ⟨z, by rw [World.cell?_setCell_other _ _ _ _ (fun h => e h.symm)]; exact hz⟩
theorem mkv_froz : ∀ (w : World) (A : List (Addr × Int)) {a : Addr}, (mkv w A).frozen? a = w.frozen? a
 | w, [], a => rfl
 | w, (b, k) :: A, a => (mkv_froz _ A).trans (World.frozen?_setCell ..)
set_option maxHeartbeats 2000000 in
set_option maxRecDepth 100000 in
theorem markInR (K : List Addr) (g o c : Nat) (hs : List (Option Addr × Nat)) (k : Int) (w : World) (hn : hs.length ≤ 1048576) (ho : OwnR w g o 7 [0, 1, 2, 3, 4, 5] hs.length) (hh : HdrR K w g o 7 6 hs) (hA : ∀ a ∈ strA g 7 [0, 1, 2, 3, 4, 5] o (rowsQ hs), a ∈ K) (hk0 : 0 ≤ k) (hk : k + (strA g 7 [0, 1, 2, 3, 4, 5] o (rowsQ hs)).length ≤ 4611686018427387904) :
  Calls Tryd.prog 60 #[.slice (some ⟨g, o, none⟩) hs.length c, .int .i64 k] w fun e w' => e = .returned (.int .i64 (k + (strA g 7 [0, 1, 2, 3, 4, 5] o (rowsQ hs)).length)) ∧ w' = mkw w (strA g 7 [0, 1, 2, 3, 4, 5] o (rowsQ hs)) k := by
 have HO : Hid (OwnR w g o 7 [0, 1, 2, 3, 4, 5] hs.length) := ho
 have HH : Hid (HdrR K w g o 7 6 hs) := hh
 have HA : Hid (∀ a ∈ strA g 7 [0, 1, 2, 3, 4, 5] o (rowsQ hs), a ∈ K) := hA
 have HK : Hid (k + (strA g 7 [0, 1, 2, 3, 4, 5] o (rowsQ hs)).length ≤ 4611686018427387904) := hk
 clear ho hh hA hk
 go_enter Tryd.func60, Tryd.ntmps60
 go_wp2_with fail
 go_loopw [1, 5] (fun q i wr => ∃ (j m : Nat), j ≤ hs.length ∧ i = .int .i64 j ∧ q = .int .i64 (k + m) ∧ Hid (m = (strA g 7 [0, 1, 2, 3, 4, 5] o (rowsQ (hs.take j))).length) ∧ Hid (wr = mkw w (strA g 7 [0, 1, 2, 3, 4, 5] o (rowsQ (hs.take j))) k)) (fun _ i _ => hs.length - (intOf i).toNat)
 case atStart => exact ⟨0, 0, by omega, rfl, by simp, rfl, rfl⟩
 case round =>
  obtain ⟨j, m, hj, rfl, rfl, HM, HE⟩ := hrel
  by_cases hlt : j < hs.length
  ·have hjI : (j : Int) < (hs.length : Int) := by omega
   obtain ⟨R, hR⟩ := strA_le g 7 [0, 1, 2, 3, 4, 5] o hs j hj
   have hsub : ∀ a ∈ strA g 7 [0, 1, 2, 3, 4, 5] o (rowsQ (hs.take j)), a ∈ K := fun a ha => HA.out a (by rw [hR]; exact List.mem_append_left _ ha)
   have hnx := strA_next g 7 [0, 1, 2, 3, 4, 5] o hs hlt
   obtain ⟨R2, hR2⟩ := strA_le g 7 [0, 1, 2, 3, 4, 5] o hs (j + 1) (by omega)
   have hbd := HK.out
   rw [hR2, hnx] at hbd
   simp only [List.length_append, List.length_map, List.length_cons, List.length_nil] at hbd
   rw [← HM.out] at hbd
   have hown := HO.out.mk (strA g 7 [0, 1, 2, 3, 4, 5] o (rowsQ (hs.take j))) k j hlt
   rw [← HE.out] at hown
   obtain ⟨z0, hz0⟩ : ∃ z : Int, wr.cell? ⟨g, o + j * 7, none⟩ = some (.int .i64 z) := by
    have h := mkv_int wr [] (hown 0 (by simp)).1
    exact h
   have hf0 : wr.frozen? ⟨g, o + j * 7, none⟩ = false := by
    have h := mkv_froz wr [] (a := ⟨g, o + j * 7, none⟩)
    exact h.trans (hown 0 (by simp)).2
   obtain ⟨z1, hz1⟩ : ∃ z : Int, (wr.setCell ⟨g, o + j * 7, none⟩ (.int .i64 (k + m))).cell? ⟨g, o + j * 7 + 1, none⟩ = some (.int .i64 z) := by
    have h := mkv_int wr [((⟨g, o + j * 7, none⟩ : Addr), k + m)] (hown 1 (by simp)).1
    exact h
   have hf1 : (wr.setCell ⟨g, o + j * 7, none⟩ (.int .i64 (k + m))).frozen? ⟨g, o + j * 7 + 1, none⟩ = false := by
    have h := mkv_froz wr [((⟨g, o + j * 7, none⟩ : Addr), k + m)] (a := ⟨g, o + j * 7 + 1, none⟩)
    exact h.trans (hown 1 (by simp)).2
   obtain ⟨z2, hz2⟩ : ∃ z : Int, ((wr.setCell ⟨g, o + j * 7, none⟩ (.int .i64 (k + m))).setCell ⟨g, o + j * 7 + 1, none⟩ (.int .i64 (k + m + 1))).cell? ⟨g, o + j * 7 + 2, none⟩ = some (.int .i64 z) := by
    have h := mkv_int wr [((⟨g, o + j * 7, none⟩ : Addr), k + m), ((⟨g, o + j * 7 + 1, none⟩ : Addr), k + m + 1)] (hown 2 (by simp)).1
    exact h
   have hf2 : ((wr.setCell ⟨g, o + j * 7, none⟩ (.int .i64 (k + m))).setCell ⟨g, o + j * 7 + 1, none⟩ (.int .i64 (k + m + 1))).frozen? ⟨g, o + j * 7 + 2, none⟩ = false := by
    have h := mkv_froz wr [((⟨g, o + j * 7, none⟩ : Addr), k + m), ((⟨g, o + j * 7 + 1, none⟩ : Addr), k + m + 1)] (a := ⟨g, o + j * 7 + 2, none⟩)
    exact h.trans (hown 2 (by simp)).2
   obtain ⟨z3, hz3⟩ : ∃ z : Int, (((wr.setCell ⟨g, o + j * 7, none⟩ (.int .i64 (k + m))).setCell ⟨g, o + j * 7 + 1, none⟩ (.int .i64 (k + m + 1))).setCell ⟨g, o + j * 7 + 2, none⟩ (.int .i64 (k + m + 1 + 1))).cell? ⟨g, o + j * 7 + 3, none⟩ = some (.int .i64 z) := by
    have h := mkv_int wr [((⟨g, o + j * 7, none⟩ : Addr), k + m), ((⟨g, o + j * 7 + 1, none⟩ : Addr), k + m + 1), ((⟨g, o + j * 7 + 2, none⟩ : Addr), k + m + 1 + 1)] (hown 3 (by simp)).1
    exact h
   have hf3 : (((wr.setCell ⟨g, o + j * 7, none⟩ (.int .i64 (k + m))).setCell ⟨g, o + j * 7 + 1, none⟩ (.int .i64 (k + m + 1))).setCell ⟨g, o + j * 7 + 2, none⟩ (.int .i64 (k + m + 1 + 1))).frozen? ⟨g, o + j * 7 + 3, none⟩ = false := by
    have h := mkv_froz wr [((⟨g, o + j * 7, none⟩ : Addr), k + m), ((⟨g, o + j * 7 + 1, none⟩ : Addr), k + m + 1), ((⟨g, o + j * 7 + 2, none⟩ : Addr), k + m + 1 + 1)] (a := ⟨g, o + j * 7 + 3, none⟩)
    exact h.trans (hown 3 (by simp)).2
   obtain ⟨z4, hz4⟩ : ∃ z : Int, ((((wr.setCell ⟨g, o + j * 7, none⟩ (.int .i64 (k + m))).setCell ⟨g, o + j * 7 + 1, none⟩ (.int .i64 (k + m + 1))).setCell ⟨g, o + j * 7 + 2, none⟩ (.int .i64 (k + m + 1 + 1))).setCell ⟨g, o + j * 7 + 3, none⟩ (.int .i64 (k + m + 1 + 1 + 1))).cell? ⟨g, o + j * 7 + 4, none⟩ = some (.int .i64 z) := by
    have h := mkv_int wr [((⟨g, o + j * 7, none⟩ : Addr), k + m), ((⟨g, o + j * 7 + 1, none⟩ : Addr), k + m + 1), ((⟨g, o + j * 7 + 2, none⟩ : Addr), k + m + 1 + 1), ((⟨g, o + j * 7 + 3, none⟩ : Addr), k + m + 1 + 1 + 1)] (hown 4 (by simp)).1
    exact h
   have hf4 : ((((wr.setCell ⟨g, o + j * 7, none⟩ (.int .i64 (k + m))).setCell ⟨g, o + j * 7 + 1, none⟩ (.int .i64 (k + m + 1))).setCell ⟨g, o + j * 7 + 2, none⟩ (.int .i64 (k + m + 1 + 1))).setCell ⟨g, o + j * 7 + 3, none⟩ (.int .i64 (k + m + 1 + 1 + 1))).frozen? ⟨g, o + j * 7 + 4, none⟩ = false := by
    have h := mkv_froz wr [((⟨g, o + j * 7, none⟩ : Addr), k + m), ((⟨g, o + j * 7 + 1, none⟩ : Addr), k + m + 1), ((⟨g, o + j * 7 + 2, none⟩ : Addr), k + m + 1 + 1), ((⟨g, o + j * 7 + 3, none⟩ : Addr), k + m + 1 + 1 + 1)] (a := ⟨g, o + j * 7 + 4, none⟩)
    exact h.trans (hown 4 (by simp)).2
   obtain ⟨z5, hz5⟩ : ∃ z : Int, (((((wr.setCell ⟨g, o + j * 7, none⟩ (.int .i64 (k + m))).setCell ⟨g, o + j * 7 + 1, none⟩ (.int .i64 (k + m + 1))).setCell ⟨g, o + j * 7 + 2, none⟩ (.int .i64 (k + m + 1 + 1))).setCell ⟨g, o + j * 7 + 3, none⟩ (.int .i64 (k + m + 1 + 1 + 1))).setCell ⟨g, o + j * 7 + 4, none⟩ (.int .i64 (k + m + 1 + 1 + 1 + 1))).cell? ⟨g, o + j * 7 + 5, none⟩ = some (.int .i64 z) := by
    have h := mkv_int wr [((⟨g, o + j * 7, none⟩ : Addr), k + m), ((⟨g, o + j * 7 + 1, none⟩ : Addr), k + m + 1), ((⟨g, o + j * 7 + 2, none⟩ : Addr), k + m + 1 + 1), ((⟨g, o + j * 7 + 3, none⟩ : Addr), k + m + 1 + 1 + 1), ((⟨g, o + j * 7 + 4, none⟩ : Addr), k + m + 1 + 1 + 1 + 1)] (hown 5 (by simp)).1
    exact h
   have hf5 : (((((wr.setCell ⟨g, o + j * 7, none⟩ (.int .i64 (k + m))).setCell ⟨g, o + j * 7 + 1, none⟩ (.int .i64 (k + m + 1))).setCell ⟨g, o + j * 7 + 2, none⟩ (.int .i64 (k + m + 1 + 1))).setCell ⟨g, o + j * 7 + 3, none⟩ (.int .i64 (k + m + 1 + 1 + 1))).setCell ⟨g, o + j * 7 + 4, none⟩ (.int .i64 (k + m + 1 + 1 + 1 + 1))).frozen? ⟨g, o + j * 7 + 5, none⟩ = false := by
    have h := mkv_froz wr [((⟨g, o + j * 7, none⟩ : Addr), k + m), ((⟨g, o + j * 7 + 1, none⟩ : Addr), k + m + 1), ((⟨g, o + j * 7 + 2, none⟩ : Addr), k + m + 1 + 1), ((⟨g, o + j * 7 + 3, none⟩ : Addr), k + m + 1 + 1 + 1), ((⟨g, o + j * 7 + 4, none⟩ : Addr), k + m + 1 + 1 + 1 + 1)] (a := ⟨g, o + j * 7 + 5, none⟩)
    exact h.trans (hown 5 (by simp)).2
   have hhd := (HH.out.mk hsub k) j hlt
   rw [← HE.out] at hhd
   obtain ⟨⟨cq, hq⟩, hqK, hqI⟩ := hhd
   obtain ⟨u, n, hun⟩ : ∃ u n, hs.getD j (none, 0) = (u, n) := ⟨_, _, rfl⟩
   rw [hun] at hq hqI hnx hbd
   dsimp only at hq hqI hnx hbd
   have hln := hqI.len
   rw [hln] at hbd
   have hn0 : n ≤ 1048576 := hqI.1
   have e3 : ((((((wr.setCell ⟨g, o + j * 7, none⟩ (.int .i64 (k + m))).setCell ⟨g, o + j * 7 + 1, none⟩ (.int .i64 (k + m + 1))).setCell ⟨g, o + j * 7 + 2, none⟩ (.int .i64 (k + m + 1 + 1))).setCell ⟨g, o + j * 7 + 3, none⟩ (.int .i64 (k + m + 1 + 1 + 1))).setCell ⟨g, o + j * 7 + 4, none⟩ (.int .i64 (k + m + 1 + 1 + 1 + 1))).setCell ⟨g, o + j * 7 + 5, none⟩ (.int .i64 (k + m + 1 + 1 + 1 + 1 + 1))).cell? ⟨g, o + j * 7 + 6, none⟩ = some (.slice u n cq) := by
    rw [World.cell?_setCell_other _ _ _ _ (by intro e; have h9 := congrArg Addr.off e; dsimp only at h9; omega), World.cell?_setCell_other _ _ _ _ (by intro e; have h9 := congrArg Addr.off e; dsimp only at h9; omega), World.cell?_setCell_other _ _ _ _ (by intro e; have h9 := congrArg Addr.off e; dsimp only at h9; omega), World.cell?_setCell_other _ _ _ _ (by intro e; have h9 := congrArg Addr.off e; dsimp only at h9; omega), World.cell?_setCell_other _ _ _ _ (by intro e; have h9 := congrArg Addr.off e; dsimp only at h9; omega), World.cell?_setCell_other _ _ _ _ (by intro e; have h9 := congrArg Addr.off e; dsimp only at h9; omega)]
    exact hq
   have hmk : ((((((wr.setCell ⟨g, o + j * 7, none⟩ (.int .i64 (k + m))).setCell ⟨g, o + j * 7 + 1, none⟩ (.int .i64 (k + m + 1))).setCell ⟨g, o + j * 7 + 2, none⟩ (.int .i64 (k + m + 1 + 1))).setCell ⟨g, o + j * 7 + 3, none⟩ (.int .i64 (k + m + 1 + 1 + 1))).setCell ⟨g, o + j * 7 + 4, none⟩ (.int .i64 (k + m + 1 + 1 + 1 + 1))).setCell ⟨g, o + j * 7 + 5, none⟩ (.int .i64 (k + m + 1 + 1 + 1 + 1 + 1))) = mkw wr [⟨g, o + j * 7, none⟩, ⟨g, o + j * 7 + 1, none⟩, ⟨g, o + j * 7 + 2, none⟩, ⟨g, o + j * 7 + 3, none⟩, ⟨g, o + j * 7 + 4, none⟩, ⟨g, o + j * 7 + 5, none⟩] (k + m) := rfl
   have MI := markIR u cq n (k + m + 1 + 1 + 1 + 1 + 1 + 1) ((((((wr.setCell ⟨g, o + j * 7, none⟩ (.int .i64 (k + m))).setCell ⟨g, o + j * 7 + 1, none⟩ (.int .i64 (k + m + 1))).setCell ⟨g, o + j * 7 + 2, none⟩ (.int .i64 (k + m + 1 + 1))).setCell ⟨g, o + j * 7 + 3, none⟩ (.int .i64 (k + m + 1 + 1 + 1))).setCell ⟨g, o + j * 7 + 4, none⟩ (.int .i64 (k + m + 1 + 1 + 1 + 1))).setCell ⟨g, o + j * 7 + 5, none⟩ (.int .i64 (k + m + 1 + 1 + 1 + 1 + 1))) (by rw [hmk]; exact hqI.mk _ _) (by omega) (by omega)
   have HE2 : Hid (mkw ((((((wr.setCell ⟨g, o + j * 7, none⟩ (.int .i64 (k + m))).setCell ⟨g, o + j * 7 + 1, none⟩ (.int .i64 (k + m + 1))).setCell ⟨g, o + j * 7 + 2, none⟩ (.int .i64 (k + m + 1 + 1))).setCell ⟨g, o + j * 7 + 3, none⟩ (.int .i64 (k + m + 1 + 1 + 1))).setCell ⟨g, o + j * 7 + 4, none⟩ (.int .i64 (k + m + 1 + 1 + 1 + 1))).setCell ⟨g, o + j * 7 + 5, none⟩ (.int .i64 (k + m + 1 + 1 + 1 + 1 + 1))) (rowH u n) (k + m + 1 + 1 + 1 + 1 + 1 + 1) = mkw w (strA g 7 [0, 1, 2, 3, 4, 5] o (rowsQ (hs.take (j + 1)))) k) := by
    show _ = _
    rw [hmk, hnx, mkw_append, mkw_append, ← HE.out, ← HM.out]
    rw [show k + ((m : Nat) : Int) + ((([0, 1, 2, 3, 4, 5] : List Nat).map (fun f => (⟨g, o + j * 7 + f, none⟩ : Addr))).length : Int) = k + m + 1 + 1 + 1 + 1 + 1 + 1 by simp; omega]
    rfl
   have HM2 : Hid (m + 6 + n = (strA g 7 [0, 1, 2, 3, 4, 5] o (rowsQ (hs.take (j + 1)))).length) := by
    show _ = _
    rw [hnx]
    simp only [List.length_append, List.length_map, List.length_cons, List.length_nil, hln, ← HM.out]
    omega
   clear hR hR2 hnx hq hqI hqK hun hsub hown hmk
   go_wp2_with (first | (go_at_call 19; refine MI.mono ?_; rintro e w5 ⟨rfl, h9⟩; have h8 := h9.symm; clear h9))
   go_roundw
   case rel => exact ⟨j + 1, m + 6 + n, by omega, by go_num, by refine congrArg (Value.int .i64) ?_; first | omega | (push_cast; omega), HM2.out, h8.symm.trans HE2.out⟩
   case measure => simp [intOf]; omega
  ·have hke : j = hs.length := by omega
   subst hke
   have hm : m = (strA g 7 [0, 1, 2, 3, 4, 5] o (rowsQ hs)).length := by rw [HM.out, List.take_of_length_le (Nat.le_refl _)]
   have he : wr = mkw w (strA g 7 [0, 1, 2, 3, 4, 5] o (rowsQ hs)) k := by rw [HE.out, List.take_of_length_le (Nat.le_refl _)]
   go_wp2_with fail
   go_ret
   exact ⟨by rw [← hm]; rfl, rfl⟩
end Go.Proofs.YtenbodghkpbghaaDoor
namespace Go.Proofs.YtenbodghkpbghaaDoor
open Go.RowKit
set_option linter.unusedVariables false
set_option linter.unusedSimpArgs false
def strO (s : Nat) (F : List Nat) (u : Option Addr) (hs : List (Option Addr × Nat)) : List Addr := match u with
 | some p => strA p.block s F p.off (rowsQ hs)
 | none => []
theorem strO_nil (s : Nat) (F : List Nat) (u : Option Addr) : strO s F u [] = [] := by
 cases u with
 | none => rfl
 | some p => rfl
def StrR (K : List Addr) (w : World) (s f : Nat) (F : List Nat) (u : Option Addr) (hs : List (Option Addr × Nat)) : Prop := hs.length ≤ 1048576 ∧ (hs = [] ∨ ∃ g o, u = some ⟨g, o, none⟩ ∧ OwnR w g o s F hs.length ∧ HdrR K w g o s f hs)
theorem StrR.mk {K : List Addr} {w : World} {s f : Nat} {F : List Nat} {u : Option Addr} {hs : List (Option Addr × Nat)} (h : StrR K w s f F u hs) {A : List Addr} (hA : ∀ a ∈ A, a ∈ K) (k : Int) : StrR K (mkw w A k) s f F u hs := by
 refine ⟨h.1, ?_⟩
 rcases h.2 with h | ⟨g, o, e, h1, h2⟩
 ·exact .inl h
 ·exact .inr ⟨g, o, e, h1.mk A k, h2.mk hA k⟩
set_option maxHeartbeats 1000000 in
theorem markPhO (K : List Addr) (u : Option Addr) (c : Nat) (hs : List (Option Addr × Nat)) (k : Int) (w : World) (h : StrR K w 2 1 [0] u hs) (hA : ∀ a ∈ strO 2 [0] u hs, a ∈ K) (hk0 : 0 ≤ k) (hk : k + (strO 2 [0] u hs).length ≤ 4611686018427387904) :
  Calls Tryd.prog 59 #[.slice u hs.length c, .int .i64 k] w fun e w' => e = .returned (.int .i64 (k + (strO 2 [0] u hs).length)) ∧ w' = mkw w (strO 2 [0] u hs) k := by
 rcases h.2 with e | ⟨g, o, rfl, h1, h2⟩
 ·subst e
  rw [strO_nil]
  go_enter Tryd.func59, Tryd.ntmps59
  go_wp2_with fail
  go_loopw [1, 5] (fun q i wr => i = .int .i64 0 ∧ q = .int .i64 k ∧ Hid (wr = w)) (fun _ _ _ => 0)
  case atStart => exact ⟨rfl, rfl, rfl⟩
  case round =>
   obtain ⟨rfl, rfl, HE⟩ := hrel
   go_wp2_with fail
   go_ret
   exact ⟨by simp, HE.out⟩
 ·exact markPhR K g o c hs k w h.1 h1 h2 hA hk0 hk
set_option maxHeartbeats 1000000 in
theorem markInO (K : List Addr) (u : Option Addr) (c : Nat) (hs : List (Option Addr × Nat)) (k : Int) (w : World) (h : StrR K w 7 6 [0, 1, 2, 3, 4, 5] u hs) (hA : ∀ a ∈ strO 7 [0, 1, 2, 3, 4, 5] u hs, a ∈ K) (hk0 : 0 ≤ k) (hk : k + (strO 7 [0, 1, 2, 3, 4, 5] u hs).length ≤ 4611686018427387904) :
  Calls Tryd.prog 60 #[.slice u hs.length c, .int .i64 k] w fun e w' => e = .returned (.int .i64 (k + (strO 7 [0, 1, 2, 3, 4, 5] u hs).length)) ∧ w' = mkw w (strO 7 [0, 1, 2, 3, 4, 5] u hs) k := by
 rcases h.2 with e | ⟨g, o, rfl, h1, h2⟩
 ·subst e
  rw [strO_nil]
  go_enter Tryd.func60, Tryd.ntmps60
  go_wp2_with fail
  go_loopw [1, 5] (fun q i wr => i = .int .i64 0 ∧ q = .int .i64 k ∧ Hid (wr = w)) (fun _ _ _ => 0)
  case atStart => exact ⟨rfl, rfl, rfl⟩
  case round =>
   obtain ⟨rfl, rfl, HE⟩ := hrel
   go_wp2_with fail
   go_ret
   exact ⟨by simp, HE.out⟩
 ·exact markInR K g o c hs k w h.1 h1 h2 hA hk0 hk
end Go.Proofs.YtenbodghkpbghaaDoor
