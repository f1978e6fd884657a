import Derived.Test.YtoknhppjdmoblaaGreatDoorMemQ
import Derived.Test.YtoknhppjdmoblaaGreatDoorFmGQ
import Derived.Test.YtoknhppjdmoblaaGreatDoorFdK
namespace Go.Proofs.YtoknhppjdmoblaaGreatDoor
set_option linter.unusedVariables false
set_option linter.unusedSimpArgs false
open Go.RowKit
def At (w : World) (g : Nat) (cs : Array Value) (T : TypeId) : Prop := w.heap[g]? = some (.cells cs T (0, 0))
theorem At.lt {w : World} {g : Nat} {cs : Array Value} {T : TypeId} (h : At w g cs T) : g < w.heap.size := (Array.getElem?_eq_some_iff.1 h).1
theorem At.below {w w' : World} {g : Nat} {cs : Array Value} {T : TypeId} (h : At w g cs T) (k : Below w.heap.size w w') : At w' g cs T := (k.block g h.lt).trans h
theorem At.new (w : World) (cs : Array Value) (T : TypeId) : At (w.alloc (.cells cs T)) w.heap.size cs T := heap_alloc_last w _
theorem At.cell {w : World} {g : Nat} {cs : Array Value} {T : TypeId} (h : At w g cs T) (o : Nat) : w.cell? ⟨g, o, none⟩ = cs[o]? := cell_of_heap h
theorem At.setOther {w : World} {g gi o : Nat} {cs : Array Value} {T : TypeId} {v : Value} (h : At w g cs T) (hn : g ≠ gi) : At (w.setCell ⟨gi, o, none⟩ v) g cs T := (Below.heap_setCell _ _ _ _ (by show g ≠ gi; exact hn)).trans h
end Go.Proofs.YtoknhppjdmoblaaGreatDoor
namespace Go.Proofs.YtoknhppjdmoblaaGreatDoor
set_option linter.unusedVariables false
set_option linter.unusedSimpArgs false
open Go.RowKit
end Go.Proofs.YtoknhppjdmoblaaGreatDoor
namespace Go.Proofs.YtoknhppjdmoblaaGreatDoor
set_option linter.unusedVariables false
set_option linter.unusedSimpArgs false
open Go.RowKit
set_option maxHeartbeats 2000000 in
set_option maxRecDepth 100000 in
theorem funcShI_p (lo : Nat) (d : FuncD) (u0 : Option Addr) (c0 : Nat) (u2 : Option Addr) (c2 : Nat) (funcs : Int) (w : World) (hs : SmFunc d) (k0 : IntsAt w lo u0 d.params) (k2 : BlocksAt w lo u2 d.blocks) (hp : ¬ d.params.length ≤ 4) : Calls Tryz.prog 52 #[.agg #[.slice u0 d.params.length c0, .int .i64 d.ret, .slice u2 d.blocks.length c2], .int .i64 funcs] w fun e w' => e = .returned (.bool (funcB funcs d)) ∧ Below w.heap.size w w' := by
 have HR : Hid (false = funcB funcs d) := by show _ = _; simp [funcB, hp]
 have i1 : (4 : Int) < d.params.length := by omega
 go_enter Tryz.func52, Tryz.ntmps52
 go_wp2_with fail
 go_ret
 exact ⟨ret_bool HR.out, (Below.refl _ _).alloc (Nat.le_refl _) _⟩
set_option maxHeartbeats 2000000 in
set_option maxRecDepth 100000 in
theorem funcShI_a (lo : Nat) (d : FuncD) (u0 : Option Addr) (c0 : Nat) (u2 : Option Addr) (c2 : Nat) (funcs : Int) (w : World) (hs : SmFunc d) (k0 : IntsAt w lo u0 d.params) (k2 : BlocksAt w lo u2 d.blocks) (hp : d.params.length ≤ 4) (ha : d.params.all widthB = false) : Calls Tryz.prog 52 #[.agg #[.slice u0 d.params.length c0, .int .i64 d.ret, .slice u2 d.blocks.length c2], .int .i64 funcs] w fun e w' => e = .returned (.bool (funcB funcs d)) ∧ Below w.heap.size w w' := by
 have HR : Hid (false = funcB funcs d) := by show _ = _; simp [funcB, ha]
 have i1 : ¬ (4 : Int) < d.params.length := by omega
 have K1 := (k0.keep (agree_alloc w (.cells #[.slice u0 d.params.length c0, .int .i64 d.ret, .slice u2 d.blocks.length c2] 27) _))
 have A := fun w k => allWidthsI lo u0 c0 d.params w k
 simp only [show (fun n => widthB n) = widthB from rfl] at A
 rw [ha] at A
 go_enter Tryz.func52, Tryz.ntmps52
 go_wp2_with (first | (go_at_call 92; refine (A _ K1).mono ?_; rintro e w' ⟨rfl, rfl⟩))
 go_ret
 exact ⟨ret_bool HR.out, (Below.refl _ _).alloc (Nat.le_refl _) _⟩
set_option maxHeartbeats 2000000 in
set_option maxRecDepth 100000 in
theorem funcShI_r (lo : Nat) (d : FuncD) (u0 : Option Addr) (c0 : Nat) (u2 : Option Addr) (c2 : Nat) (funcs : Int) (w : World) (hs : SmFunc d) (k0 : IntsAt w lo u0 d.params) (k2 : BlocksAt w lo u2 d.blocks) (hp : d.params.length ≤ 4) (ha : d.params.all widthB = true) (hr : widthB d.ret = false) : Calls Tryz.prog 52 #[.agg #[.slice u0 d.params.length c0, .int .i64 d.ret, .slice u2 d.blocks.length c2], .int .i64 funcs] w fun e w' => e = .returned (.bool (funcB funcs d)) ∧ Below w.heap.size w w' := by
 have HR : Hid (false = funcB funcs d) := by show _ = _; simp [funcB, hr]
 have i1 : ¬ (4 : Int) < d.params.length := by omega
 have K1 := (k0.keep (agree_alloc w (.cells #[.slice u0 d.params.length c0, .int .i64 d.ret, .slice u2 d.blocks.length c2] 27) _))
 have A := fun w k => allWidthsI lo u0 c0 d.params w k
 simp only [show (fun n => widthB n) = widthB from rfl] at A
 rw [ha] at A
 go_enter Tryz.func52, Tryz.ntmps52
 go_wp2_with (first | (go_at_call 92; refine (A _ K1).mono ?_; rintro e w' ⟨rfl, rfl⟩) | (go_at_call 93; refine (widthI _ _).mono ?_; rintro e w' ⟨rfl, rfl⟩))
 go_ret
 exact ⟨ret_bool HR.out, (Below.refl _ _).alloc (Nat.le_refl _) _⟩
set_option maxHeartbeats 2000000 in
set_option maxRecDepth 100000 in
theorem funcShI_b (lo : Nat) (d : FuncD) (u0 : Option Addr) (c0 : Nat) (u2 : Option Addr) (c2 : Nat) (funcs : Int) (w : World) (hs : SmFunc d) (k0 : IntsAt w lo u0 d.params) (k2 : BlocksAt w lo u2 d.blocks) (hp : d.params.length ≤ 4) (ha : d.params.all widthB = true) (hr : widthB d.ret = true) (hb : ¬ 1 ≤ d.blocks.length) : Calls Tryz.prog 52 #[.agg #[.slice u0 d.params.length c0, .int .i64 d.ret, .slice u2 d.blocks.length c2], .int .i64 funcs] w fun e w' => e = .returned (.bool (funcB funcs d)) ∧ Below w.heap.size w w' := by
 have HR : Hid (false = funcB funcs d) := by show _ = _; simp [funcB, hb]
 have i1 : ¬ (4 : Int) < d.params.length := by omega
 have K1 := (k0.keep (agree_alloc w (.cells #[.slice u0 d.params.length c0, .int .i64 d.ret, .slice u2 d.blocks.length c2] 27) _))
 have A := fun w k => allWidthsI lo u0 c0 d.params w k
 simp only [show (fun n => widthB n) = widthB from rfl] at A
 rw [ha] at A
 have i2 : (d.blocks.length : Int) < 1 := by omega
 go_enter Tryz.func52, Tryz.ntmps52
 go_wp2_with (first | (go_at_call 92; refine (A _ K1).mono ?_; rintro e w' ⟨rfl, rfl⟩) | (go_at_call 93; refine (widthI _ _).mono ?_; rintro e w' ⟨rfl, rfl⟩))
 go_ret
 exact ⟨ret_bool HR.out, (Below.refl _ _).alloc (Nat.le_refl _) _⟩
set_option maxHeartbeats 2000000 in
set_option maxRecDepth 100000 in
theorem funcShI_c (lo : Nat) (d : FuncD) (u0 : Option Addr) (c0 : Nat) (u2 : Option Addr) (c2 : Nat) (funcs : Int) (w : World) (hs : SmFunc d) (k0 : IntsAt w lo u0 d.params) (k2 : BlocksAt w lo u2 d.blocks) (hp : d.params.length ≤ 4) (ha : d.params.all widthB = true) (hr : widthB d.ret = true) (hb : 1 ≤ d.blocks.length) (hc : ¬ d.blocks.length ≤ 10) : Calls Tryz.prog 52 #[.agg #[.slice u0 d.params.length c0, .int .i64 d.ret, .slice u2 d.blocks.length c2], .int .i64 funcs] w fun e w' => e = .returned (.bool (funcB funcs d)) ∧ Below w.heap.size w w' := by
 have HR : Hid (false = funcB funcs d) := by show _ = _; simp [funcB, hc]
 have i1 : ¬ (4 : Int) < d.params.length := by omega
 have K1 := (k0.keep (agree_alloc w (.cells #[.slice u0 d.params.length c0, .int .i64 d.ret, .slice u2 d.blocks.length c2] 27) _))
 have A := fun w k => allWidthsI lo u0 c0 d.params w k
 simp only [show (fun n => widthB n) = widthB from rfl] at A
 rw [ha] at A
 have i2 : ¬ (d.blocks.length : Int) < 1 := by omega
 have i3 : (10 : Int) < d.blocks.length := by have := hs.2.1; omega
 go_enter Tryz.func52, Tryz.ntmps52
 go_wp2_with (first | (go_at_call 92; refine (A _ K1).mono ?_; rintro e w' ⟨rfl, rfl⟩) | (go_at_call 93; refine (widthI _ _).mono ?_; rintro e w' ⟨rfl, rfl⟩))
 go_ret
 exact ⟨ret_bool HR.out, (Below.refl _ _).alloc (Nat.le_refl _) _⟩
set_option maxHeartbeats 2000000 in
set_option maxRecDepth 100000 in
theorem funcShI_n (lo : Nat) (d : FuncD) (u0 : Option Addr) (c0 : Nat) (u2 : Option Addr) (c2 : Nat) (funcs : Int) (w : World) (hs : SmFunc d) (k0 : IntsAt w lo u0 d.params) (k2 : BlocksAt w lo u2 d.blocks) (hp : d.params.length ≤ 4) (ha : d.params.all widthB = true) (hr : widthB d.ret = true) (hb : 1 ≤ d.blocks.length) (hc : d.blocks.length ≤ 10) (hn : ¬ cntF d ≤ 60) : Calls Tryz.prog 52 #[.agg #[.slice u0 d.params.length c0, .int .i64 d.ret, .slice u2 d.blocks.length c2], .int .i64 funcs] w fun e w' => e = .returned (.bool (funcB funcs d)) ∧ Below w.heap.size w w' := by
 have HR : Hid (false = funcB funcs d) := by show _ = _; simp [funcB, hn]
 have F0 := FBox.start (d := d) (u0 := u0) (u2 := u2) (c0 := c0) (c2 := c2) (w := w) (T := 27)
 have i1 : ¬ (4 : Int) < d.params.length := by omega
 have K1 := (k0.keep (agree_alloc w (.cells #[.slice u0 d.params.length c0, .int .i64 d.ret, .slice u2 d.blocks.length c2] 27) _))
 have A := fun w k => allWidthsI lo u0 c0 d.params w k
 simp only [show (fun n => widthB n) = widthB from rfl] at A
 rw [ha] at A
 have i2 : ¬ (d.blocks.length : Int) < 1 := by omega
 have i3 : ¬ (10 : Int) < d.blocks.length := by omega
 have i4 : (60 : Int) < cntF d := by omega
 go_enter Tryz.func52, Tryz.ntmps52
 go_wp2_with (first | (go_at_call 92; refine (A _ K1).mono ?_; rintro e w' ⟨rfl, rfl⟩) | (go_at_call 93; refine (widthI _ _).mono ?_; rintro e w' ⟨rfl, rfl⟩))
 refine (countI_any lo d u0 c0 u2 c2 _ hs (k2.keep (agree_of_below F0.below lo))).mono ?_
 rintro e w1 ⟨rfl, hb1'⟩
 have F1 := F0.keep hb1'
 go_wp2_with fail
 go_ret
 exact ⟨ret_bool HR.out, F1.below⟩
theorem funcShI (lo : Nat) (d : FuncD) (u0 : Option Addr) (c0 : Nat) (u2 : Option Addr) (c2 : Nat) (funcs : Int) (w : World) (hs : SmFunc d) (k0 : IntsAt w lo u0 d.params) (k2 : BlocksAt w lo u2 d.blocks) : Calls Tryz.prog 52 #[.agg #[.slice u0 d.params.length c0, .int .i64 d.ret, .slice u2 d.blocks.length c2], .int .i64 funcs] w fun e w' => e = .returned (.bool (funcB funcs d)) ∧ Below w.heap.size w w' := by
 by_cases hp : d.params.length ≤ 4
 ·cases ha : d.params.all widthB with
  | false => exact funcShI_a lo d u0 c0 u2 c2 funcs w hs k0 k2 hp ha
  | true =>
   cases hr : widthB d.ret with
   | false => exact funcShI_r lo d u0 c0 u2 c2 funcs w hs k0 k2 hp ha hr
   | true =>
    by_cases hb : 1 ≤ d.blocks.length
    ·by_cases hc : d.blocks.length ≤ 10
     ·by_cases hn : cntF d ≤ 60
      ·exact funcShI_ok lo d u0 c0 u2 c2 funcs w hs k0 k2 hp ha hr hb hc hn
      ·exact funcShI_n lo d u0 c0 u2 c2 funcs w hs k0 k2 hp ha hr hb hc hn
     ·exact funcShI_c lo d u0 c0 u2 c2 funcs w hs k0 k2 hp ha hr hb hc
    ·exact funcShI_b lo d u0 c0 u2 c2 funcs w hs k0 k2 hp ha hr hb
 ·exact funcShI_p lo d u0 c0 u2 c2 funcs w hs k0 k2 hp
end Go.Proofs.YtoknhppjdmoblaaGreatDoor
namespace Go.Proofs.YtoknhppjdmoblaaGreatDoor
set_option linter.unusedVariables false
set_option linter.unusedSimpArgs false
open Go.RowKit
set_option maxHeartbeats 1000000 in
set_option maxRecDepth 100000 in
theorem inFormI (lo : Nat) (d : FuncD) (u0 : Option Addr) (c0 : Nat) (u2 : Option Addr) (c2 : Nat) (w : World) (hs : SmFunc d) (k0 : IntsAt w lo u0 d.params) (k2 : BlocksAt w lo u2 d.blocks) :
  Calls Tryz.prog 29 #[.agg #[.slice u0 d.params.length c0, .int .i64 d.ret, .slice u2 d.blocks.length c2]] w fun e w' => e = .returned (.bool (funcB 3 d)) ∧ Below w.heap.size w w' := by
 have F0 := FBox.start (d := d) (u0 := u0) (u2 := u2) (c0 := c0) (c2 := c2) (w := w) (T := 27)
 have P := funcShI lo d u0 c0 u2 c2 3 _ hs (k0.keep (agree_of_below F0.below lo)) (k2.keep (agree_of_below F0.below lo))
 have HB := F0.below
 have a0 := F0.a0
 have a1 := F0.a1
 have a2 := F0.a2
 clear F0 hs k0 k2
 go_enter Tryz.func29, Tryz.ntmps29
 go_wp2_with (go_at_call 52; refine P.mono ?_; rintro e w2 ⟨rfl, b2⟩)
 go_ret
 exact ⟨rfl, HB.trans (b2.mono HB.size)⟩
set_option maxHeartbeats 4000000 in
set_option maxRecDepth 100000 in
theorem roomI (lo : Nat) (d : FuncD) (u0 : Option Addr) (c0 : Nat) (u2 : Option Addr) (c2 : Nat) (w : World) (hs : SmFunc d) (k2 : BlocksAt w lo u2 d.blocks) :
  Calls Tryz.prog 31 #[.agg #[.slice u0 d.params.length c0, .int .i64 d.ret, .slice u2 d.blocks.length c2]] w fun e w' => e = .returned (.agg #[.int .i64 (cntF d), .int .i64 d.blocks.length, .int .i64 3]) ∧ Below w.heap.size w w' := by
 have A0 : At ((w.alloc (.cells #[.slice u0 d.params.length c0, .int .i64 d.ret, .slice u2 d.blocks.length c2] 27)).alloc (.cells #[.int .i64 0, .int .i64 0, .int .i64 0] 70)) w.heap.size #[.slice u0 d.params.length c0, .int .i64 d.ret, .slice u2 d.blocks.length c2] 27 := (Below.heap_alloc _ _ _ (by simp)).trans (heap_alloc_last w _)
 have A1 : At ((w.alloc (.cells #[.slice u0 d.params.length c0, .int .i64 d.ret, .slice u2 d.blocks.length c2] 27)).alloc (.cells #[.int .i64 0, .int .i64 0, .int .i64 0] 70)) (w.heap.size + 1) #[.int .i64 0, .int .i64 0, .int .i64 0] 70 := by
  have h := heap_alloc_last (w.alloc (.cells #[.slice u0 d.params.length c0, .int .i64 d.ret, .slice u2 d.blocks.length c2] 27)) (.cells #[.int .i64 0, .int .i64 0, .int .i64 0] 70)
  have e : (w.alloc (.cells #[.slice u0 d.params.length c0, .int .i64 d.ret, .slice u2 d.blocks.length c2] 27)).heap.size = w.heap.size + 1 := by simp
  rw [e] at h
  exact h
 have B0 : Below w.heap.size w ((w.alloc (.cells #[.slice u0 d.params.length c0, .int .i64 d.ret, .slice u2 d.blocks.length c2] 27)).alloc (.cells #[.int .i64 0, .int .i64 0, .int .i64 0] 70)) := ((Below.refl _ _).alloc (Nat.le_refl _) _).alloc (by simp) _
 have C := countI_any lo d u0 c0 u2 c2 ((w.alloc (.cells #[.slice u0 d.params.length c0, .int .i64 d.ret, .slice u2 d.blocks.length c2] 27)).alloc (.cells #[.int .i64 0, .int .i64 0, .int .i64 0] 70)).drew hs (k2.keep (agree_of_below B0.drew lo))
 have hbl : d.blocks.length ≤ 1048576 := by have := hs.2.1; omega
 clear hs k2
 go_enter Tryz.func31, Tryz.ntmps31
 go_wp2_with fail
 generalize ((w.alloc (.cells #[.slice u0 d.params.length c0, .int .i64 d.ret, .slice u2 d.blocks.length c2] 27)).alloc (.cells #[.int .i64 0, .int .i64 0, .int .i64 0] 70)) = w2 at A0 A1 B0 C ⊢
 --CUT0
 refine wp_region_held_drew (S := fun w' => At w' w.heap.size #[.slice u0 d.params.length c0, .int .i64 d.ret, .slice u2 d.blocks.length c2] 27) (by kernel_rfl) (show At w2.drew _ _ _ from A0) (fun hHeld => ?_)
 refine wpAnyH_take (i := 0) (v := ?_) rfl (by kernel_rfl) (by kernel_rfl) (by kernel_rfl) (fun _ _ _ h => h) (Or.inl ⟨by rfl, ?_⟩) hHeld ?_
 rotate_left
 ·intro w9 hS9
  have g0 := (show w9.cell? ⟨w.heap.size, 0, none⟩ = some (.slice u0 d.params.length c0) from hS9.cell 0)
  have g1 := (show w9.cell? ⟨w.heap.size, 1, none⟩ = some (.int .i64 d.ret) from hS9.cell 1)
  have g2 := (show w9.cell? ⟨w.heap.size, 2, none⟩ = some (.slice u2 d.blocks.length c2) from hS9.cell 2)
  go_simp
  try with_reducible rfl
 show wpAnyH _ _ _ _ _ _ _ (Act.put _ (some _) _) _
 simp only [Act.put, List.setIfInBounds_toArray, List.set_cons_zero, List.set_cons_succ]
 refine wpAnyH_take (i := 2) (v := ?_) rfl (by kernel_rfl) (by kernel_rfl) (by kernel_rfl) (fun _ _ _ h => h) (Or.inl ⟨by rfl, ?_⟩) hHeld ?_
 rotate_left
 ·intro w9 hS9
  have g0 := (show w9.cell? ⟨w.heap.size, 0, none⟩ = some (.slice u0 d.params.length c0) from hS9.cell 0)
  have g1 := (show w9.cell? ⟨w.heap.size, 1, none⟩ = some (.int .i64 d.ret) from hS9.cell 1)
  have g2 := (show w9.cell? ⟨w.heap.size, 2, none⟩ = some (.slice u2 d.blocks.length c2) from hS9.cell 2)
  go_simp
  try with_reducible rfl
 show wpAnyH _ _ _ _ _ _ _ (Act.put _ (some _) _) _
 simp only [Act.put, List.setIfInBounds_toArray, List.set_cons_zero, List.set_cons_succ]
 refine wpAnyH_take (i := 3) (v := ?_) rfl (by kernel_rfl) (by kernel_rfl) (by kernel_rfl) (fun _ _ _ h => h) (Or.inl ⟨by rfl, ?_⟩) hHeld ?_
 rotate_left
 ·intro w9 hS9
  have g0 := (show w9.cell? ⟨w.heap.size, 0, none⟩ = some (.slice u0 d.params.length c0) from hS9.cell 0)
  have g1 := (show w9.cell? ⟨w.heap.size, 1, none⟩ = some (.int .i64 d.ret) from hS9.cell 1)
  have g2 := (show w9.cell? ⟨w.heap.size, 2, none⟩ = some (.slice u2 d.blocks.length c2) from hS9.cell 2)
  go_simp
  try with_reducible rfl
 show wpAnyH _ _ _ _ _ _ _ (Act.put _ (some _) _) _
 simp only [Act.put, List.setIfInBounds_toArray, List.set_cons_zero, List.set_cons_succ]
 refine wpAnyH_take (i := 4) (v := ?_) rfl (by kernel_rfl) (by kernel_rfl) (by kernel_rfl) (fun _ _ _ h => h) (Or.inl ⟨by rfl, ?_⟩) hHeld ?_
 rotate_left
 ·intro w9 hS9
  have g0 := (show w9.cell? ⟨w.heap.size, 0, none⟩ = some (.slice u0 d.params.length c0) from hS9.cell 0)
  have g1 := (show w9.cell? ⟨w.heap.size, 1, none⟩ = some (.int .i64 d.ret) from hS9.cell 1)
  have g2 := (show w9.cell? ⟨w.heap.size, 2, none⟩ = some (.slice u2 d.blocks.length c2) from hS9.cell 2)
  go_simp
  try with_reducible rfl
 show wpAnyH _ _ _ _ _ _ _ (Act.put _ (some _) _) _
 simp only [Act.put, List.setIfInBounds_toArray, List.set_cons_zero, List.set_cons_succ]
 --CUT1
 refine wpAnyH_ready (rs := [1]) (by kernel_rfl) (by simp) ?_
 refine AllReadyH.cons rfl (fun K hK => ?_) AllReadyH.nil
 go_simp
 go_wp2_with (go_at_call 58; refine (C).mono ?_; rintro e w5 ⟨rfl, b5⟩)
 have A5 : At w5 (w.heap.size + 1) #[.int .i64 0, .int .i64 0, .int .i64 0] 70 := At.below (show At w2.drew _ _ _ from A1) b5
 have B5 : Below w.heap.size w w5 := B0.drew.trans (b5.mono B0.drew.size)
 refine hK.out _ _ ?_ (fun hHeld2 => ?_)
 ·exact hHeld.below b5
 clear hK K hHeld
 have hHeld := hHeld2
 clear hHeld2
 try simp only [Act.put, List.setIfInBounds_toArray, List.set_cons_zero, List.set_cons_succ]
 refine wpAnyH_take (i := 5) (v := ?_) rfl (by kernel_rfl) (by kernel_rfl) (by kernel_rfl) (fun _ _ _ h => h) (Or.inl ⟨by rfl, ?_⟩) hHeld ?_
 rotate_left
 ·intro w9 hS9
  have g0 := (show w9.cell? ⟨w.heap.size, 0, none⟩ = some (.slice u0 d.params.length c0) from hS9.cell 0)
  have g1 := (show w9.cell? ⟨w.heap.size, 1, none⟩ = some (.int .i64 d.ret) from hS9.cell 1)
  have g2 := (show w9.cell? ⟨w.heap.size, 2, none⟩ = some (.slice u2 d.blocks.length c2) from hS9.cell 2)
  go_simp
  try with_reducible rfl
 show wpAnyH _ _ _ _ _ _ _ (Act.put _ (some _) _) _
 simp only [Act.put, List.setIfInBounds_toArray, List.set_cons_zero, List.set_cons_succ]
 --CUT2
 have y0 : w5.cell? ⟨w.heap.size + 1, 0, none⟩ = some (.int .i64 0) := A5.cell 0
 have y1 : w5.cell? ⟨w.heap.size + 1, 1, none⟩ = some (.int .i64 0) := A5.cell 1
 have y2 : w5.cell? ⟨w.heap.size + 1, 2, none⟩ = some (.int .i64 0) := A5.cell 2
 have yf : ∀ o, w5.frozen? ⟨w.heap.size + 1, o, none⟩ = false := fun o => froz_of_heap A5
 refine wpAnyH_ready (rs := [6]) (by kernel_rfl) (by simp) ?_
 refine AllReadyH.cons rfl (fun K hK => ?_) AllReadyH.nil
 go_simp
 go_wp2_with fail
 refine hK.out _ _ ?_ (fun hHeld2 => ?_)
 ·exact ((hHeld.setOther (by omega)).setOther (by omega)).setOther (by omega)
 clear hK K hHeld
 have hHeld := hHeld2
 clear hHeld2
 try simp only [Act.put, List.setIfInBounds_toArray, List.set_cons_zero, List.set_cons_succ]
 refine wpAnyH_done (by kernel_rfl) ?_ _
 --CUT3
 go_wp2_with fail
 have hr := heap_set (o := 2) (v := .int .i64 3) (heap_set (o := 1) (v := .int .i64 d.blocks.length) (heap_set (o := 0) (v := .int .i64 (cntF d)) A5))
 refine bodyPost_ret (v := .agg #[.int .i64 (cntF d), .int .i64 d.blocks.length, .int .i64 3]) ((results_cell_row Tryz.results31 _ _ (w.heap.size + 1) 70 _ (0, 0) _ rfl hr Tryz.underlying70 rfl (by kernel_rfl)).trans (by rfl)) rfl ⟨rfl, ?_⟩
 exact (by repeat (first | refine Below.setCell ?_ (by dsimp only; omega) _ | exact B5))
end Go.Proofs.YtoknhppjdmoblaaGreatDoor
