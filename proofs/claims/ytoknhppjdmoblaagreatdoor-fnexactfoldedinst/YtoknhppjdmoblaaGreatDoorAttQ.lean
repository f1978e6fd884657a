/- A block of cells that stays. -/
import Derived.Test.YtoknhppjdmoblaaGreatDoorMemQ
import Derived.Test.YtoknhppjdmoblaaGreatDoorFmDQ
import Derived.Test.YtoknhppjdmoblaaGreatDoorFdKQ
namespace Go.Proofs.YtoknhppjdmoblaaGreatDoor
open Go.RowKit

/-- A block of cells that stays. -/
def At (w : World) (g : Nat) (cs : Array Value) (T : TypeId) : Prop := w.heap[g]? = some (.cells cs T (0, 0))
theorem At.lt {w : World} {g : Nat} {cs : Array Value} {T : TypeId} (h : At w g cs T) : g < w.heap.size := (Array.getElem?_eq_some_iff.1 h).1
theorem At.below {w w' : World} {g : Nat} {cs : Array Value} {T : TypeId} (h : At w g cs T) (k : Below w.heap.size w w') : At w' g cs T := (k.block g h.lt).trans h
theorem At.new (w : World) (cs : Array Value) (T : TypeId) : At (w.alloc (.cells cs T)) w.heap.size cs T := heap_alloc_last w _
theorem At.cell {w : World} {g : Nat} {cs : Array Value} {T : TypeId} (h : At w g cs T) (o : Nat) : w.cell? ⟨g, o, none⟩ = cs[o]? := cell_of_heap h
theorem At.setOther {w : World} {g gi o : Nat} {cs : Array Value} {T : TypeId} {v : Value} (h : At w g cs T) (hn : g ≠ gi) : At (w.setCell ⟨gi, o, none⟩ v) g cs T := (Below.heap_setCell _ _ _ _ (by show g ≠ gi; exact hn)).trans h
end Go.Proofs.YtoknhppjdmoblaaGreatDoor
namespace Go.Proofs.YtoknhppjdmoblaaGreatDoor
open Go.RowKit


def SmMod (l : List FuncD) : Prop := l.length ≤ 1048576 ∧ ∀ d ∈ l, SmFunc d
theorem szMod_small {l : List FuncD} {x : Int} (hx : x ≤ 1048576) (h : 0 ≤ szS szFunc l x) : SmMod l := by
  obtain ⟨b1, b2⟩ := szS_each szFunc_falls h
  refine ⟨by omega, fun p hp => ?_⟩
  obtain ⟨y, _, y1, y2⟩ := b2 p hp
  exact szFunc_small (by omega) y2
end Go.Proofs.YtoknhppjdmoblaaGreatDoor
namespace Go.Proofs.YtoknhppjdmoblaaGreatDoor
open Go.RowKit
set_option linter.unusedVariables false

set_option maxHeartbeats 2000000 in
set_option maxRecDepth 100000 in
theorem funcShI_p (lo : Nat) (d : FuncD) (u0 : Option Addr) (c0 : Nat) (u2 : Option Addr) (c2 : Nat) (funcs : Int) (w : World) (hs : SmFunc d) (k0 : IntsAt w lo u0 d.params) (k2 : BlocksAt w lo u2 d.blocks) (hp : ¬ d.params.length ≤ 4) : Calls Tryz.prog 52 #[.agg #[.slice u0 d.params.length c0, .int .i64 d.ret, .slice u2 d.blocks.length c2], .int .i64 funcs] w fun e w' => e = .returned (.bool (funcB funcs d)) ∧ Below w.heap.size w w' := by
  have HR : Hid (false = funcB funcs d) := by show _ = _; simp [funcB, hp]
  have i1 : (4 : Int) < d.params.length := by omega
  go_enter Tryz.func52, Tryz.ntmps52
  go_wp2_with fail
  go_ret
  exact ⟨ret_bool HR.out, (Below.refl _ _).alloc (Nat.le_refl _) _⟩
set_option maxHeartbeats 2000000 in
set_option maxRecDepth 100000 in
theorem funcShI_a (lo : Nat) (d : FuncD) (u0 : Option Addr) (c0 : Nat) (u2 : Option Addr) (c2 : Nat) (funcs : Int) (w : World) (hs : SmFunc d) (k0 : IntsAt w lo u0 d.params) (k2 : BlocksAt w lo u2 d.blocks) (hp : d.params.length ≤ 4) (ha : d.params.all widthB = false) : Calls Tryz.prog 52 #[.agg #[.slice u0 d.params.length c0, .int .i64 d.ret, .slice u2 d.blocks.length c2], .int .i64 funcs] w fun e w' => e = .returned (.bool (funcB funcs d)) ∧ Below w.heap.size w w' := by
  have HR : Hid (false = funcB funcs d) := by show _ = _; simp [funcB, ha]
  have i1 : ¬ (4 : Int) < d.params.length := by omega
  have K1 := (k0.keep (agree_alloc w (.cells #[.slice u0 d.params.length c0, .int .i64 d.ret, .slice u2 d.blocks.length c2] 27) _))
  have A := fun w k => allWidthsI lo u0 c0 d.params w k
  simp only [show (fun n => widthB n) = widthB from rfl] at A
  rw [ha] at A
  go_enter Tryz.func52, Tryz.ntmps52
  go_wp2_with (first | (go_at_call 92; refine (A _ K1).mono ?_; rintro e w' ⟨rfl, rfl⟩))
  go_ret
  exact ⟨ret_bool HR.out, (Below.refl _ _).alloc (Nat.le_refl _) _⟩
set_option maxHeartbeats 2000000 in
set_option maxRecDepth 100000 in
theorem funcShI_r (lo : Nat) (d : FuncD) (u0 : Option Addr) (c0 : Nat) (u2 : Option Addr) (c2 : Nat) (funcs : Int) (w : World) (hs : SmFunc d) (k0 : IntsAt w lo u0 d.params) (k2 : BlocksAt w lo u2 d.blocks) (hp : d.params.length ≤ 4) (ha : d.params.all widthB = true) (hr : widthB d.ret = false) : Calls Tryz.prog 52 #[.agg #[.slice u0 d.params.length c0, .int .i64 d.ret, .slice u2 d.blocks.length c2], .int .i64 funcs] w fun e w' => e = .returned (.bool (funcB funcs d)) ∧ Below w.heap.size w w' := by
  have HR : Hid (false = funcB funcs d) := by show _ = _; simp [funcB, hr]
  have i1 : ¬ (4 : Int) < d.params.length := by omega
  have K1 := (k0.keep (agree_alloc w (.cells #[.slice u0 d.params.length c0, .int .i64 d.ret, .slice u2 d.blocks.length c2] 27) _))
  have A := fun w k => allWidthsI lo u0 c0 d.params w k
  simp only [show (fun n => widthB n) = widthB from rfl] at A
  rw [ha] at A
  go_enter Tryz.func52, Tryz.ntmps52
  go_wp2_with (first | (go_at_call 92; refine (A _ K1).mono ?_; rintro e w' ⟨rfl, rfl⟩) | (go_at_call 93; refine (widthI _ _).mono ?_; rintro e w' ⟨rfl, rfl⟩))
  go_ret
  exact ⟨ret_bool HR.out, (Below.refl _ _).alloc (Nat.le_refl _) _⟩
set_option maxHeartbeats 2000000 in
set_option maxRecDepth 100000 in
theorem funcShI_b (lo : Nat) (d : FuncD) (u0 : Option Addr) (c0 : Nat) (u2 : Option Addr) (c2 : Nat) (funcs : Int) (w : World) (hs : SmFunc d) (k0 : IntsAt w lo u0 d.params) (k2 : BlocksAt w lo u2 d.blocks) (hp : d.params.length ≤ 4) (ha : d.params.all widthB = true) (hr : widthB d.ret = true) (hb : ¬ 1 ≤ d.blocks.length) : Calls Tryz.prog 52 #[.agg #[.slice u0 d.params.length c0, .int .i64 d.ret, .slice u2 d.blocks.length c2], .int .i64 funcs] w fun e w' => e = .returned (.bool (funcB funcs d)) ∧ Below w.heap.size w w' := by
  have HR : Hid (false = funcB funcs d) := by show _ = _; simp [funcB, hb]
  have i1 : ¬ (4 : Int) < d.params.length := by omega
  have K1 := (k0.keep (agree_alloc w (.cells #[.slice u0 d.params.length c0, .int .i64 d.ret, .slice u2 d.blocks.length c2] 27) _))
  have A := fun w k => allWidthsI lo u0 c0 d.params w k
  simp only [show (fun n => widthB n) = widthB from rfl] at A
  rw [ha] at A
  have i2 : (d.blocks.length : Int) < 1 := by omega
  go_enter Tryz.func52, Tryz.ntmps52
  go_wp2_with (first | (go_at_call 92; refine (A _ K1).mono ?_; rintro e w' ⟨rfl, rfl⟩) | (go_at_call 93; refine (widthI _ _).mono ?_; rintro e w' ⟨rfl, rfl⟩))
  go_ret
  exact ⟨ret_bool HR.out, (Below.refl _ _).alloc (Nat.le_refl _) _⟩
set_option maxHeartbeats 2000000 in
set_option maxRecDepth 100000 in
theorem funcShI_c (lo : Nat) (d : FuncD) (u0 : Option Addr) (c0 : Nat) (u2 : Option Addr) (c2 : Nat) (funcs : Int) (w : World) (hs : SmFunc d) (k0 : IntsAt w lo u0 d.params) (k2 : BlocksAt w lo u2 d.blocks) (hp : d.params.length ≤ 4) (ha : d.params.all widthB = true) (hr : widthB d.ret = true) (hb : 1 ≤ d.blocks.length) (hc : ¬ d.blocks.length ≤ 10) : Calls Tryz.prog 52 #[.agg #[.slice u0 d.params.length c0, .int .i64 d.ret, .slice u2 d.blocks.length c2], .int .i64 funcs] w fun e w' => e = .returned (.bool (funcB funcs d)) ∧ Below w.heap.size w w' := by
  have HR : Hid (false = funcB funcs d) := by show _ = _; simp [funcB, hc]
  have i1 : ¬ (4 : Int) < d.params.length := by omega
  have K1 := (k0.keep (agree_alloc w (.cells #[.slice u0 d.params.length c0, .int .i64 d.ret, .slice u2 d.blocks.length c2] 27) _))
  have A := fun w k => allWidthsI lo u0 c0 d.params w k
  simp only [show (fun n => widthB n) = widthB from rfl] at A
  rw [ha] at A
  have i2 : ¬ (d.blocks.length : Int) < 1 := by omega
  have i3 : (10 : Int) < d.blocks.length := by have := hs.2.1; omega
  go_enter Tryz.func52, Tryz.ntmps52
  go_wp2_with (first | (go_at_call 92; refine (A _ K1).mono ?_; rintro e w' ⟨rfl, rfl⟩) | (go_at_call 93; refine (widthI _ _).mono ?_; rintro e w' ⟨rfl, rfl⟩))
  go_ret
  exact ⟨ret_bool HR.out, (Below.refl _ _).alloc (Nat.le_refl _) _⟩
set_option maxHeartbeats 2000000 in
set_option maxRecDepth 100000 in
theorem funcShI_n (lo : Nat) (d : FuncD) (u0 : Option Addr) (c0 : Nat) (u2 : Option Addr) (c2 : Nat) (funcs : Int) (w : World) (hs : SmFunc d) (k0 : IntsAt w lo u0 d.params) (k2 : BlocksAt w lo u2 d.blocks) (hp : d.params.length ≤ 4) (ha : d.params.all widthB = true) (hr : widthB d.ret = true) (hb : 1 ≤ d.blocks.length) (hc : d.blocks.length ≤ 10) (hn : ¬ cntF d ≤ 60) : Calls Tryz.prog 52 #[.agg #[.slice u0 d.params.length c0, .int .i64 d.ret, .slice u2 d.blocks.length c2], .int .i64 funcs] w fun e w' => e = .returned (.bool (funcB funcs d)) ∧ Below w.heap.size w w' := by
  have HR : Hid (false = funcB funcs d) := by show _ = _; simp [funcB, hn]
  have F0 := FBox.start (d := d) (u0 := u0) (u2 := u2) (c0 := c0) (c2 := c2) (w := w) (T := 27)
  have i1 : ¬ (4 : Int) < d.params.length := by omega
  have K1 := (k0.keep (agree_alloc w (.cells #[.slice u0 d.params.length c0, .int .i64 d.ret, .slice u2 d.blocks.length c2] 27) _))
  have A := fun w k => allWidthsI lo u0 c0 d.params w k
  simp only [show (fun n => widthB n) = widthB from rfl] at A
  rw [ha] at A
  have i2 : ¬ (d.blocks.length : Int) < 1 := by omega
  have i3 : ¬ (10 : Int) < d.blocks.length := by omega
  have i4 : (60 : Int) < cntF d := by omega
  go_enter Tryz.func52, Tryz.ntmps52
  go_wp2_with (first | (go_at_call 92; refine (A _ K1).mono ?_; rintro e w' ⟨rfl, rfl⟩) | (go_at_call 93; refine (widthI _ _).mono ?_; rintro e w' ⟨rfl, rfl⟩))
  refine (countI_any lo d u0 c0 u2 c2 _ hs (k2.keep (agree_of_below F0.below lo))).mono ?_
  rintro e w1 ⟨rfl, hb1'⟩
  have F1 := F0.keep hb1'
  go_wp2_with fail
  go_ret
  exact ⟨ret_bool HR.out, F1.below⟩
theorem funcShI (lo : Nat) (d : FuncD) (u0 : Option Addr) (c0 : Nat) (u2 : Option Addr) (c2 : Nat) (funcs : Int) (w : World) (hs : SmFunc d) (k0 : IntsAt w lo u0 d.params) (k2 : BlocksAt w lo u2 d.blocks) : Calls Tryz.prog 52 #[.agg #[.slice u0 d.params.length c0, .int .i64 d.ret, .slice u2 d.blocks.length c2], .int .i64 funcs] w fun e w' => e = .returned (.bool (funcB funcs d)) ∧ Below w.heap.size w w' := by
  by_cases hp : d.params.length ≤ 4
  · cases ha : d.params.all widthB with
    | false => exact funcShI_a lo d u0 c0 u2 c2 funcs w hs k0 k2 hp ha
    | true =>
      cases hr : widthB d.ret with
      | false => exact funcShI_r lo d u0 c0 u2 c2 funcs w hs k0 k2 hp ha hr
      | true =>
        by_cases hb : 1 ≤ d.blocks.length
        · by_cases hc : d.blocks.length ≤ 10
          · by_cases hn : cntF d ≤ 60
            · exact funcShI_ok lo d u0 c0 u2 c2 funcs w hs k0 k2 hp ha hr hb hc hn
            · exact funcShI_n lo d u0 c0 u2 c2 funcs w hs k0 k2 hp ha hr hb hc hn
          · exact funcShI_c lo d u0 c0 u2 c2 funcs w hs k0 k2 hp ha hr hb hc
        · exact funcShI_b lo d u0 c0 u2 c2 funcs w hs k0 k2 hp ha hr hb
  · exact funcShI_p lo d u0 c0 u2 c2 funcs w hs k0 k2 hp
end Go.Proofs.YtoknhppjdmoblaaGreatDoor
namespace Go.Proofs.YtoknhppjdmoblaaGreatDoor
open Go.RowKit
set_option linter.unusedVariables false

set_option maxHeartbeats 1000000 in
set_option maxRecDepth 100000 in
theorem inFormI (lo : Nat) (d : FuncD) (u0 : Option Addr) (c0 : Nat) (u2 : Option Addr) (c2 : Nat) (w : World) (hs : SmFunc d) (k0 : IntsAt w lo u0 d.params) (k2 : BlocksAt w lo u2 d.blocks) :
    Calls Tryz.prog 29 #[.agg #[.slice u0 d.params.length c0, .int .i64 d.ret, .slice u2 d.blocks.length c2]] w fun e w' => e = .returned (.bool (funcB 3 d)) ∧ Below w.heap.size w w' := by
  have F0 := FBox.start (d := d) (u0 := u0) (u2 := u2) (c0 := c0) (c2 := c2) (w := w) (T := 27)
  have P := funcShI lo d u0 c0 u2 c2 3 _ hs (k0.keep (agree_of_below F0.below lo)) (k2.keep (agree_of_below F0.below lo))
  have HB := F0.below
  have a0 := F0.a0
  have a1 := F0.a1
  have a2 := F0.a2
  clear F0 hs k0 k2
  go_enter Tryz.func29, Tryz.ntmps29
  go_wp2_with (go_at_call 52; refine P.mono ?_; rintro e w2 ⟨rfl, b2⟩)
  go_ret
  exact ⟨rfl, HB.trans (b2.mono HB.size)⟩
set_option maxHeartbeats 4000000 in
set_option maxRecDepth 100000 in
theorem roomI (lo : Nat) (d : FuncD) (u0 : Option Addr) (c0 : Nat) (u2 : Option Addr) (c2 : Nat) (w : World) (hs : SmFunc d) (k2 : BlocksAt w lo u2 d.blocks) :
    Calls Tryz.prog 31 #[.agg #[.slice u0 d.params.length c0, .int .i64 d.ret, .slice u2 d.blocks.length c2]] w fun e w' => e = .returned (.agg #[.int .i64 (cntF d), .int .i64 d.blocks.length, .int .i64 3]) ∧ Below w.heap.size w w' := by
  have A0 : At ((w.alloc (.cells #[.slice u0 d.params.length c0, .int .i64 d.ret, .slice u2 d.blocks.length c2] 27)).alloc (.cells #[.int .i64 0, .int .i64 0, .int .i64 0] 70)) w.heap.size #[.slice u0 d.params.length c0, .int .i64 d.ret, .slice u2 d.blocks.length c2] 27 := (Below.heap_alloc _ _ _ (by simp)).trans (heap_alloc_last w _)
  have A1 : At ((w.alloc (.cells #[.slice u0 d.params.length c0, .int .i64 d.ret, .slice u2 d.blocks.length c2] 27)).alloc (.cells #[.int .i64 0, .int .i64 0, .int .i64 0] 70)) (w.heap.size + 1) #[.int .i64 0, .int .i64 0, .int .i64 0] 70 := by
    have h := heap_alloc_last (w.alloc (.cells #[.slice u0 d.params.length c0, .int .i64 d.ret, .slice u2 d.blocks.length c2] 27)) (.cells #[.int .i64 0, .int .i64 0, .int .i64 0] 70)
    have e : (w.alloc (.cells #[.slice u0 d.params.length c0, .int .i64 d.ret, .slice u2 d.blocks.length c2] 27)).heap.size = w.heap.size + 1 := by simp
    rw [e] at h
    exact h
  have B0 : Below w.heap.size w ((w.alloc (.cells #[.slice u0 d.params.length c0, .int .i64 d.ret, .slice u2 d.blocks.length c2] 27)).alloc (.cells #[.int .i64 0, .int .i64 0, .int .i64 0] 70)) := ((Below.refl _ _).alloc (Nat.le_refl _) _).alloc (by simp) _
  have C := countI_any lo d u0 c0 u2 c2 ((w.alloc (.cells #[.slice u0 d.params.length c0, .int .i64 d.ret, .slice u2 d.blocks.length c2] 27)).alloc (.cells #[.int .i64 0, .int .i64 0, .int .i64 0] 70)).drew hs (k2.keep (agree_of_below B0.drew lo))
  have hbl : d.blocks.length ≤ 1048576 := by have := hs.2.1; omega
  clear hs k2
  go_enter Tryz.func31, Tryz.ntmps31
  go_wp2_with fail
  generalize ((w.alloc (.cells #[.slice u0 d.params.length c0, .int .i64 d.ret, .slice u2 d.blocks.length c2] 27)).alloc (.cells #[.int .i64 0, .int .i64 0, .int .i64 0] 70)) = w2 at A0 A1 B0 C ⊢
  --CUT0
  refine wp_region_held_drew (S := fun w' => At w' w.heap.size #[.slice u0 d.params.length c0, .int .i64 d.ret, .slice u2 d.blocks.length c2] 27) (by kernel_rfl) (show At w2.drew _ _ _ from A0) (fun hHeld => ?_)
  refine wpAnyH_take (i := 0) (v := ?_) rfl (by kernel_rfl) (by kernel_rfl) (by kernel_rfl) (fun _ _ _ h => h) (Or.inl ⟨by rfl, ?_⟩) hHeld ?_
  rotate_left
  · intro w9 hS9
    have g0 := (show w9.cell? ⟨w.heap.size, 0, none⟩ = some (.slice u0 d.params.length c0) from hS9.cell 0)
    have g1 := (show w9.cell? ⟨w.heap.size, 1, none⟩ = some (.int .i64 d.ret) from hS9.cell 1)
    have g2 := (show w9.cell? ⟨w.heap.size, 2, none⟩ = some (.slice u2 d.blocks.length c2) from hS9.cell 2)
    go_simp
    try with_reducible rfl
  show wpAnyH _ _ _ _ _ _ _ (Act.put _ (some _) _) _
  simp only [Act.put, List.setIfInBounds_toArray, List.set_cons_zero, List.set_cons_succ]
  refine wpAnyH_take (i := 2) (v := ?_) rfl (by kernel_rfl) (by kernel_rfl) (by kernel_rfl) (fun _ _ _ h => h) (Or.inl ⟨by rfl, ?_⟩) hHeld ?_
  rotate_left
  · intro w9 hS9
    have g0 := (show w9.cell? ⟨w.heap.size, 0, none⟩ = some (.slice u0 d.params.length c0) from hS9.cell 0)
    have g1 := (show w9.cell? ⟨w.heap.size, 1, none⟩ = some (.int .i64 d.ret) from hS9.cell 1)
    have g2 := (show w9.cell? ⟨w.heap.size, 2, none⟩ = some (.slice u2 d.blocks.length c2) from hS9.cell 2)
    go_simp
    try with_reducible rfl
  show wpAnyH _ _ _ _ _ _ _ (Act.put _ (some _) _) _
  simp only [Act.put, List.setIfInBounds_toArray, List.set_cons_zero, List.set_cons_succ]
  refine wpAnyH_take (i := 3) (v := ?_) rfl (by kernel_rfl) (by kernel_rfl) (by kernel_rfl) (fun _ _ _ h => h) (Or.inl ⟨by rfl, ?_⟩) hHeld ?_
  rotate_left
  · intro w9 hS9
    have g0 := (show w9.cell? ⟨w.heap.size, 0, none⟩ = some (.slice u0 d.params.length c0) from hS9.cell 0)
    have g1 := (show w9.cell? ⟨w.heap.size, 1, none⟩ = some (.int .i64 d.ret) from hS9.cell 1)
    have g2 := (show w9.cell? ⟨w.heap.size, 2, none⟩ = some (.slice u2 d.blocks.length c2) from hS9.cell 2)
    go_simp
    try with_reducible rfl
  show wpAnyH _ _ _ _ _ _ _ (Act.put _ (some _) _) _
  simp only [Act.put, List.setIfInBounds_toArray, List.set_cons_zero, List.set_cons_succ]
  refine wpAnyH_take (i := 4) (v := ?_) rfl (by kernel_rfl) (by kernel_rfl) (by kernel_rfl) (fun _ _ _ h => h) (Or.inl ⟨by rfl, ?_⟩) hHeld ?_
  rotate_left
  · intro w9 hS9
    have g0 := (show w9.cell? ⟨w.heap.size, 0, none⟩ = some (.slice u0 d.params.length c0) from hS9.cell 0)
    have g1 := (show w9.cell? ⟨w.heap.size, 1, none⟩ = some (.int .i64 d.ret) from hS9.cell 1)
    have g2 := (show w9.cell? ⟨w.heap.size, 2, none⟩ = some (.slice u2 d.blocks.length c2) from hS9.cell 2)
    go_simp
    try with_reducible rfl
  show wpAnyH _ _ _ _ _ _ _ (Act.put _ (some _) _) _
  simp only [Act.put, List.setIfInBounds_toArray, List.set_cons_zero, List.set_cons_succ]
  --CUT1
  refine wpAnyH_ready (rs := [1]) (by kernel_rfl) (by simp) ?_
  refine AllReadyH.cons rfl (fun K hK => ?_) AllReadyH.nil
  go_simp
  go_wp2_with (go_at_call 58; refine (C).mono ?_; rintro e w5 ⟨rfl, b5⟩)
  have A5 : At w5 (w.heap.size + 1) #[.int .i64 0, .int .i64 0, .int .i64 0] 70 := At.below (show At w2.drew _ _ _ from A1) b5
  have B5 : Below w.heap.size w w5 := B0.drew.trans (b5.mono B0.drew.size)
  refine hK.out _ _ ?_ (fun hHeld2 => ?_)
  · exact hHeld.below b5
  clear hK K hHeld
  have hHeld := hHeld2
  clear hHeld2
  try simp only [Act.put, List.setIfInBounds_toArray, List.set_cons_zero, List.set_cons_succ]
  refine wpAnyH_take (i := 5) (v := ?_) rfl (by kernel_rfl) (by kernel_rfl) (by kernel_rfl) (fun _ _ _ h => h) (Or.inl ⟨by rfl, ?_⟩) hHeld ?_
  rotate_left
  · intro w9 hS9
    have g0 := (show w9.cell? ⟨w.heap.size, 0, none⟩ = some (.slice u0 d.params.length c0) from hS9.cell 0)
    have g1 := (show w9.cell? ⟨w.heap.size, 1, none⟩ = some (.int .i64 d.ret) from hS9.cell 1)
    have g2 := (show w9.cell? ⟨w.heap.size, 2, none⟩ = some (.slice u2 d.blocks.length c2) from hS9.cell 2)
    go_simp
    try with_reducible rfl
  show wpAnyH _ _ _ _ _ _ _ (Act.put _ (some _) _) _
  simp only [Act.put, List.setIfInBounds_toArray, List.set_cons_zero, List.set_cons_succ]
  --CUT2
  have y0 : w5.cell? ⟨w.heap.size + 1, 0, none⟩ = some (.int .i64 0) := A5.cell 0
  have y1 : w5.cell? ⟨w.heap.size + 1, 1, none⟩ = some (.int .i64 0) := A5.cell 1
  have y2 : w5.cell? ⟨w.heap.size + 1, 2, none⟩ = some (.int .i64 0) := A5.cell 2
  have yf : ∀ o, w5.frozen? ⟨w.heap.size + 1, o, none⟩ = false := fun o => froz_of_heap A5
  refine wpAnyH_ready (rs := [6]) (by kernel_rfl) (by simp) ?_
  refine AllReadyH.cons rfl (fun K hK => ?_) AllReadyH.nil
  go_simp
  go_wp2_with fail
  refine hK.out _ _ ?_ (fun hHeld2 => ?_)
  · exact ((hHeld.setOther (by omega)).setOther (by omega)).setOther (by omega)
  clear hK K hHeld
  have hHeld := hHeld2
  clear hHeld2
  try simp only [Act.put, List.setIfInBounds_toArray, List.set_cons_zero, List.set_cons_succ]
  refine wpAnyH_done (by kernel_rfl) ?_ _
  --CUT3
  go_wp2_with fail
  have hr := heap_set (o := 2) (v := .int .i64 3) (heap_set (o := 1) (v := .int .i64 d.blocks.length) (heap_set (o := 0) (v := .int .i64 (cntF d)) A5))
  refine bodyPost_ret (v := .agg #[.int .i64 (cntF d), .int .i64 d.blocks.length, .int .i64 3]) ((results_cell_row Tryz.results31 _ _ (w.heap.size + 1) 70 _ (0, 0) _ rfl hr Tryz.underlying70 rfl (by kernel_rfl)).trans (by rfl)) rfl ⟨rfl, ?_⟩
  exact (by repeat (first | refine Below.setCell ?_ (by dsimp only; omega) _ | exact B5))
end Go.Proofs.YtoknhppjdmoblaaGreatDoor
namespace Go.Proofs.YtoknhppjdmoblaaGreatDoor
open Go.RowKit
set_option linter.unusedVariables false

/-- The nought instruction, and what the program's FoldedInst answers. -/
def zeroI : InstD := ⟨0, 0, 0, 0, 0, 0, []⟩
def foldI (d : FuncD) (i : InstD) : InstD := if funcB 3 d = true ∧ instB i (cntF d) 3 = true then foldP d i else zeroI
structure Fld (d : FuncD) (i : InstD) (u0 : Option Addr) (c0 : Nat) (u2 : Option Addr) (c2 : Nat) (ua : Option Addr) (qa : Nat) (w w1 : World) : Prop where
  f : At w1 w.heap.size #[.slice u0 d.params.length c0, .int .i64 d.ret, .slice u2 d.blocks.length c2] 27
  i : At w1 (w.heap.size + 1) #[.int .i64 i.op, .int .i64 i.w, .int .i64 i.a, .int .i64 i.b, .int .i64 i.c, .int .i64 i.imm, .slice ua i.args.length qa] 29
  r : At w1 (w.heap.size + 1 + 1) #[.int .i64 0, .int .i64 0, .int .i64 0, .int .i64 0, .int .i64 0, .int .i64 0, .slice none 0 0] 29
  below : Below w.heap.size w w1
theorem Fld.keep {d : FuncD} {i : InstD} {u0 u2 ua : Option Addr} {c0 c2 qa : Nat} {w w1 w2 : World} (h : Fld d i u0 c0 u2 c2 ua qa w w1) (k : Below w1.heap.size w1 w2) : Fld d i u0 c0 u2 c2 ua qa w w2 := ⟨h.f.below k, h.i.below k, h.r.below k, h.below.trans (k.mono h.below.size)⟩
theorem Fld.start {d : FuncD} {i : InstD} {u0 u2 ua : Option Addr} {c0 c2 qa : Nat} {w : World} : Fld d i u0 c0 u2 c2 ua qa w (((w.alloc (.cells #[.slice u0 d.params.length c0, .int .i64 d.ret, .slice u2 d.blocks.length c2] 27)).alloc (.cells #[.int .i64 i.op, .int .i64 i.w, .int .i64 i.a, .int .i64 i.b, .int .i64 i.c, .int .i64 i.imm, .slice ua i.args.length qa] 29)).alloc (.cells #[.int .i64 0, .int .i64 0, .int .i64 0, .int .i64 0, .int .i64 0, .int .i64 0, .slice none 0 0] 29)) := by
  have e1 : (w.alloc (.cells #[.slice u0 d.params.length c0, .int .i64 d.ret, .slice u2 d.blocks.length c2] 27)).heap.size = w.heap.size + 1 := by simp
  have e2 : ((w.alloc (.cells #[.slice u0 d.params.length c0, .int .i64 d.ret, .slice u2 d.blocks.length c2] 27)).alloc (.cells #[.int .i64 i.op, .int .i64 i.w, .int .i64 i.a, .int .i64 i.b, .int .i64 i.c, .int .i64 i.imm, .slice ua i.args.length qa] 29)).heap.size = w.heap.size + 1 + 1 := by simp
  have h1 := heap_alloc_last w (.cells #[.slice u0 d.params.length c0, .int .i64 d.ret, .slice u2 d.blocks.length c2] 27)
  have h2 := heap_alloc_last (w.alloc (.cells #[.slice u0 d.params.length c0, .int .i64 d.ret, .slice u2 d.blocks.length c2] 27)) (.cells #[.int .i64 i.op, .int .i64 i.w, .int .i64 i.a, .int .i64 i.b, .int .i64 i.c, .int .i64 i.imm, .slice ua i.args.length qa] 29)
  have h3 := heap_alloc_last ((w.alloc (.cells #[.slice u0 d.params.length c0, .int .i64 d.ret, .slice u2 d.blocks.length c2] 27)).alloc (.cells #[.int .i64 i.op, .int .i64 i.w, .int .i64 i.a, .int .i64 i.b, .int .i64 i.c, .int .i64 i.imm, .slice ua i.args.length qa] 29)) (.cells #[.int .i64 0, .int .i64 0, .int .i64 0, .int .i64 0, .int .i64 0, .int .i64 0, .slice none 0 0] 29)
  rw [e1] at h2
  rw [e2] at h3
  refine ⟨?_, ?_, h3, (((Below.refl _ _).alloc (Nat.le_refl _) _).alloc (by rw [e1]; omega) _).alloc (by rw [e2]; omega) _⟩
  · exact (Below.heap_alloc _ _ _ (by rw [e2]; omega)).trans ((Below.heap_alloc _ _ _ (by rw [e1]; omega)).trans h1)
  · exact (Below.heap_alloc _ _ _ (by rw [e2]; omega)).trans h2
set_option maxHeartbeats 4000000 in
set_option maxRecDepth 100000 in
theorem foldI_f (lo : Nat) (d : FuncD) (i : InstD) (u0 : Option Addr) (c0 : Nat) (u2 : Option Addr) (c2 : Nat) (ua : Option Addr) (qa : Nat) (w : World) (hs : SmFunc d) (k0 : IntsAt w lo u0 d.params) (k2 : BlocksAt w lo u2 d.blocks) (ku : IntsAt w lo ua i.args) (hm : i.args.length ≤ 1048576) (hf : funcB 3 d = false) :
    Calls Tryz.prog 7 #[.agg #[.slice u0 d.params.length c0, .int .i64 d.ret, .slice u2 d.blocks.length c2], .agg #[.int .i64 i.op, .int .i64 i.w, .int .i64 i.a, .int .i64 i.b, .int .i64 i.c, .int .i64 i.imm, .slice ua i.args.length qa]] w fun e w' => InstNew w' w.heap.size (foldI d i) e ∧ Below w.heap.size w w' := by
  have FI := fun W (k : Below w.heap.size w W) => inFormI lo d u0 c0 u2 c2 W hs (k0.keep (agree_of_below k lo)) (k2.keep (agree_of_below k lo))
  rw [hf] at FI
  have HZ : Hid (foldI d i = zeroI) := by show _ = _; unfold foldI; rw [hf]; simp
  clear hs k0 k2 ku hm hf
  have S0 := Fld.start (d := d) (i := i) (u0 := u0) (u2 := u2) (ua := ua) (c0 := c0) (c2 := c2) (qa := qa) (w := w)
  go_enter Tryz.func7, Tryz.ntmps7
  go_wp2_with fail
  generalize (((w.alloc (.cells #[.slice u0 d.params.length c0, .int .i64 d.ret, .slice u2 d.blocks.length c2] 27)).alloc (.cells #[.int .i64 i.op, .int .i64 i.w, .int .i64 i.a, .int .i64 i.b, .int .i64 i.c, .int .i64 i.imm, .slice ua i.args.length qa] 29)).alloc (.cells #[.int .i64 0, .int .i64 0, .int .i64 0, .int .i64 0, .int .i64 0, .int .i64 0, .slice none 0 0] 29)) = w1 at S0 ⊢
  have r1 : Hid (Fld d i u0 c0 u2 c2 ua qa w w1) := S0
  clear S0
  replace r1 := r1.out
  refine wp_region_abv (fun v => Below w1.heap.size w1 v) (by kernel_rfl) (by kernel_rfl) (drew_below (Below.refl _ _)) ?_
  have hne : Nonempty (Abv (fun v => Below w1.heap.size w1 v)) := abv_ne (Below.refl _ _)
  have x0 := fun x : Abv (fun v => Below w1.heap.size w1 v) => (show x.v.cell? ⟨w.heap.size, 0, none⟩ = some (.slice u0 d.params.length c0) from (r1.keep x.ok).f.cell 0)
  have x1 := fun x : Abv (fun v => Below w1.heap.size w1 v) => (show x.v.cell? ⟨w.heap.size, 1, none⟩ = some (.int .i64 d.ret) from (r1.keep x.ok).f.cell 1)
  have x2 := fun x : Abv (fun v => Below w1.heap.size w1 v) => (show x.v.cell? ⟨w.heap.size, 2, none⟩ = some (.slice u2 d.blocks.length c2) from (r1.keep x.ok).f.cell 2)
  have y0 := fun x : Abv (fun v => Below w1.heap.size w1 v) => (show x.v.cell? ⟨w.heap.size + 1, 0, none⟩ = some (.int .i64 i.op) from (r1.keep x.ok).i.cell 0)
  have y1 := fun x : Abv (fun v => Below w1.heap.size w1 v) => (show x.v.cell? ⟨w.heap.size + 1, 1, none⟩ = some (.int .i64 i.w) from (r1.keep x.ok).i.cell 1)
  have y2 := fun x : Abv (fun v => Below w1.heap.size w1 v) => (show x.v.cell? ⟨w.heap.size + 1, 2, none⟩ = some (.int .i64 i.a) from (r1.keep x.ok).i.cell 2)
  have y3 := fun x : Abv (fun v => Below w1.heap.size w1 v) => (show x.v.cell? ⟨w.heap.size + 1, 3, none⟩ = some (.int .i64 i.b) from (r1.keep x.ok).i.cell 3)
  have y4 := fun x : Abv (fun v => Below w1.heap.size w1 v) => (show x.v.cell? ⟨w.heap.size + 1, 4, none⟩ = some (.int .i64 i.c) from (r1.keep x.ok).i.cell 4)
  have y5 := fun x : Abv (fun v => Below w1.heap.size w1 v) => (show x.v.cell? ⟨w.heap.size + 1, 5, none⟩ = some (.int .i64 i.imm) from (r1.keep x.ok).i.cell 5)
  have y6 := fun x : Abv (fun v => Below w1.heap.size w1 v) => (show x.v.cell? ⟨w.heap.size + 1, 6, none⟩ = some (.slice ua i.args.length qa) from (r1.keep x.ok).i.cell 6)
  --CUT1
  repeat (go_big_quiet_step ((first | (go_at_call 29; exact abv_call _ (FI _ (r1.keep (Abv.ok _)).below)) | fail)))
  --CUT2
  refine wpQuiet_nil ?_
  rintro w9 ⟨⟨w9, h9⟩, rfl⟩
  have r9 := r1.keep h9
  clear hne x0 x1 x2 y0 y1 y2 y3 y4 y5 y6
  have z0 : w9.cell? ⟨w.heap.size + 1 + 1, 0, none⟩ = some (.int .i64 0) := r9.r.cell 0
  have z1 : w9.cell? ⟨w.heap.size + 1 + 1, 1, none⟩ = some (.int .i64 0) := r9.r.cell 1
  have z2 : w9.cell? ⟨w.heap.size + 1 + 1, 2, none⟩ = some (.int .i64 0) := r9.r.cell 2
  have z3 : w9.cell? ⟨w.heap.size + 1 + 1, 3, none⟩ = some (.int .i64 0) := r9.r.cell 3
  have z4 : w9.cell? ⟨w.heap.size + 1 + 1, 4, none⟩ = some (.int .i64 0) := r9.r.cell 4
  have z5 : w9.cell? ⟨w.heap.size + 1 + 1, 5, none⟩ = some (.int .i64 0) := r9.r.cell 5
  have z6 : w9.cell? ⟨w.heap.size + 1 + 1, 6, none⟩ = some (.slice none 0 0) := r9.r.cell 6
  have zf : ∀ o, w9.frozen? ⟨w.heap.size + 1 + 1, o, none⟩ = false := fun o => froz_of_heap r9.r
  go_wp2_with fail
  --CUT3
  have hr := (heap_set (o := 6) (v := .slice none 0 0) (heap_set (o := 5) (v := .int .i64 0) (heap_set (o := 4) (v := .int .i64 0) (heap_set (o := 3) (v := .int .i64 0) (heap_set (o := 2) (v := .int .i64 0) (heap_set (o := 1) (v := .int .i64 0) (heap_set (o := 0) (v := .int .i64 0) r9.r)))))))
  refine bodyPost_ret (v := .agg #[.int .i64 0, .int .i64 0, .int .i64 0, .int .i64 0, .int .i64 0, .int .i64 0, .slice none 0 0]) ((results_cell_row Tryz.results7 _ _ (w.heap.size + 1 + 1) 29 _ (0, 0) _ rfl hr Tryz.underlying29 rfl (by kernel_rfl)).trans (by rfl)) rfl ⟨?_, ?_⟩
  · rw [HZ.out]
    exact ⟨none, 0, rfl, Row.nil _ _⟩
  · exact (by repeat (first | refine Below.setCell ?_ (by dsimp only; omega) _ | exact r9.below))
set_option maxHeartbeats 4000000 in
set_option maxRecDepth 100000 in
theorem foldI_s (lo : Nat) (d : FuncD) (i : InstD) (u0 : Option Addr) (c0 : Nat) (u2 : Option Addr) (c2 : Nat) (ua : Option Addr) (qa : Nat) (w : World) (hs : SmFunc d) (k0 : IntsAt w lo u0 d.params) (k2 : BlocksAt w lo u2 d.blocks) (ku : IntsAt w lo ua i.args) (hm : i.args.length ≤ 1048576) (hf : funcB 3 d = true) (hi : instB i (cntF d) 3 = false) :
    Calls Tryz.prog 7 #[.agg #[.slice u0 d.params.length c0, .int .i64 d.ret, .slice u2 d.blocks.length c2], .agg #[.int .i64 i.op, .int .i64 i.w, .int .i64 i.a, .int .i64 i.b, .int .i64 i.c, .int .i64 i.imm, .slice ua i.args.length qa]] w fun e w' => InstNew w' w.heap.size (foldI d i) e ∧ Below w.heap.size w w' := by
  have FI := fun W (k : Below w.heap.size w W) => inFormI lo d u0 c0 u2 c2 W hs (k0.keep (agree_of_below k lo)) (k2.keep (agree_of_below k lo))
  have RI := fun W (k : Below w.heap.size w W) => roomI lo d u0 c0 u2 c2 W hs (k2.keep (agree_of_below k lo))
  have SI := fun W (k : Below w.heap.size w W) => instShI lo i ua qa (cntF d) d.blocks.length 3 W hm (ku.keep (agree_of_below k lo))
  rw [hf] at FI
  rw [hi] at SI
  have HZ : Hid (foldI d i = zeroI) := by show _ = _; unfold foldI; rw [hi]; simp
  clear hs k0 k2 ku hm hf hi
  have S0 := Fld.start (d := d) (i := i) (u0 := u0) (u2 := u2) (ua := ua) (c0 := c0) (c2 := c2) (qa := qa) (w := w)
  go_enter Tryz.func7, Tryz.ntmps7
  go_wp2_with fail
  generalize (((w.alloc (.cells #[.slice u0 d.params.length c0, .int .i64 d.ret, .slice u2 d.blocks.length c2] 27)).alloc (.cells #[.int .i64 i.op, .int .i64 i.w, .int .i64 i.a, .int .i64 i.b, .int .i64 i.c, .int .i64 i.imm, .slice ua i.args.length qa] 29)).alloc (.cells #[.int .i64 0, .int .i64 0, .int .i64 0, .int .i64 0, .int .i64 0, .int .i64 0, .slice none 0 0] 29)) = w1 at S0 ⊢
  have r1 : Hid (Fld d i u0 c0 u2 c2 ua qa w w1) := S0
  clear S0
  replace r1 := r1.out
  refine wp_region_abv (fun v => Below w1.heap.size w1 v) (by kernel_rfl) (by kernel_rfl) (drew_below (Below.refl _ _)) ?_
  have hne : Nonempty (Abv (fun v => Below w1.heap.size w1 v)) := abv_ne (Below.refl _ _)
  have x0 := fun x : Abv (fun v => Below w1.heap.size w1 v) => (show x.v.cell? ⟨w.heap.size, 0, none⟩ = some (.slice u0 d.params.length c0) from (r1.keep x.ok).f.cell 0)
  have x1 := fun x : Abv (fun v => Below w1.heap.size w1 v) => (show x.v.cell? ⟨w.heap.size, 1, none⟩ = some (.int .i64 d.ret) from (r1.keep x.ok).f.cell 1)
  have x2 := fun x : Abv (fun v => Below w1.heap.size w1 v) => (show x.v.cell? ⟨w.heap.size, 2, none⟩ = some (.slice u2 d.blocks.length c2) from (r1.keep x.ok).f.cell 2)
  have y0 := fun x : Abv (fun v => Below w1.heap.size w1 v) => (show x.v.cell? ⟨w.heap.size + 1, 0, none⟩ = some (.int .i64 i.op) from (r1.keep x.ok).i.cell 0)
  have y1 := fun x : Abv (fun v => Below w1.heap.size w1 v) => (show x.v.cell? ⟨w.heap.size + 1, 1, none⟩ = some (.int .i64 i.w) from (r1.keep x.ok).i.cell 1)
  have y2 := fun x : Abv (fun v => Below w1.heap.size w1 v) => (show x.v.cell? ⟨w.heap.size + 1, 2, none⟩ = some (.int .i64 i.a) from (r1.keep x.ok).i.cell 2)
  have y3 := fun x : Abv (fun v => Below w1.heap.size w1 v) => (show x.v.cell? ⟨w.heap.size + 1, 3, none⟩ = some (.int .i64 i.b) from (r1.keep x.ok).i.cell 3)
  have y4 := fun x : Abv (fun v => Below w1.heap.size w1 v) => (show x.v.cell? ⟨w.heap.size + 1, 4, none⟩ = some (.int .i64 i.c) from (r1.keep x.ok).i.cell 4)
  have y5 := fun x : Abv (fun v => Below w1.heap.size w1 v) => (show x.v.cell? ⟨w.heap.size + 1, 5, none⟩ = some (.int .i64 i.imm) from (r1.keep x.ok).i.cell 5)
  have y6 := fun x : Abv (fun v => Below w1.heap.size w1 v) => (show x.v.cell? ⟨w.heap.size + 1, 6, none⟩ = some (.slice ua i.args.length qa) from (r1.keep x.ok).i.cell 6)
  --CUT1
  repeat (go_big_quiet_step ((first | (go_at_call 29; exact abv_call _ (FI _ (r1.keep (Abv.ok _)).below)) | (go_at_call 31; exact abv_call _ (RI _ (r1.keep (Abv.ok _)).below)) | (go_at_call 30; exact abv_call _ (SI _ (r1.keep (Abv.ok _)).below)) | fail)))
  --CUT2
  refine wpQuiet_nil ?_
  rintro w9 ⟨⟨w9, h9⟩, rfl⟩
  have r9 := r1.keep h9
  clear hne x0 x1 x2 y0 y1 y2 y3 y4 y5 y6
  have z0 : w9.cell? ⟨w.heap.size + 1 + 1, 0, none⟩ = some (.int .i64 0) := r9.r.cell 0
  have z1 : w9.cell? ⟨w.heap.size + 1 + 1, 1, none⟩ = some (.int .i64 0) := r9.r.cell 1
  have z2 : w9.cell? ⟨w.heap.size + 1 + 1, 2, none⟩ = some (.int .i64 0) := r9.r.cell 2
  have z3 : w9.cell? ⟨w.heap.size + 1 + 1, 3, none⟩ = some (.int .i64 0) := r9.r.cell 3
  have z4 : w9.cell? ⟨w.heap.size + 1 + 1, 4, none⟩ = some (.int .i64 0) := r9.r.cell 4
  have z5 : w9.cell? ⟨w.heap.size + 1 + 1, 5, none⟩ = some (.int .i64 0) := r9.r.cell 5
  have z6 : w9.cell? ⟨w.heap.size + 1 + 1, 6, none⟩ = some (.slice none 0 0) := r9.r.cell 6
  have zf : ∀ o, w9.frozen? ⟨w.heap.size + 1 + 1, o, none⟩ = false := fun o => froz_of_heap r9.r
  go_wp2_with fail
  --CUT3
  have hr := (heap_set (o := 6) (v := .slice none 0 0) (heap_set (o := 5) (v := .int .i64 0) (heap_set (o := 4) (v := .int .i64 0) (heap_set (o := 3) (v := .int .i64 0) (heap_set (o := 2) (v := .int .i64 0) (heap_set (o := 1) (v := .int .i64 0) (heap_set (o := 0) (v := .int .i64 0) r9.r)))))))
  refine bodyPost_ret (v := .agg #[.int .i64 0, .int .i64 0, .int .i64 0, .int .i64 0, .int .i64 0, .int .i64 0, .slice none 0 0]) ((results_cell_row Tryz.results7 _ _ (w.heap.size + 1 + 1) 29 _ (0, 0) _ rfl hr Tryz.underlying29 rfl (by kernel_rfl)).trans (by rfl)) rfl ⟨?_, ?_⟩
  · rw [HZ.out]
    exact ⟨none, 0, rfl, Row.nil _ _⟩
  · exact (by repeat (first | refine Below.setCell ?_ (by dsimp only; omega) _ | exact r9.below))
set_option maxHeartbeats 4000000 in
set_option maxRecDepth 100000 in
theorem foldI_y (lo : Nat) (d : FuncD) (i : InstD) (u0 : Option Addr) (c0 : Nat) (u2 : Option Addr) (c2 : Nat) (ua : Option Addr) (qa : Nat) (w : World) (hs : SmFunc d) (k0 : IntsAt w lo u0 d.params) (k2 : BlocksAt w lo u2 d.blocks) (ku : IntsAt w lo ua i.args) (hm : i.args.length ≤ 1048576) (hf : funcB 3 d = true) (hi : instB i (cntF d) 3 = true) (hS : ISm i) (hOK : ∀ k r, ruleK d i k = some r → OkR r) (hOi : OkR i) :
    Calls Tryz.prog 7 #[.agg #[.slice u0 d.params.length c0, .int .i64 d.ret, .slice u2 d.blocks.length c2], .agg #[.int .i64 i.op, .int .i64 i.w, .int .i64 i.a, .int .i64 i.b, .int .i64 i.c, .int .i64 i.imm, .slice ua i.args.length qa]] w fun e w' => InstNew w' w.heap.size (foldI d i) e ∧ Below w.heap.size w w' := by
  have FI := fun W (k : Below w.heap.size w W) => inFormI lo d u0 c0 u2 c2 W hs (k0.keep (agree_of_below k lo)) (k2.keep (agree_of_below k lo))
  have RI := fun W (k : Below w.heap.size w W) => roomI lo d u0 c0 u2 c2 W hs (k2.keep (agree_of_below k lo))
  have SI := fun W (k : Below w.heap.size w W) => instShI lo i ua qa (cntF d) d.blocks.length 3 W hm (ku.keep (agree_of_below k lo))
  rw [hf] at FI
  rw [hi] at SI
  have BF := fun W (k : Below w.heap.size w W) => byFirstI lo d i u0 c0 u2 c2 ua qa W hs (k0.keep (agree_of_below k lo)) (k2.keep (agree_of_below k lo)) (ku.keep (agree_of_below k lo)) hS hOK hOi
  have HZ : Hid (foldI d i = foldP d i) := by show _ = _; unfold foldI; rw [hi, hf]; simp
  clear hs k0 k2 ku hm hf hi hS hOK hOi
  have S0 := Fld.start (d := d) (i := i) (u0 := u0) (u2 := u2) (ua := ua) (c0 := c0) (c2 := c2) (qa := qa) (w := w)
  go_enter Tryz.func7, Tryz.ntmps7
  go_wp2_with fail
  generalize (((w.alloc (.cells #[.slice u0 d.params.length c0, .int .i64 d.ret, .slice u2 d.blocks.length c2] 27)).alloc (.cells #[.int .i64 i.op, .int .i64 i.w, .int .i64 i.a, .int .i64 i.b, .int .i64 i.c, .int .i64 i.imm, .slice ua i.args.length qa] 29)).alloc (.cells #[.int .i64 0, .int .i64 0, .int .i64 0, .int .i64 0, .int .i64 0, .int .i64 0, .slice none 0 0] 29)) = w1 at S0 ⊢
  have r1 : Hid (Fld d i u0 c0 u2 c2 ua qa w w1) := S0
  clear S0
  replace r1 := r1.out
  refine wp_region_abv (fun v => Below w1.heap.size w1 v) (by kernel_rfl) (by kernel_rfl) (drew_below (Below.refl _ _)) ?_
  have hne : Nonempty (Abv (fun v => Below w1.heap.size w1 v)) := abv_ne (Below.refl _ _)
  have x0 := fun x : Abv (fun v => Below w1.heap.size w1 v) => (show x.v.cell? ⟨w.heap.size, 0, none⟩ = some (.slice u0 d.params.length c0) from (r1.keep x.ok).f.cell 0)
  have x1 := fun x : Abv (fun v => Below w1.heap.size w1 v) => (show x.v.cell? ⟨w.heap.size, 1, none⟩ = some (.int .i64 d.ret) from (r1.keep x.ok).f.cell 1)
  have x2 := fun x : Abv (fun v => Below w1.heap.size w1 v) => (show x.v.cell? ⟨w.heap.size, 2, none⟩ = some (.slice u2 d.blocks.length c2) from (r1.keep x.ok).f.cell 2)
  have y0 := fun x : Abv (fun v => Below w1.heap.size w1 v) => (show x.v.cell? ⟨w.heap.size + 1, 0, none⟩ = some (.int .i64 i.op) from (r1.keep x.ok).i.cell 0)
  have y1 := fun x : Abv (fun v => Below w1.heap.size w1 v) => (show x.v.cell? ⟨w.heap.size + 1, 1, none⟩ = some (.int .i64 i.w) from (r1.keep x.ok).i.cell 1)
  have y2 := fun x : Abv (fun v => Below w1.heap.size w1 v) => (show x.v.cell? ⟨w.heap.size + 1, 2, none⟩ = some (.int .i64 i.a) from (r1.keep x.ok).i.cell 2)
  have y3 := fun x : Abv (fun v => Below w1.heap.size w1 v) => (show x.v.cell? ⟨w.heap.size + 1, 3, none⟩ = some (.int .i64 i.b) from (r1.keep x.ok).i.cell 3)
  have y4 := fun x : Abv (fun v => Below w1.heap.size w1 v) => (show x.v.cell? ⟨w.heap.size + 1, 4, none⟩ = some (.int .i64 i.c) from (r1.keep x.ok).i.cell 4)
  have y5 := fun x : Abv (fun v => Below w1.heap.size w1 v) => (show x.v.cell? ⟨w.heap.size + 1, 5, none⟩ = some (.int .i64 i.imm) from (r1.keep x.ok).i.cell 5)
  have y6 := fun x : Abv (fun v => Below w1.heap.size w1 v) => (show x.v.cell? ⟨w.heap.size + 1, 6, none⟩ = some (.slice ua i.args.length qa) from (r1.keep x.ok).i.cell 6)
  --CUT1
  repeat (go_big_quiet_step ((first | (go_at_call 29; exact abv_call _ (FI _ (r1.keep (Abv.ok _)).below)) | (go_at_call 31; exact abv_call _ (RI _ (r1.keep (Abv.ok _)).below)) | (go_at_call 30; exact abv_call _ (SI _ (r1.keep (Abv.ok _)).below)) | fail)))
  --CUT2
  refine wpQuiet_nil ?_
  rintro w9 ⟨⟨w9, h9⟩, rfl⟩
  have r9 := r1.keep h9
  clear hne x0 x1 x2 y0 y1 y2 y3 y4 y5 y6
  have x0 : w9.cell? ⟨w.heap.size, 0, none⟩ = some (.slice u0 d.params.length c0) := r9.f.cell 0
  have x1 : w9.cell? ⟨w.heap.size, 1, none⟩ = some (.int .i64 d.ret) := r9.f.cell 1
  have x2 : w9.cell? ⟨w.heap.size, 2, none⟩ = some (.slice u2 d.blocks.length c2) := r9.f.cell 2
  have y0 : w9.cell? ⟨w.heap.size + 1, 0, none⟩ = some (.int .i64 i.op) := r9.i.cell 0
  have y1 : w9.cell? ⟨w.heap.size + 1, 1, none⟩ = some (.int .i64 i.w) := r9.i.cell 1
  have y2 : w9.cell? ⟨w.heap.size + 1, 2, none⟩ = some (.int .i64 i.a) := r9.i.cell 2
  have y3 : w9.cell? ⟨w.heap.size + 1, 3, none⟩ = some (.int .i64 i.b) := r9.i.cell 3
  have y4 : w9.cell? ⟨w.heap.size + 1, 4, none⟩ = some (.int .i64 i.c) := r9.i.cell 4
  have y5 : w9.cell? ⟨w.heap.size + 1, 5, none⟩ = some (.int .i64 i.imm) := r9.i.cell 5
  have y6 : w9.cell? ⟨w.heap.size + 1, 6, none⟩ = some (.slice ua i.args.length qa) := r9.i.cell 6
  have BY := BF w9 r9.below
  go_wp2_with fail
  refine BY.mono ?_
  rintro e w5 ⟨⟨su, sq, rfl, hrow⟩, b5⟩
  have R5 : Hid (Fld d i u0 c0 u2 c2 ua qa w w5) := r9.keep b5
  have HROW : Hid (Row w5 w9.heap.size _ _) := hrow
  have hz9 : w.heap.size + 1 + 1 < w9.heap.size := r9.r.lt
  clear hrow x0 x1 x2 y0 y1 y2 y3 y4 y5 y6 b5
  generalize foldP d i = g at *
  have z0 : w5.cell? ⟨w.heap.size + 1 + 1, 0, none⟩ = some (.int .i64 0) := R5.out.r.cell 0
  have z1 : w5.cell? ⟨w.heap.size + 1 + 1, 1, none⟩ = some (.int .i64 0) := R5.out.r.cell 1
  have z2 : w5.cell? ⟨w.heap.size + 1 + 1, 2, none⟩ = some (.int .i64 0) := R5.out.r.cell 2
  have z3 : w5.cell? ⟨w.heap.size + 1 + 1, 3, none⟩ = some (.int .i64 0) := R5.out.r.cell 3
  have z4 : w5.cell? ⟨w.heap.size + 1 + 1, 4, none⟩ = some (.int .i64 0) := R5.out.r.cell 4
  have z5 : w5.cell? ⟨w.heap.size + 1 + 1, 5, none⟩ = some (.int .i64 0) := R5.out.r.cell 5
  have z6 : w5.cell? ⟨w.heap.size + 1 + 1, 6, none⟩ = some (.slice none 0 0) := R5.out.r.cell 6
  have zf : ∀ o, w5.frozen? ⟨w.heap.size + 1 + 1, o, none⟩ = false := fun o => froz_of_heap R5.out.r
  go_wp2_with fail
  --CUT3
  have hr := (heap_set (o := 6) (v := .slice su g.args.length sq) (heap_set (o := 5) (v := .int .i64 g.imm) (heap_set (o := 4) (v := .int .i64 g.c) (heap_set (o := 3) (v := .int .i64 g.b) (heap_set (o := 2) (v := .int .i64 g.a) (heap_set (o := 1) (v := .int .i64 g.w) (heap_set (o := 0) (v := .int .i64 g.op) R5.out.r)))))))
  refine bodyPost_ret (v := .agg #[.int .i64 g.op, .int .i64 g.w, .int .i64 g.a, .int .i64 g.b, .int .i64 g.c, .int .i64 g.imm, .slice su g.args.length sq]) ((results_cell_row Tryz.results7 _ _ (w.heap.size + 1 + 1) 29 _ (0, 0) _ rfl hr Tryz.underlying29 rfl (by kernel_rfl)).trans (by rfl)) rfl ⟨?_, ?_⟩
  · rw [HZ.out]
    refine ⟨su, sq, rfl, ?_⟩
    refine (HROW.out.low (by omega)).block ?_
    intro q hq hql
    have hge := HROW.out.ge hq
    exact (by repeat (first | refine (Below.heap_setCell _ _ _ _ (by show q ≠ w.heap.size + 1 + 1; omega)).trans ?_ | rfl))
  · exact (by repeat (first | refine Below.setCell ?_ (by dsimp only; omega) _ | exact R5.out.below))
end Go.Proofs.YtoknhppjdmoblaaGreatDoor
