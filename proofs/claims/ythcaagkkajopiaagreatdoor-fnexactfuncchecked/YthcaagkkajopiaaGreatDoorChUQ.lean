/- errors.As at a variable of our own type of refusals; codeOf. -/
import Derived.Test.YthcaagkkajopiaaGreatDoorChTQ
import Derived.WalkKit
import Derived.LaidEql
import Derived.Stop.Asserts
import Derived.RowKitTokens
namespace Go.Proofs.YthcaagkkajopiaaGreatDoor
open Go.RowKit Go.Extern.Stop Go.Stop Go.Extern
set_option linter.unusedVariables false
set_option linter.unusedSimpArgs false

theorem asNil (t : Value) (w : World) :
    Calls Tryz.prog 29 #[.nilIface, t] w fun e w' => e = .returned (.bool false) ∧ w' = w := by
  go_enter Tryz.func29, Tryz.ntmps29
  go_wp2
  go_ret
  exact ⟨rfl, rfl⟩

theorem vP (t : Addr) (w : World) : (ReflectliteValue.unpack (.iface 68 (.pointer (some t)))).run Tryz.prog w
    = .ok (.agg #[.pointer (some ⟨7, 68, none⟩), .pointer (some ⟨w.heap.size, 0, none⟩), .int .u64 150]) (w.alloc (.cells #[.pointer (some t)] 68)) := by kernel_rfl
theorem tP (a : Addr) (w : World) : (ReflectliteValue.methodAny (ReflectliteValue.valueError "reflectlite.Value.Type" 0) (fun t _ _ _ => ReflectliteType.toType t) #[.agg #[.pointer (some ⟨7, 68, none⟩), .pointer (some a), .int .u64 150]]).run Tryz.prog w
    = .ok (.iface 134 (.agg #[.pointer (some ⟨7, 68, none⟩)])) w := by kernel_rfl
theorem mKind (h : Value) (w : World) : (Go.method 346 134 (.agg #[h]) "Kind").run Tryz.prog w = .ok (144, h) w := by kernel_rfl
theorem kP (w : World) : ((ReflectliteType.abiMethod fun t => (fun a : Nat => Value.int IntKind.u8 (a : Int)) <$> Rtype.kind t) #[.pointer (some ⟨7, 68, none⟩)]).run Tryz.prog w = .ok (.int .u8 22) w := by kernel_rfl
theorem kR (w : World) : ((ReflectliteType.abiMethod fun t => (fun a : Nat => Value.int IntKind.u8 (a : Int)) <$> Rtype.kind t) #[.pointer (some ⟨7, 66, none⟩)]).run Tryz.prog w = .ok (.int .u8 25) w := by kernel_rfl
theorem rlmC (z : Sem Value) (f : TypeId → Addr → Nat → Nat → Sem Value) (v : Value) (t : TypeId) (a : Addr) (fl : Nat) (W : World) (h : (ReflectliteValue.parts v).run Tryz.prog W = .ok (some (t, a, fl)) W) :
    (ReflectliteValue.method z f #[v]).run Tryz.prog W = (f t a fl (fl % 32)).run Tryz.prog W := by
  refine Eq.trans (b := Sem.run Tryz.prog (ReflectliteValue.parts v >>= _) W) rfl ?_
  rw [Sem.run_bind, h]
  rfl
theorem partsP (a : Addr) (w : World) : (ReflectliteValue.parts (.agg #[.pointer (some ⟨7, 68, none⟩), .pointer (some a), .int .u64 150])).run Tryz.prog w = .ok (some (68, a, 150)) w := by kernel_rfl
theorem isNilP (a p : Addr) (W : World) (ha : W.cell? a = some (.pointer (some p))) :
    (ReflectliteValue.method (ReflectliteValue.valueError "reflectlite.Value.IsNil" 0) ReflectliteValue.isNil #[.agg #[.pointer (some ⟨7, 68, none⟩), .pointer (some a), .int .u64 150]]).run Tryz.prog W = .ok (.bool false) W := by
  rw [rlmC _ _ _ _ _ _ _ (partsP a W)]
  simp [ReflectliteValue.isNil, loadVar, isAgg, underlying, Tryz.underlying68, ha, Result.andThen]
theorem mElem (h : Value) (w : World) : (Go.method 346 134 (.agg #[h]) "Elem").run Tryz.prog w = .ok (157, .agg #[h]) w := by kernel_rfl
theorem mImpl (h : Value) (w : World) : (Go.method 346 134 (.agg #[h]) "Implements").run Tryz.prog w = .ok (158, .agg #[h]) w := by kernel_rfl
theorem mAss (h : Value) (w : World) : (Go.method 346 134 (.agg #[h]) "AssignableTo").run Tryz.prog w = .ok (155, .agg #[h]) w := by kernel_rfl
theorem elP (w : World) : (ReflectliteType.method ReflectliteType.elem #[.agg #[.pointer (some ⟨7, 68, none⟩)]]).run Tryz.prog w = .ok (.iface 134 (.agg #[.pointer (some ⟨7, 66, none⟩)])) w := by kernel_rfl
theorem imR (w : World) : (ReflectliteType.relation "Implements" ReflectliteType.implements_ #[.agg #[.pointer (some ⟨7, 66, none⟩)], .iface 134 (.agg #[.pointer (some ⟨7, 46, none⟩)])]).run Tryz.prog w = .ok (.bool true) w := by kernel_rfl
theorem toR (v : Value) (w : World) : (ReflectliteType.typeOf #[.iface 66 v]).run Tryz.prog w = .ok (.iface 134 (.agg #[.pointer (some ⟨7, 66, none⟩)])) w := by kernel_rfl
theorem asR (w : World) : (ReflectliteType.relation "AssignableTo" ReflectliteType.assignableTo #[.agg #[.pointer (some ⟨7, 66, none⟩)], .iface 134 (.agg #[.pointer (some ⟨7, 66, none⟩)])]).run Tryz.prog w = .ok (.bool true) w := by kernel_rfl
theorem vR (c : Int) (y : Value) (w : World) : (ReflectliteValue.unpack (.iface 66 (.agg #[.int .i64 c, y]))).run Tryz.prog w
    = .ok (.agg #[.pointer (some ⟨7, 66, none⟩), .pointer (some ⟨w.heap.size, 0, none⟩), .int .u64 153]) (w.alloc (.cells #[.int .i64 c, y] 66)) := by kernel_rfl
theorem eoP (w : World) : (Rtype.elem? 68).run Tryz.prog w = .ok (some 66) w := by kernel_rfl
theorem mkR (p : Addr) (w : World) : (ReflectliteValue.mk 66 p ReflectliteValue.flagAddr).run Tryz.prog w = .ok (.agg #[.pointer (some ⟨7, 66, none⟩), .pointer (some p), .int .u64 409]) w := by kernel_rfl
theorem elvP (a p : Addr) (W : World) (ha : W.cell? a = some (.pointer (some p))) :
    (ReflectliteValue.method (ReflectliteValue.valueError "reflectlite.Value.Elem" 0) ReflectliteValue.elem #[.agg #[.pointer (some ⟨7, 68, none⟩), .pointer (some a), .int .u64 150]]).run Tryz.prog W
      = .ok (.agg #[.pointer (some ⟨7, 66, none⟩), .pointer (some p), .int .u64 409]) W := by
  rw [rlmC _ _ _ _ _ _ _ (partsP a W)]
  simp [ReflectliteValue.elem, loadVar, isAgg, underlying, Tryz.underlying68, ha, Result.andThen, eoP, mkR]
theorem partsRa (a : Addr) (w : World) : (ReflectliteValue.parts (.agg #[.pointer (some ⟨7, 66, none⟩), .pointer (some a), .int .u64 409])).run Tryz.prog w = .ok (some (66, a, 409)) w := by kernel_rfl
theorem partsR (a : Addr) (w : World) : (ReflectliteValue.parts (.agg #[.pointer (some ⟨7, 66, none⟩), .pointer (some a), .int .u64 153])).run Tryz.prog w = .ok (some (66, a, 153)) w := by kernel_rfl
theorem dirR (w : World) : (Rtype.directlyAssignable 66 66).run Tryz.prog w = .ok true w := by kernel_rfl
theorem sizR (w : World) : (sizeOf 66).run Tryz.prog w = .ok 2 w := by kernel_rfl
/-- (Value).Set: the variable at ta gets what the other one's own variable b holds. -/
theorem setR (ta b : Nat) (c : Int) (a : Addr) (W : World) (hb : W.heap[b]? = some (.cells #[.int .i64 c, errV a] 66 (0, 0))) (q0 q1 : Value) (ht : W.heap[ta]? = some (.cells #[q0, q1] 66 (0, 0))) :
    (ReflectliteValue.set #[.agg #[.pointer (some ⟨7, 66, none⟩), .pointer (some ⟨ta, 0, none⟩), .int .u64 409], .agg #[.pointer (some ⟨7, 66, none⟩), .pointer (some ⟨b, 0, none⟩), .int .u64 153]]).run Tryz.prog W
      = .ok (.tuple #[]) ((W.setCell ⟨ta, 0, none⟩ (.int .i64 c)).setCell ⟨ta, 1, none⟩ (errV a)) := by
  have hb0 : W.cell? ⟨b, 0, none⟩ = some (.int .i64 c) := (cell_of_heap hb).trans rfl
  have hb1 : W.cell? ⟨b, 1, none⟩ = some (errV a) := (cell_of_heap hb).trans rfl
  have ht0 : W.cell? ⟨ta, 0, none⟩ = some q0 := (cell_of_heap ht).trans rfl
  have hs := heap_setCell_same W ta 0 #[q0, q1] 66 (.int .i64 c) ht
  have ht1 : (W.setCell ⟨ta, 0, none⟩ (.int .i64 c)).cell? ⟨ta, 1, none⟩ = some q1 := (cell_of_heap hs).trans rfl
  have hf0 := frozen_of_row W ta 0 _ _ ht
  have hf1 := frozen_of_row _ ta 1 _ _ hs
  have LC : (loadCells ⟨b, 0, none⟩ 2).run Tryz.prog W = .ok #[.int .i64 c, errV a] W := by
    have := run_loadCells_list (P := Tryz.prog) W ⟨b, 0, none⟩ [.int .i64 c, errV a] (fun j v hv => by
      rcases j with _ | _ | j
      · simp at hv; subst hv; exact hb0
      · simp at hv; subst hv; exact hb1
      · simp at hv)
    exact this
  have S0 : (store ⟨ta, 0, none⟩ (.int .i64 c)).run Tryz.prog W = .ok () (W.setCell ⟨ta, 0, none⟩ (.int .i64 c)) := by
    rw [run_store Tryz.prog W _ _ _ (by rfl), ht0]
    simp [hf0]
  have S1 : (store ⟨ta, 1, none⟩ (errV a)).run Tryz.prog (W.setCell ⟨ta, 0, none⟩ (.int .i64 c)) = .ok () ((W.setCell ⟨ta, 0, none⟩ (.int .i64 c)).setCell ⟨ta, 1, none⟩ (errV a)) := by
    rw [run_store Tryz.prog _ _ _ _ (by rfl), ht1]
    simp [hf1]
  refine Eq.trans (b := Sem.run Tryz.prog (ReflectliteValue.parts (.agg #[.pointer (some ⟨7, 66, none⟩), .pointer (some ⟨ta, 0, none⟩), .int .u64 409]) >>= fun r => ReflectliteValue.parts (.agg #[.pointer (some ⟨7, 66, none⟩), .pointer (some ⟨b, 0, none⟩), .int .u64 153]) >>= _) W) rfl ?_
  simp only [Sem.run_bind, partsRa, partsR, Result.andThen]
  simp [ReflectliteValue.flagAddr, loadVar, isAgg, underlying, Tryz.underlying66, Result.andThen, dirR, sizR, storeVar, Value.cells, LC]
  simp [storeCells, Addr.add, S0, S1, Result.andThen]

set_option maxHeartbeats 4000000 in
theorem asIn (ta vb : Nat) (c : Int) (a : Addr) (q0 q1 : Value) (w : World) (hv : w.cell? ⟨vb, 0, none⟩ = some (.pointer (some ⟨ta, 0, none⟩))) (ht : w.heap[ta]? = some (.cells #[q0, q1] 66 (0, 0))) :
    Calls Tryz.prog 59 #[refV c a, .iface 68 (.pointer (some ⟨ta, 0, none⟩)), .agg #[.pointer (some ⟨7, 68, none⟩), .pointer (some ⟨vb, 0, none⟩), .int .u64 150], .iface 134 (.agg #[.pointer (some ⟨7, 66, none⟩)])] w
      fun ev w' => ev = .returned (.bool true) ∧ Below ta w w' ∧ w'.cell? ⟨ta, 0, none⟩ = some (.int .i64 c) := by
  have h39 := @run_callFunc_extern Tryz.prog 39 _ ReflectliteType.typeOf Tryz.func39 (by kernel_rfl) (by kernel_rfl) (by kernel_rfl) (by kernel_rfl)
  have h56 := @run_callFunc_extern Tryz.prog 56 _ (fun args => ReflectliteValue.unpack (args.getD 0 (.tuple #[]))) Tryz.func56 (by kernel_rfl) (by kernel_rfl) (by kernel_rfl) (by kernel_rfl)
  have h155 := @run_callFunc_extern Tryz.prog 155 _ (ReflectliteType.relation "AssignableTo" ReflectliteType.assignableTo) Tryz.func155 (by kernel_rfl) (by kernel_rfl) (by kernel_rfl) (by kernel_rfl)
  have h82 := @run_callFunc_extern Tryz.prog 82 _ (ReflectliteValue.method (ReflectliteValue.valueError "reflectlite.Value.Elem" 0) ReflectliteValue.elem) Tryz.func82 (by kernel_rfl) (by kernel_rfl) (by kernel_rfl) (by kernel_rfl)
  have h83 := @run_callFunc_extern Tryz.prog 83 _ ReflectliteValue.set Tryz.func83 (by kernel_rfl) (by kernel_rfl) (by kernel_rfl) (by kernel_rfl)
  have tO := toR
  have mA := mAss
  have a25 := asR
  have v25 := vR
  have htl : ta < w.heap.size := by
    rcases Nat.lt_or_ge ta w.heap.size with h | h
    · exact h
    · rw [Array.getElem?_eq_none h] at ht; cases ht
  have hvl : vb < w.heap.size := by
    rcases Nat.lt_or_ge vb w.heap.size with h | h
    · exact h
    · simp [World.cell?, Array.getElem?_eq_none h] at hv
  have el := elvP ⟨vb, 0, none⟩ ⟨ta, 0, none⟩ (w.alloc (.cells #[.pointer (some ⟨7, 68, none⟩), .pointer (some ⟨vb, 0, none⟩), .int .u64 150] 101)) (by rw [World.cell?_alloc_lt _ _ ⟨vb, 0, none⟩ hvl]; exact hv)
  have st := setR ta (w.heap.size + 1) c a ((w.alloc (.cells #[.pointer (some ⟨7, 68, none⟩), .pointer (some ⟨vb, 0, none⟩), .int .u64 150] 101)).alloc (.cells #[.int .i64 c, errV a] 66))
    (by have := heap_alloc_last (w.alloc (.cells #[.pointer (some ⟨7, 68, none⟩), .pointer (some ⟨vb, 0, none⟩), .int .u64 150] 101)) (.cells #[.int .i64 c, errV a] 66); simpa using this) q0 q1
    ((((Below.refl _ _).alloc (by simp) _ : Below w.heap.size _ _).block ta htl).trans ((((Below.refl _ _).alloc (Nat.le_refl _) _ : Below w.heap.size w _).block ta htl).trans ht))
  have HT : Hid (w.heap[ta]? = some (.cells #[q0, q1] 66 (0, 0))) := ht
  unfold errV at st
  unfold refV
  clear ht hv
  go_enter Tryz.func59, Tryz.ntmps59
  go_wp2
  refine wp_loop_rounds 1 ?_
  rw [rounds_succ]
  go_wp2
  go_ret
  have R1 := heap_setCell_same _ ta 0 _ _ (.int .i64 c) HT.out
  have R2 := heap_setCell_same _ ta 1 _ _ (errV a) R1
  exact ⟨rfl, ((((Below.refl ta w).setCell (p := ⟨ta, 0, none⟩) (Nat.le_refl _) _).setCell (p := ⟨ta, 1, none⟩) (Nat.le_refl _) _).alloc (by simp; omega) _).alloc (by simp; omega) _,
    (cell_of_heap ((((Below.refl (ta + 1) _).alloc (by simp; omega) _ |>.alloc (by simp; omega) _).block ta (by omega)).trans R2)).trans rfl⟩

set_option maxHeartbeats 4000000 in
theorem asHit (ta : Nat) (c : Int) (a : Addr) (q0 q1 : Value) (w : World) (hg : Gv w 2 (.iface 134 (.agg #[.pointer (some ⟨7, 46, none⟩)]))) (ht : w.heap[ta]? = some (.cells #[q0, q1] 66 (0, 0))) :
    Calls Tryz.prog 29 #[refV c a, .iface 68 (.pointer (some ⟨ta, 0, none⟩))] w
      fun ev w' => ev = .returned (.bool true) ∧ Below ta w w' ∧ w'.cell? ⟨ta, 0, none⟩ = some (.int .i64 c) := by
  have h56 := @run_callFunc_extern Tryz.prog 56 _ (fun args => ReflectliteValue.unpack (args.getD 0 (.tuple #[]))) Tryz.func56 (by kernel_rfl) (by kernel_rfl) (by kernel_rfl) (by kernel_rfl)
  have h57 := @run_callFunc_extern Tryz.prog 57 _ (ReflectliteValue.methodAny (ReflectliteValue.valueError "reflectlite.Value.Type" 0) (fun t _ _ _ => ReflectliteType.toType t)) Tryz.func57 (by kernel_rfl) (by kernel_rfl) (by kernel_rfl) (by kernel_rfl)
  have h58 := @run_callFunc_extern Tryz.prog 58 _ (ReflectliteValue.method (ReflectliteValue.valueError "reflectlite.Value.IsNil" 0) ReflectliteValue.isNil) Tryz.func58 (by kernel_rfl) (by kernel_rfl) (by kernel_rfl) (by kernel_rfl)
  have h144 := @run_callFunc_extern Tryz.prog 144 _ (ReflectliteType.abiMethod fun t => do pure (.int .u8 (← Rtype.kind t))) Tryz.func144 (by kernel_rfl) (by kernel_rfl) (by kernel_rfl) (by kernel_rfl)
  have h157 := @run_callFunc_extern Tryz.prog 157 _ (ReflectliteType.method ReflectliteType.elem) Tryz.func157 (by kernel_rfl) (by kernel_rfl) (by kernel_rfl) (by kernel_rfl)
  have h158 := @run_callFunc_extern Tryz.prog 158 _ (ReflectliteType.relation "Implements" ReflectliteType.implements_) Tryz.func158 (by kernel_rfl) (by kernel_rfl) (by kernel_rfl) (by kernel_rfl)
  have f6 := vP
  have f7 := tP
  have mK := mKind
  have mE := mElem
  have mI := mImpl
  have k27 := kP
  have k25 := kR
  have e27 := elP
  have i25 := imR
  have htl : ta < w.heap.size := by
    rcases Nat.lt_or_ge ta w.heap.size with h | h
    · exact h
    · rw [Array.getElem?_eq_none h] at ht; cases ht
  have n8 := isNilP ⟨w.heap.size, 0, none⟩ ⟨ta, 0, none⟩ ((w.alloc (.cells #[.pointer (some ⟨ta, 0, none⟩)] 68)).alloc (.cells #[.pointer (some ⟨7, 68, none⟩), .pointer (some ⟨w.heap.size, 0, none⟩), .int .u64 150] 101)) (by simp)
  have hB : Below w.heap.size w ((w.alloc (.cells #[.pointer (some ⟨ta, 0, none⟩)] 68)).alloc (.cells #[.pointer (some ⟨7, 68, none⟩), .pointer (some ⟨w.heap.size, 0, none⟩), .int .u64 150] 101)) := ((Below.refl _ _).alloc (Nat.le_refl _) _).alloc (by simp) _
  have hg2 := (hg.keep hB).cell
  have AS := asIn ta w.heap.size c a q0 q1 ((w.alloc (.cells #[.pointer (some ⟨ta, 0, none⟩)] 68)).alloc (.cells #[.pointer (some ⟨7, 68, none⟩), .pointer (some ⟨w.heap.size, 0, none⟩), .int .u64 150] 101)) (by simp) ((hB.block ta htl).trans ht)
  have HB : Hid (Below w.heap.size w _) := hB
  unfold refV at AS ⊢
  clear ht hB hg
  go_enter Tryz.func29, Tryz.ntmps29
  go_wp2_with (go_at_call 59; refine AS.mono ?_; rintro e w1 ⟨rfl, hb1, hc1⟩)
  go_ret
  exact ⟨rfl, (HB.out.mono (by omega)).trans hb1, hc1⟩

set_option maxHeartbeats 4000000 in
theorem codeI (c : Int) (a : Addr) (w : World) (hg : Gv w 2 (.iface 134 (.agg #[.pointer (some ⟨7, 46, none⟩)]))) :
    Calls Tryz.prog 17 #[refV c a] w fun e w' => e = .returned (.int .i64 c) ∧ Below w.heap.size w w' := by
  have hB : Below w.heap.size w (w.alloc (.cells #[.int .i64 0, .nilIface] 66)) := (Below.refl _ _).alloc (Nat.le_refl _) _
  have AS := asHit w.heap.size c a (.int .i64 0) .nilIface (w.alloc (.cells #[.int .i64 0, .nilIface] 66)) (hg.keep hB) (heap_alloc_last _ _)
  have HB : Hid (Below w.heap.size w _) := hB
  unfold refV at AS ⊢
  clear hB hg
  go_enter Tryz.func17, Tryz.ntmps17
  go_wp2_with (go_at_call 29; refine AS.mono ?_; rintro e w1 ⟨rfl, hb1, hc1⟩)
  go_ret
  exact ⟨rfl, HB.out.trans hb1⟩
theorem codeNil (w : World) :
    Calls Tryz.prog 17 #[.nilIface] w fun e w' => e = .returned (.int .i64 0) ∧ Below w.heap.size w w' := by
  have hB : Below w.heap.size w (w.alloc (.cells #[.int .i64 0, .nilIface] 66)) := (Below.refl _ _).alloc (Nat.le_refl _) _
  have AS := fun t => asNil t (w.alloc (.cells #[.int .i64 0, .nilIface] 66))
  have HB : Hid (Below w.heap.size w _) := hB
  clear hB
  go_enter Tryz.func17, Tryz.ntmps17
  go_wp2_with (go_at_call 29; refine (AS _).mono ?_; rintro e w1 ⟨rfl, rfl⟩)
  go_ret
  exact ⟨rfl, HB.out⟩
end Go.Proofs.YthcaagkkajopiaaGreatDoor
namespace Go.Proofs.YthcaagkkajopiaaGreatDoor
open Go.RowKit Go.Extern.Stop Go.Stop Go.Extern
set_option linter.unusedVariables false
set_option linter.unusedSimpArgs false

theorem isTO (v : Value) (w : World) : (Extern.ReflectliteType.typeOf #[.iface 212 v]).run Tryz.prog w = .ok (.iface 134 (.agg #[.pointer (some ⟨7, 212, none⟩)])) w := by kernel_rfl
noncomputable def cmpE : Array Value → Sem Value := (Extern.find Tryz.f156).getD fun _ => pure (.bool true)
theorem isCm (w : World) : (cmpE #[.agg #[.pointer (some ⟨7, 212, none⟩)]]).run Tryz.prog w = .ok (.bool true) w := by kernel_rfl
theorem isMC (v : Value) (w : World) : (Go.method 346 134 v "Comparable").run Tryz.prog w = .ok (156, v) w := by kernel_rfl
theorem isComp : (Tryz.prog.info? 212).map (·.comparable) = some true := by kernel_rfl
theorem isSize : (Tryz.prog.info? 234).map (·.size) = some 1 := by kernel_rfl
theorem noIsE (v : Value) (xT : TypeId) (w : World) : (Instr.typeAssert (.iface 212 v) xT 136 true).run Tryz.prog w = .ok (.tuple #[.nilIface, .bool false]) w := run_typeAssert_lacksB Tryz.underlying136 (by kernel_rfl) (by kernel_rfl) v xT w
theorem noUnE (v : Value) (xT : TypeId) (w : World) : (Instr.typeAssert (.iface 212 v) xT 139 true).run Tryz.prog w = .ok (.tuple #[.nilIface, .bool false]) w := run_typeAssert_lacksB Tryz.underlying139 (by kernel_rfl) (by kernel_rfl) v xT w
theorem noUsE (v : Value) (xT : TypeId) (w : World) : (Instr.typeAssert (.iface 212 v) xT 141 true).run Tryz.prog w = .ok (.tuple #[.nilIface, .bool false]) w := run_typeAssert_lacksB Tryz.underlying141 (by kernel_rfl) (by kernel_rfl) v xT w
theorem noIsR (v : Value) (xT : TypeId) (w : World) : (Instr.typeAssert (.iface 66 v) xT 136 true).run Tryz.prog w = .ok (.tuple #[.nilIface, .bool false]) w := run_typeAssert_lacksB Tryz.underlying136 (by kernel_rfl) (by kernel_rfl) v xT w
theorem hasUnR (v : Value) (xT : TypeId) (w : World) : (Instr.typeAssert (.iface 66 v) xT 139 true).run Tryz.prog w = .ok (.tuple #[.iface 66 v, .bool true]) w := run_typeAssert_hasB Tryz.underlying139 (by kernel_rfl) v xT w
theorem mUnw (v : Value) (w : World) : (Go.method 346 66 v "Unwrap").run Tryz.prog w = .ok (148, v) w := by kernel_rfl
set_option maxHeartbeats 4000000 in
theorem unwI (c : Int) (y : Value) (w : World) : Calls Tryz.prog 148 #[.agg #[.int .i64 c, y]] w fun e w' => e = .returned y ∧ Below w.heap.size w w' := by
  have HB : Hid (Below w.heap.size w (w.alloc (.cells #[.int .i64 c, y] 66))) := (Below.refl _ _).alloc (Nat.le_refl _) _
  go_enter Tryz.func148, Tryz.ntmps148
  go_wp2
  go_ret
  first | exact ⟨rfl, HB.out⟩ | exact ⟨rfl, Below.refl _ _⟩
theorem isNilI (b : Addr) (w : World) :
    Calls Tryz.prog 20 #[.nilIface, errV b] w fun e w' => e = .returned (.bool false) ∧ w' = w := by
  have hn := run_eql_iface_nil_left (P := Tryz.prog) w 212 (.pointer (some b)) Tryz.underlying46
  unfold errV
  go_enter Tryz.func20, Tryz.ntmps20
  go_wp2
  go_ret
  exact ⟨rfl, rfl⟩
set_option maxHeartbeats 4000000 in
theorem isInS (c : Int) (b : Addr) (w : World) :
    Calls Tryz.prog 40 #[refV c b, errV b, .bool true] w fun e w' => e = .returned (.bool true) ∧ Below w.heap.size w w' := by
  obtain ⟨i, hi, hcmp⟩ := Option.map_eq_some_iff.1 isComp
  obtain ⟨j, hj, hjs⟩ := Option.map_eq_some_iff.1 isSize
  have nE := noIsE
  have uE := noUnE
  have vE := noUsE
  have nW := noIsR
  have uW := hasUnR
  have mU := mUnw
  have heq := fun W : World => run_eql_iface_ptr_same (P := Tryz.prog) W b Tryz.underlying46 Tryz.underlying212 hi hcmp hj
  have hty := run_eql_iface_types (P := Tryz.prog) 66 212 (.agg #[.int .i64 c, .iface 212 (.pointer (some b))]) (.pointer (some b)) Tryz.underlying46 (by decide) w
  have UN := unwI c (.iface 212 (.pointer (some b))) w
  unfold refV errV
  go_enter Tryz.func40, Tryz.ntmps40
  go_wp2
  refine wp_loop_rounds 2 ?_
  rw [rounds_succ]
  go_wp2_with (go_at_call 148; refine UN.mono ?_; rintro e w1 ⟨rfl, hb1⟩)
  rw [rounds_succ]
  go_wp2
  go_ret
  exact ⟨rfl, hb1⟩
set_option maxHeartbeats 4000000 in
theorem isInO (c : Int) (a b : Addr) (ca cb : Array Value) (ta tb : TypeId) (w : World) (hne : a ≠ b) (ha : w.heap[a.block]? = some (.cells ca ta (0, 0))) (hb : w.heap[b.block]? = some (.cells cb tb (0, 0))) :
    Calls Tryz.prog 40 #[refV c a, errV b, .bool true] w fun e w' => e = .returned (.bool false) ∧ Below w.heap.size w w' := by
  obtain ⟨i, hi, hcmp⟩ := Option.map_eq_some_iff.1 isComp
  obtain ⟨j, hj, hjs⟩ := Option.map_eq_some_iff.1 isSize
  have nE := noIsE
  have uE := noUnE
  have vE := noUsE
  have nW := noIsR
  have uW := hasUnR
  have mU := mUnw
  have hla : a.block < w.heap.size := by
    rcases Nat.lt_or_ge a.block w.heap.size with h | h
    · exact h
    · rw [Array.getElem?_eq_none h] at ha; cases ha
  have hlb : b.block < w.heap.size := by
    rcases Nat.lt_or_ge b.block w.heap.size with h | h
    · exact h
    · rw [Array.getElem?_eq_none h] at hb; cases hb
  have heq := fun (W : World) (k : Below w.heap.size w W) => run_eql_iface_ptr_other (P := Tryz.prog) W Tryz.underlying46 Tryz.underlying212 hi hcmp hj (by rw [hjs]; decide) hne ((k.block _ hla).trans ha) ((k.block _ hlb).trans hb)
  have hty := run_eql_iface_types (P := Tryz.prog) 66 212 (.agg #[.int .i64 c, .iface 212 (.pointer (some a))]) (.pointer (some b)) Tryz.underlying46 (by decide) w
  have UN := unwI c (.iface 212 (.pointer (some a))) w
  unfold refV errV
  clear ha hb
  go_enter Tryz.func40, Tryz.ntmps40
  go_wp2
  refine wp_loop_rounds 2 ?_
  rw [rounds_succ]
  go_wp2_with (go_at_call 148; refine UN.mono ?_; rintro e w1 ⟨rfl, hb1⟩; have hq := heq w1 hb1; clear heq)
  rw [rounds_succ]
  go_wp2
  go_ret
  exact ⟨rfl, hb1⟩
set_option maxHeartbeats 4000000 in
theorem isI (c : Int) (a b : Addr) (w : World) (v : Bool) (hin : Calls Tryz.prog 40 #[refV c a, errV b, .bool true] w fun e w' => e = .returned (.bool v) ∧ Below w.heap.size w w') :
    Calls Tryz.prog 20 #[refV c a, errV b] w fun e w' => e = .returned (.bool v) ∧ Below w.heap.size w w' := by
  have h8 := @run_callFunc_extern Tryz.prog 39 _ Extern.ReflectliteType.typeOf Tryz.func39 (by kernel_rfl) (by kernel_rfl) (by kernel_rfl) (by kernel_rfl)
  have h32 := @run_callFunc_extern Tryz.prog 156 _ cmpE Tryz.func156 (by kernel_rfl) (by kernel_rfl) (by kernel_rfl) (by kernel_rfl)
  have tT := isTO
  have cT := isCm
  have mR := isMC
  unfold refV errV at hin ⊢
  go_enter Tryz.func20, Tryz.ntmps20
  go_wp2_with (go_at_call 40; refine hin.mono ?_; rintro e w1 ⟨rfl, hb1⟩)
  go_ret
  exact ⟨rfl, hb1⟩
end Go.Proofs.YthcaagkkajopiaaGreatDoor
