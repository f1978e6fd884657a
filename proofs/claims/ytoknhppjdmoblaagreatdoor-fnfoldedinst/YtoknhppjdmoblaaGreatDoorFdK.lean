import Derived.Test.YtoknhppjdmoblaaGreatDoorFdGQ
import Derived.Test.YtoknhppjdmoblaaGreatDoorFdJ
namespace Go.Proofs.YtoknhppjdmoblaaGreatDoor
set_option linter.unusedVariables false
set_option linter.unusedSimpArgs false
open Go.RowKit
structure OkR (r : InstD) : Prop where
 back : mkD r.op r.w r.imm (opsD r) = r
 three : r.op = 26 ∨ (opsD r).length ≤ 3
 args : r.args.length ≤ 1000
 ops : (opsD r).length ≤ 1000
 rng : ∀ x ∈ opsD r, 0 ≤ x ∧ x ≤ 100000
theorem copyI (B lo : Nat) (r : InstD) (ru : Option Addr) (rq : Nat) (w : World) (hR : RenAt w B (fun id => id)) (ku : IntsAt w lo ru r.args) (h : OkR r) :
  Calls Tryz.prog 65 #[.map (some B), .agg #[.int .i64 r.op, .int .i64 r.w, .int .i64 r.a, .int .i64 r.b, .int .i64 r.c, .int .i64 r.imm, .slice ru r.args.length rq]] w fun e w' => InstNew w' w.heap.size r e ∧ Below w.heap.size w w' := by
 have e : (opsD r).map (fun id => id) = opsD r := List.map_id' _
 have P := ofInstI B lo (fun id => id) r ru rq w hR ku h.args h.ops h.rng (by rw [e, h.back]; exact h.three.imp id (fun k => ⟨k, rfl⟩))
 rw [e, h.back] at P
 exact P
theorem by_none {d : FuncD} {i : InstD} : ∀ {k : Nat}, k ≤ 6 → (∀ j, j < k → ruleK d i j = none) → foldP d i = byFrom d i k (6 - k)
 | 0, _, _ => rfl
 | k + 1, hk, h => by
  rw [by_none (k := k) (by omega) (fun j hj => h j (by omega))]
  obtain ⟨m, hm⟩ : ∃ m, 6 - k = m + 1 := ⟨5 - k, by omega⟩
  rw [hm, show 6 - (k + 1) = m by omega]
  show (match ruleK d i k with | some r => r | none => byFrom d i (k + 1) m) = _
  rw [h k (by omega)]
theorem by_some {d : FuncD} {i r : InstD} {k : Nat} (hk : k < 6) (h : ∀ j, j < k → ruleK d i j = none) (hr : ruleK d i k = some r) : foldP d i = r := by
 rw [by_none (by omega) h]
 obtain ⟨m, hm⟩ : ∃ m, 6 - k = m + 1 := ⟨5 - k, by omega⟩
 rw [hm]
 show (match ruleK d i k with | some r => r | none => byFrom d i (k + 1) m) = _
 rw [hr]
theorem infoR6 : (Tryz.prog.info? 99).map (·.size) = some 1 := by kernel_rfl
theorem idxR0 (W : World) : (Instr.index 100 (.agg #[.func (.func 59) #[] #[], .func (.func 60) #[] #[], .func (.func 61) #[] #[], .func (.func 62) #[] #[], .func (.func 63) #[] #[], .func (.func 64) #[] #[]]) (.int .i64 0)).run Tryz.prog W = .ok (.func (.func 59) #[] #[]) W := by
 obtain ⟨i, hi, hs⟩ : ∃ i, Tryz.prog.info? 99 = some i ∧ i.size = 1 := by
  have h := infoR6
  cases hq : Tryz.prog.info? 99 with
  | none => rw [hq] at h; cases h
  | some i => rw [hq] at h; simp at h; exact ⟨i, rfl, h⟩
 simp [Instr.index, asIntOf, run_underlying Tryz.underlying100, part, isAgg, run_underlying Tryz.underlying99, sizeOf, typeInfo, hi, hs]
theorem idxR1 (W : World) : (Instr.index 100 (.agg #[.func (.func 59) #[] #[], .func (.func 60) #[] #[], .func (.func 61) #[] #[], .func (.func 62) #[] #[], .func (.func 63) #[] #[], .func (.func 64) #[] #[]]) (.int .i64 1)).run Tryz.prog W = .ok (.func (.func 60) #[] #[]) W := by
 obtain ⟨i, hi, hs⟩ : ∃ i, Tryz.prog.info? 99 = some i ∧ i.size = 1 := by
  have h := infoR6
  cases hq : Tryz.prog.info? 99 with
  | none => rw [hq] at h; cases h
  | some i => rw [hq] at h; simp at h; exact ⟨i, rfl, h⟩
 simp [Instr.index, asIntOf, run_underlying Tryz.underlying100, part, isAgg, run_underlying Tryz.underlying99, sizeOf, typeInfo, hi, hs]
theorem idxR2 (W : World) : (Instr.index 100 (.agg #[.func (.func 59) #[] #[], .func (.func 60) #[] #[], .func (.func 61) #[] #[], .func (.func 62) #[] #[], .func (.func 63) #[] #[], .func (.func 64) #[] #[]]) (.int .i64 2)).run Tryz.prog W = .ok (.func (.func 61) #[] #[]) W := by
 obtain ⟨i, hi, hs⟩ : ∃ i, Tryz.prog.info? 99 = some i ∧ i.size = 1 := by
  have h := infoR6
  cases hq : Tryz.prog.info? 99 with
  | none => rw [hq] at h; cases h
  | some i => rw [hq] at h; simp at h; exact ⟨i, rfl, h⟩
 simp [Instr.index, asIntOf, run_underlying Tryz.underlying100, part, isAgg, run_underlying Tryz.underlying99, sizeOf, typeInfo, hi, hs]
theorem idxR3 (W : World) : (Instr.index 100 (.agg #[.func (.func 59) #[] #[], .func (.func 60) #[] #[], .func (.func 61) #[] #[], .func (.func 62) #[] #[], .func (.func 63) #[] #[], .func (.func 64) #[] #[]]) (.int .i64 3)).run Tryz.prog W = .ok (.func (.func 62) #[] #[]) W := by
 obtain ⟨i, hi, hs⟩ : ∃ i, Tryz.prog.info? 99 = some i ∧ i.size = 1 := by
  have h := infoR6
  cases hq : Tryz.prog.info? 99 with
  | none => rw [hq] at h; cases h
  | some i => rw [hq] at h; simp at h; exact ⟨i, rfl, h⟩
 simp [Instr.index, asIntOf, run_underlying Tryz.underlying100, part, isAgg, run_underlying Tryz.underlying99, sizeOf, typeInfo, hi, hs]
theorem idxR4 (W : World) : (Instr.index 100 (.agg #[.func (.func 59) #[] #[], .func (.func 60) #[] #[], .func (.func 61) #[] #[], .func (.func 62) #[] #[], .func (.func 63) #[] #[], .func (.func 64) #[] #[]]) (.int .i64 4)).run Tryz.prog W = .ok (.func (.func 63) #[] #[]) W := by
 obtain ⟨i, hi, hs⟩ : ∃ i, Tryz.prog.info? 99 = some i ∧ i.size = 1 := by
  have h := infoR6
  cases hq : Tryz.prog.info? 99 with
  | none => rw [hq] at h; cases h
  | some i => rw [hq] at h; simp at h; exact ⟨i, rfl, h⟩
 simp [Instr.index, asIntOf, run_underlying Tryz.underlying100, part, isAgg, run_underlying Tryz.underlying99, sizeOf, typeInfo, hi, hs]
theorem idxR5 (W : World) : (Instr.index 100 (.agg #[.func (.func 59) #[] #[], .func (.func 60) #[] #[], .func (.func 61) #[] #[], .func (.func 62) #[] #[], .func (.func 63) #[] #[], .func (.func 64) #[] #[]]) (.int .i64 5)).run Tryz.prog W = .ok (.func (.func 64) #[] #[]) W := by
 obtain ⟨i, hi, hs⟩ : ∃ i, Tryz.prog.info? 99 = some i ∧ i.size = 1 := by
  have h := infoR6
  cases hq : Tryz.prog.info? 99 with
  | none => rw [hq] at h; cases h
  | some i => rw [hq] at h; simp at h; exact ⟨i, rfl, h⟩
 simp [Instr.index, asIntOf, run_underlying Tryz.underlying100, part, isAgg, run_underlying Tryz.underlying99, sizeOf, typeInfo, hi, hs]
set_option maxHeartbeats 4000000 in
set_option maxRecDepth 100000 in
theorem byFirstI (lo : Nat) (d : FuncD) (i : InstD) (u0 : Option Addr) (c0 : Nat) (u2 : Option Addr) (c2 : Nat) (ua : Option Addr) (qa : Nat) (w : World) (hs : SmFunc d) (k0 : IntsAt w lo u0 d.params) (k2 : BlocksAt w lo u2 d.blocks) (ku : IntsAt w lo ua i.args) (hi : ISm i) (hOK : ∀ k r, ruleK d i k = some r → OkR r) (hOi : OkR i) :
  Calls Tryz.prog 32 #[.agg #[.slice u0 d.params.length c0, .int .i64 d.ret, .slice u2 d.blocks.length c2, .int .i64 i.op, .int .i64 i.w, .int .i64 i.a, .int .i64 i.b, .int .i64 i.c, .int .i64 i.imm, .slice ua i.args.length qa]] w fun e w' => InstNew w' w.heap.size (foldP d i) e ∧ Below w.heap.size w w' := by
 have F0 := Fo2.start (d := d) (i := i) (u0 := u0) (u2 := u2) (ua := ua) (c0 := c0) (c2 := c2) (qa := qa) (w := w)
 have x0 := F0.f.a0
 have x1 := F0.f.a1
 have x2 := F0.f.a2
 have x3 := F0.f.a3
 have x4 := F0.f.a4
 have x5 := F0.f.a5
 have x6 := F0.f.a6
 have x7 := F0.f.a7
 have x8 := F0.f.a8
 have x9 := F0.f.a9
 have HF0 : Hid (Fo2 d i u0 c0 u2 c2 ua qa w _) := F0
 have R0 := fun W (k : Below w.heap.size w W) => rule1I lo d i u0 c0 u2 c2 ua qa W hs (k0.keep (agree_of_below k lo)) (k2.keep (agree_of_below k lo)) (ku.keep (agree_of_below k lo)) hi
 have R1 := fun W (k : Below w.heap.size w W) => rule2I lo d i u0 c0 u2 c2 ua qa W hs (k0.keep (agree_of_below k lo)) (k2.keep (agree_of_below k lo)) (ku.keep (agree_of_below k lo)) hi
 have R2 := fun W (k : Below w.heap.size w W) => rule3I lo d i u0 c0 u2 c2 ua qa W hs (k0.keep (agree_of_below k lo)) (k2.keep (agree_of_below k lo)) (ku.keep (agree_of_below k lo)) hi
 have R3 := fun W (k : Below w.heap.size w W) => rule4I lo d i u0 c0 u2 c2 ua qa W hs (k0.keep (agree_of_below k lo)) (k2.keep (agree_of_below k lo)) (ku.keep (agree_of_below k lo)) hi
 have R4 := fun W (k : Below w.heap.size w W) => rule5I lo d i u0 c0 u2 c2 ua qa W hs (k0.keep (agree_of_below k lo)) (k2.keep (agree_of_below k lo)) (ku.keep (agree_of_below k lo)) hi
 have R5 := fun W (k : Below w.heap.size w W) => rule6I lo d i u0 c0 u2 c2 ua qa W hs (k0.keep (agree_of_below k lo)) (k2.keep (agree_of_below k lo)) (ku.keep (agree_of_below k lo)) hi
 have hmm := @run_makeMap Tryz.prog
 have HKU : Hid (∀ W, Below w.heap.size w W → IntsAt W lo ua i.args) := fun W k => ku.keep (agree_of_below k lo)
 have HOK : Hid (∀ k r, ruleK d i k = some r → OkR r) := hOK
 have HOI : Hid (OkR i) := hOi
 clear F0 hs k0 k2 ku hi hOK hOi
 go_enter Tryz.func32, Tryz.ntmps32
 go_wp2_with fail
 clear x0 x1 x2 x3 x4 x5 x6 x7 x8 x9
 go_loopw [10] (fun ii wr => ∃ k : Nat, k ≤ 6 ∧ ii = .int .i64 k ∧ Hid (∀ j, j < k → ruleK d i j = none) ∧ Hid (Fo2 d i u0 c0 u2 c2 ua qa w wr)) (fun ii _ => 6 - (intOf ii).toNat)
 case atStart => exact ⟨0, by omega, rfl, fun j hj => by omega, HF0.out.keep ((Below.refl _ _).alloc (Nat.le_refl _) _)⟩
 case round =>
  obtain ⟨k, hk, rfl, HN, HFr⟩ := hrel
  obtain ⟨wo, hwo⟩ : ∃ wo, wo = wr := ⟨_, rfl⟩
  subst hwo
  clear HF0
  have x0 := HFr.out.f.a0
  have x1 := HFr.out.f.a1
  have x2 := HFr.out.f.a2
  have x3 := HFr.out.f.a3
  have x4 := HFr.out.f.a4
  have x5 := HFr.out.f.a5
  have x6 := HFr.out.f.a6
  have x7 := HFr.out.f.a7
  have x8 := HFr.out.f.a8
  have x9 := HFr.out.f.a9
  by_cases hlt : k < 6
  ·obtain rfl | rfl | rfl | rfl | rfl | rfl : k = 0 ∨ k = 1 ∨ k = 2 ∨ k = 3 ∨ k = 4 ∨ k = 5 := by omega
   ·have q1 := idxR0
    go_wp2_with fail
    refine (R0 _ HFr.out.f.below).mono ?_
    rintro e w3 ⟨h3, b3⟩
    cases hro : ruleK d i 0 with
    | none =>
     have h3n : InstTold wo lo (ruleK d i 0) e := h3
     rw [hro] at h3n
     have he : e = .returned (.tuple #[.agg #[.int .i64 0, .int .i64 0, .int .i64 0, .int .i64 0, .int .i64 0, .int .i64 0, .slice none 0 0], .bool false]) := h3n
     subst he
     have HN2 : Hid (∀ j, j < 1 → ruleK d i j = none) := fun j hj => by
      by_cases e : j = 0
      ·subst e; exact hro
      ·exact HN.out j (by omega)
     have HF3 : Hid (Fo2 d i u0 c0 u2 c2 ua qa w w3) := HFr.out.keep b3
     clear h3 h3n b3 hro
     go_wp2_with fail
     go_roundw
     case rel => exact ⟨1, by omega, by go_num, HN2, HF3.out.keep ((Below.refl _ _).alloc (Nat.le_refl _) _)⟩
     case measure => simp [intOf]
    | some r =>
     have h3n : InstTold wo lo (ruleK d i 0) e := h3
     rw [hro] at h3n
     obtain ⟨ru, rq, he, kr⟩ := h3n
     subst he
     have HBY : Hid (foldP d i = r) := by_some (by omega) HN.out hro
     have OKr := HOK.out 0 r hro
     have b3a : Below wo.heap.size wo w3 := b3
     have CP := copyI (w3.alloc (.cells #[.int .i64 r.op, .int .i64 r.w, .int .i64 r.a, .int .i64 r.b, .int .i64 r.c, .int .i64 r.imm, .slice ru r.args.length rq] 29)).heap.size lo r ru rq ((w3.alloc (.cells #[.int .i64 r.op, .int .i64 r.w, .int .i64 r.a, .int .i64 r.b, .int .i64 r.c, .int .i64 r.imm, .slice ru r.args.length rq] 29)).alloc (.map #[] 0)) (RenAt.made _) (kr.keep (agree_of_below ((b3a.alloc b3a.size _).alloc (by simp; have := b3a.size; omega) _) lo)) OKr
     have hsz3 : (w3.alloc (.cells #[.int .i64 r.op, .int .i64 r.w, .int .i64 r.a, .int .i64 r.b, .int .i64 r.c, .int .i64 r.imm, .slice ru r.args.length rq] 29)).heap.size = w3.heap.size + 1 := by simp
     rw [hsz3] at CP
     clear h3 hsz3
     go_wp2_with fail
     refine CP.mono ?_
     rintro e w5 ⟨⟨su, sq, rfl, hrow⟩, b5⟩
     have HF5 : Hid (Fo2 d i u0 c0 u2 c2 ua qa w w5) := (((HFr.out.keep b3).keep ((Below.refl _ _).alloc (Nat.le_refl _) (.cells #[.int .i64 r.op, .int .i64 r.w, .int .i64 r.a, .int .i64 r.b, .int .i64 r.c, .int .i64 r.imm, .slice ru r.args.length rq] 29))).keep ((Below.refl _ _).alloc (Nat.le_refl _) (.map #[] 0))).keep b5
     have hz5 : w.heap.size + 1 < ((w3.alloc (.cells #[.int .i64 r.op, .int .i64 r.w, .int .i64 r.a, .int .i64 r.b, .int .i64 r.c, .int .i64 r.imm, .slice ru r.args.length rq] 29)).alloc (.map #[] 0)).heap.size := by have := (Array.getElem?_eq_some_iff.1 (((HFr.out.keep b3).keep ((Below.refl _ _).alloc (Nat.le_refl _) (.cells #[.int .i64 r.op, .int .i64 r.w, .int .i64 r.a, .int .i64 r.b, .int .i64 r.c, .int .i64 r.imm, .slice ru r.args.length rq] 29))).keep ((Below.refl _ _).alloc (Nat.le_refl _) (.map #[] 0))).r).1; simpa using this
     have HROW : Hid (Row w5 _ (.slice su r.args.length sq) r.args) := hrow
     obtain ⟨r0, r1, r2, r3, r4, r5, r6⟩ := HF5.out.cell
     have rf := HF5.out.froz
     clear b5 hrow
     go_wp2_with fail
     have hr := (heap_set (o := 6) (v := .slice su r.args.length sq) (heap_set (o := 5) (v := .int .i64 r.imm) (heap_set (o := 4) (v := .int .i64 r.c) (heap_set (o := 3) (v := .int .i64 r.b) (heap_set (o := 2) (v := .int .i64 r.a) (heap_set (o := 1) (v := .int .i64 r.w) (heap_set (o := 0) (v := .int .i64 r.op) HF5.out.r)))))))
     refine bodyPost_ret (v := .agg #[.int .i64 r.op, .int .i64 r.w, .int .i64 r.a, .int .i64 r.b, .int .i64 r.c, .int .i64 r.imm, .slice su r.args.length sq]) ((results_cell_row Tryz.results32 _ _ (w.heap.size + 1) 29 _ (0, 0) _ rfl hr Tryz.underlying29 rfl (by kernel_rfl)).trans (by rfl)) rfl ⟨?_, ?_⟩
     ·rw [HBY.out]
      refine ⟨su, sq, rfl, ?_⟩
      refine (HROW.out.low (by omega)).block ?_
      intro g hg hgl
      have hge := HROW.out.ge hg
      exact (by repeat (first | refine (Below.heap_setCell _ _ _ _ (by show g ≠ w.heap.size + 1; omega)).trans ?_ | rfl))
     ·exact (by repeat (first | refine Below.setCell ?_ (by dsimp only; omega) _ | exact HF5.out.f.below))
   ·have q1 := idxR1
    go_wp2_with fail
    refine (R1 _ HFr.out.f.below).mono ?_
    rintro e w3 ⟨h3, b3⟩
    cases hro : ruleK d i 1 with
    | none =>
     have h3n : InstTold wo lo (ruleK d i 1) e := h3
     rw [hro] at h3n
     have he : e = .returned (.tuple #[.agg #[.int .i64 0, .int .i64 0, .int .i64 0, .int .i64 0, .int .i64 0, .int .i64 0, .slice none 0 0], .bool false]) := h3n
     subst he
     have HN2 : Hid (∀ j, j < 2 → ruleK d i j = none) := fun j hj => by
      by_cases e : j = 1
      ·subst e; exact hro
      ·exact HN.out j (by omega)
     have HF3 : Hid (Fo2 d i u0 c0 u2 c2 ua qa w w3) := HFr.out.keep b3
     clear h3 h3n b3 hro
     go_wp2_with fail
     go_roundw
     case rel => exact ⟨2, by omega, by go_num, HN2, HF3.out.keep ((Below.refl _ _).alloc (Nat.le_refl _) _)⟩
     case measure => simp [intOf]
    | some r =>
     have h3n : InstTold wo lo (ruleK d i 1) e := h3
     rw [hro] at h3n
     obtain ⟨ru, rq, he, kr⟩ := h3n
     subst he
     have HBY : Hid (foldP d i = r) := by_some (by omega) HN.out hro
     have OKr := HOK.out 1 r hro
     have b3a : Below wo.heap.size wo w3 := b3
     have CP := copyI (w3.alloc (.cells #[.int .i64 r.op, .int .i64 r.w, .int .i64 r.a, .int .i64 r.b, .int .i64 r.c, .int .i64 r.imm, .slice ru r.args.length rq] 29)).heap.size lo r ru rq ((w3.alloc (.cells #[.int .i64 r.op, .int .i64 r.w, .int .i64 r.a, .int .i64 r.b, .int .i64 r.c, .int .i64 r.imm, .slice ru r.args.length rq] 29)).alloc (.map #[] 0)) (RenAt.made _) (kr.keep (agree_of_below ((b3a.alloc b3a.size _).alloc (by simp; have := b3a.size; omega) _) lo)) OKr
     have hsz3 : (w3.alloc (.cells #[.int .i64 r.op, .int .i64 r.w, .int .i64 r.a, .int .i64 r.b, .int .i64 r.c, .int .i64 r.imm, .slice ru r.args.length rq] 29)).heap.size = w3.heap.size + 1 := by simp
     rw [hsz3] at CP
     clear h3 hsz3
     go_wp2_with fail
     refine CP.mono ?_
     rintro e w5 ⟨⟨su, sq, rfl, hrow⟩, b5⟩
     have HF5 : Hid (Fo2 d i u0 c0 u2 c2 ua qa w w5) := (((HFr.out.keep b3).keep ((Below.refl _ _).alloc (Nat.le_refl _) (.cells #[.int .i64 r.op, .int .i64 r.w, .int .i64 r.a, .int .i64 r.b, .int .i64 r.c, .int .i64 r.imm, .slice ru r.args.length rq] 29))).keep ((Below.refl _ _).alloc (Nat.le_refl _) (.map #[] 0))).keep b5
     have hz5 : w.heap.size + 1 < ((w3.alloc (.cells #[.int .i64 r.op, .int .i64 r.w, .int .i64 r.a, .int .i64 r.b, .int .i64 r.c, .int .i64 r.imm, .slice ru r.args.length rq] 29)).alloc (.map #[] 0)).heap.size := by have := (Array.getElem?_eq_some_iff.1 (((HFr.out.keep b3).keep ((Below.refl _ _).alloc (Nat.le_refl _) (.cells #[.int .i64 r.op, .int .i64 r.w, .int .i64 r.a, .int .i64 r.b, .int .i64 r.c, .int .i64 r.imm, .slice ru r.args.length rq] 29))).keep ((Below.refl _ _).alloc (Nat.le_refl _) (.map #[] 0))).r).1; simpa using this
     have HROW : Hid (Row w5 _ (.slice su r.args.length sq) r.args) := hrow
     obtain ⟨r0, r1, r2, r3, r4, r5, r6⟩ := HF5.out.cell
     have rf := HF5.out.froz
     clear b5 hrow
     go_wp2_with fail
     have hr := (heap_set (o := 6) (v := .slice su r.args.length sq) (heap_set (o := 5) (v := .int .i64 r.imm) (heap_set (o := 4) (v := .int .i64 r.c) (heap_set (o := 3) (v := .int .i64 r.b) (heap_set (o := 2) (v := .int .i64 r.a) (heap_set (o := 1) (v := .int .i64 r.w) (heap_set (o := 0) (v := .int .i64 r.op) HF5.out.r)))))))
     refine bodyPost_ret (v := .agg #[.int .i64 r.op, .int .i64 r.w, .int .i64 r.a, .int .i64 r.b, .int .i64 r.c, .int .i64 r.imm, .slice su r.args.length sq]) ((results_cell_row Tryz.results32 _ _ (w.heap.size + 1) 29 _ (0, 0) _ rfl hr Tryz.underlying29 rfl (by kernel_rfl)).trans (by rfl)) rfl ⟨?_, ?_⟩
     ·rw [HBY.out]
      refine ⟨su, sq, rfl, ?_⟩
      refine (HROW.out.low (by omega)).block ?_
      intro g hg hgl
      have hge := HROW.out.ge hg
      exact (by repeat (first | refine (Below.heap_setCell _ _ _ _ (by show g ≠ w.heap.size + 1; omega)).trans ?_ | rfl))
     ·exact (by repeat (first | refine Below.setCell ?_ (by dsimp only; omega) _ | exact HF5.out.f.below))
   ·have q1 := idxR2
    go_wp2_with fail
    refine (R2 _ HFr.out.f.below).mono ?_
    rintro e w3 ⟨h3, b3⟩
    cases hro : ruleK d i 2 with
    | none =>
     have h3n : InstTold wo lo (ruleK d i 2) e := h3
     rw [hro] at h3n
     have he : e = .returned (.tuple #[.agg #[.int .i64 0, .int .i64 0, .int .i64 0, .int .i64 0, .int .i64 0, .int .i64 0, .slice none 0 0], .bool false]) := h3n
     subst he
     have HN2 : Hid (∀ j, j < 3 → ruleK d i j = none) := fun j hj => by
      by_cases e : j = 2
      ·subst e; exact hro
      ·exact HN.out j (by omega)
     have HF3 : Hid (Fo2 d i u0 c0 u2 c2 ua qa w w3) := HFr.out.keep b3
     clear h3 h3n b3 hro
     go_wp2_with fail
     go_roundw
     case rel => exact ⟨3, by omega, by go_num, HN2, HF3.out.keep ((Below.refl _ _).alloc (Nat.le_refl _) _)⟩
     case measure => simp [intOf]
    | some r =>
     have h3n : InstTold wo lo (ruleK d i 2) e := h3
     rw [hro] at h3n
     obtain ⟨ru, rq, he, kr⟩ := h3n
     subst he
     have HBY : Hid (foldP d i = r) := by_some (by omega) HN.out hro
     have OKr := HOK.out 2 r hro
     have b3a : Below wo.heap.size wo w3 := b3
     have CP := copyI (w3.alloc (.cells #[.int .i64 r.op, .int .i64 r.w, .int .i64 r.a, .int .i64 r.b, .int .i64 r.c, .int .i64 r.imm, .slice ru r.args.length rq] 29)).heap.size lo r ru rq ((w3.alloc (.cells #[.int .i64 r.op, .int .i64 r.w, .int .i64 r.a, .int .i64 r.b, .int .i64 r.c, .int .i64 r.imm, .slice ru r.args.length rq] 29)).alloc (.map #[] 0)) (RenAt.made _) (kr.keep (agree_of_below ((b3a.alloc b3a.size _).alloc (by simp; have := b3a.size; omega) _) lo)) OKr
     have hsz3 : (w3.alloc (.cells #[.int .i64 r.op, .int .i64 r.w, .int .i64 r.a, .int .i64 r.b, .int .i64 r.c, .int .i64 r.imm, .slice ru r.args.length rq] 29)).heap.size = w3.heap.size + 1 := by simp
     rw [hsz3] at CP
     clear h3 hsz3
     go_wp2_with fail
     refine CP.mono ?_
     rintro e w5 ⟨⟨su, sq, rfl, hrow⟩, b5⟩
     have HF5 : Hid (Fo2 d i u0 c0 u2 c2 ua qa w w5) := (((HFr.out.keep b3).keep ((Below.refl _ _).alloc (Nat.le_refl _) (.cells #[.int .i64 r.op, .int .i64 r.w, .int .i64 r.a, .int .i64 r.b, .int .i64 r.c, .int .i64 r.imm, .slice ru r.args.length rq] 29))).keep ((Below.refl _ _).alloc (Nat.le_refl _) (.map #[] 0))).keep b5
     have hz5 : w.heap.size + 1 < ((w3.alloc (.cells #[.int .i64 r.op, .int .i64 r.w, .int .i64 r.a, .int .i64 r.b, .int .i64 r.c, .int .i64 r.imm, .slice ru r.args.length rq] 29)).alloc (.map #[] 0)).heap.size := by have := (Array.getElem?_eq_some_iff.1 (((HFr.out.keep b3).keep ((Below.refl _ _).alloc (Nat.le_refl _) (.cells #[.int .i64 r.op, .int .i64 r.w, .int .i64 r.a, .int .i64 r.b, .int .i64 r.c, .int .i64 r.imm, .slice ru r.args.length rq] 29))).keep ((Below.refl _ _).alloc (Nat.le_refl _) (.map #[] 0))).r).1; simpa using this
     have HROW : Hid (Row w5 _ (.slice su r.args.length sq) r.args) := hrow
     obtain ⟨r0, r1, r2, r3, r4, r5, r6⟩ := HF5.out.cell
     have rf := HF5.out.froz
     clear b5 hrow
     go_wp2_with fail
     have hr := (heap_set (o := 6) (v := .slice su r.args.length sq) (heap_set (o := 5) (v := .int .i64 r.imm) (heap_set (o := 4) (v := .int .i64 r.c) (heap_set (o := 3) (v := .int .i64 r.b) (heap_set (o := 2) (v := .int .i64 r.a) (heap_set (o := 1) (v := .int .i64 r.w) (heap_set (o := 0) (v := .int .i64 r.op) HF5.out.r)))))))
     refine bodyPost_ret (v := .agg #[.int .i64 r.op, .int .i64 r.w, .int .i64 r.a, .int .i64 r.b, .int .i64 r.c, .int .i64 r.imm, .slice su r.args.length sq]) ((results_cell_row Tryz.results32 _ _ (w.heap.size + 1) 29 _ (0, 0) _ rfl hr Tryz.underlying29 rfl (by kernel_rfl)).trans (by rfl)) rfl ⟨?_, ?_⟩
     ·rw [HBY.out]
      refine ⟨su, sq, rfl, ?_⟩
      refine (HROW.out.low (by omega)).block ?_
      intro g hg hgl
      have hge := HROW.out.ge hg
      exact (by repeat (first | refine (Below.heap_setCell _ _ _ _ (by show g ≠ w.heap.size + 1; omega)).trans ?_ | rfl))
     ·exact (by repeat (first | refine Below.setCell ?_ (by dsimp only; omega) _ | exact HF5.out.f.below))
   ·have q1 := idxR3
    go_wp2_with fail
    refine (R3 _ HFr.out.f.below).mono ?_
    rintro e w3 ⟨h3, b3⟩
    cases hro : ruleK d i 3 with
    | none =>
     have h3n : InstTold wo lo (ruleK d i 3) e := h3
     rw [hro] at h3n
     have he : e = .returned (.tuple #[.agg #[.int .i64 0, .int .i64 0, .int .i64 0, .int .i64 0, .int .i64 0, .int .i64 0, .slice none 0 0], .bool false]) := h3n
     subst he
     have HN2 : Hid (∀ j, j < 4 → ruleK d i j = none) := fun j hj => by
      by_cases e : j = 3
      ·subst e; exact hro
      ·exact HN.out j (by omega)
     have HF3 : Hid (Fo2 d i u0 c0 u2 c2 ua qa w w3) := HFr.out.keep b3
     clear h3 h3n b3 hro
     go_wp2_with fail
     go_roundw
     case rel => exact ⟨4, by omega, by go_num, HN2, HF3.out.keep ((Below.refl _ _).alloc (Nat.le_refl _) _)⟩
     case measure => simp [intOf]
    | some r =>
     have h3n : InstTold wo lo (ruleK d i 3) e := h3
     rw [hro] at h3n
     obtain ⟨ru, rq, he, kr⟩ := h3n
     subst he
     have HBY : Hid (foldP d i = r) := by_some (by omega) HN.out hro
     have OKr := HOK.out 3 r hro
     have b3a : Below wo.heap.size wo w3 := b3
     have CP := copyI (w3.alloc (.cells #[.int .i64 r.op, .int .i64 r.w, .int .i64 r.a, .int .i64 r.b, .int .i64 r.c, .int .i64 r.imm, .slice ru r.args.length rq] 29)).heap.size lo r ru rq ((w3.alloc (.cells #[.int .i64 r.op, .int .i64 r.w, .int .i64 r.a, .int .i64 r.b, .int .i64 r.c, .int .i64 r.imm, .slice ru r.args.length rq] 29)).alloc (.map #[] 0)) (RenAt.made _) (kr.keep (agree_of_below ((b3a.alloc b3a.size _).alloc (by simp; have := b3a.size; omega) _) lo)) OKr
     have hsz3 : (w3.alloc (.cells #[.int .i64 r.op, .int .i64 r.w, .int .i64 r.a, .int .i64 r.b, .int .i64 r.c, .int .i64 r.imm, .slice ru r.args.length rq] 29)).heap.size = w3.heap.size + 1 := by simp
     rw [hsz3] at CP
     clear h3 hsz3
     go_wp2_with fail
     refine CP.mono ?_
     rintro e w5 ⟨⟨su, sq, rfl, hrow⟩, b5⟩
     have HF5 : Hid (Fo2 d i u0 c0 u2 c2 ua qa w w5) := (((HFr.out.keep b3).keep ((Below.refl _ _).alloc (Nat.le_refl _) (.cells #[.int .i64 r.op, .int .i64 r.w, .int .i64 r.a, .int .i64 r.b, .int .i64 r.c, .int .i64 r.imm, .slice ru r.args.length rq] 29))).keep ((Below.refl _ _).alloc (Nat.le_refl _) (.map #[] 0))).keep b5
     have hz5 : w.heap.size + 1 < ((w3.alloc (.cells #[.int .i64 r.op, .int .i64 r.w, .int .i64 r.a, .int .i64 r.b, .int .i64 r.c, .int .i64 r.imm, .slice ru r.args.length rq] 29)).alloc (.map #[] 0)).heap.size := by have := (Array.getElem?_eq_some_iff.1 (((HFr.out.keep b3).keep ((Below.refl _ _).alloc (Nat.le_refl _) (.cells #[.int .i64 r.op, .int .i64 r.w, .int .i64 r.a, .int .i64 r.b, .int .i64 r.c, .int .i64 r.imm, .slice ru r.args.length rq] 29))).keep ((Below.refl _ _).alloc (Nat.le_refl _) (.map #[] 0))).r).1; simpa using this
     have HROW : Hid (Row w5 _ (.slice su r.args.length sq) r.args) := hrow
     obtain ⟨r0, r1, r2, r3, r4, r5, r6⟩ := HF5.out.cell
     have rf := HF5.out.froz
     clear b5 hrow
     go_wp2_with fail
     have hr := (heap_set (o := 6) (v := .slice su r.args.length sq) (heap_set (o := 5) (v := .int .i64 r.imm) (heap_set (o := 4) (v := .int .i64 r.c) (heap_set (o := 3) (v := .int .i64 r.b) (heap_set (o := 2) (v := .int .i64 r.a) (heap_set (o := 1) (v := .int .i64 r.w) (heap_set (o := 0) (v := .int .i64 r.op) HF5.out.r)))))))
     refine bodyPost_ret (v := .agg #[.int .i64 r.op, .int .i64 r.w, .int .i64 r.a, .int .i64 r.b, .int .i64 r.c, .int .i64 r.imm, .slice su r.args.length sq]) ((results_cell_row Tryz.results32 _ _ (w.heap.size + 1) 29 _ (0, 0) _ rfl hr Tryz.underlying29 rfl (by kernel_rfl)).trans (by rfl)) rfl ⟨?_, ?_⟩
     ·rw [HBY.out]
      refine ⟨su, sq, rfl, ?_⟩
      refine (HROW.out.low (by omega)).block ?_
      intro g hg hgl
      have hge := HROW.out.ge hg
      exact (by repeat (first | refine (Below.heap_setCell _ _ _ _ (by show g ≠ w.heap.size + 1; omega)).trans ?_ | rfl))
     ·exact (by repeat (first | refine Below.setCell ?_ (by dsimp only; omega) _ | exact HF5.out.f.below))
   ·have q1 := idxR4
    go_wp2_with fail
    refine (R4 _ HFr.out.f.below).mono ?_
    rintro e w3 ⟨h3, b3⟩
    cases hro : ruleK d i 4 with
    | none =>
     have h3n : InstTold wo lo (ruleK d i 4) e := h3
     rw [hro] at h3n
     have he : e = .returned (.tuple #[.agg #[.int .i64 0, .int .i64 0, .int .i64 0, .int .i64 0, .int .i64 0, .int .i64 0, .slice none 0 0], .bool false]) := h3n
     subst he
     have HN2 : Hid (∀ j, j < 5 → ruleK d i j = none) := fun j hj => by
      by_cases e : j = 4
      ·subst e; exact hro
      ·exact HN.out j (by omega)
     have HF3 : Hid (Fo2 d i u0 c0 u2 c2 ua qa w w3) := HFr.out.keep b3
     clear h3 h3n b3 hro
     go_wp2_with fail
     go_roundw
     case rel => exact ⟨5, by omega, by go_num, HN2, HF3.out.keep ((Below.refl _ _).alloc (Nat.le_refl _) _)⟩
     case measure => simp [intOf]
    | some r =>
     have h3n : InstTold wo lo (ruleK d i 4) e := h3
     rw [hro] at h3n
     obtain ⟨ru, rq, he, kr⟩ := h3n
     subst he
     have HBY : Hid (foldP d i = r) := by_some (by omega) HN.out hro
     have OKr := HOK.out 4 r hro
     have b3a : Below wo.heap.size wo w3 := b3
     have CP := copyI (w3.alloc (.cells #[.int .i64 r.op, .int .i64 r.w, .int .i64 r.a, .int .i64 r.b, .int .i64 r.c, .int .i64 r.imm, .slice ru r.args.length rq] 29)).heap.size lo r ru rq ((w3.alloc (.cells #[.int .i64 r.op, .int .i64 r.w, .int .i64 r.a, .int .i64 r.b, .int .i64 r.c, .int .i64 r.imm, .slice ru r.args.length rq] 29)).alloc (.map #[] 0)) (RenAt.made _) (kr.keep (agree_of_below ((b3a.alloc b3a.size _).alloc (by simp; have := b3a.size; omega) _) lo)) OKr
     have hsz3 : (w3.alloc (.cells #[.int .i64 r.op, .int .i64 r.w, .int .i64 r.a, .int .i64 r.b, .int .i64 r.c, .int .i64 r.imm, .slice ru r.args.length rq] 29)).heap.size = w3.heap.size + 1 := by simp
     rw [hsz3] at CP
     clear h3 hsz3
     go_wp2_with fail
     refine CP.mono ?_
     rintro e w5 ⟨⟨su, sq, rfl, hrow⟩, b5⟩
     have HF5 : Hid (Fo2 d i u0 c0 u2 c2 ua qa w w5) := (((HFr.out.keep b3).keep ((Below.refl _ _).alloc (Nat.le_refl _) (.cells #[.int .i64 r.op, .int .i64 r.w, .int .i64 r.a, .int .i64 r.b, .int .i64 r.c, .int .i64 r.imm, .slice ru r.args.length rq] 29))).keep ((Below.refl _ _).alloc (Nat.le_refl _) (.map #[] 0))).keep b5
     have hz5 : w.heap.size + 1 < ((w3.alloc (.cells #[.int .i64 r.op, .int .i64 r.w, .int .i64 r.a, .int .i64 r.b, .int .i64 r.c, .int .i64 r.imm, .slice ru r.args.length rq] 29)).alloc (.map #[] 0)).heap.size := by have := (Array.getElem?_eq_some_iff.1 (((HFr.out.keep b3).keep ((Below.refl _ _).alloc (Nat.le_refl _) (.cells #[.int .i64 r.op, .int .i64 r.w, .int .i64 r.a, .int .i64 r.b, .int .i64 r.c, .int .i64 r.imm, .slice ru r.args.length rq] 29))).keep ((Below.refl _ _).alloc (Nat.le_refl _) (.map #[] 0))).r).1; simpa using this
     have HROW : Hid (Row w5 _ (.slice su r.args.length sq) r.args) := hrow
     obtain ⟨r0, r1, r2, r3, r4, r5, r6⟩ := HF5.out.cell
     have rf := HF5.out.froz
     clear b5 hrow
     go_wp2_with fail
     have hr := (heap_set (o := 6) (v := .slice su r.args.length sq) (heap_set (o := 5) (v := .int .i64 r.imm) (heap_set (o := 4) (v := .int .i64 r.c) (heap_set (o := 3) (v := .int .i64 r.b) (heap_set (o := 2) (v := .int .i64 r.a) (heap_set (o := 1) (v := .int .i64 r.w) (heap_set (o := 0) (v := .int .i64 r.op) HF5.out.r)))))))
     refine bodyPost_ret (v := .agg #[.int .i64 r.op, .int .i64 r.w, .int .i64 r.a, .int .i64 r.b, .int .i64 r.c, .int .i64 r.imm, .slice su r.args.length sq]) ((results_cell_row Tryz.results32 _ _ (w.heap.size + 1) 29 _ (0, 0) _ rfl hr Tryz.underlying29 rfl (by kernel_rfl)).trans (by rfl)) rfl ⟨?_, ?_⟩
     ·rw [HBY.out]
      refine ⟨su, sq, rfl, ?_⟩
      refine (HROW.out.low (by omega)).block ?_
      intro g hg hgl
      have hge := HROW.out.ge hg
      exact (by repeat (first | refine (Below.heap_setCell _ _ _ _ (by show g ≠ w.heap.size + 1; omega)).trans ?_ | rfl))
     ·exact (by repeat (first | refine Below.setCell ?_ (by dsimp only; omega) _ | exact HF5.out.f.below))
   ·have q1 := idxR5
    go_wp2_with fail
    refine (R5 _ HFr.out.f.below).mono ?_
    rintro e w3 ⟨h3, b3⟩
    cases hro : ruleK d i 5 with
    | none =>
     have h3n : InstTold wo lo (ruleK d i 5) e := h3
     rw [hro] at h3n
     have he : e = .returned (.tuple #[.agg #[.int .i64 0, .int .i64 0, .int .i64 0, .int .i64 0, .int .i64 0, .int .i64 0, .slice none 0 0], .bool false]) := h3n
     subst he
     have HN2 : Hid (∀ j, j < 6 → ruleK d i j = none) := fun j hj => by
      by_cases e : j = 5
      ·subst e; exact hro
      ·exact HN.out j (by omega)
     have HF3 : Hid (Fo2 d i u0 c0 u2 c2 ua qa w w3) := HFr.out.keep b3
     clear h3 h3n b3 hro
     go_wp2_with fail
     go_roundw
     case rel => exact ⟨6, by omega, by go_num, HN2, HF3.out.keep ((Below.refl _ _).alloc (Nat.le_refl _) _)⟩
     case measure => simp [intOf]
    | some r =>
     have h3n : InstTold wo lo (ruleK d i 5) e := h3
     rw [hro] at h3n
     obtain ⟨ru, rq, he, kr⟩ := h3n
     subst he
     have HBY : Hid (foldP d i = r) := by_some (by omega) HN.out hro
     have OKr := HOK.out 5 r hro
     have b3a : Below wo.heap.size wo w3 := b3
     have CP := copyI (w3.alloc (.cells #[.int .i64 r.op, .int .i64 r.w, .int .i64 r.a, .int .i64 r.b, .int .i64 r.c, .int .i64 r.imm, .slice ru r.args.length rq] 29)).heap.size lo r ru rq ((w3.alloc (.cells #[.int .i64 r.op, .int .i64 r.w, .int .i64 r.a, .int .i64 r.b, .int .i64 r.c, .int .i64 r.imm, .slice ru r.args.length rq] 29)).alloc (.map #[] 0)) (RenAt.made _) (kr.keep (agree_of_below ((b3a.alloc b3a.size _).alloc (by simp; have := b3a.size; omega) _) lo)) OKr
     have hsz3 : (w3.alloc (.cells #[.int .i64 r.op, .int .i64 r.w, .int .i64 r.a, .int .i64 r.b, .int .i64 r.c, .int .i64 r.imm, .slice ru r.args.length rq] 29)).heap.size = w3.heap.size + 1 := by simp
     rw [hsz3] at CP
     clear h3 hsz3
     go_wp2_with fail
     refine CP.mono ?_
     rintro e w5 ⟨⟨su, sq, rfl, hrow⟩, b5⟩
     have HF5 : Hid (Fo2 d i u0 c0 u2 c2 ua qa w w5) := (((HFr.out.keep b3).keep ((Below.refl _ _).alloc (Nat.le_refl _) (.cells #[.int .i64 r.op, .int .i64 r.w, .int .i64 r.a, .int .i64 r.b, .int .i64 r.c, .int .i64 r.imm, .slice ru r.args.length rq] 29))).keep ((Below.refl _ _).alloc (Nat.le_refl _) (.map #[] 0))).keep b5
     have hz5 : w.heap.size + 1 < ((w3.alloc (.cells #[.int .i64 r.op, .int .i64 r.w, .int .i64 r.a, .int .i64 r.b, .int .i64 r.c, .int .i64 r.imm, .slice ru r.args.length rq] 29)).alloc (.map #[] 0)).heap.size := by have := (Array.getElem?_eq_some_iff.1 (((HFr.out.keep b3).keep ((Below.refl _ _).alloc (Nat.le_refl _) (.cells #[.int .i64 r.op, .int .i64 r.w, .int .i64 r.a, .int .i64 r.b, .int .i64 r.c, .int .i64 r.imm, .slice ru r.args.length rq] 29))).keep ((Below.refl _ _).alloc (Nat.le_refl _) (.map #[] 0))).r).1; simpa using this
     have HROW : Hid (Row w5 _ (.slice su r.args.length sq) r.args) := hrow
     obtain ⟨r0, r1, r2, r3, r4, r5, r6⟩ := HF5.out.cell
     have rf := HF5.out.froz
     clear b5 hrow
     go_wp2_with fail
     have hr := (heap_set (o := 6) (v := .slice su r.args.length sq) (heap_set (o := 5) (v := .int .i64 r.imm) (heap_set (o := 4) (v := .int .i64 r.c) (heap_set (o := 3) (v := .int .i64 r.b) (heap_set (o := 2) (v := .int .i64 r.a) (heap_set (o := 1) (v := .int .i64 r.w) (heap_set (o := 0) (v := .int .i64 r.op) HF5.out.r)))))))
     refine bodyPost_ret (v := .agg #[.int .i64 r.op, .int .i64 r.w, .int .i64 r.a, .int .i64 r.b, .int .i64 r.c, .int .i64 r.imm, .slice su r.args.length sq]) ((results_cell_row Tryz.results32 _ _ (w.heap.size + 1) 29 _ (0, 0) _ rfl hr Tryz.underlying29 rfl (by kernel_rfl)).trans (by rfl)) rfl ⟨?_, ?_⟩
     ·rw [HBY.out]
      refine ⟨su, sq, rfl, ?_⟩
      refine (HROW.out.low (by omega)).block ?_
      intro g hg hgl
      have hge := HROW.out.ge hg
      exact (by repeat (first | refine (Below.heap_setCell _ _ _ _ (by show g ≠ w.heap.size + 1; omega)).trans ?_ | rfl))
     ·exact (by repeat (first | refine Below.setCell ?_ (by dsimp only; omega) _ | exact HF5.out.f.below))
  ·have e6 : k = 6 := by omega
   subst e6
   have HBY : Hid (foldP d i = i) := by_none (by omega) HN.out
   have CP := copyI wo.heap.size lo i ua qa (wo.alloc (.map #[] 0)) (RenAt.made _) (HKU.out _ (HFr.out.keep ((Below.refl _ _).alloc (Nat.le_refl _) (.map #[] 0))).f.below) HOI.out
   have HF6 : Hid (Fo2 d i u0 c0 u2 c2 ua qa w (wo.alloc (.map #[] 0))) := HFr.out.keep ((Below.refl _ _).alloc (Nat.le_refl _) (.map #[] 0))
   clear x0 x1 x2 x3 x4 x5 x6 x7 x8 x9
   have x0 := HF6.out.f.a0
   have x1 := HF6.out.f.a1
   have x2 := HF6.out.f.a2
   have x3 := HF6.out.f.a3
   have x4 := HF6.out.f.a4
   have x5 := HF6.out.f.a5
   have x6 := HF6.out.f.a6
   have x7 := HF6.out.f.a7
   have x8 := HF6.out.f.a8
   have x9 := HF6.out.f.a9
   go_wp2_with fail
   refine CP.mono ?_
   rintro e w5 ⟨⟨su, sq, rfl, hrow⟩, b5⟩
   have HF5 : Hid (Fo2 d i u0 c0 u2 c2 ua qa w w5) := (HFr.out.keep ((Below.refl _ _).alloc (Nat.le_refl _) (.map #[] 0))).keep b5
   have hz5 : w.heap.size + 1 < (wo.alloc (.map #[] 0)).heap.size := by have := (Array.getElem?_eq_some_iff.1 (HFr.out.keep ((Below.refl _ _).alloc (Nat.le_refl _) (.map #[] 0))).r).1; simpa using this
   have HROW : Hid (Row w5 _ (.slice su i.args.length sq) i.args) := hrow
   obtain ⟨r0, r1, r2, r3, r4, r5, r6⟩ := HF5.out.cell
   have rf := HF5.out.froz
   clear b5 hrow
   go_wp2_with fail
   have hr := (heap_set (o := 6) (v := .slice su i.args.length sq) (heap_set (o := 5) (v := .int .i64 i.imm) (heap_set (o := 4) (v := .int .i64 i.c) (heap_set (o := 3) (v := .int .i64 i.b) (heap_set (o := 2) (v := .int .i64 i.a) (heap_set (o := 1) (v := .int .i64 i.w) (heap_set (o := 0) (v := .int .i64 i.op) HF5.out.r)))))))
   refine bodyPost_ret (v := .agg #[.int .i64 i.op, .int .i64 i.w, .int .i64 i.a, .int .i64 i.b, .int .i64 i.c, .int .i64 i.imm, .slice su i.args.length sq]) ((results_cell_row Tryz.results32 _ _ (w.heap.size + 1) 29 _ (0, 0) _ rfl hr Tryz.underlying29 rfl (by kernel_rfl)).trans (by rfl)) rfl ⟨?_, ?_⟩
   ·rw [HBY.out]
    refine ⟨su, sq, rfl, ?_⟩
    refine (HROW.out.low (by omega)).block ?_
    intro g hg hgl
    have hge := HROW.out.ge hg
    exact (by repeat (first | refine (Below.heap_setCell _ _ _ _ (by show g ≠ w.heap.size + 1; omega)).trans ?_ | rfl))
   ·exact (by repeat (first | refine Below.setCell ?_ (by dsimp only; omega) _ | exact HF5.out.f.below))
end Go.Proofs.YtoknhppjdmoblaaGreatDoor
