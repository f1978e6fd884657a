/- How many are alive at most: a part of a row loaded; the program's Pressure and the model's. -/
import Derived.Test.YtolaghondjfhdaaGreatDoorLyMQ
import Derived.Test.YtolaghondjfhdaaGreatDoorLyCQ
import Derived.Laws.Rows
namespace Go.Proofs.YtolaghondjfhdaaGreatDoor
open Go.RowKit
set_option linter.unusedVariables false

theorem run_loadVar_part {P : Program} (w : World) (g off : Nat) (ty : TypeId) (cs : Array Value) (d : TypeDesc) (hc : ∀ j v, cs[j]? = some v → w.cell? ⟨g, off + j, none⟩ = some v)
    (hu : P.underlying ty = some d) (hd : (match d with | .struct _ | .array _ _ => true | _ => false) = true) (hi : (P.info? ty).map (·.size) = some cs.size) :
    (loadVar ty ⟨g, off, none⟩).run P w = .ok (.agg cs) w := by
  have hl : (loadCells ⟨g, off, none⟩ cs.toList.length).run P w = .ok cs.toList.toArray w :=
    run_loadCells_list (P := P) w ⟨g, off, none⟩ cs.toList (fun j v hv => by
      have hadd : (⟨g, off, none⟩ : Addr).add j = ⟨g, off + j, none⟩ := by unfold Addr.add; split <;> simp_all
      rw [hadd]
      exact hc j v (by simpa using hv))
  cases hq : P.info? ty with
  | none => simp [hq] at hi
  | some i =>
    have hs : i.size = cs.size := by simpa [hq] using hi
    have hagg : (isAgg ty).run P w = .ok true w := by
      unfold isAgg
      rw [Sem.run_bind, run_underlying hu w]
      cases d <;> simp_all
    simp only [Array.length_toList, Array.toArray_toList] at hl
    simp [loadVar, Sem.run_bind, hagg, sizeOf, typeInfo, hq, hs, hl]
theorem wpList_load_part {P : Program} {ops : Array Oper} {rest : List Oper} {o : Oper} {a : Act} {w : World} {Q : Exit → Act → World → Prop} (hgd : o.guard = none) (ty : TypeId) (x : Operand) (ho : o.op = .load ty x)
    (g off : Nat) (hx : a.eval x = .pointer (some ⟨g, off, none⟩)) (cs : Array Value) (d : TypeDesc) (hc : ∀ j v, cs[j]? = some v → w.cell? ⟨g, off + j, none⟩ = some v)
    (hu : P.underlying ty = some d) (hd : (match d with | .struct _ | .array _ _ => true | _ => false) = true) (hi : (P.info? ty).map (·.size) = some cs.size)
    (h : wpList P ops Q rest (a.put o.dst (.agg cs)) w) : wpList P ops Q (o :: rest) a w :=
  wpList_plain hgd fun _ hK => by
    unfold Oper.wp execOp
    simp only [ho, hx, Instr.loadAt, Instr.sureAddr, Sem.run_bind, Sem.run_pure, Result.andThen_ok, run_loadVar_part w g off ty cs d hc hu hd hi]
    exact hK _ _ h
theorem infoSet : (Tryz.prog.info? 55).map (·.size) = some 1 := by kernel_rfl
theorem infoS10 : (Tryz.prog.info? 57).map (·.size) = some 10 := by kernel_rfl
theorem infoS60 : (Tryz.prog.info? 58).map (·.size) = some 60 := by kernel_rfl
theorem ext_one {arr : Array Value} {x : Nat} {v : Value} (h : arr[x]? = some v) : arr.extract (x * 1) (x * 1 + 1) = #[v] := by
  obtain ⟨h1, h2⟩ := Array.getElem?_eq_some_iff.1 h
  apply Array.ext
  · simp; omega
  · intro i h3 h4
    have h5 : i = 0 := by simpa using h4
    subst h5
    simp [h2]
theorem idxS10 (arr : Array Value) (x : Nat) (v : Value) (hx : x < 10) (h : arr[x]? = some v) (W : World) : (Instr.index 57 (.agg arr) (.int .i64 (x : Int))).run Tryz.prog W = .ok (.agg #[v]) W := by
  obtain ⟨i, hi, hs⟩ : ∃ i, Tryz.prog.info? 55 = some i ∧ i.size = 1 := by
    have h := infoSet
    cases hq : Tryz.prog.info? 55 with
    | none => rw [hq] at h; cases h
    | some i => rw [hq] at h; simp at h; exact ⟨i, rfl, h⟩
  have e := ext_one h
  rw [Nat.mul_one] at e
  simp [Instr.index, asIntOf, run_underlying Tryz.underlying57, part, isAgg, run_underlying Tryz.underlying55, sizeOf, typeInfo, hi, hs, e]
  intro h; omega
theorem idxS60 (arr : Array Value) (x : Nat) (v : Value) (hx : x < 60) (h : arr[x]? = some v) (W : World) : (Instr.index 58 (.agg arr) (.int .i64 (x : Int))).run Tryz.prog W = .ok (.agg #[v]) W := by
  obtain ⟨i, hi, hs⟩ : ∃ i, Tryz.prog.info? 55 = some i ∧ i.size = 1 := by
    have h := infoSet
    cases hq : Tryz.prog.info? 55 with
    | none => rw [hq] at h; cases h
    | some i => rw [hq] at h; simp at h; exact ⟨i, rfl, h⟩
  have e := ext_one h
  rw [Nat.mul_one] at e
  simp [Instr.index, asIntOf, run_underlying Tryz.underlying58, part, isAgg, run_underlying Tryz.underlying55, sizeOf, typeInfo, hi, hs, e]
  intro h; omega
/-- The greatest of some numbers. -/
def mxL (s : Int) (f : Nat → Nat) : Nat → Int
  | 0 => s
  | n + 1 => max (mxL s f n) (f n)
theorem mx_ext {s : Int} {f g : Nat → Nat} : ∀ n, (∀ i, i < n → f i = g i) → mxL s f n = mxL s g n
  | 0, _ => rfl
  | n + 1, h => by
    unfold mxL
    rw [mx_ext n (fun i hi => h i (by omega)), h n (by omega)]
theorem mx_ge (s : Int) (f : Nat → Nat) : ∀ n, s ≤ mxL s f n
  | 0 => Int.le_refl _
  | n + 1 => by
    have := mx_ge s f n
    unfold mxL
    omega
theorem mx_zero {s : Int} {f : Nat → Nat} (hs : 0 ≤ s) {n : Nat} : ∀ m, n ≤ m → (∀ i, n ≤ i → i < m → f i = 0) → mxL s f m = mxL s f n
  | 0, h, _ => by
    have : n = 0 := by omega
    subst this; rfl
  | m + 1, h, hz => by
    by_cases e : n = m + 1
    · subst e; rfl
    · have h1 := mx_zero hs m (by omega) (fun i h1 h2 => hz i h1 (by omega))
      have h2 := mx_ge s f n
      show max (mxL s f m) (f m) = _
      rw [hz m (by omega) (by omega), h1]
      omega
theorem mx_le {s c : Int} {f : Nat → Nat} (hs : s ≤ c) : ∀ n, (∀ i, i < n → (f i : Int) ≤ c) → mxL s f n ≤ c
  | 0, _ => hs
  | n + 1, h => by
    have h1 := mx_le (f := f) hs n (fun i hi => h i (by omega))
    have h2 := h n (by omega)
    show max (mxL s f n) (f n) ≤ c
    omega
def presA (d : FuncD) (I : Alive) : Int := mxL 0 (fun b => (I b).length) d.blocks.length
def presL (d : FuncD) (I : Alive) : Int := mxL (presA d I) (fun n => (aftL d I n).length) (cntF d)
def PressR (d : FuncD) (v : Int) : Prop := (okB d = false ∧ v = 0) ∨ (okB d = true ∧ ∃ I, Fix d I ∧ v = presL d I)
theorem PressR.one {d : FuncD} {l m : Int} (h : PressR d l) (k : PressR d m) : l = m := by
  rcases h with ⟨h1, rfl⟩ | ⟨h1, I, h2, rfl⟩ <;> rcases k with ⟨k1, rfl⟩ | ⟨k1, J, k2, rfl⟩
  · rfl
  · rw [h1] at k1; cases k1
  · rw [h1] at k1; cases k1
  · rw [h2.one k2]
/-- The sets, as two rows. -/
theorem LvAt.rows {w : World} {M Rb : Nat} {X : Nat → Prop} {F : Alive} (h : LvAt w M Rb X F) : ∃ A B : Array Value, A.size = 10 ∧ B.size = 60 ∧ (∀ j v, A[j]? = some v → w.cell? ⟨M, 1 + j, none⟩ = some v) ∧ (∀ j v, B[j]? = some v → w.cell? ⟨M, 21 + j, none⟩ = some v) ∧ (∀ j, j < 10 → ∃ a c, A[j]? = some (.slice a (F (1 + j)).length c)) ∧ (∀ j, j < 60 → ∃ a c, B[j]? = some (.slice a (F (21 + j)).length c)) := by
  obtain ⟨cur, h1, h2, h3, h4⟩ := h
  refine ⟨cur.extract 1 11, cur.extract 21 81, by simp; omega, by simp; omega, fun j v hv => ?_, fun j v hv => ?_, fun j hj => ?_, fun j hj => ?_⟩
  · rw [Array.getElem?_extract] at hv
    split at hv
    · exact (cell_of_heap h1).trans hv
    · cases hv
  · rw [Array.getElem?_extract] at hv
    split at hv
    · exact (cell_of_heap h1).trans hv
    · cases hv
  · obtain ⟨a, c, h5, _⟩ := h4 (1 + j) (by omega) (by omega)
    exact ⟨a, c, by rw [Array.getElem?_extract, if_pos (by omega)]; exact h5⟩
  · obtain ⟨a, c, h5, _⟩ := h4 (21 + j) (by omega) (by omega)
    exact ⟨a, c, by rw [Array.getElem?_extract, if_pos (by omega)]; exact h5⟩
theorem LivesOut.pres {w w' : World} {M lo : Nat} {d : FuncD} {u2 : Option Addr} {c2 Rb : Nat} {I F : Alive} (h : LivesOut w w' M lo d u2 c2 Rb I F) (hF : LvF d) :
    mxL (mxL 0 (fun b => (parF F (I 0) d.params.length (1 + b)).length) 10) (fun n => (parF F (I 0) d.params.length (21 + n)).length) 60 = presL d I := by
  have hb := hF.right.2.1
  have hc := hF.cnt
  have e1 : mxL 0 (fun b => (parF F (I 0) d.params.length (1 + b)).length) 10 = presA d I := by
    have e := mx_zero (s := 0) (f := fun b => (parF F (I 0) d.params.length (1 + b)).length) (by omega) (n := d.blocks.length) 10 hb (fun i h1 h2 => by
      show (parF F (I 0) d.params.length (1 + i)).length = 0
      rw [par_other (by omega), h.far1 i h1 h2]; rfl)
    rw [e]
    exact mx_ext _ (fun i hi => by
      show (parF F (I 0) d.params.length (1 + i)).length = _
      rw [par_other (by omega), h.ins i hi])
  have hA : 0 ≤ presA d I := mx_ge _ _ _
  rw [e1]
  have hpc : d.params.length ≤ cntF d := by unfold cntF; omega
  have e := mx_zero (s := presA d I) (f := fun n => (parF F (I 0) d.params.length (21 + n)).length) hA (n := cntF d) 60 hc (fun i h1 h2 => by
    show (parF F (I 0) d.params.length (21 + i)).length = 0
    rw [par_other (by omega), h.far2 i h1]; rfl)
  rw [e]
  exact mx_ext _ (fun i hi => by
    show (parF F (I 0) d.params.length (21 + i)).length = _
    rw [par_aft h.told hi])
theorem LivesOut.short60 {w w' : World} {M lo : Nat} {d : FuncD} {u2 : Option Addr} {c2 Rb : Nat} {I F : Alive} (h : LivesOut w w' M lo d u2 c2 Rb I F) (hF : LvF d) : ∀ j, j < 60 → (parF F (I 0) d.params.length (21 + j)).length ≤ 60 := fun j hj => by
  rcases Nat.lt_or_ge j (cntF d) with hj2 | hj2
  · rw [par_aft h.told hj2]
    exact Nat.le_trans (aft_fine hF (h.fix.grows hF) hj2).len hF.cnt
  · have : d.params.length ≤ cntF d := by unfold cntF; omega
    rw [par_other (by omega), h.far2 j hj2]
    simp
theorem LivesOut.short10 {w w' : World} {M lo : Nat} {d : FuncD} {u2 : Option Addr} {c2 Rb : Nat} {I F : Alive} (h : LivesOut w w' M lo d u2 c2 Rb I F) (hF : LvF d) : ∀ j, j < 10 → (parF F (I 0) d.params.length (1 + j)).length ≤ 60 := fun j hj => by
  rw [par_other (by omega)]
  exact Nat.le_trans (h.fine _).len hF.cnt
set_option maxHeartbeats 8000000 in
set_option maxRecDepth 100000 in
theorem pressI (lo : Nat) (d : FuncD) (u0 : Option Addr) (c0 : Nat) (u2 : Option Addr) (c2 : Nat) (a : Addr) (w : World) (hs : SmFunc d) (k0 : IntsAt w lo u0 d.params) (k2 : BlocksAt w lo u2 d.blocks) (hv : Gv w 0 (errV a)) :
    Calls Tryz.prog 23 #[.agg #[.slice u0 d.params.length c0, .int .i64 d.ret, .slice u2 d.blocks.length c2]] w fun e w' => ∃ v, e = .returned (.int .i64 v) ∧ PressR d v ∧ Below w.heap.size w w' := by
  have F0 := FBox.start (d := d) (u0 := u0) (u2 := u2) (c0 := c0) (c2 := c2) (w := w) (T := 30)
  have a0 := F0.a0
  have a1 := F0.a1
  have a2 := F0.a2
  have HF0 : Hid (FBox d u0 c0 u2 c2 w _) := F0
  by_cases hok : funcB 3 d = true ∧ phsB d = true
  · have hF := lvf_of hok.1 hok.2
    have P := livesI_ok lo d u0 c0 u2 c2 a _ hs (k0.keep (agree_of_below F0.below lo)) (k2.keep (agree_of_below F0.below lo)) (hv.keep F0.below) hok.1 hok.2
    have hO : okB d = true := by simp [okB, hok.1, hok.2]
    have HF : Hid (LvF d) := hF
    clear hs k0 k2 hv F0 hF hok
    go_enter Tryz.func23, Tryz.ntmps23
    go_wp2_with (first | (go_at_call 36; refine P.mono ?_; rintro e w2 ⟨M, rfl, Rb, I, F, HO⟩; have HF2 : Hid (FBox d u0 c0 u2 c2 w w2) := HF0.out.keep HO.below; have HFX : Hid (Fix d I) := HO.fix; have HE : Hid _ := HO.pres HF.out; have hfi := HO.short60 HF.out; have hfb := HO.short10 HF.out; obtain ⟨A, B, hA, hB, hAc, hBc, hAs, hBs⟩ := HO.lv.rows; have HM : Hid (M < w2.heap.size) := HO.lv.lt; have HFI : Hid _ := hfi; have HFB : Hid _ := hfb; clear HO hfi hfb) | (refine wpList_load_part rfl 57 _ rfl M 1 rfl A _ hAc Tryz.underlying57 rfl (by rw [infoS10, hA]) ?_) | fail)
    generalize parF F (I 0) d.params.length = G at *
    --CUT1
    have HB2 : Hid (Below w.heap.size w w2) := HF2.out.below
    have HAS : Hid _ := hAs
    have HBS : Hid _ := hBs
    have HBC : Hid _ := hBc
    clear hAs hBs hAc hBc P a0 a1 a2
    go_loopw [5, 21] (fun m i wr => ∃ k : Nat, k ≤ 10 ∧ m = .int .i64 (mxL 0 (fun b => (G (1 + b)).length) k) ∧ i = .int .i64 k ∧ Hid (Below w2.heap.size w2 wr)) (fun _ i _ => 10 - (intOf i).toNat)
    case atStart => exact ⟨0, by omega, rfl, rfl, Below.refl _ _⟩
    case round =>
      obtain ⟨k, hk, rfl, rfl, HBr⟩ := hrel
      obtain ⟨wo, hwo⟩ : ∃ wo, wo = wr := ⟨_, rfl⟩
      subst hwo
      have hx0 : 0 ≤ mxL 0 (fun b => (G (1 + b)).length) k := mx_ge _ _ _
      have hx1 : mxL 0 (fun b => (G (1 + b)).length) k ≤ 60 := mx_le (by omega) _ (fun i hi => by have := HFB.out i (by omega); omega)
      by_cases hlt : k < 10
      · obtain ⟨xa, xc, xe⟩ := HAS.out k hlt
        have q1 := idxS10 A k _ hlt xe
        have HN : Hid (mxL 0 (fun b => (G (1 + b)).length) (k + 1) = max (mxL 0 (fun b => (G (1 + b)).length) k) ((G (1 + k)).length : Int)) := rfl
        generalize mxL 0 (fun b => (G (1 + b)).length) k = X at *
        have hkl : (G (1 + k)).length ≤ 60 := HFB.out k hlt
        generalize (G (1 + k)).length = L at *
        go_wp2_with (first | (go_at_call 45; refine (sizeI xa xc L _).mono ?_; rintro e w3 ⟨rfl, b3⟩) | fail)
        --CUT2
        go_roundw
        case rel => exact ⟨k + 1, by omega, by rw [HN.out], by go_num, (HBr.out.alloc HBr.out.size _).trans (b3.mono (by have := HBr.out.size; simp; omega))⟩
        case measure => simp [intOf]; omega
      · have e : k = 10 := by omega
        subst e
        have HBC2 : Hid (∀ j v, B[j]? = some v → wo.cell? ⟨M, 21 + j, none⟩ = some v) := fun j v h => (cell_block (HBr.out.block M HM.out)).trans (HBC.out j v h)
        generalize mxL 0 (fun b => (G (1 + b)).length) 10 = X at *
        go_wp2_with (first | (refine wpList_load_part rfl 58 _ rfl M 21 rfl B _ HBC2.out Tryz.underlying58 rfl (by rw [infoS60, hB]) ?_) | fail)
        --CUT3
        go_loopw [5, 33] (fun m i wr => ∃ k : Nat, k ≤ 60 ∧ m = .int .i64 (mxL X (fun n => (G (21 + n)).length) k) ∧ i = .int .i64 k ∧ Hid (Below w2.heap.size w2 wr)) (fun _ i _ => 60 - (intOf i).toNat)
        case atStart => exact ⟨0, by omega, rfl, rfl, HBr.out⟩
        case round =>
          obtain ⟨k, hk, rfl, rfl, HBq⟩ := hrel
          obtain ⟨wp, hwp⟩ : ∃ wp, wp = wr := ⟨_, rfl⟩
          subst hwp
          have hy0 : X ≤ mxL X (fun n => (G (21 + n)).length) k := mx_ge _ _ _
          have hy1 : mxL X (fun n => (G (21 + n)).length) k ≤ 60 := mx_le (by omega) _ (fun i hi => by have := HFI.out i (by omega); omega)
          by_cases hlt : k < 60
          · obtain ⟨xa, xc, xe⟩ := HBS.out k hlt
            have q1 := idxS60 B k _ hlt xe
            have HN : Hid (mxL X (fun n => (G (21 + n)).length) (k + 1) = max (mxL X (fun n => (G (21 + n)).length) k) ((G (21 + k)).length : Int)) := rfl
            generalize mxL X (fun n => (G (21 + n)).length) k = Y at *
            have hkl : (G (21 + k)).length ≤ 60 := HFI.out k hlt
            generalize (G (21 + k)).length = L at *
            go_wp2_with (first | (go_at_call 45; refine (sizeI xa xc L _).mono ?_; rintro e w3 ⟨rfl, b3⟩) | fail)
            go_roundw
            case rel => exact ⟨k + 1, by omega, by rw [HN.out], by go_num, (HBq.out.alloc HBq.out.size _).trans (b3.mono (by have := HBq.out.size; simp; omega))⟩
            case measure => simp [intOf]; omega
          · have e : k = 60 := by omega
            subst e
            go_wp2_with fail
            go_ret
            exact ⟨_, rfl, .inr ⟨hO, I, HFX.out, HE.out⟩, HB2.out.trans (HBq.out.mono HB2.out.size)⟩
  · have P := livesI_no lo d u0 c0 u2 c2 a _ hs (k0.keep (agree_of_below F0.below lo)) (k2.keep (agree_of_below F0.below lo)) (hv.keep F0.below) hok
    have hO : okB d = false := by
      cases h1 : funcB 3 d <;> cases h2 : phsB d <;> simp [okB, h1, h2] at hok ⊢
    clear hs k0 k2 hv F0 hok
    go_enter Tryz.func23, Tryz.ntmps23
    go_wp2_with (first | (go_at_call 36; refine P.mono ?_; rintro e w2 ⟨rfl, b2⟩; have HF2 : Hid (FBox d u0 c0 u2 c2 w w2) := HF0.out.keep b2))
    go_ret
    exact ⟨_, rfl, .inl ⟨hO, rfl⟩, HF2.out.below⟩
set_option maxHeartbeats 8000000 in
set_option maxRecDepth 100000 in
theorem pressS (lo : Nat) (d : FuncD) (u0 : Option Addr) (c0 : Nat) (u2 : Option Addr) (c2 : Nat) (w : World) (hs : SmFunc d) (k0 : IntsAt w lo u0 d.params) (k2 : BlocksAt w lo u2 d.blocks) :
    Calls Tryz.prog 22 #[.agg #[.slice u0 d.params.length c0, .int .i64 d.ret, .slice u2 d.blocks.length c2]] w fun e w' => ∃ v, e = .returned (.int .i64 v) ∧ PressR d v ∧ Below w.heap.size w w' := by
  have F0 := FBox.start (d := d) (u0 := u0) (u2 := u2) (c0 := c0) (c2 := c2) (w := w) (T := 30)
  have P := okS lo d u0 c0 u2 c2 _ hs (k0.keep (agree_of_below F0.below lo)) (k2.keep (agree_of_below F0.below lo))
  have a0 := F0.a0
  have a1 := F0.a1
  have a2 := F0.a2
  have HF0 : Hid (FBox d u0 c0 u2 c2 w _) := F0
  cases hO : okB d with
  | false =>
    rw [hO] at P
    have HO : Hid (okB d = false) := hO
    clear hs k0 k2 F0 hO
    go_enter Tryz.func22, Tryz.ntmps22
    go_wp2_with (first | (go_at_call 31; refine P.mono ?_; rintro e w2 ⟨rfl, b2⟩; have HF2 : Hid (FBox d u0 c0 u2 c2 w w2) := HF0.out.keep b2))
    go_ret
    exact ⟨_, rfl, .inl ⟨HO.out, rfl⟩, HF2.out.below⟩
  | true =>
    rw [hO] at P
    have HO : Hid (okB d = true) := hO
    have hF : LvF d := ok_lvf hO
    have hbl : d.blocks.length ≤ 10 := hF.right.2.1
    have hc : cntF d ≤ 60 := hF.cnt
    have HF : Hid (LvF d) := hF
    have I0 := fun W (k : Below w.heap.size w W) => insZ lo d u0 c0 u2 c2 W hs hF (k2.keep (agree_of_below k lo))
    have C0 := fun W (k : Below w.heap.size w W) => countS_any lo d u0 c0 u2 c2 W hs (k2.keep (agree_of_below k lo))
    have A0 := fun n gi I W (k : Below w.heap.size w W) hn hI hG => aftZ lo d u0 c0 u2 c2 n gi (gi + 1) d.blocks.length I W hs hF hG hn hI (k2.keep (agree_of_below k lo))
    clear hs k0 k2 F0 hO hF
    go_enter Tryz.func22, Tryz.ntmps22
    go_wp2_with (first | (go_at_call 31; refine P.mono ?_; rintro e w2 ⟨rfl, b2⟩; have HF2 : Hid (FBox d u0 c0 u2 c2 w w2) := HF0.out.keep b2; have z0 := HF2.out.a0; have z1 := HF2.out.a1; have z2 := HF2.out.a2) | (go_at_call 34; refine (I0 _ HF2.out.below).mono ?_; rintro e w4 ⟨gi, rfl, I, hfx, hgr, hgi, hin, b4⟩; have HFX : Hid (Fix d I) := hfx; have HG : Hid (Grows d I) := hgr; have HIN : Hid (InsAt w4 gi (gi + 1) d.blocks.length I) := hin.at; have HF4 : Hid (FBox d u0 c0 u2 c2 w w4) := HF2.out.keep b4; clear hfx hgr hin) | fail)
    clear P I0 a0 a1 a2 z0 z1 z2
    have y2 := HF4.out.a2
    go_loopw [4, 5] (fun m i wr => ∃ k : Nat, k ≤ d.blocks.length ∧ m = .int .i64 (mxL 0 (fun b => (I b).length) k) ∧ i = .int .i64 k ∧ Hid (wr = w4)) (fun _ i _ => d.blocks.length - (intOf i).toNat)
    case atStart => exact ⟨0, by omega, rfl, rfl, rfl⟩
    case round =>
      obtain ⟨k, hk, rfl, rfl, HWR⟩ := hrel
      have hwr := HWR.out
      clear HWR
      subst hwr
      have hx0 : 0 ≤ mxL 0 (fun b => (I b).length) k := mx_ge _ _ _
      have hx1 : mxL 0 (fun b => (I b).length) k ≤ 60 := mx_le (by omega) _ (fun i hi => by have := (HG.out.fine i).len; omega)
      by_cases hlt : k < d.blocks.length
      · obtain ⟨xa, xc, xe, _⟩ := HIN.out.2 k hlt
        have HN : Hid (mxL 0 (fun b => (I b).length) (k + 1) = max (mxL 0 (fun b => (I b).length) k) ((I k).length : Int)) := rfl
        have hkl : (I k).length ≤ 60 := (by have := (HG.out.fine k).len; omega)
        generalize mxL 0 (fun b => (I b).length) k = X at *
        generalize (I k).length = L at *
        go_wp2_with fail
        go_roundw
        case rel => exact ⟨k + 1, by omega, by rw [HN.out], by go_num, by first | exact rfl | exact trivial⟩
        case measure => simp [intOf]; omega
      · have e : k = d.blocks.length := by omega
        have HPA : Hid (mxL 0 (fun b => (I b).length) k = presA d I) := by show _ = _; rw [e]; rfl
        rw [HPA.out] at hx0 hx1 ⊢
        have hge : ¬ ((k : Int) < d.blocks.length) := by omega
        clear e hlt hk
        go_wp2_with fail
        obtain ⟨wb, hwb⟩ : ∃ wb, wb = wr := ⟨_, rfl⟩
        subst hwb
        clear y2 hge
        go_loopw [4, 6] (fun m i wr => ∃ k : Nat, k ≤ cntF d ∧ m = .int .i64 (mxL (presA d I) (fun n => (aftL d I n).length) k) ∧ i = .int .i64 k ∧ Hid (Below wb.heap.size wb wr)) (fun _ i _ => cntF d - (intOf i).toNat)
        case atStart => exact ⟨0, by omega, rfl, rfl, Below.refl _ _⟩
        case round =>
          obtain ⟨k, hk, rfl, rfl, HBr⟩ := hrel
          obtain ⟨wo, hwo⟩ : ∃ wo, wo = wr := ⟨_, rfl⟩
          subst hwo
          have HFr : Hid (FBox d u0 c0 u2 c2 w wo) := HF4.out.keep HBr.out
          have y0 := HFr.out.a0
          have y1 := HFr.out.a1
          have y2 := HFr.out.a2
          have hy0 : presA d I ≤ mxL (presA d I) (fun n => (aftL d I n).length) k := mx_ge _ _ _
          have hy1 : mxL (presA d I) (fun n => (aftL d I n).length) k ≤ 60 := mx_le (by omega) _ (fun i hi => by have := (aft_fine HF.out HG.out (n := i) (by omega)).len; omega)
          by_cases hlt : k < cntF d
          · have HN : Hid (mxL (presA d I) (fun n => (aftL d I n).length) (k + 1) = max (mxL (presA d I) (fun n => (aftL d I n).length) k) ((aftL d I k).length : Int)) := rfl
            have hkl : (aftL d I k).length ≤ 60 := (by have := (aft_fine HF.out HG.out hlt).len; omega)
            generalize mxL (presA d I) (fun n => (aftL d I n).length) k = Y at *
            have hlI : (k : Int) < cntF d := by omega
            go_wp2_with (first | (go_at_call 42; refine (C0 _ HFr.out.below).mono ?_; rintro e w5 ⟨rfl, b5⟩; have HF5 : Hid (FBox d u0 c0 u2 c2 w w5) := HFr.out.keep b5; have x0 := HF5.out.a0; have x1 := HF5.out.a1; have x2 := HF5.out.a2; have L := A0 k gi I w5 HF5.out.below hlt (HIN.out.below (HBr.out.trans (b5.mono HBr.out.size))) HG.out) | (go_at_call 43; refine L.mono ?_; rintro e w6 ⟨v6, rfl, s6, b6⟩; obtain ⟨g6, o6, c6, rfl, _, _, _⟩ := s6) | fail)
            go_roundw
            case rel => exact ⟨k + 1, by omega, by rw [HN.out], by go_num, (HBr.out.trans (b5.mono HBr.out.size)).trans (b6.mono (Nat.le_trans HBr.out.size b5.size))⟩
            case measure => simp [intOf]; omega
          · have e : k = cntF d := by omega
            subst e
            go_wp2_with (first | (go_at_call 42; refine (C0 _ HFr.out.below).mono ?_; rintro e w5 ⟨rfl, b5⟩; have HF5 : Hid (FBox d u0 c0 u2 c2 w w5) := HFr.out.keep b5) | fail)
            go_ret
            exact ⟨_, rfl, .inr ⟨HO.out, I, HFX.out, rfl⟩, HF5.out.below⟩
end Go.Proofs.YtolaghondjfhdaaGreatDoor
