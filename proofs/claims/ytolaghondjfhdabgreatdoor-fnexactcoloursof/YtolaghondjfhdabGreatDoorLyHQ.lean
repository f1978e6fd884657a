/- Colours: without a program; the program's taken, mayHave, ColoursOk. -/
import Derived.Test.YtolaghondjfhdabGreatDoorLyGQ
import Derived.Laws.Rows
import Derived.Laws.CopyOwn
import Derived.Deep.RegionHeld2
namespace Go.Proofs.YtolaghondjfhdabGreatDoor
open Go.RowKit
set_option linter.unusedVariables false

/-- Is a colour that of a lesser one that meets n, of the first k? -/
def takB (d : FuncD) (I : Alive) (l : List Int) (n k c : Nat) : Bool := (List.range k).any fun b => meetB d I n b && decide (l.getD b 0 = (c : Int))
theorem tak_step (d : FuncD) (I : Alive) (l : List Int) (n k c : Nat) : takB d I l n (k + 1) c = (takB d I l n k c || (meetB d I n k && decide (l.getD k 0 = (c : Int)))) := by
  unfold takB
  rw [List.range_succ, List.any_append]
  simp
theorem tak_no {d : FuncD} {I : Alive} {l : List Int} {n k : Nat} (h : meetB d I n k = false) : takB d I l n (k + 1) = takB d I l n k := funext fun c => by
  rw [tak_step, h]
  simp
theorem tak_yes {d : FuncD} {I : Alive} {l : List Int} {n k c : Nat} (h : meetB d I n k = true) (hc : l.getD k 0 = (c : Int)) : takB d I l n (k + 1) = fun x => (takB d I l n k x || decide (x = c)) := funext fun x => by
  rw [tak_step, h, hc, Bool.true_and]
  congr 1
  rw [decide_eq_decide]
  omega
/-- May an id have its colour? -/
def mayB (d : FuncD) (I : Alive) (l : List Int) (n : Nat) : Bool := if typeF d n = 0 then l.getD n 0 == -1 else (belowB (l.getD n 0) 60 && !takB d I l n n (l.getD n 0).toNat)
def colB (d : FuncD) (I : Alive) (l : List Int) (k : Nat) : Bool := (List.range k).all fun n => mayB d I l n
theorem col_step (d : FuncD) (I : Alive) (l : List Int) (k : Nat) : colB d I l (k + 1) = (colB d I l k && mayB d I l k) := by
  unfold colB
  rw [List.range_succ, List.all_append]
  simp
theorem col_mono {d : FuncD} {I : Alive} {l : List Int} {k : Nat} : ∀ {m : Nat}, colB d I l k = false → k ≤ m → colB d I l m = false
  | 0, h, hk => by
    have : k = 0 := by omega
    subst this; exact h
  | m + 1, h, hk => by
    by_cases e : k = m + 1
    · subst e; exact h
    · rw [col_step, col_mono (m := m) h (by omega)]; rfl
theorem col_at {d : FuncD} {I : Alive} {l : List Int} {k n : Nat} (h : colB d I l k = true) (hn : n < k) : mayB d I l n = true := by
  unfold colB at h
  rw [List.all_eq_true] at h
  exact h n (List.mem_range.2 hn)
theorem meet_ty {d : FuncD} {I : Alive} {a b : Nat} (h : meetB d I a b = true) : ¬ typeF d b = 0 := by
  unfold meetB at h
  simp at h
  exact h.1.2
theorem col_rng {d : FuncD} {I : Alive} {l : List Int} {k n : Nat} (h : colB d I l k = true) (hn : n < k) (ht : ¬ typeF d n = 0) : 0 ≤ l.getD n 0 ∧ l.getD n 0 < 60 := by
  have := col_at h hn
  unfold mayB at this
  rw [if_neg ht, Bool.and_eq_true] at this
  exact below_yes this.1
def ColR (d : FuncD) (l : List Int) (v : Bool) : Prop := ((okB d && decide (l.length = cntF d)) = false ∧ v = false) ∨ ((okB d && decide (l.length = cntF d)) = true ∧ ∃ I, Fix d I ∧ v = colB d I l (cntF d))
theorem ColR.one {d : FuncD} {l : List Int} {a b : Bool} (h : ColR d l a) (k : ColR d l b) : a = b := by
  rcases h with ⟨h1, rfl⟩ | ⟨h1, I, h2, rfl⟩ <;> rcases k with ⟨k1, rfl⟩ | ⟨k1, J, k2, rfl⟩
  · rfl
  · rw [h1] at k1; cases k1
  · rw [h1] at k1; cases k1
  · rw [h2.one k2]

/-- Flags of colours. -/
def FlagsAt (w : World) (g : Nat) (f : Nat → Bool) : Prop := ∃ arr : Array Value, w.heap[g]? = some (.cells arr 87 (0, 0)) ∧ arr.size = 60 ∧ ∀ c, c < 60 → arr[c]? = some (.bool (f c))
theorem FlagsAt.keep {w w' : World} {g : Nat} {f : Nat → Bool} (h : FlagsAt w g f) (k : w'.heap[g]? = w.heap[g]?) : FlagsAt w' g f := by
  obtain ⟨arr, h1, h2, h3⟩ := h
  exact ⟨arr, k.trans h1, h2, h3⟩
theorem FlagsAt.lt {w : World} {g : Nat} {f : Nat → Bool} (h : FlagsAt w g f) : g < w.heap.size := by
  obtain ⟨arr, h1, _⟩ := h
  exact (Array.getElem?_eq_some_iff.1 h1).1
theorem FlagsAt.put {w : World} {g c : Nat} {f : Nat → Bool} (h : FlagsAt w g f) (hc : c < 60) : FlagsAt (w.setCell ⟨g, c, none⟩ (.bool true)) g (fun x => (f x || decide (x = c))) := by
  obtain ⟨arr, h1, h2, h3⟩ := h
  refine ⟨arr.setIfInBounds c (.bool true), heap_set h1, by simpa using h2, fun x hx => ?_⟩
  by_cases e : x = c
  · subst e; simp [h2, hx]
  · rw [Array.getElem?_setIfInBounds_ne (fun h => e h.symm), h3 x hx]; simp [e]
def Pal (P : Array Value) (l : List Int) : Prop := P.size = 60 ∧ ∀ i, i < 60 → P[i]? = some (.int .i64 (l.getD i 0))
def takA (f : Nat → Bool) : Array Value := ((List.range 60).map fun c => Value.bool (f c)).toArray
theorem tak_size (f : Nat → Bool) : (takA f).size = 60 := by simp [takA]
theorem tak_get (f : Nat → Bool) {c : Nat} (hc : c < 60) : (takA f)[c]? = some (.bool (f c)) := by simp [takA, hc]
theorem tak_all (f : Nat → Bool) : (takA f).all (·.oneCell') = true := by
  rw [Array.all_eq_true]
  intro i hi
  have h := tak_get f (c := i) (by rw [tak_size] at hi; exact hi)
  rw [Array.getElem?_eq_getElem hi] at h
  simp at h; rw [h]; rfl
theorem tak_one {arr : Array Value} {f : Nat → Bool} (h2 : arr.size = 60) (h3 : ∀ c, c < 60 → arr[c]? = some (.bool (f c))) : arr = takA f := by
  apply Array.ext
  · rw [h2, tak_size]
  · intro i h4 h5
    have e := (h3 i (by omega)).trans (tak_get f (by omega)).symm
    rw [Array.getElem?_eq_getElem h4, Array.getElem?_eq_getElem h5] at e
    exact Option.some.inj e
theorem infoPal : (Tryz.prog.info? 45).map (·.size) = some 60 := by kernel_rfl
theorem infoFl : (Tryz.prog.info? 87).map (·.size) = some 60 := by kernel_rfl
theorem infoBo : (Tryz.prog.info? 4).map (fun i => (i.zero, i.size, i.bytes)) = some (some (.bool false), 1, 1) := by kernel_rfl
theorem idxB60 (arr : Array Value) (y : Nat) (v : Bool) (hy : y < 60) (hv : arr[y]? = some (.bool v)) (W : World) : (Instr.index 87 (.agg arr) (.int .i64 (y : Int))).run Tryz.prog W = .ok (.bool v) W := by
  obtain ⟨i, hi, _, hs, _⟩ := info_parts infoBo
  simp [Instr.index, asIntOf, run_underlying Tryz.underlying87, part, isAgg, run_underlying Tryz.underlying4, sizeOf, typeInfo, hi, hs, hv]
  intro h; omega
theorem yieldsIf_rowC {P : Program} {ops : Array Oper} {S : World → Prop} {op : Oper} {a : Act} (hw : Region.wanted op (yielded ops a.tmps) = true) (ty : TypeId) (x : Operand) (ho : op.op = .load ty x)
    (g : Nat) (hx : a.eval x = .pointer (some ⟨g, 0, none⟩)) (t : TypeId) (cs : Array Value) (fr : Nat × Nat) (d : TypeDesc) (hS : ∀ w, S w → w.heap[g]? = some (.cells cs t fr))
    (hu : P.underlying ty = some d) (hd : (match d with | .struct _ | .array _ _ => true | _ => false) = true) (hi : (P.info? ty).map (·.size) = some cs.size) : YieldsIf P ops S op (.agg cs) a :=
  .inl ⟨hw, fun w h => by
    unfold execOp
    simp only [ho, hx, Instr.loadAt, Instr.sureAddr, Sem.run_bind, Sem.run_pure, Result.andThen_ok, run_loadVar_row w g t ty cs fr d (hS w h) hu hd hi]⟩
theorem heap_three0 (w : World) (a b c : Obj) : (((w.alloc a).alloc b).alloc c).heap[w.heap.size]? = some a :=
  (Below.heap_alloc _ _ _ (by simp; omega)).trans ((Below.heap_alloc _ _ _ (by simp)).trans (heap_alloc_last _ _))
theorem flags_three1 (w : World) (a c : Obj) : FlagsAt (((w.alloc a).alloc (.cells (Array.replicate 60 (.bool false)) 87)).alloc c) (w.heap.size + 1) (fun _ => false) :=
  ⟨Array.replicate 60 (.bool false), (Below.heap_alloc _ _ _ (by simp)).trans (heap_two _ _ _), by simp, fun c hc => by simp [hc]⟩
theorem flags_three2 (w : World) (a b : Obj) : FlagsAt (((w.alloc a).alloc b).alloc (.cells (Array.replicate 60 (.bool false)) 87)) (w.heap.size + 2) (fun _ => false) := by
  refine ⟨Array.replicate 60 (.bool false), ?_, by simp, fun c hc => by simp [hc]⟩
  have h := heap_alloc_last ((w.alloc a).alloc b) (.cells (Array.replicate 60 (.bool false)) 87)
  have e : ((w.alloc a).alloc b).heap.size = w.heap.size + 2 := by simp
  rw [e] at h
  exact h
set_option maxHeartbeats 8000000 in
set_option maxRecDepth 100000 in
theorem takenI (M Rb lo : Nat) (d : FuncD) (u2 : Option Addr) (c2 : Nat) (I : Alive) (l : List Int) (P : Array Value) (n : Nat) (w : World) (hs : SmFunc d) (hF : LvF d) (hG : Grows d I) (h : Lvs w M Rb lo d u2 c2 I) (hn : n < cntF d) (hP : Pal P l) (hok : ∀ b, b < n → meetB d I n b = true → 0 ≤ l.getD b 0 ∧ l.getD b 0 < 60) :
    Calls Tryz.prog 40 #[.pointer (some ⟨M, 0, none⟩), .int .i64 n, .agg P] w fun e w' => e = .returned (.agg (takA (takB d I l n n))) ∧ Below w.heap.size w w' := by
  have hc := hF.cnt
  have ML := fun (k : Nat) W (hk : k < cntF d) (q : Lvs W M Rb lo d u2 c2 I) => meetI M Rb lo d u2 c2 I n k W hs hF hG q hn hk
  have HL : Hid (Lvs w M Rb lo d u2 c2 I) := h
  have HP : Hid (Pal P l) := hP
  have HOK : Hid (∀ b, b < n → meetB d I n b = true → 0 ≤ l.getD b 0 ∧ l.getD b 0 < 60) := hok
  clear hs hF hG h hP hok
  go_enter Tryz.func40, Tryz.ntmps40
  go_wp2_with fail
  --CUT1
  generalize hW : ((w.alloc _).alloc _).alloc _ = W
  have hW2 : ((w.alloc (.cells P 45)).alloc (.cells (Array.replicate 60 (.bool false)) 87)).alloc (.cells (Array.replicate 60 (.bool false)) 87) = W := hW
  have HB0 : Hid (Below w.heap.size w W) := by show Below _ _ _; rw [← hW2]; exact (((Below.refl _ _).alloc (Nat.le_refl _) _).alloc (by simp) _).alloc (by simp; omega) _
  have HP0 : Hid (W.heap[w.heap.size]? = some (.cells P 45 (0, 0))) := by show _ = _; rw [← hW2]; exact heap_three0 _ _ _ _
  have HR0 : Hid (FlagsAt W (w.heap.size + 1) (fun _ => false)) := by show FlagsAt _ _ _; rw [← hW2]; exact flags_three1 _ _ _
  have HD0 : Hid (FlagsAt W (w.heap.size + 2) (fun _ => false)) := by show FlagsAt _ _ _; rw [← hW2]; exact flags_three2 _ _ _
  clear hW hW2
  go_loopw [10] (fun i wr => ∃ k : Nat, k ≤ n ∧ i = .int .i64 k ∧ Hid (Below w.heap.size w wr) ∧ Hid (wr.heap[w.heap.size]? = some (.cells P 45 (0, 0))) ∧ Hid (FlagsAt wr (w.heap.size + 1) (fun _ => false)) ∧ Hid (FlagsAt wr (w.heap.size + 2) (takB d I l n k))) (fun i _ => n - (intOf i).toNat)
  case atStart => exact ⟨0, by omega, rfl, HB0, HP0, HR0, HD0⟩
  case round =>
    obtain ⟨k, hk, rfl, HB, HPr, HRr, HDr⟩ := hrel
    obtain ⟨wo, hwo⟩ : ∃ wo, wo = wr := ⟨_, rfl⟩
    subst hwo
    clear HB0 HP0 HR0 HD0
    by_cases hlt : k < n
    · have L := ML k wo (by omega) (HL.out.below HB.out)
      have hltI : (k : Int) < n := by omega
      go_wp2_with fail
      refine L.mono ?_
      rintro e w2 ⟨rfl, b2⟩
      have HB2 : Hid (Below w.heap.size w w2) := HB.out.trans (b2.mono HB.out.size)
      have hlD := HDr.out.lt
      have HP2 : Hid (w2.heap[w.heap.size]? = some (.cells P 45 (0, 0))) := (b2.block _ (by omega)).trans HPr.out
      have HR2 : Hid (FlagsAt w2 (w.heap.size + 1) (fun _ => false)) := HRr.out.keep (b2.block _ (by omega))
      have HD2 : Hid (FlagsAt w2 (w.heap.size + 2) (takB d I l n k)) := HDr.out.keep (b2.block _ (by omega))
      clear L b2 HB HPr HRr HDr
      cases hm : meetB d I n k with
      | false =>
        go_wp2_with fail
        go_roundw
        case rel => exact ⟨k + 1, by omega, by go_num, HB2, HP2, HR2, by rw [tak_no hm]; exact HD2⟩
        case measure => simp [intOf]; omega
      | true =>
        obtain ⟨h0, h1⟩ := HOK.out k hlt hm
        obtain ⟨c, hcc⟩ : ∃ c : Nat, l.getD k 0 = (c : Int) := ⟨(l.getD k 0).toNat, by omega⟩
        have hc60 : c < 60 := by omega
        have hcI : (c : Int) < 60 := by omega
        have hk60 : (k : Int) < 60 := by omega
        have e1 : w2.cell? ⟨w.heap.size, k, none⟩ = some (.int .i64 (c : Int)) := (cell_of_heap HP2.out).trans (by rw [HP.out.2 k (by omega), hcc])
        obtain ⟨arr, r1, r2, r3⟩ := HD2.out
        have e2 : w2.cell? ⟨w.heap.size + 2, c, none⟩ = some (.bool (takB d I l n k c)) := (cell_of_heap r1).trans (r3 c hc60)
        have f2 : w2.frozen? ⟨w.heap.size + 2, c, none⟩ = false := froz_of_heap r1
        have HCC : Hid (l.getD k 0 = (c : Int)) := hcc
        clear r1 r2 r3 hcc h0 h1
        go_wp2_with fail
        --CUT2
        go_roundw
        case rel =>
          refine ⟨k + 1, by omega, by go_num, HB2.out.setCell (p := ⟨w.heap.size + 2, c, none⟩) (by show w.heap.size ≤ w.heap.size + 2; omega) _, ?_, ?_, ?_⟩
          · exact (heap_other (by show w.heap.size ≠ w.heap.size + 2; omega) rfl).trans HP2.out
          · exact HR2.out.keep (heap_other (by show w.heap.size + 1 ≠ w.heap.size + 2; omega) rfl)
          · rw [tak_yes hm HCC.out]; exact HD2.out.put hc60
        case measure => simp [intOf]; omega
    · have e : k = n := by omega
      subst e
      obtain ⟨arr, ha1, ha2, ha3⟩ := HDr.out
      obtain ⟨old, ho1, ho2, ho3⟩ := HRr.out
      have hae := tak_one ha2 ha3
      subst hae
      have HA1 : Hid (wo.heap[w.heap.size + 2]? = some (.cells (takA (takB d I l k k)) 87 (0, 0))) := ha1
      have HO1 : Hid (wo.heap[w.heap.size + 1]? = some (.cells old 87 (0, 0))) := ho1
      have HZ : Hid (old.size = (takA (takB d I l k k)).size) := by show _ = _; rw [ho2, tak_size]
      clear ha1 ha2 ha3 ho1 ho2 ho3 HPr HRr HDr ML
      generalize hT : takA (takB d I l k k) = T at *
      have HI : Hid ((Tryz.prog.info? 87).map (·.size) = some T.size) := by show _ = _; rw [infoFl, ← hT, tak_size]
      have HALL : Hid (T.all (·.oneCell') = true) := by show _ = _; rw [← hT]; exact tak_all _
      have HTT : Hid (takA (takB d I l k k) = T) := hT
      clear hT
      go_wp2_with (first | (refine wpList_load_row rfl 87 _ rfl (w.heap.size + 2) rfl 87 T (0, 0) _ HA1.out Tryz.underlying87 rfl HI.out ?_) | (refine wpList_store_row rfl 87 _ _ rfl (w.heap.size + 1) T rfl rfl 87 old HO1.out HI.out (by have := HZ.out; omega) HALL.out ?_) | fail)
      --CUT3
      have hr := setRow_heap wo (w.heap.size + 1) old T 87 (0, 0) HO1.out
      refine bodyPost_ret (v := .agg T) ((results_cell_row Tryz.results40 _ _ (w.heap.size + 1) 87 T (0, 0) _ rfl hr Tryz.underlying87 rfl HI.out).trans (by rfl)) rfl ?_
      exact ⟨by rw [HTT.out], HB.out.trans ⟨rfl, rfl, rfl, by simp, fun b hb => setRow_other _ _ _ _ (by omega)⟩⟩
theorem may_ty0 {d : FuncD} {I : Alive} {l : List Int} {n : Nat} (h : typeF d n = 0) : mayB d I l n = (l.getD n 0 == -1) := by unfold mayB; rw [if_pos h]
theorem may_ty1 {d : FuncD} {I : Alive} {l : List Int} {n : Nat} (h : ¬ typeF d n = 0) : mayB d I l n = (belowB (l.getD n 0) 60 && !takB d I l n n (l.getD n 0).toNat) := by unfold mayB; rw [if_neg h]
end Go.Proofs.YtolaghondjfhdabGreatDoor
