/- The key of an instruction: what it is; its parts on both sides. -/
import Derived.Test.YtclagbdomfgodaaGreatDoorTxIQ
import Derived.Test.YtclagbdomfgodaaGreatDoorIns
import Derived.Test.YtclagbdomfgodaaGreatDoorFmGQ
namespace Go.Proofs.YtclagbdomfgodaaGreatDoor
open Go.RowKit
set_option linter.unusedVariables false

def turnB (op : Int) : Bool := op == 1 || op == 3 || op == 8 || op == 9 || op == 10 || op == 14 || op == 15
def turned (y : InstD) : InstD := if turnB y.op = true then { y with a := min y.a y.b, b := max y.a y.b } else y
def keyF (d : FuncD) (id : Int) : Option ByteArray := if funcB 3 d = true then (match instF d id with | none => none | some y => if 23 ≤ y.op then none else some (instTx (turned y))) else none
theorem keyF_no {d : FuncD} {id : Int} (h : funcB 3 d = false) : keyF d id = none := by unfold keyF; rw [h]; rfl
theorem keyF_none {d : FuncD} {id : Int} (h : instF d id = none) : keyF d id = none := by unfold keyF; rw [h]; split <;> rfl
theorem keyF_big {d : FuncD} {id : Int} {y : InstD} (h : instF d id = some y) (hb : 23 ≤ y.op) : keyF d id = none := by
  unfold keyF; rw [h]; split
  · exact if_pos hb
  · rfl
theorem keyF_some {d : FuncD} {id : Int} {y : InstD} (hf : funcB 3 d = true) (h : instF d id = some y) (hb : ¬ 23 ≤ y.op) : keyF d id = some (instTx (turned y)) := by
  unfold keyF; rw [if_pos hf, h]; exact if_neg hb
theorem getD_memK {α : Type} {l : List α} {k : Nat} {z : α} (h : k < l.length) : l.getD k z ∈ l := by
  rw [List.getD, List.getElem?_eq_getElem h]; exact List.getElem_mem h
theorem instB_wide {y : InstD} {n m f : Int} (h : instB y n f = true) (hn : n ≤ m) : instB y m f = true := by
  simp only [instB, Bool.and_eq_true] at h ⊢
  refine ⟨h.1, List.all_eq_true.2 fun x hx => ?_⟩
  have := List.all_eq_true.1 h.2 x hx
  simp [belowB] at this ⊢
  omega
theorem inst_form {d : FuncD} {id : Int} {y : InstD} (hf : funcB 3 d = true) (h : instF d id = some y) : instB y 60 3 = true := by
  simp only [funcB, Bool.and_eq_true, decide_eq_true_eq] at hf
  have hall := List.all_eq_true.1 hf.2
  have hc : cntF d ≤ 60 := hf.1.2
  rcases place_cases d id with e | ⟨j, hj, e⟩ | ⟨k, j, hk, hj, e⟩
  · rw [instF, e] at h; simp at h
  · rw [instF, e] at h; simp at h
  · rw [instF, e] at h
    have hk0 : ¬ ((k : Int) < 0) := by omega
    simp only [hk0, if_false, Int.toNat_natCast] at h
    split at h
    · cases h
    · rename_i hp
      have hin := hall _ (getD_memK (z := block0) hk)
      simp only [blockB, Bool.and_eq_true] at hin
      have hjl : ((j : Int) - (d.blocks.getD k block0).phis.length).toNat < (d.blocks.getD k block0).insts.length := by
        unfold cntB at hj; omega
      have := List.all_eq_true.1 hin.1.2 _ (getD_memK (z := inst0) hjl)
      obtain rfl := Option.some.inj h
      exact instB_wide this (by omega)
theorem turn_op {op : Int} (h : turnB op = true) : opB op = true ∧ op ≠ 26 ∧ op ≠ 24 := by
  simp only [turnB, Bool.or_eq_true, beq_iff_eq] at h
  rcases h with (((((rfl | rfl) | rfl) | rfl) | rfl) | rfl) | rfl <;> decide
theorem turned_form {y : InstD} (h : instB y 60 3 = true) : instB (turned y) 60 3 = true := by
  unfold turned
  split
  · rename_i ht
    obtain ⟨ho, h26, h24⟩ := turn_op ht
    simp only [instB, Bool.and_eq_true] at h ⊢
    obtain ⟨⟨⟨hw, hi⟩, hf⟩, hall⟩ := h
    have e1 : opsD y = [y.a, y.b] := by rw [opsD, if_pos (.inl ho)]
    have e2 : opsD { y with a := min y.a y.b, b := max y.a y.b } = [min y.a y.b, max y.a y.b] := by rw [opsD, if_pos (.inl ho)]
    rw [e1] at hall
    rw [e2]
    refine ⟨⟨⟨hw, hi⟩, ?_⟩, ?_⟩
    · rw [fB, if_neg h26, e1] at hf
      rw [fB, if_neg h26, e2]
      simpa using hf
    · simp [belowB] at hall ⊢
      omega
  · exact h
theorem turned_no {y : InstD} (h : turnB y.op = false) : turned y = y := by unfold turned; rw [h]; rfl
theorem turned_yes {y : InstD} (h : turnB y.op = true) : turned y = { y with a := min y.a y.b, b := max y.a y.b } := by unfold turned; rw [if_pos h]
theorem turned_le {y : InstD} (h : ¬ y.b < y.a) : turned y = y := by
  unfold turned
  split
  · rw [Int.min_eq_left (by omega), Int.max_eq_right (by omega)]
  · rfl
theorem turned_gt {y : InstD} (h1 : turnB y.op = true) (h : y.b < y.a) : turned y = { y with a := y.b, b := y.a } := by
  rw [turned_yes h1, Int.min_eq_right (by omega), Int.max_eq_left (by omega)]
theorem instText_tx {y : InstD} (h : instB y 60 3 = true) : instText y = instTx y := by unfold instText; rw [if_pos h]
set_option maxHeartbeats 1000000 in
theorem formK (lo : Nat) (d : FuncD) (u0 : Option Addr) (c0 : Nat) (u2 : Option Addr) (c2 : Nat) (w : World) (hs : SmFunc d) (k0 : IntsAt w lo u0 d.params) (k2 : BlocksAt w lo u2 d.blocks) :
    Calls Tryz.prog 11 #[.agg #[.slice u0 d.params.length c0, .int .i64 d.ret, .slice u2 d.blocks.length c2]] w fun e w' => e = .returned (.bool (funcB 3 d)) ∧ Below w.heap.size w w' := by
  go_enter Tryz.func11, Tryz.ntmps11
  go_wp2_with fail
  refine (funcShI lo d _ _ _ _ 3 _ hs (k0.keep (agree_alloc _ _ _)) (k2.keep (agree_alloc _ _ _))).mono ?_
  rintro e w1 ⟨rfl, hb1⟩
  have hW := below_box (box_first hb1)
  go_wp2_with fail
  go_ret
  exact ⟨rfl, hW⟩
theorem turnI (op : Int) (w : World) : Calls Tryz.prog 13 #[.int .i64 op] w fun e w' => e = .returned (.bool (turnB op)) ∧ w' = w := by
  cases h : turnB op with
  | true =>
    simp only [turnB, Bool.or_eq_true, beq_iff_eq] at h
    rcases h with (((((rfl | rfl) | rfl) | rfl) | rfl) | rfl) | rfl
    all_goals
      go_enter Tryz.func13, Tryz.ntmps13
      go_wp2_with fail
      go_ret
      exact ⟨rfl, rfl⟩
  | false =>
    simp only [turnB, Bool.or_eq_false_iff] at h
    obtain ⟨⟨⟨⟨⟨⟨h1, h2⟩, h3⟩, h4⟩, h5⟩, h6⟩, h7⟩ := h
    go_enter Tryz.func13, Tryz.ntmps13
    go_wp2_with fail
    go_ret
    exact ⟨rfl, rfl⟩
end Go.Proofs.YtclagbdomfgodaaGreatDoor
namespace Go.Proofs.YtclagbdomfgodaaGreatDoor
open Go.RowKit
set_option linter.unusedVariables false

theorem inK (a b c : Int) (w : World) (v : Bool) (h : Hid (decide (b ≤ a ∧ a ≤ c) = v)) : Calls Tryz.prog 30 #[.int .i64 a, .int .i64 b, .int .i64 c] w fun e w' => e = .returned (.bool v) ∧ w' = w := by
  by_cases h1 : b ≤ a
  · by_cases h2 : a ≤ c
    · go_enter Tryz.func30, Tryz.ntmps30
      go_wp2_with fail
      all_goals go_ret
      all_goals exact ⟨by rw [← h.out]; simp [h1, h2], rfl⟩
    · go_enter Tryz.func30, Tryz.ntmps30
      go_wp2_with fail
      all_goals go_ret
      all_goals exact ⟨by rw [← h.out]; simp [h1, h2], rfl⟩
  · go_enter Tryz.func30, Tryz.ntmps30
    go_wp2_with fail
    all_goals go_ret
    all_goals exact ⟨by rw [← h.out]; simp; omega, rfl⟩
theorem turnS (op : Int) (w : World) : Calls Tryz.prog 35 #[.int .i64 op] w fun e w' => e = .returned (.bool (turnB op)) ∧ w' = w := by
  cases h : turnB op with
  | true =>
    simp only [turnB, Bool.or_eq_true, beq_iff_eq] at h
    rcases h with (((((rfl | rfl) | rfl) | rfl) | rfl) | rfl) | rfl
    all_goals
      go_enter Tryz.func35, Tryz.ntmps35
      go_wp2_with (first | (go_at_call 30; refine (inK _ _ _ _ true (by show _ = _; decide)).mono ?_; rintro e w' ⟨rfl, rfl⟩) | (go_at_call 30; refine (inK _ _ _ _ false (by show _ = _; decide)).mono ?_; rintro e w' ⟨rfl, rfl⟩))
      go_ret
      exact ⟨rfl, rfl⟩
  | false =>
    simp only [turnB, Bool.or_eq_false_iff] at h
    obtain ⟨⟨⟨⟨⟨⟨h1, h2⟩, h3⟩, h4⟩, h5⟩, h6⟩, h7⟩ := h
    have hin : Hid (decide (8 ≤ op ∧ op ≤ 10) = false) := by
      show _ = _
      simp at h3 h4 h5 ⊢
      omega
    clear h3 h4 h5
    go_enter Tryz.func35, Tryz.ntmps35
    go_wp2_with (first | (go_at_call 30; refine (inK _ _ _ _ false hin).mono ?_; rintro e w' ⟨rfl, rfl⟩))
    go_ret
    exact ⟨rfl, rfl⟩
set_option maxHeartbeats 1000000 in
theorem copyInstS (lo : Nat) (d : InstD) (u : Option Addr) (q : Nat) (w : World) (hm : d.args.length ≤ 1048576) (hk : IntsAt w lo u d.args) :
    Calls Tryz.prog 34 #[.agg #[.int .i64 d.op, .int .i64 d.w, .int .i64 d.a, .int .i64 d.b, .int .i64 d.c, .int .i64 d.imm, .slice u d.args.length q]] w fun e w' => ∃ v c, e = .returned (.agg #[.int .i64 d.op, .int .i64 d.w, .int .i64 d.a, .int .i64 d.b, .int .i64 d.c, .int .i64 d.imm, .slice v d.args.length c]) ∧ IntsAt w' w.heap.size v d.args ∧ Below w.heap.size w w' := by
  have hl : ∀ o p : Obj, ((w.alloc o).alloc p).heap[w.heap.size + 1]? = some p := fun o p => by
    rw [← show (w.alloc o).heap.size = w.heap.size + 1 from by simp]; exact heap_alloc_last _ _
  have B0 : IBox d u q w _ := IBox.start (T := 33)
  go_enter Tryz.func34, Tryz.ntmps34
  go_wp2_with (go_at_call 60; refine (copyS_any lo _ _ _ _ hm (hk.keep ((agree_alloc _ _ _).trans (agree_alloc _ _ _)))).mono ?_; rintro e w1 ⟨v, c, rfl, hu, hb1⟩; have hcc := bcell hb1; have hff := bfroz hb1; have I1 := (B0.keep ((Below.refl _ _).alloc B0.size (.cells #[.int .i64 0, .int .i64 0, .int .i64 0, .int .i64 0, .int .i64 0, .int .i64 0, .slice none 0 0] 33))).keep (hb1.mono (by simp)); have y6 := I1.c6)
  have hB : Below w.heap.size w w1 := (((Below.refl w.heap.size w).alloc (Nat.le_refl _) _).alloc (by first | (simp; done) | (simp; omega)) _).trans (hb1.mono (by first | (simp; done) | (simp; omega)))
  have hu3 := hu.ints.low (lo' := w.heap.size + 2) (by first | (simp; done) | (simp; omega))
  have hr := (heap_set (o := 6) (v := .slice v d.args.length c) (heap_set (o := 5) (v := .int .i64 d.imm) (heap_set (o := 4) (v := .int .i64 d.c) (heap_set (o := 3) (v := .int .i64 d.b) (heap_set (o := 2) (v := .int .i64 d.a) (heap_set (o := 1) (v := .int .i64 d.w) (heap_set (o := 0) (v := .int .i64 d.op) (heap_other (g := w.heap.size + 1) (p := ⟨w.heap.size, 6, none⟩) (v := .slice v d.args.length c) (by simp) ((hb1.block (w.heap.size + 1) (by simp)).trans (hl _ _))))))))))
  refine bodyPost_ret (v := .agg #[.int .i64 d.op, .int .i64 d.w, .int .i64 d.a, .int .i64 d.b, .int .i64 d.c, .int .i64 d.imm, .slice v d.args.length c]) ((results_cell_row Tryz.results34 _ _ (w.heap.size + 1) 33 _ (0, 0) _ rfl hr Tryz.underlying33 rfl (by kernel_rfl)).trans (by rfl)) rfl ⟨v, c, rfl, ?_, ?_⟩
  · exact (hu3.keep (by repeat (first | refine Agree.trans ?_ (agree_setCell _ _ _ _ _ (by omega)) | exact Agree.refl _ _))).low (by omega)
  · exact (by repeat (first | refine Below.setCell ?_ (by dsimp only; omega) _ | exact hB))
end Go.Proofs.YtclagbdomfgodaaGreatDoor
namespace Go.Proofs.YtclagbdomfgodaaGreatDoor
open Go.RowKit
set_option linter.unusedVariables false

def KeyTold (o : Option ByteArray) (e : Ending) : Prop := e = .returned (.tuple #[.string (o.getD ⟨#[]⟩), .bool o.isSome])
set_option maxHeartbeats 4000000 in
theorem keyI (lo : Nat) (d : FuncD) (u0 : Option Addr) (c0 : Nat) (u2 : Option Addr) (c2 : Nat) (id : Int) (w : World) (hs : SmFunc d) (k0 : IntsAt w lo u0 d.params) (k2 : BlocksAt w lo u2 d.blocks) (hi : id ≤ 9223372036854775807) (hO : OpsAt w) (hP : PowAt w) :
    Calls Tryz.prog 6 #[.agg #[.slice u0 d.params.length c0, .int .i64 d.ret, .slice u2 d.blocks.length c2], .int .i64 id] w fun e w' => KeyTold (keyF d id) e ∧ Below w.heap.size w w' := by
  go_enter Tryz.func6, Tryz.ntmps6
  go_wp2_with fail
  refine (formK lo d _ _ _ _ _ hs (k0.keep (agree_alloc _ _ _)) (k2.keep (agree_alloc _ _ _))).mono ?_
  rintro e w1 ⟨rfl, hb1⟩
  have hx1 := box_first hb1
  have HW : Hid (Below w.heap.size w w1) := below_box hx1
  cases hf : funcB 3 d with
  | false =>
    have E : Hid (keyF d id = none) := keyF_no hf
    go_wp2_with fail
    go_ret2
    exact ⟨by rw [E.out]; rfl, HW.out⟩
  | true =>
    obtain ⟨p1, p2, p3⟩ := box3 hx1
    go_wp2_with fail
    refine (instI_at lo d _ _ _ _ _ _ hs (k2.keep (agree_of_below HW.out lo)) hi).mono ?_
    rintro e w2 ⟨he, hb2⟩
    have HW2 : Hid (Below w.heap.size w w2) := HW.out.trans (hb2.mono HW.out.size)
    clear hx1 hb1 k2 k0 p1 p2 p3
    have HI : Hid (∀ y, instF d id = some y → instB y 60 3 = true) := fun y h => inst_form hf h
    have HN : Hid (instF d id = none → keyF d id = none) := keyF_none
    have HB : Hid (∀ y, instF d id = some y → 23 ≤ y.op → keyF d id = none) := fun y h => keyF_big h
    have HS : Hid (∀ y, instF d id = some y → ¬ 23 ≤ y.op → keyF d id = some (instTx (turned y))) := fun y h => keyF_some hf h
    clear hf
    generalize instF d id = oi at *
    cases oi with
    | none =>
      obtain rfl := he
      have E : Hid (keyF d id = none) := HN.out rfl
      go_wp2_with fail
      go_ret2
      exact ⟨by rw [E.out]; rfl, by first | exact HW2.out | exact HW2.out.alloc HW2.out.size _⟩
    | some y =>
      obtain ⟨ua, qa, rfl, hk⟩ := he
      have hin := HI.out y rfl
      by_cases hop : 23 ≤ y.op
      · have E : Hid (keyF d id = none) := HB.out y rfl hop
        clear HI HN HB HS hin
        go_wp2_with fail
        go_ret2
        exact ⟨by rw [E.out]; rfl, by first | exact HW2.out | exact HW2.out.alloc HW2.out.size _⟩
      · have E : Hid (keyF d id = some (instTx (turned y))) := HS.out y rfl hop
        clear HI HN HB HS
        have hk2 := hk.keep (agree_of_below hb2 lo)
        clear hk hb2
        have T := turnI y.op
        cases ht : turnB y.op with
        | false =>
          rw [turned_no ht] at E
          rw [ht] at T
          clear ht
          go_wp2_with (go_at_call 13; refine (T _).mono ?_; rintro e w8 ⟨rfl, h9⟩; have h8 := h9.symm; clear h9; subst h8)
          generalize hV : (w2.alloc (.cells #[.int .i64 y.op, .int .i64 y.w, .int .i64 y.a, .int .i64 y.b, .int .i64 y.c, .int .i64 y.imm, .slice ua y.args.length qa] 33)) = V
          have B3 : Below w2.heap.size w2 V := by rw [← hV]; exact (Below.refl _ _).alloc (Nat.le_refl _) _
          have C3 := HW2.out.trans (B3.mono HW2.out.size)
          clear hV
          have P := instTextI lo y ua qa V (by have := (instB_inF hin).args; omega) (hk2.keep (agree_of_below B3 lo)) (hO.keep C3) (hP.keep C3)
          rw [instText_tx hin] at P
          generalize hY : instTx y = Y at P E
          clear hY
          refine P.mono ?_
          rintro e w4 ⟨rfl, b4⟩
          have C4 := C3.trans (b4.mono C3.size)
          go_wp2_with fail
          go_ret2
          exact ⟨by rw [E.out]; rfl, C4⟩
        | true =>
          rw [ht] at T
          have hin2 := turned_form hin
          rw [turned_yes ht] at E hin2
          clear ht
          go_wp2_with (go_at_call 13; refine (T _).mono ?_; rintro e w8 ⟨rfl, h9⟩; have h8 := h9.symm; clear h9; subst h8)
          generalize hV : (w2.alloc (.cells #[.int .i64 y.op, .int .i64 y.w, .int .i64 (min y.a y.b), .int .i64 (max y.a y.b), .int .i64 y.c, .int .i64 y.imm, .slice ua y.args.length qa] 33)) = V
          have B3 : Below w2.heap.size w2 V := by rw [← hV]; exact (Below.refl _ _).alloc (Nat.le_refl _) _
          have C3 := HW2.out.trans (B3.mono HW2.out.size)
          clear hV
          have P := instTextI lo { y with a := min y.a y.b, b := max y.a y.b } ua qa V (by have := (instB_inF hin).args; show y.args.length ≤ _; omega) (hk2.keep (agree_of_below B3 lo)) (hO.keep C3) (hP.keep C3)
          rw [instText_tx hin2] at P
          generalize hY : instTx { y with a := min y.a y.b, b := max y.a y.b } = Y at P E
          clear hY
          refine P.mono ?_
          rintro e w4 ⟨rfl, b4⟩
          have C4 := C3.trans (b4.mono C3.size)
          go_wp2_with fail
          go_ret2
          exact ⟨by rw [E.out]; rfl, C4⟩
end Go.Proofs.YtclagbdomfgodaaGreatDoor
namespace Go.Proofs.YtclagbdomfgodaaGreatDoor
open Go.RowKit
set_option linter.unusedVariables false

theorem lt_of_heap {w : World} {g : Nat} {o : Obj} (h : w.heap[g]? = some o) : g < w.heap.size := by
  rcases Nat.lt_or_ge g w.heap.size with h' | h'
  · exact h'
  · rw [Array.getElem?_eq_none h'] at h; cases h
structure Set7 (w3 W : World) (g : Nat) (a0 a1 a2 a3 a4 a5 a6 : Value) : Prop where
  g0 : W.cell? ⟨g, 0, none⟩ = some a0
  g1 : W.cell? ⟨g, 1, none⟩ = some a1
  g2 : W.cell? ⟨g, 2, none⟩ = some a2
  g3 : W.cell? ⟨g, 3, none⟩ = some a3
  g4 : W.cell? ⟨g, 4, none⟩ = some a4
  g5 : W.cell? ⟨g, 5, none⟩ = some a5
  g6 : W.cell? ⟨g, 6, none⟩ = some a6
  fr : ∀ o, W.frozen? ⟨g, o, none⟩ = false
  size : g < W.heap.size
  agree : Agree (g + 1) w3 W
  below : ∀ {B : Nat} {w : World}, Below B w w3 → B ≤ g → Below B w W
theorem set7 {w3 : World} {g : Nat} {b0 b1 b2 b3 b4 b5 b6 : Value} {T : TypeId} (h : w3.heap[g]? = some (.cells #[b0, b1, b2, b3, b4, b5, b6] T (0, 0))) (a0 a1 a2 a3 a4 a5 a6 : Value) :
    Set7 w3 (((((((w3.setCell ⟨g, 0, none⟩ a0).setCell ⟨g, 1, none⟩ a1).setCell ⟨g, 2, none⟩ a2).setCell ⟨g, 3, none⟩ a3).setCell ⟨g, 4, none⟩ a4).setCell ⟨g, 5, none⟩ a5).setCell ⟨g, 6, none⟩ a6) g a0 a1 a2 a3 a4 a5 a6 := by
  have h1 := heap_set (o := 0) (v := a0) h
  have h2 := heap_set (o := 1) (v := a1) h1
  have h3 := heap_set (o := 2) (v := a2) h2
  have h4 := heap_set (o := 3) (v := a3) h3
  have h5 := heap_set (o := 4) (v := a4) h4
  have h6 := heap_set (o := 5) (v := a5) h5
  have h7 := heap_set (o := 6) (v := a6) h6
  simp only [List.setIfInBounds_toArray, List.set_cons_zero, List.set_cons_succ] at h7
  clear h h1 h2 h3 h4 h5 h6
  refine ⟨(cell_of_heap h7).trans rfl, (cell_of_heap h7).trans rfl, (cell_of_heap h7).trans rfl, (cell_of_heap h7).trans rfl, (cell_of_heap h7).trans rfl, (cell_of_heap h7).trans rfl, (cell_of_heap h7).trans rfl, fun o => froz_of_heap h7, ?_, ?_, ?_⟩
  · exact lt_of_heap h7
  · exact ((((((agree_setCell _ _ _ _ _ (Nat.lt_succ_self _)).trans (agree_setCell _ _ _ _ _ (Nat.lt_succ_self _))).trans (agree_setCell _ _ _ _ _ (Nat.lt_succ_self _))).trans (agree_setCell _ _ _ _ _ (Nat.lt_succ_self _))).trans (agree_setCell _ _ _ _ _ (Nat.lt_succ_self _))).trans (agree_setCell _ _ _ _ _ (Nat.lt_succ_self _))).trans (agree_setCell _ _ _ _ _ (Nat.lt_succ_self _))
  · intro B w hB hg
    exact ((((((hB.setCell hg _).setCell hg _).setCell hg _).setCell hg _).setCell hg _).setCell hg _).setCell hg _
set_option maxHeartbeats 4000000 in
theorem l11keyS (lo : Nat) (d : FuncD) (u0 : Option Addr) (c0 : Nat) (u2 : Option Addr) (c2 : Nat) (id : Int) (w : World) (hs : SmFunc d) (k2 : BlocksAt w lo u2 d.blocks) (hi : id ≤ 9223372036854775807) (hf : funcB 3 d = true) :
    Calls Tryz.prog 16 #[.agg #[.slice u0 d.params.length c0, .int .i64 d.ret, .slice u2 d.blocks.length c2], .int .i64 id] w fun e w' => KeyTold (keyF d id) e ∧ Below w.heap.size w w' := by
  go_enter Tryz.func16, Tryz.ntmps16
  go_wp2_with fail
  refine (instS_at lo d _ _ _ _ _ _ hs (k2.keep (agree_alloc _ _ _)) hi).mono ?_
  rintro e w2 ⟨he, hb2⟩
  have HW2 : Hid (Below w.heap.size w w2) := below_box (box_first hb2)
  have HI : Hid (∀ y, instF d id = some y → instB y 60 3 = true) := fun y h => inst_form hf h
  have HN : Hid (instF d id = none → keyF d id = none) := keyF_none
  have HB : Hid (∀ y, instF d id = some y → 23 ≤ y.op → keyF d id = none) := fun y h => keyF_big h
  have HS : Hid (∀ y, instF d id = some y → ¬ 23 ≤ y.op → keyF d id = some (instTx (turned y))) := fun y h => keyF_some hf h
  clear hf k2
  generalize instF d id = oi at *
  cases oi with
  | none =>
    obtain rfl := he
    have E : Hid (keyF d id = none) := HN.out rfl
    go_wp2_with fail
    go_ret2
    exact ⟨by rw [E.out]; rfl, by first | exact HW2.out | exact HW2.out.alloc HW2.out.size _⟩
  | some y =>
    obtain ⟨ua, qa, rfl, hk⟩ := he
    have hin := HI.out y rfl
    by_cases hop : 23 ≤ y.op
    · have E : Hid (keyF d id = none) := HB.out y rfl hop
      clear HI HN HB HS hin
      go_wp2_with fail
      go_ret2
      exact ⟨by rw [E.out]; rfl, by first | exact HW2.out | exact HW2.out.alloc HW2.out.size _⟩
    · have E : Hid (keyF d id = some (instTx (turned y))) := HS.out y rfl hop
      clear HI HN HB HS
      have hk2 := hk.keep (agree_of_below hb2 lo)
      clear hk hb2
      have T := turnS y.op
      have hal : y.args.length ≤ 1048576 := by have := (instB_inF hin).args; omega
      have B0 : IBox y ua qa w2 _ := IBox.start (T := 33)
      have hbV := heap_alloc_last w2 (.cells #[.int .i64 y.op, .int .i64 y.w, .int .i64 y.a, .int .i64 y.b, .int .i64 y.c, .int .i64 y.imm, .slice ua y.args.length qa] 33)
      go_wp2_with fail
      generalize (w2.alloc (.cells #[.int .i64 y.op, .int .i64 y.w, .int .i64 y.a, .int .i64 y.b, .int .i64 y.c, .int .i64 y.imm, .slice ua y.args.length qa] 33)) = V at B0 hbV ⊢
      refine (copyInstS lo y ua qa V hal (hk2.keep (agree_of_below B0.below lo))).mono ?_
      rintro e w3 ⟨v3, q3, rfl, n3, b3⟩
      have I3 := B0.keep (b3.mono B0.size)
      have hb3 := (b3.block w2.heap.size (by have := B0.size; omega)).trans hbV
      have f0 : w3.frozen? ⟨w2.heap.size, 0, none⟩ = false := froz_of_heap hb3
      have f1 : w3.frozen? ⟨w2.heap.size, 1, none⟩ = false := froz_of_heap hb3
      have f2 : w3.frozen? ⟨w2.heap.size, 2, none⟩ = false := froz_of_heap hb3
      have f3 : w3.frozen? ⟨w2.heap.size, 3, none⟩ = false := froz_of_heap hb3
      have f4 : w3.frozen? ⟨w2.heap.size, 4, none⟩ = false := froz_of_heap hb3
      have f5 : w3.frozen? ⟨w2.heap.size, 5, none⟩ = false := froz_of_heap hb3
      have f6 : w3.frozen? ⟨w2.heap.size, 6, none⟩ = false := froz_of_heap hb3
      clear hbV
      have C3 := HW2.out.trans (I3.below.mono HW2.out.size)
      have n4 := n3.low (lo' := w2.heap.size + 1) B0.size
      obtain ⟨y0, y1, y2, y3, y4, y5, y6, _, _⟩ := (show IBox y ua qa w2 w3 from I3)
      have z3 := I3.size
      have zw := HW2.out.size
      clear n3 b3 B0 I3 hk2
      go_wp2_with fail
      have S7 := set7 hb3 (.int .i64 y.op) (.int .i64 y.w) (.int .i64 y.a) (.int .i64 y.b) (.int .i64 y.c) (.int .i64 y.imm) (.slice v3 y.args.length q3)
      clear y0 y1 y2 y3 y4 y5 y6 f0 f1 f2 f3 f4 f5 f6 hb3
      generalize (((((((w3.setCell ⟨w2.heap.size, 0, none⟩ (.int .i64 y.op)).setCell ⟨w2.heap.size, 1, none⟩ (.int .i64 y.w)).setCell ⟨w2.heap.size, 2, none⟩ (.int .i64 y.a)).setCell ⟨w2.heap.size, 3, none⟩ (.int .i64 y.b)).setCell ⟨w2.heap.size, 4, none⟩ (.int .i64 y.c)).setCell ⟨w2.heap.size, 5, none⟩ (.int .i64 y.imm)).setCell ⟨w2.heap.size, 6, none⟩ (.slice v3 y.args.length q3)) = w5 at S7 ⊢
      have C5 := S7.below C3 zw
      have n5 := n4.keep S7.agree
      have g0 := S7.g0
      have f0 := S7.fr 0
      have g1 := S7.g1
      have f1 := S7.fr 1
      have g2 := S7.g2
      have f2 := S7.fr 2
      have g3 := S7.g3
      have f3 := S7.fr 3
      have g4 := S7.g4
      have f4 := S7.fr 4
      have g5 := S7.g5
      have f5 := S7.fr 5
      have g6 := S7.g6
      have f6 := S7.fr 6
      have z5 := S7.size
      clear S7 C3 n4
      refine (T _).mono ?_
      rintro e w8 ⟨rfl, h9⟩
      have h8 := h9.symm
      clear h9
      subst h8
      cases ht : turnB y.op with
      | false =>
        rw [turned_no ht] at E
        have hin2 := hin
        clear T
        go_wp2_with fail
        refine (l5instS (w2.heap.size + 1) y v3 q3 _ (instB_inF hin2) n5).mono ?_
        rintro e w6 ⟨rfl, b6⟩
        have C6 := C5.trans (b6.mono C5.size)
        clear b6
        go_wp2_with fail
        go_ret2
        exact ⟨by rw [E.out]; rfl, C6⟩
      | true =>
        clear T
        by_cases hab : y.b < y.a
        · have hin2 := turned_form hin
          rw [turned_gt ht hab] at E hin2
          clear ht
          have C7 := Below.setCell (p := ⟨w2.heap.size, 3, none⟩) (Below.setCell (p := ⟨w2.heap.size, 2, none⟩) C5 zw (.int .i64 y.b)) zw (.int .i64 y.a)
          have n6 := n5.keep (agree_setCell w5 w2.heap.size 2 _ (.int .i64 y.b) (Nat.lt_succ_self _))
          have n7 := n6.keep (agree_setCell _ w2.heap.size 3 _ (.int .i64 y.a) (Nat.lt_succ_self _))
          clear n6
          go_wp2_with fail
          refine (l5instS (w2.heap.size + 1) { y with a := y.b, b := y.a } v3 q3 _ (instB_inF hin2) n7).mono ?_
          rintro e w6 ⟨rfl, b6⟩
          have C6 := C7.trans (b6.mono C7.size)
          clear b6
          go_wp2_with fail
          go_ret2
          exact ⟨by rw [E.out]; rfl, C6⟩
        · have hin2 := hin
          rw [turned_le hab] at E
          clear ht
          go_wp2_with fail
          refine (l5instS (w2.heap.size + 1) y v3 q3 _ (instB_inF hin2) n5).mono ?_
          rintro e w6 ⟨rfl, b6⟩
          have C6 := C5.trans (b6.mono C5.size)
          clear b6
          go_wp2_with fail
          go_ret2
          exact ⟨by rw [E.out]; rfl, C6⟩
end Go.Proofs.YtclagbdomfgodaaGreatDoor
namespace Go.Proofs.YtclagbdomfgodaaGreatDoor
open Go.RowKit
set_option linter.unusedVariables false

theorem id_told {o : Option ByteArray} {e : Ending} (h : KeyTold o e) : e = .returned (.tuple #[.string (o.getD ⟨#[]⟩), .bool o.isSome]) := h
set_option maxHeartbeats 4000000 in
theorem keyS (lo : Nat) (d : FuncD) (u0 : Option Addr) (c0 : Nat) (u2 : Option Addr) (c2 : Nat) (id : Int) (w : World) (hs : SmFunc d) (k0 : IntsAt w lo u0 d.params) (k2 : BlocksAt w lo u2 d.blocks) (hi : id ≤ 9223372036854775807) :
    Calls Tryz.prog 7 #[.agg #[.slice u0 d.params.length c0, .int .i64 d.ret, .slice u2 d.blocks.length c2], .int .i64 id] w fun e w' => KeyTold (keyF d id) e ∧ Below w.heap.size w w' := by
  go_enter Tryz.func7, Tryz.ntmps7
  go_wp2_with fail
  refine (funcShS lo d _ _ _ _ 3 _ hs (k0.keep (agree_alloc _ _ _)) (k2.keep (agree_alloc _ _ _)) (by decide) (by decide)).mono ?_
  rintro e w1 ⟨rfl, hb1⟩
  have hx1 := box_first hb1
  have HW : Hid (Below w.heap.size w w1) := below_box hx1
  cases hf : funcB 3 d with
  | false =>
    have E : Hid (keyF d id = none) := keyF_no hf
    go_wp2_with fail
    go_ret2
    exact ⟨by rw [E.out]; rfl, HW.out⟩
  | true =>
    obtain ⟨p1, p2, p3⟩ := box3 hx1
    have P := l11keyS lo d u0 c0 u2 c2 id w1 hs (k2.keep (agree_of_below HW.out lo)) hi hf
    clear hf
    go_wp2_with fail
    refine P.mono ?_
    rintro e w2 ⟨he, hb2⟩
    obtain rfl := id_told he
    have HW2 : Hid (Below w.heap.size w w2) := HW.out.trans (hb2.mono HW.out.size)
    go_wp2_with fail
    go_ret2
    exact ⟨rfl, HW2.out⟩
end Go.Proofs.YtclagbdomfgodaaGreatDoor
