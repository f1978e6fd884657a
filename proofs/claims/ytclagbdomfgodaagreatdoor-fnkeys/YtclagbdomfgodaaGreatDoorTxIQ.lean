/- The text of an instruction: the program's and the model's. -/
import Derived.Test.YtclagbdomfgodaaGreatDoorTxt
import Derived.Test.YtclagbdomfgodaaGreatDoorOps3
import Derived.Test.YtclagbdomfgodaaGreatDoorFmAQ
import Derived.Test.YtclagbdomfgodaaGreatDoorFmEQ
import Derived.Deep.RegionWith
import Derived.Deep.RegionHeld2
import Derived.Test.YtclagbdomfgodaaGreatDoorSz
import Derived.Test.YtclagbdomfgodaaGreatDoorTo2
import Derived.Test.YtclagbdomfgodaaGreatDoorEq
namespace Go.Proofs.YtclagbdomfgodaaGreatDoor
open Go.RowKit
set_option linter.unusedVariables false

def immB (op : Int) : Bool := op == 21 || op == 26
/-- The numbers of an instruction's line. -/
def instN (d : InstD) : List Int := [d.w] ++ ((if immB d.op = true then [d.imm] else []) ++ opsD d)
def instTx (d : InstD) : ByteArray := opW d.op.toNat ++ bs (numsL (instN d))
def instText (d : InstD) : ByteArray := if instB d 60 3 = true then instTx d else ⟨#[]⟩
/-- What is known of an instruction in its form. -/
structure InF (d : InstD) : Prop where
  op1 : 1 ≤ d.op
  op27 : d.op ≤ 27
  w0 : ∃ n : Nat, d.w = n ∧ n ≤ 4294967295
  imm0 : ∃ n : Nat, d.imm = n ∧ n ≤ 4294967295
  ops : SmN (opsD d)
  len : (opsD d).length ≤ 4
  args : d.args.length ≤ 4
theorem width_small {x : Int} (h : widthB x = true) : ∃ n : Nat, x = n ∧ n ≤ 32 := by
  simp [widthB] at h
  exact ⟨x.toNat, by omega, by omega⟩
theorem top_small {x : Int} (h : widthB x = true) : topZ x ≤ 4294967296 := by
  simp [widthB] at h
  rcases h with ((rfl | rfl) | rfl) | rfl <;> decide
theorem instB_inF {d : InstD} (h : instB d 60 3 = true) : InF d := by
  simp only [instB, Bool.and_eq_true] at h
  obtain ⟨⟨⟨hw, hi⟩, hf⟩, ho⟩ := h
  have hop : ¬ (d.op < 1 ∨ 27 < d.op) := fun hc => by rw [wB, if_pos hc] at hw; cases hw
  have hws : ∃ n : Nat, d.w = n ∧ n ≤ 32 := by
    rw [wB, if_neg hop] at hw
    split at hw
    · exact ⟨0, by simpa using hw, by omega⟩
    · split at hw
      · exact ⟨8, by simpa using hw, by omega⟩
      · exact width_small hw
  refine ⟨by omega, by omega, ?_, ?_, ?_, ?_, ?_⟩
  · obtain ⟨n, hn, hl⟩ := hws; exact ⟨n, hn, by omega⟩
  · rw [iB] at hi
    split at hi
    · simp only [valueB, Bool.and_eq_true, decide_eq_true_eq] at hi
      have := top_small hi.1
      exact ⟨d.imm.toNat, by omega, by omega⟩
    · split at hi
      · simp [belowB] at hi
        exact ⟨d.imm.toNat, by omega, by omega⟩
      · exact ⟨0, by simpa using hi, by omega⟩
  · intro x hx
    have := List.all_eq_true.1 ho x hx
    simp [belowB] at this
    exact ⟨x.toNat, by omega, by omega⟩
  · have ha : d.op = 26 → d.args.length ≤ 4 := fun e => by
      rw [fB, if_pos e] at hf
      simp at hf
      omega
    unfold opsD
    split
    · simp
    · split
      · simp
      · split
        · simp
        · split
          · rename_i h; exact ha h
          · simp
  · rw [fB] at hf
    split at hf
    · simp at hf; omega
    · simp at hf; have := hf.1.1.1; simp [this]
theorem instN_sm {d : InstD} (h : InF d) : SmN (instN d) := by
  intro x hx
  unfold instN at hx
  rcases List.mem_append.1 hx with hx | hx
  · rw [List.mem_singleton.1 hx]; exact h.w0
  · rcases List.mem_append.1 hx with hx | hx
    · split at hx
      · rw [List.mem_singleton.1 hx]; exact h.imm0
      · simp at hx
    · exact h.ops x hx
theorem instN_len {d : InstD} (h : InF d) : (instN d).length ≤ 6 := by
  have := h.len
  unfold instN
  split <;> simp <;> omega
theorem hasImmI (op : Int) (w : World) : Calls Tryz.prog 54 #[.int .i64 op] w fun e w' => e = .returned (.bool (immB op)) ∧ w' = w := by
  by_cases h1 : op = 21
  · subst h1
    go_enter Tryz.func54, Tryz.ntmps54
    go_wp2_with fail
    go_ret
    exact ⟨rfl, rfl⟩
  · have n1 : (op == 21) = false := by simpa using h1
    have E : Hid (immB op = (op == 26)) := by show _ = _; simp [immB, n1]
    go_enter Tryz.func54, Tryz.ntmps54
    go_wp2_with fail
    go_ret
    exact ⟨by rw [E.out]; rfl, rfl⟩
theorem append_zero {t ty : TypeId} (g n c : Nat) (hc : n ≤ c) (v : Option Addr) (r : Nat) (w : World) (i : TypeInfo) (ht : Tryz.prog.underlying t = some (.slice 2)) (hi : Tryz.prog.info? 2 = some i) :
    (Builtin.append_ #[t, t] ty #[.slice (some ⟨g, 0, none⟩) n c, .slice v 0 r]).run Tryz.prog w = .ok (.slice (some ⟨g, 0, none⟩) n c) w := by
  cases v with
  | none => simp [Builtin.append_, run_underlying ht, sizeOf, typeInfo, hi, Builtin.lenOf, Builtin.firstCells, storeCells, hc]
  | some a => simp [Builtin.append_, run_underlying ht, sizeOf, typeInfo, hi, Builtin.lenOf, Builtin.firstCells, storeCells, loadCells, loadCellsFrom, hc]
theorem step_sameT {w : World} {ops : Array Oper} {o : Oper} {a : Act} {K : Act → World → Prop} {Q : Exit → Act → World → Prop} {E : Prop} (hgd : o.guard = none) (s x : Operand) (t : TypeId) (ho : o.op = .call { callee := .builtin .append, args := #[s, x], argTypes := #[t, t] })
    {sv xv : Value} (hs : a.eval s = sv) (hx : a.eval x = xv) (hr : ∀ ty, (Builtin.append_ #[t, t] ty #[sv, xv]).run Tryz.prog w = .ok sv w) (h : K (a.put o.dst sv) w) :
    if Region.wanted o (yielded ops a.tmps) = true then Oper.wp Tryz.prog o a w K Q else E := by
  rw [if_pos (by simp [Region.wanted, hgd])]
  have hr := hr o.type
  unfold Oper.wp execOp
  simp only [ho, resolve, invoke, builtin, Sem.run_bind, Sem.run_pure, Result.andThen_ok, List.map_toArray, List.map_cons, List.map_nil, hs, hx, hr]
  exact h
/-- The box of an instruction, as it stays. -/
structure IBox (d : InstD) (u : Option Addr) (q : Nat) (w w1 : World) : Prop where
  c0 : w1.cell? ⟨w.heap.size, 0, none⟩ = some (.int .i64 d.op)
  c1 : w1.cell? ⟨w.heap.size, 1, none⟩ = some (.int .i64 d.w)
  c2 : w1.cell? ⟨w.heap.size, 2, none⟩ = some (.int .i64 d.a)
  c3 : w1.cell? ⟨w.heap.size, 3, none⟩ = some (.int .i64 d.b)
  c4 : w1.cell? ⟨w.heap.size, 4, none⟩ = some (.int .i64 d.c)
  c5 : w1.cell? ⟨w.heap.size, 5, none⟩ = some (.int .i64 d.imm)
  c6 : w1.cell? ⟨w.heap.size, 6, none⟩ = some (.slice u d.args.length q)
  below : Below w.heap.size w w1
  size : w.heap.size + 1 ≤ w1.heap.size
theorem IBox.start {d : InstD} {u : Option Addr} {q : Nat} {w : World} {T : TypeId} : IBox d u q w (w.alloc (.cells #[.int .i64 d.op, .int .i64 d.w, .int .i64 d.a, .int .i64 d.b, .int .i64 d.c, .int .i64 d.imm, .slice u d.args.length q] T)) := by
  have hb := heap_alloc_last w (.cells #[.int .i64 d.op, .int .i64 d.w, .int .i64 d.a, .int .i64 d.b, .int .i64 d.c, .int .i64 d.imm, .slice u d.args.length q] T)
  exact ⟨(cell_of_heap hb).trans rfl, (cell_of_heap hb).trans rfl, (cell_of_heap hb).trans rfl, (cell_of_heap hb).trans rfl, (cell_of_heap hb).trans rfl, (cell_of_heap hb).trans rfl, (cell_of_heap hb).trans rfl, (Below.refl _ _).alloc (Nat.le_refl _) _, by simp⟩
theorem IBox.keep {d : InstD} {u : Option Addr} {q : Nat} {w w1 w2 : World} (h : IBox d u q w w1) (k : Below (w.heap.size + 1) w1 w2) : IBox d u q w w2 := by
  have e : ∀ o, w2.cell? ⟨w.heap.size, o, none⟩ = w1.cell? ⟨w.heap.size, o, none⟩ := fun o => cell_block (k.block _ (by omega))
  exact ⟨(e 0).trans h.c0, (e 1).trans h.c1, (e 2).trans h.c2, (e 3).trans h.c3, (e 4).trans h.c4, (e 5).trans h.c5, (e 6).trans h.c6, h.below.trans (k.mono (by omega)), Nat.le_trans h.size k.size⟩
end Go.Proofs.YtclagbdomfgodaaGreatDoor
namespace Go.Proofs.YtclagbdomfgodaaGreatDoor
open Go.RowKit
set_option linter.unusedVariables false

theorem step_ints {w : World} {ops : Array Oper} {o : Oper} {a : Act} {K : Act → World → Prop} {Q : Exit → Act → World → Prop} {E : Prop} (hgd : o.guard = none) (s x : Operand)
    (ho : o.op = .call { callee := .builtin .append, args := #[s, x], argTypes := #[24, 24] })
    (base : Nat) (v : Value) (l : List Int) (hs : a.eval s = v) (hown : Row w base v l) (b : Nat) (l2 : List Int) (c : Nat) (hx : a.eval x = .slice (some ⟨b, 0, none⟩) l2.length c) (hc : ∀ j, j < l2.length → w.cell? ⟨b, j, none⟩ = some (.int .i64 (l2.getD j 0)))
    (hm : 0 < l2.length) (hl : l.length + l2.length ≤ 4194304) (hbase : base ≤ w.heap.size) (H : Nat) (hH : w.heap.size = H)
    (h : ∀ g cap w', Row w' base (.slice (some ⟨g, 0, none⟩) (l.length + l2.length) cap) (l ++ l2) → w.grownBy w' v.ownBlock → (v.ownBlock = some g ∨ g = H) → g < w'.heap.size → K (a.put o.dst (.slice (some ⟨g, 0, none⟩) (l.length + l2.length) cap)) w') :
    if Region.wanted o (yielded ops a.tmps) = true then Oper.wp Tryz.prog o a w K Q else E := by
  obtain ⟨i0, hi, hz0, hz1, hz2⟩ := info_parts infoI
  refine step_append_lies w hgd s x 24 ho base 2 i0 (.int .i64 0) 1 8 Tryz.underlying24 hi hz0 hz1 hz2 rfl (by decide) v l.length (l.map (Value.int .i64)) hs hown ⟨b, 0, none⟩ l2.length c (l2.map (Value.int .i64)) hx (by simp) ?_ (by simp [Value.oneCell']) hm (by unfold maxLen; omega) (by omega) hbase H hH ?_
  · intro j y hj
    have hjl : j < l2.length := by have := (List.getElem?_eq_some_iff.1 hj).1; simpa using this
    rw [Addr.add_lit, Nat.zero_add, hc j hjl]
    simp [hjl] at hj
    rw [← hj]
    simp [List.getD, hjl]
  · intro g cap w' h1 h2 h3 h4
    refine h g cap w' ?_ h2 h3 h4
    unfold Row
    rw [List.length_append, List.map_append]
    exact h1
theorem IBox.conj {d : InstD} {u : Option Addr} {q : Nat} {w w1 : World} {n : Nat} (h : IBox d u q w w1) (hg : w1.cell? ⟨0, n, none⟩ = some (.string (opW n))) :
    w1.cell? ⟨w.heap.size, 0, none⟩ = some (.int .i64 d.op) ∧ w1.cell? ⟨w.heap.size, 1, none⟩ = some (.int .i64 d.w) ∧ w1.cell? ⟨w.heap.size, 2, none⟩ = some (.int .i64 d.a) ∧ w1.cell? ⟨w.heap.size, 3, none⟩ = some (.int .i64 d.b) ∧ w1.cell? ⟨w.heap.size, 4, none⟩ = some (.int .i64 d.c) ∧ w1.cell? ⟨w.heap.size, 5, none⟩ = some (.int .i64 d.imm) ∧ w1.cell? ⟨w.heap.size, 6, none⟩ = some (.slice u d.args.length q) ∧ w1.cell? ⟨0, n, none⟩ = some (.string (opW n)) :=
  ⟨h.c0, h.c1, h.c2, h.c3, h.c4, h.c5, h.c6, hg⟩
/-- The result's block while a line is made. -/
def ResB (w w1 : World) : Prop := w1.heap[w.heap.size + 1]? = some (.cells #[.string ⟨#[]⟩, .slice none 0 0] 64 (0, 0))
theorem ResB.keep {w w1 w2 : World} (h : ResB w w1) (k : Below (w.heap.size + 2) w1 w2) : ResB w w2 := (k.block _ (by omega)).trans h
theorem ResB.c0 {w w1 : World} (h : ResB w w1) : w1.cell? ⟨w.heap.size + 1, 0, none⟩ = some (.string ⟨#[]⟩) := (cell_of_heap h).trans rfl
theorem ResB.c1 {w w1 : World} (h : ResB w w1) : w1.cell? ⟨w.heap.size + 1, 1, none⟩ = some (.slice none 0 0) := (cell_of_heap h).trans rfl
theorem ResB.f {w w1 : World} (h : ResB w w1) (o : Nat) : w1.frozen? ⟨w.heap.size + 1, o, none⟩ = false := by
  unfold World.frozen?
  rw [show w1.heap[w.heap.size + 1]? = _ from h]
  simp
theorem below_two (w : World) (o p : Obj) : Below (w.heap.size + 1) (w.alloc o) ((w.alloc o).alloc p) := (Below.refl _ _).alloc (by simp) _
/-- What stands when the operands come in: the box, the result's block, the numbers so far. -/
structure LSt (d : InstD) (u : Option Addr) (q : Nat) (n : Nat) (g c : Nat) (L : List Int) (w W : World) : Prop where
  box : IBox d u q w W
  res : ResB w W
  row : Row W (w.heap.size + 2) (.slice (some ⟨g, 0, none⟩) L.length c) L
  cap : L.length ≤ c
  glo : W.cell? ⟨0, n, none⟩ = some (.string (opW n))
  size : w.heap.size + 2 ≤ W.heap.size
theorem row_cap {w : World} {base g c : Nat} {L : List Int} (h : Row w base (.slice (some ⟨g, 0, none⟩) L.length c) L) : L.length ≤ c := by
  rcases h.2 with ⟨hv, hn⟩ | ⟨g', cap, cur, hv, hb, hg, hnc, _⟩
  · simp at hv
  · simp at hv
    rw [hv.2]; exact hnc
theorem row_oneT {W : World} {x : Int} {base s : Nat} (hs : W.heap.size = s) (hb : base ≤ s) : Row (W.alloc (.cells #[.int .i64 x] 2)) base (.slice (some ⟨s, 0, none⟩) 1 1) [x] := by
  subst hs
  exact World.ownsRow_lit W #[.int .i64 x] 1 hb (by decide) (by simp)
theorem below_al2 {B : Nat} (W : World) (o p : Obj) (h : B ≤ W.heap.size) : Below B W ((W.alloc o).alloc p) := ((Below.refl _ _).alloc h _).alloc (by simp <;> omega) _
theorem below_grownT {B : Nat} {w w' : World} {row : Option Nat} (hg : w.grownBy w' row) (hB : B ≤ w.heap.size) (hr : ∀ k, row = some k → B ≤ k) : Below B w w' := (Below.refl B w).grown hg hB hr
theorem drop_drewT {w w2 : World} (h : Below w.drew.heap.size w.drew w2) : Below w.heap.size w w2 := ((Below.refl _ w).drew).trans h
theorem cell_farT {w : World} {g o h p : Nat} {v : Value} {x : Option Value} (hn : h ≠ g) (hx : w.cell? ⟨h, p, none⟩ = x) : (w.setCell ⟨g, o, none⟩ v).cell? ⟨h, p, none⟩ = x := (cell_block (Below.heap_setCell _ _ _ _ (by show h ≠ g; exact hn))).trans hx
theorem glo_below {w w1 : World} {n : Nat} (h : OpsAt w) (hn : n < 28) (k : Below w.heap.size w w1) : w1.cell? ⟨0, n, none⟩ = some (.string (opW n)) := (cell_block (k.block _ h.1)).trans (h.2 n hn)
theorem lst_grown {d : InstD} {u : Option Addr} {q n g c : Nat} {l : List Int} {w W w5 : World} {row : Option Nat} (hb : IBox d u q w W) (hr : ResB w W) (ho : Row w5 (w.heap.size + 2) (.slice (some ⟨g, 0, none⟩) l.length c) l) (hg : W.grownBy w5 row) (hrow : ∀ k, row = some k → w.heap.size + 2 ≤ k) (hO : OpsAt w) (hn : n < 28) (hz : w.heap.size + 2 ≤ W.heap.size) : LSt d u q n g c l w w5 := by
  have k := below_grownT hg hz hrow
  have hb5 := hb.keep (k.mono (by omega))
  exact ⟨hb5, hr.keep k, ho, row_cap ho, glo_below hO hn hb5.below, Nat.le_trans hz k.size⟩
theorem line_end {d : InstD} {u : Option Addr} {q : Nat} {w w2 : World} {g c : Nat} {L : List Int} {t : ByteArray} (hI : IBox d u q w w2) (hO : Row w2 (w.heap.size + 2) (.slice (some ⟨g, 0, none⟩) L.length c) L) (hL : L.length ≤ 1000) {v1 : Value} :
    IntsAt ((w2.setCell ⟨w.heap.size + 1, 0, none⟩ (.string t)).setCell ⟨w.heap.size + 1, 1, none⟩ v1) w.heap.size (some ⟨g, 0, none⟩) L ∧ Below w.heap.size w ((w2.setCell ⟨w.heap.size + 1, 0, none⟩ (.string t)).setCell ⟨w.heap.size + 1, 1, none⟩ v1) := by
  obtain ⟨u', c', hv, hi⟩ := hO.ints (by omega)
  simp at hv
  obtain ⟨rfl, _⟩ := hv
  refine ⟨(hi.keep ((agree_setCell _ _ _ _ _ (by omega)).trans (agree_setCell _ _ _ _ _ (by omega)))).low (by omega), ?_⟩
  exact (hI.below.setCell (by show w.heap.size ≤ w.heap.size + 1; omega) _).setCell (by show w.heap.size ≤ w.heap.size + 1; omega) _
set_option maxHeartbeats 4000000 in
set_option maxRecDepth 100000 in
theorem lineI (lo : Nat) (d : InstD) (u : Option Addr) (q : Nat) (w : World) (hF : InF d) (hk : IntsAt w lo u d.args) (hO : OpsAt w) :
    Calls Tryz.prog 26 #[.agg #[.int .i64 d.op, .int .i64 d.w, .int .i64 d.a, .int .i64 d.b, .int .i64 d.c, .int .i64 d.imm, .slice u d.args.length q]] w fun e w' => ∃ v c, e = .returned (.agg #[.string (opW d.op.toNat), .slice v (instN d).length c]) ∧ IntsAt w' w.heap.size v (instN d) ∧ Below w.heap.size w w' := by
  obtain ⟨i0, hi, _, _, _⟩ := info_parts infoI
  obtain ⟨n, hn⟩ : ∃ n : Nat, d.op = n := ⟨d.op.toNat, by have := hF.op1; omega⟩
  have hn28 : n < 28 := by have := hF.op27; omega
  have hn28' : (n : Int) < 28 := by omega
  have HOP : Hid (d.op = n) := hn
  have HTN : Hid (d.op.toNat = n) := by show _ = _; omega
  clear hn
  have B0 : IBox d u q w _ := IBox.start (T := 33)
  have B1 : IBox d u q w ((w.alloc (.cells #[.int .i64 d.op, .int .i64 d.w, .int .i64 d.a, .int .i64 d.b, .int .i64 d.c, .int .i64 d.imm, .slice u d.args.length q] 33)).alloc (.cells #[.string ⟨#[]⟩, .slice none 0 0] 64)) := B0.keep (below_two _ _ _)
  have R1 : ResB w ((w.alloc (.cells #[.int .i64 d.op, .int .i64 d.w, .int .i64 d.a, .int .i64 d.b, .int .i64 d.c, .int .i64 d.imm, .slice u d.args.length q] 33)).alloc (.cells #[.string ⟨#[]⟩, .slice none 0 0] 64)) := by
    have h := heap_alloc_last (w.alloc (.cells #[.int .i64 d.op, .int .i64 d.w, .int .i64 d.a, .int .i64 d.b, .int .i64 d.c, .int .i64 d.imm, .slice u d.args.length q] 33)) (.cells #[.string ⟨#[]⟩, .slice none 0 0] 64)
    have hz : (w.alloc (.cells #[.int .i64 d.op, .int .i64 d.w, .int .i64 d.a, .int .i64 d.b, .int .i64 d.c, .int .i64 d.imm, .slice u d.args.length q] 33)).heap.size = w.heap.size + 1 := by simp
    rw [hz] at h
    exact h
  have Z1 : ((w.alloc (.cells #[.int .i64 d.op, .int .i64 d.w, .int .i64 d.a, .int .i64 d.b, .int .i64 d.c, .int .i64 d.imm, .slice u d.args.length q] 33)).alloc (.cells #[.string ⟨#[]⟩, .slice none 0 0] 64)).heap.size = w.heap.size + 2 := by simp
  have HI : Hid (Tryz.prog.info? 2 = some i0) := hi
  have hol := hF.len
  have HC0 : Hid (opsD d = [] → ∀ w1, IntsAt w1 lo u d.args → Calls Tryz.prog 55 #[.agg #[.int .i64 d.op, .int .i64 d.w, .int .i64 d.a, .int .i64 d.b, .int .i64 d.c, .int .i64 d.imm, .slice u d.args.length q]] w1 fun e w' => ∃ v r, e = .returned (.slice v 0 r) ∧ True ∧ Below w1.heap.size w1 w') := fun he w1 h1 => (operI lo d u q w1 (by have := hF.args; omega) h1).mono fun e w' ⟨v, r, h2, h3, h4⟩ => ⟨v, r, by rw [h2, he]; rfl, trivial, h4⟩
  have HC1 : Hid (opsD d ≠ [] → ∀ w1, IntsAt w1 lo u d.args → Calls Tryz.prog 55 #[.agg #[.int .i64 d.op, .int .i64 d.w, .int .i64 d.a, .int .i64 d.b, .int .i64 d.c, .int .i64 d.imm, .slice u d.args.length q]] w1 fun e w' => ∃ g r, e = .returned (.slice (some ⟨g, 0, none⟩) (opsD d).length r) ∧ (∀ j, j < (opsD d).length → w'.cell? ⟨g, j, none⟩ = some (.int .i64 ((opsD d).getD j 0))) ∧ Below w1.heap.size w1 w') := fun he w1 h1 => (operI lo d u q w1 (by have := hF.args; omega) h1).mono fun e w' ⟨v, r, h2, h3, h4⟩ => by
    rcases h3.2 with h5 | ⟨g, cur, rfl, _, hb, hc⟩
    · exact absurd h5 he
    · exact ⟨g, r, h2, fun j hj => by rw [cell_of_heap hb]; exact hc j hj, h4⟩
  have HH := fun w => hasImmI d.op w
  have hGw := hO.1
  clear hi
  cases himm : immB d.op with
  | true =>
    rw [himm] at HH
    have HNN : Hid (instN d = [d.w, d.imm] ++ opsD d) := by show _ = _; unfold instN; rw [if_pos himm]; rfl
    have RW := row_oneT (W := _) (x := d.w) (base := w.heap.size + 2) Z1 (Nat.le_refl _)
    go_enter Tryz.func26, Tryz.ntmps26
    go_wp2_with (first | (go_at_call 54; refine (HH _).mono ?_; rintro e w8 ⟨rfl, h9⟩; subst h9) | (at_builtin; go_loud (refine push_at rfl _ _ rfl (w.heap.size + 2) (.slice (some ⟨w.heap.size + 2, 0, none⟩) 1 1) [d.w] rfl (RW.alloc _) d.imm _ 1 rfl (by exact one_cell_at (by simp)) (by simp) (by simp <;> omega) _ rfl ?_); intro g c w5 ho5 hg5 hat5 hlt5; go_loud (have LS : LSt d u q n g c [d.w, d.imm] w w5 := lst_grown (B1.keep (below_al2 _ _ _ (by omega))) (R1.keep (below_al2 _ _ _ (by omega))) ho5 hg5 (fun k hk => (RW.ge hk).1) hO hn28 (by simp <;> omega)); clear ho5 hg5 hat5))
    clear B0 B1 R1 Z1 RW HH himm
    generalize w5 = W at LS ⊢
    have hGW : 0 < W.heap.size := by have := LS.box.below.size; omega
    have I0 := LS.box.keep (w2 := W.drew) ((Below.refl _ _).drew)
    have s0 := I0.conj (n := n) LS.glo
    rw [HOP.out] at s0
    have K0 : IntsAt W.drew lo u d.args := hk.keep (agree_of_below I0.below lo)
    have zW := LS.size
    by_cases hE : opsD d = []
    · have C := HC0.out hE
      rw [HOP.out] at C
      have HNE : Hid (instN d = [d.w, d.imm]) := by show _ = _; rw [HNN.out, hE, List.append_nil]
      clear hE HC0 HC1 HNN
      go_region_held2 (fun w' => w'.cell? ⟨w.heap.size, 0, none⟩ = some (.int .i64 (n : Int)) ∧ w'.cell? ⟨w.heap.size, 1, none⟩ = some (.int .i64 d.w) ∧ w'.cell? ⟨w.heap.size, 2, none⟩ = some (.int .i64 d.a) ∧ w'.cell? ⟨w.heap.size, 3, none⟩ = some (.int .i64 d.b) ∧ w'.cell? ⟨w.heap.size, 4, none⟩ = some (.int .i64 d.c) ∧ w'.cell? ⟨w.heap.size, 5, none⟩ = some (.int .i64 d.imm) ∧ w'.cell? ⟨w.heap.size, 6, none⟩ = some (.slice u d.args.length q) ∧ w'.cell? ⟨0, n, none⟩ = some (.string (opW n))) (first | with_reducible exact s0 | with_reducible exact s2 | with_reducible exact ⟨cell_farT (by omega) (cell_farT (by omega) sF.1), cell_farT (by omega) (cell_farT (by omega) sF.2.1), cell_farT (by omega) (cell_farT (by omega) sF.2.2.1), cell_farT (by omega) (cell_farT (by omega) sF.2.2.2.1), cell_farT (by omega) (cell_farT (by omega) sF.2.2.2.2.1), cell_farT (by omega) (cell_farT (by omega) sF.2.2.2.2.2.1), cell_farT (by omega) (cell_farT (by omega) sF.2.2.2.2.2.2.1), cell_farT (by omega) (cell_farT (by omega) sF.2.2.2.2.2.2.2)⟩) (first | (go_at_call 55; refine (C _ (by exact K0)).mono ?_; rintro e w2 ⟨v2, r2, rfl, o2, b2⟩; have b2 := drop_drewT b2; have I2 := LS.box.keep (b2.mono (by omega)); have g2 := (cell_block (o := n) (b2.block _ (by exact hGW))).trans LS.glo; have s2 := I2.conj g2; rw [HOP.out] at s2; have R2 := LS.res.keep (b2.mono (by omega)); have O2 := LS.row.keep b2; have z2 := b2.size; have c0 := R2.c0; have c1 := R2.c1; have f0 := R2.f 0; have f1 := R2.f 1; have sF := s2) | (have hv2 := o2; refine step_sameT rfl (.tmp 19) (.tmp 21) 24 rfl rfl rfl (fun ty => append_zero g 2 c LS.cap v2 r2 _ i0 Tryz.underlying24 HI.out) ?_) | fail)
      all_goals
        obtain ⟨e1, e2⟩ := line_end (t := opW n) (v1 := .slice (some ⟨g, 0, none⟩) 2 c) I2 O2 (by simp)
        have hr := heap_set (o := 1) (v := .slice (some ⟨g, 0, none⟩) 2 c) (heap_set (o := 0) (v := .string (opW n)) R2)
        clear s0 s2 sF I2 O2 c0 c1 f0 f1 g2
        go_wp2_with fail
        refine bodyPost_ret (v := .agg #[.string (opW n), .slice (some ⟨g, 0, none⟩) 2 c]) ((results_cell_row Tryz.results26 _ _ (w.heap.size + 1) 64 _ (0, 0) _ rfl hr Tryz.underlying64 rfl (by kernel_rfl)).trans (by rfl)) rfl ⟨some ⟨g, 0, none⟩, c, ?_, ?_, e2⟩
        · rw [HTN.out, HNE.out]; rfl
        · rw [HNE.out]; exact e1
    · have C := HC1.out hE
      rw [HOP.out] at C
      have hopl : 0 < (opsD d).length := List.length_pos_iff.2 hE
      have HNE : Hid (instN d = [d.w, d.imm] ++ opsD d) := HNN.out
      clear hE HC0 HC1 HNN
      go_region_held2 (fun w' => w'.cell? ⟨w.heap.size, 0, none⟩ = some (.int .i64 (n : Int)) ∧ w'.cell? ⟨w.heap.size, 1, none⟩ = some (.int .i64 d.w) ∧ w'.cell? ⟨w.heap.size, 2, none⟩ = some (.int .i64 d.a) ∧ w'.cell? ⟨w.heap.size, 3, none⟩ = some (.int .i64 d.b) ∧ w'.cell? ⟨w.heap.size, 4, none⟩ = some (.int .i64 d.c) ∧ w'.cell? ⟨w.heap.size, 5, none⟩ = some (.int .i64 d.imm) ∧ w'.cell? ⟨w.heap.size, 6, none⟩ = some (.slice u d.args.length q) ∧ w'.cell? ⟨0, n, none⟩ = some (.string (opW n))) (first | with_reducible exact s0 | with_reducible exact s2 | with_reducible exact s3 | with_reducible exact ⟨cell_farT (by omega) (cell_farT (by omega) sF.1), cell_farT (by omega) (cell_farT (by omega) sF.2.1), cell_farT (by omega) (cell_farT (by omega) sF.2.2.1), cell_farT (by omega) (cell_farT (by omega) sF.2.2.2.1), cell_farT (by omega) (cell_farT (by omega) sF.2.2.2.2.1), cell_farT (by omega) (cell_farT (by omega) sF.2.2.2.2.2.1), cell_farT (by omega) (cell_farT (by omega) sF.2.2.2.2.2.2.1), cell_farT (by omega) (cell_farT (by omega) sF.2.2.2.2.2.2.2)⟩) (first | (go_at_call 55; refine (C _ (by exact K0)).mono ?_; rintro e w2 ⟨h2, r2, rfl, o2, b2⟩; have b2 := drop_drewT b2; have I2 := LS.box.keep (b2.mono (by omega)); have g2 := (cell_block (o := n) (b2.block _ (by exact hGW))).trans LS.glo; have s2 := I2.conj g2; rw [HOP.out] at s2; have R2 := LS.res.keep (b2.mono (by omega)); have O2 := LS.row.keep b2; have z2 := b2.size) | (have hv2 := o2; refine step_ints rfl (.tmp 19) (.tmp 21) rfl (w.heap.size + 2) (.slice (some ⟨g, 0, none⟩) 2 c) [d.w, d.imm] rfl O2 h2 (opsD d) r2 rfl o2 hopl (by simp; omega) (by omega) _ rfl ?_; intro g3 c3 w3 ho3 hg3 hat3 hlt3; have b3 : Below (w.heap.size + 2) w2 w3 := below_grownT hg3 (by omega) (fun k hk => (O2.ge hk).1); have I3 := I2.keep (b3.mono (by omega)); have g3g := (cell_block (o := n) (b3.block _ (by omega))).trans g2; have s3 := I3.conj g3g; rw [HOP.out] at s3; have R3 := R2.keep b3; have c0 := R3.c0; have c1 := R3.c1; have f0 := R3.f 0; have f1 := R3.f 1; have sF := s3) | fail)
      all_goals
        obtain ⟨e1, e2⟩ := line_end (t := opW n) (v1 := .slice (some ⟨g3, 0, none⟩) (2 + (opsD d).length) c3) I3 (by rw [show ([d.w, d.imm] ++ opsD d).length = 2 + (opsD d).length by simp; omega]; exact ho3) (by simp; omega)
        have hr := heap_set (o := 1) (v := .slice (some ⟨g3, 0, none⟩) (2 + (opsD d).length) c3) (heap_set (o := 0) (v := .string (opW n)) R3)
        clear s0 s2 s3 sF I2 I3 O2 c0 c1 f0 f1 g2 g3g ho3 hg3 hat3
        go_wp2_with fail
        refine bodyPost_ret (v := .agg #[.string (opW n), .slice (some ⟨g3, 0, none⟩) (2 + (opsD d).length) c3]) ((results_cell_row Tryz.results26 _ _ (w.heap.size + 1) 64 _ (0, 0) _ rfl hr Tryz.underlying64 rfl (by kernel_rfl)).trans (by rfl)) rfl ⟨some ⟨g3, 0, none⟩, c3, ?_, ?_, e2⟩
        · rw [HTN.out, HNE.out, List.length_append]; rfl
        · rw [HNE.out]; exact e1
  | false =>
    rw [himm] at HH
    have HNN : Hid (instN d = [d.w] ++ opsD d) := by show _ = _; unfold instN; rw [if_neg (by rw [himm]; decide)]; rfl
    have RW := row_oneT (W := ((w.alloc (.cells #[.int .i64 d.op, .int .i64 d.w, .int .i64 d.a, .int .i64 d.b, .int .i64 d.c, .int .i64 d.imm, .slice u d.args.length q] 33)).alloc (.cells #[.string ⟨#[]⟩, .slice none 0 0] 64))) (x := d.w) (base := w.heap.size + 2) Z1 (Nat.le_refl _)
    have k1 : Below (w.heap.size + 2) ((w.alloc (.cells #[.int .i64 d.op, .int .i64 d.w, .int .i64 d.a, .int .i64 d.b, .int .i64 d.c, .int .i64 d.imm, .slice u d.args.length q] 33)).alloc (.cells #[.string ⟨#[]⟩, .slice none 0 0] 64)) (((w.alloc (.cells #[.int .i64 d.op, .int .i64 d.w, .int .i64 d.a, .int .i64 d.b, .int .i64 d.c, .int .i64 d.imm, .slice u d.args.length q] 33)).alloc (.cells #[.string ⟨#[]⟩, .slice none 0 0] 64)).alloc (.cells #[.int .i64 d.w] 2)) := (Below.refl _ _).alloc (by omega) _
    have B2 := B1.keep (k1.mono (by omega))
    have LS : LSt d u q n (w.heap.size + 1 + 1) 1 [d.w] w (((w.alloc (.cells #[.int .i64 d.op, .int .i64 d.w, .int .i64 d.a, .int .i64 d.b, .int .i64 d.c, .int .i64 d.imm, .slice u d.args.length q] 33)).alloc (.cells #[.string ⟨#[]⟩, .slice none 0 0] 64)).alloc (.cells #[.int .i64 d.w] 2)) := ⟨B2, R1.keep k1, RW, by simp, glo_below hO hn28 B2.below, by have := k1.size; omega⟩
    go_enter Tryz.func26, Tryz.ntmps26
    go_wp2_with (first | (go_at_call 54; refine (HH _).mono ?_; rintro e w8 ⟨rfl, h9⟩; subst h9))
    clear B0 B1 B2 R1 Z1 RW HH himm k1
    generalize ((w.alloc (.cells #[.int .i64 d.op, .int .i64 d.w, .int .i64 d.a, .int .i64 d.b, .int .i64 d.c, .int .i64 d.imm, .slice u d.args.length q] 33)).alloc (.cells #[.string ⟨#[]⟩, .slice none 0 0] 64)).alloc (.cells #[.int .i64 d.w] 2) = W at LS ⊢
    generalize w.heap.size + 1 + 1 = g at LS ⊢
    have hGW : 0 < W.heap.size := by have := LS.box.below.size; omega
    have I0 := LS.box.keep (w2 := W.drew) ((Below.refl _ _).drew)
    have s0 := I0.conj (n := n) LS.glo
    rw [HOP.out] at s0
    have K0 : IntsAt W.drew lo u d.args := hk.keep (agree_of_below I0.below lo)
    have zW := LS.size
    by_cases hE : opsD d = []
    · have C := HC0.out hE
      rw [HOP.out] at C
      have HNE : Hid (instN d = [d.w]) := by show _ = _; rw [HNN.out, hE, List.append_nil]
      clear hE HC0 HC1 HNN
      go_region_held2 (fun w' => w'.cell? ⟨w.heap.size, 0, none⟩ = some (.int .i64 (n : Int)) ∧ w'.cell? ⟨w.heap.size, 1, none⟩ = some (.int .i64 d.w) ∧ w'.cell? ⟨w.heap.size, 2, none⟩ = some (.int .i64 d.a) ∧ w'.cell? ⟨w.heap.size, 3, none⟩ = some (.int .i64 d.b) ∧ w'.cell? ⟨w.heap.size, 4, none⟩ = some (.int .i64 d.c) ∧ w'.cell? ⟨w.heap.size, 5, none⟩ = some (.int .i64 d.imm) ∧ w'.cell? ⟨w.heap.size, 6, none⟩ = some (.slice u d.args.length q) ∧ w'.cell? ⟨0, n, none⟩ = some (.string (opW n))) (first | with_reducible exact s0 | with_reducible exact s2 | with_reducible exact ⟨cell_farT (by omega) (cell_farT (by omega) sF.1), cell_farT (by omega) (cell_farT (by omega) sF.2.1), cell_farT (by omega) (cell_farT (by omega) sF.2.2.1), cell_farT (by omega) (cell_farT (by omega) sF.2.2.2.1), cell_farT (by omega) (cell_farT (by omega) sF.2.2.2.2.1), cell_farT (by omega) (cell_farT (by omega) sF.2.2.2.2.2.1), cell_farT (by omega) (cell_farT (by omega) sF.2.2.2.2.2.2.1), cell_farT (by omega) (cell_farT (by omega) sF.2.2.2.2.2.2.2)⟩) (first | (go_at_call 55; refine (C _ (by exact K0)).mono ?_; rintro e w2 ⟨v2, r2, rfl, o2, b2⟩; have b2 := drop_drewT b2; have I2 := LS.box.keep (b2.mono (by omega)); have g2 := (cell_block (o := n) (b2.block _ (by exact hGW))).trans LS.glo; have s2 := I2.conj g2; rw [HOP.out] at s2; have R2 := LS.res.keep (b2.mono (by omega)); have O2 := LS.row.keep b2; have z2 := b2.size; have c0 := R2.c0; have c1 := R2.c1; have f0 := R2.f 0; have f1 := R2.f 1; have sF := s2) | (have hv2 := o2; refine step_sameT rfl (.tmp 19) (.tmp 21) 24 rfl rfl rfl (fun ty => append_zero g 1 1 LS.cap v2 r2 _ i0 Tryz.underlying24 HI.out) ?_) | fail)
      all_goals
        obtain ⟨e1, e2⟩ := line_end (t := opW n) (v1 := .slice (some ⟨g, 0, none⟩) 1 1) I2 O2 (by simp)
        have hr := heap_set (o := 1) (v := .slice (some ⟨g, 0, none⟩) 1 1) (heap_set (o := 0) (v := .string (opW n)) R2)
        clear s0 s2 sF I2 O2 c0 c1 f0 f1 g2
        go_wp2_with fail
        refine bodyPost_ret (v := .agg #[.string (opW n), .slice (some ⟨g, 0, none⟩) 1 1]) ((results_cell_row Tryz.results26 _ _ (w.heap.size + 1) 64 _ (0, 0) _ rfl hr Tryz.underlying64 rfl (by kernel_rfl)).trans (by rfl)) rfl ⟨some ⟨g, 0, none⟩, 1, ?_, ?_, e2⟩
        · rw [HTN.out, HNE.out]; rfl
        · rw [HNE.out]; exact e1
    · have C := HC1.out hE
      rw [HOP.out] at C
      have hopl : 0 < (opsD d).length := List.length_pos_iff.2 hE
      have HNE : Hid (instN d = [d.w] ++ opsD d) := HNN.out
      clear hE HC0 HC1 HNN
      go_region_held2 (fun w' => w'.cell? ⟨w.heap.size, 0, none⟩ = some (.int .i64 (n : Int)) ∧ w'.cell? ⟨w.heap.size, 1, none⟩ = some (.int .i64 d.w) ∧ w'.cell? ⟨w.heap.size, 2, none⟩ = some (.int .i64 d.a) ∧ w'.cell? ⟨w.heap.size, 3, none⟩ = some (.int .i64 d.b) ∧ w'.cell? ⟨w.heap.size, 4, none⟩ = some (.int .i64 d.c) ∧ w'.cell? ⟨w.heap.size, 5, none⟩ = some (.int .i64 d.imm) ∧ w'.cell? ⟨w.heap.size, 6, none⟩ = some (.slice u d.args.length q) ∧ w'.cell? ⟨0, n, none⟩ = some (.string (opW n))) (first | with_reducible exact s0 | with_reducible exact s2 | with_reducible exact s3 | with_reducible exact ⟨cell_farT (by omega) (cell_farT (by omega) sF.1), cell_farT (by omega) (cell_farT (by omega) sF.2.1), cell_farT (by omega) (cell_farT (by omega) sF.2.2.1), cell_farT (by omega) (cell_farT (by omega) sF.2.2.2.1), cell_farT (by omega) (cell_farT (by omega) sF.2.2.2.2.1), cell_farT (by omega) (cell_farT (by omega) sF.2.2.2.2.2.1), cell_farT (by omega) (cell_farT (by omega) sF.2.2.2.2.2.2.1), cell_farT (by omega) (cell_farT (by omega) sF.2.2.2.2.2.2.2)⟩) (first | (go_at_call 55; refine (C _ (by exact K0)).mono ?_; rintro e w2 ⟨h2, r2, rfl, o2, b2⟩; have b2 := drop_drewT b2; have I2 := LS.box.keep (b2.mono (by omega)); have g2 := (cell_block (o := n) (b2.block _ (by exact hGW))).trans LS.glo; have s2 := I2.conj g2; rw [HOP.out] at s2; have R2 := LS.res.keep (b2.mono (by omega)); have O2 := LS.row.keep b2; have z2 := b2.size) | (have hv2 := o2; refine step_ints rfl (.tmp 19) (.tmp 21) rfl (w.heap.size + 2) (.slice (some ⟨g, 0, none⟩) 1 1) [d.w] rfl O2 h2 (opsD d) r2 rfl o2 hopl (by simp; omega) (by omega) _ rfl ?_; intro g3 c3 w3 ho3 hg3 hat3 hlt3; have b3 : Below (w.heap.size + 2) w2 w3 := below_grownT hg3 (by omega) (fun k hk => (O2.ge hk).1); have I3 := I2.keep (b3.mono (by omega)); have g3g := (cell_block (o := n) (b3.block _ (by omega))).trans g2; have s3 := I3.conj g3g; rw [HOP.out] at s3; have R3 := R2.keep b3; have c0 := R3.c0; have c1 := R3.c1; have f0 := R3.f 0; have f1 := R3.f 1; have sF := s3) | fail)
      all_goals
        obtain ⟨e1, e2⟩ := line_end (t := opW n) (v1 := .slice (some ⟨g3, 0, none⟩) (1 + (opsD d).length) c3) I3 (by rw [show ([d.w] ++ opsD d).length = 1 + (opsD d).length by simp; omega]; exact ho3) (by simp; omega)
        have hr := heap_set (o := 1) (v := .slice (some ⟨g3, 0, none⟩) (1 + (opsD d).length) c3) (heap_set (o := 0) (v := .string (opW n)) R3)
        clear s0 s2 s3 sF I2 I3 O2 c0 c1 f0 f1 g2 g3g ho3 hg3 hat3
        go_wp2_with fail
        refine bodyPost_ret (v := .agg #[.string (opW n), .slice (some ⟨g3, 0, none⟩) (1 + (opsD d).length) c3]) ((results_cell_row Tryz.results26 _ _ (w.heap.size + 1) 64 _ (0, 0) _ rfl hr Tryz.underlying64 rfl (by kernel_rfl)).trans (by rfl)) rfl ⟨some ⟨g3, 0, none⟩, c3, ?_, ?_, e2⟩
        · rw [HTN.out, HNE.out, List.length_append]; rfl
        · rw [HNE.out]; exact e1
end Go.Proofs.YtclagbdomfgodaaGreatDoor
namespace Go.Proofs.YtclagbdomfgodaaGreatDoor
open Go.RowKit
set_option linter.unusedVariables false

theorem opW_size (k : Nat) : (opW k).size ≤ 6 := by unfold opW; rw [bs_size]; exact opWL_len k
theorem roomI (w : World) : Calls Tryz.prog 25 #[] w fun e w' => e = .returned (.agg #[.int .i64 60, .int .i64 10, .int .i64 3]) ∧ Below w.heap.size w w' := by
  go_enter Tryz.func25, Tryz.ntmps25
  go_wp2_with fail
  exact bodyPost_ret (v := .agg #[.int .i64 60, .int .i64 10, .int .i64 3]) (by simp [results, Tryz.results25, go_sem]) rfl ⟨rfl, (Below.refl _ _).alloc (Nat.le_refl _) _⟩
set_option maxHeartbeats 4000000 in
set_option maxRecDepth 100000 in
theorem instTextI (lo : Nat) (d : InstD) (u : Option Addr) (q : Nat) (w : World) (hm : d.args.length ≤ 1048576) (hk : IntsAt w lo u d.args) (hO : OpsAt w) (hP : PowAt w) :
    Calls Tryz.prog 14 #[.agg #[.int .i64 d.op, .int .i64 d.w, .int .i64 d.a, .int .i64 d.b, .int .i64 d.c, .int .i64 d.imm, .slice u d.args.length q]] w fun e w' => e = .returned (.string (instText d)) ∧ Below w.heap.size w w' := by
  have B0 : IBox d u q w _ := IBox.start (T := 33)
  go_enter Tryz.func14, Tryz.ntmps14
  go_wp2_with fail
  generalize (w.alloc (.cells #[.int .i64 d.op, .int .i64 d.w, .int .i64 d.a, .int .i64 d.b, .int .i64 d.c, .int .i64 d.imm, .slice u d.args.length q] 33)) = W at B0 ⊢
  have I0 := B0.keep (w2 := W.drew) ((Below.refl _ _).drew)
  have s0 := (⟨I0.c0, I0.c1, I0.c2, I0.c3, I0.c4, I0.c5, I0.c6⟩ : W.drew.cell? ⟨w.heap.size, 0, none⟩ = some (.int .i64 d.op) ∧ W.drew.cell? ⟨w.heap.size, 1, none⟩ = some (.int .i64 d.w) ∧ W.drew.cell? ⟨w.heap.size, 2, none⟩ = some (.int .i64 d.a) ∧ W.drew.cell? ⟨w.heap.size, 3, none⟩ = some (.int .i64 d.b) ∧ W.drew.cell? ⟨w.heap.size, 4, none⟩ = some (.int .i64 d.c) ∧ W.drew.cell? ⟨w.heap.size, 5, none⟩ = some (.int .i64 d.imm) ∧ W.drew.cell? ⟨w.heap.size, 6, none⟩ = some (.slice u d.args.length q))
  go_region_held2 (fun w' => w'.cell? ⟨w.heap.size, 0, none⟩ = some (.int .i64 d.op) ∧ w'.cell? ⟨w.heap.size, 1, none⟩ = some (.int .i64 d.w) ∧ w'.cell? ⟨w.heap.size, 2, none⟩ = some (.int .i64 d.a) ∧ w'.cell? ⟨w.heap.size, 3, none⟩ = some (.int .i64 d.b) ∧ w'.cell? ⟨w.heap.size, 4, none⟩ = some (.int .i64 d.c) ∧ w'.cell? ⟨w.heap.size, 5, none⟩ = some (.int .i64 d.imm) ∧ w'.cell? ⟨w.heap.size, 6, none⟩ = some (.slice u d.args.length q)) (first | with_reducible exact s0 | with_reducible exact s1 | with_reducible exact s2) (first | (go_at_call 25; refine (roomI _).mono ?_; rintro e w1 ⟨rfl, b1⟩; have b1 := drop_drewT b1; have I1 := B0.keep (b1.mono B0.size); have s1 := (⟨I1.c0, I1.c1, I1.c2, I1.c3, I1.c4, I1.c5, I1.c6⟩ : w1.cell? ⟨w.heap.size, 0, none⟩ = some (.int .i64 d.op) ∧ w1.cell? ⟨w.heap.size, 1, none⟩ = some (.int .i64 d.w) ∧ w1.cell? ⟨w.heap.size, 2, none⟩ = some (.int .i64 d.a) ∧ w1.cell? ⟨w.heap.size, 3, none⟩ = some (.int .i64 d.b) ∧ w1.cell? ⟨w.heap.size, 4, none⟩ = some (.int .i64 d.c) ∧ w1.cell? ⟨w.heap.size, 5, none⟩ = some (.int .i64 d.imm) ∧ w1.cell? ⟨w.heap.size, 6, none⟩ = some (.slice u d.args.length q))) | (go_at_call 24; refine (instShI lo d u q 60 10 3 _ hm (hk.keep (by exact agree_of_below I1.below lo))).mono ?_; rintro e w2 ⟨rfl, b2⟩; have I2 := I1.keep (b2.mono I1.size); have s2 := (⟨I2.c0, I2.c1, I2.c2, I2.c3, I2.c4, I2.c5, I2.c6⟩ : w2.cell? ⟨w.heap.size, 0, none⟩ = some (.int .i64 d.op) ∧ w2.cell? ⟨w.heap.size, 1, none⟩ = some (.int .i64 d.w) ∧ w2.cell? ⟨w.heap.size, 2, none⟩ = some (.int .i64 d.a) ∧ w2.cell? ⟨w.heap.size, 3, none⟩ = some (.int .i64 d.b) ∧ w2.cell? ⟨w.heap.size, 4, none⟩ = some (.int .i64 d.c) ∧ w2.cell? ⟨w.heap.size, 5, none⟩ = some (.int .i64 d.imm) ∧ w2.cell? ⟨w.heap.size, 6, none⟩ = some (.slice u d.args.length q))) | fail)
  all_goals
    obtain ⟨y0, y1, y2, y3, y4, y5, y6⟩ := s2
    clear s0 s1 I0 I1 b1 b2 B0
    cases hok : instB d 60 3 with
    | false =>
      have E : Hid (instText d = ⟨#[]⟩) := by show _ = _; unfold instText; rw [hok]; rfl
      go_wp2_with fail
      go_ret
      exact ⟨by rw [E.out]; rfl, I2.below⟩
    | true =>
      have hF := instB_inF hok
      have E : Hid (instText d = opW d.op.toNat ++ bs (numsL (instN d))) := by show _ = _; unfold instText; rw [if_pos hok]; rfl
      have LI := lineI lo d u q w2 hF (hk.keep (agree_of_below I2.below lo)) (hO.keep I2.below)
      have hsm := instN_sm hF
      have hsl := instN_len hF
      clear hok
      go_wp2_with fail
      refine LI.mono ?_
      rintro e w3 ⟨v3, c3, rfl, n3, b3⟩
      have B3 := I2.below.trans (b3.mono I2.below.size)
      have T := textI _ v3 c3 (opW d.op.toNat) (instN d) w3 n3 (by omega) hsm (opW_size _) (hP.keep B3)
      rw [← E.out] at T
      clear LI hF E
      generalize hY : instText d = Y at T
      have HY : Hid (instText d = Y) := hY
      clear hY
      generalize (instN d).length = N at T ⊢
      generalize opW d.op.toNat = Z at T ⊢
      go_wp2_with fail
      refine T.mono ?_
      rintro e w4 ⟨rfl, b4⟩
      have B4 := B3.trans (b4.mono B3.size)
      go_wp2_with fail
      go_ret
      exact ⟨by rw [HY.out]; rfl, B4⟩
end Go.Proofs.YtclagbdomfgodaaGreatDoor
namespace Go.Proofs.YtclagbdomfgodaaGreatDoor
open Go.RowKit
set_option linter.unusedVariables false

set_option maxHeartbeats 4000000 in
set_option maxRecDepth 100000 in
theorem l5instS (lo : Nat) (d : InstD) (u : Option Addr) (q : Nat) (w : World) (hF : InF d) (hk : IntsAt w lo u d.args) :
    Calls Tryz.prog 36 #[.agg #[.int .i64 d.op, .int .i64 d.w, .int .i64 d.a, .int .i64 d.b, .int .i64 d.c, .int .i64 d.imm, .slice u d.args.length q]] w fun e w' => e = .returned (.string (instTx d)) ∧ Below w.heap.size w w' := by
  obtain ⟨n, hn⟩ : ∃ n : Nat, d.op = n := ⟨d.op.toNat, by have := hF.op1; omega⟩
  have hn28 : n < 28 := by have := hF.op27; omega
  have hn28' : (n : Int) < 28 := by omega
  have hop : some (Value.int .i64 d.op) = some (.int .i64 (n : Int)) := by rw [hn]
  obtain ⟨m, hwm0, hm9⟩ := hF.w0
  have hwm : some (Value.int .i64 d.w) = some (.int .i64 (m : Int)) := by rw [hwm0]
  obtain ⟨im, him, him9⟩ := hF.imm0
  have hopl := hF.len
  have hops := hF.ops
  have hargs := hF.args
  have e1 : d.op.toNat = n := by omega
  have e2 : numsL [d.w] = 32 :: Lib.itoa (m : Int) := by simp [numsL, hwm0]
  have HTt : Hid (immB n = true → instTx d = opW n ++ ⟨#[32]⟩ ++ decB m ++ ⟨#[32]⟩ ++ decB im ++ bs (numsL (opsD d))) := by
    intro h
    have e3 : numsL [d.imm] = 32 :: Lib.itoa (im : Int) := by simp [numsL, him]
    unfold instTx instN
    rw [e1, nums_append, nums_append, hn, if_pos h, e2, e3, bs_blank, decB_bs, decB_bs]
    unfold opW
    simp only [bs_append, List.append_assoc, List.cons_append, List.nil_append]
  have HTf : Hid (¬ immB n = true → instTx d = opW n ++ ⟨#[32]⟩ ++ decB m ++ bs (numsL (opsD d))) := by
    intro h
    have e4 : numsL [] = [] := rfl
    unfold instTx instN
    rw [e1, nums_append, nums_append, hn, if_neg h, e2, e4, bs_blank, decB_bs]
    unfold opW
    simp only [bs_append, List.append_assoc, List.cons_append, List.nil_append]
  clear e1 e2
  have B0 : IBox d u q w _ := IBox.start (T := 33)
  have hDm := decB_size hm9
  have hDi := decB_size him9
  have hW6 := opW_size n
  have h32 : (⟨#[32]⟩ : ByteArray).size = 1 := rfl
  have hA1 : (opW n ++ ⟨#[32]⟩ : ByteArray).size ≤ 7 := by rw [ByteArray.size_append]; omega
  have hA2 : (opW n ++ ⟨#[32]⟩ ++ decB m : ByteArray).size ≤ 17 := by rw [ByteArray.size_append]; omega
  have HDM : Hid (∀ w1, Calls Tryz.prog 62 #[.int .i64 (m : Int)] w1 fun e w' => e = .returned (.string (decB m)) ∧ Below w1.heap.size w1 w') := fun w1 => decS m w1 hm9
  have HDI : Hid (∀ w1, Calls Tryz.prog 62 #[.int .i64 (im : Int)] w1 fun e w' => e = .returned (.string (decB im)) ∧ Below w1.heap.size w1 w') := fun w1 => decS im w1 him9
  have HIM : Hid (d.imm = im) := him
  have HOP : Hid (d.op = n) := hn
  have hNs : (bs (numsL (opsD d))).size ≤ 44 := by rw [bs_size]; have := nums_len _ hops; omega
  have hA3 : (opW n ++ ⟨#[32]⟩ ++ decB m ++ ⟨#[32]⟩ : ByteArray).size ≤ 18 := by rw [ByteArray.size_append]; omega
  have hA4 : (opW n ++ ⟨#[32]⟩ ++ decB m ++ ⟨#[32]⟩ ++ decB im : ByteArray).size ≤ 28 := by rw [ByteArray.size_append]; omega
  have HNU : Hid (∀ a c w1 lo, IntsAt w1 lo a (opsD d) → Calls Tryz.prog 63 #[.slice a (opsD d).length c] w1 fun e w' => e = .returned (.string (bs (numsL (opsD d)))) ∧ Below w1.heap.size w1 w') := fun a c w1 lo h => numsS lo a c (opsD d) w1 h (by omega) hops
  have HOS : Hid (∀ w1 lo, IntsAt w1 lo u d.args → Calls Tryz.prog 57 #[.agg #[.int .i64 (n : Int), .int .i64 (m : Int), .int .i64 d.a, .int .i64 d.b, .int .i64 d.c, .int .i64 (im : Int), .slice u d.args.length q]] w1 fun e w' => ∃ v r, e = .returned (.slice v (opsD d).length r) ∧ OwnAt w' w1.heap.size v (opsD d) ∧ Below w1.heap.size w1 w') := fun w1 lo h => by have h9 := operS lo d u q w1 (by omega) h; rw [hn, hwm0, him] at h9; exact h9
  generalize hZ : opW n = Z at *
  have HZ : Hid (opW n = Z) := hZ
  clear hZ
  generalize bs (numsL (opsD d)) = N at *
  generalize hD1 : decB (m : Int) = D1 at *
  generalize hD2 : decB (im : Int) = D2 at *
  have him' : some (Value.int .i64 d.imm) = some (.int .i64 (im : Int)) := by rw [him]
  clear hD1 hD2 him hwm0 hn
  go_enter Tryz.func36, Tryz.ntmps36
  go_wp2_with fail
  generalize (w.alloc (.cells #[.int .i64 d.op, .int .i64 d.w, .int .i64 d.a, .int .i64 d.b, .int .i64 d.c, .int .i64 d.imm, .slice u d.args.length q] 33)) = W at B0 ⊢
  refine wp_region_held_drew (S := fun w' => Below W.heap.size W w') (by kernel_rfl) ((Below.refl _ _).drew) (fun hHeld => ?_)
  refine wpAnyH_take (i := 1) (v := ?_) rfl (by kernel_rfl) (by kernel_rfl) (by kernel_rfl) (fun _ _ _ h => h) (Or.inl ⟨by rfl, ?_⟩) hHeld ?_
  rotate_left
  · intro w9 hS9
    go_simp
    try with_reducible rfl
  show wpAnyH _ _ _ _ _ _ _ (Act.put _ (some _) _) _
  simp only [Act.put, List.setIfInBounds_toArray, List.set_cons_zero, List.set_cons_succ]
  refine wpAnyH_take (i := 2) (v := ?_) rfl (by kernel_rfl) (by kernel_rfl) (by kernel_rfl) (fun _ _ _ h => h) (Or.inl ⟨by rfl, ?_⟩) hHeld ?_
  rotate_left
  · intro w9 hS9
    have g0 := (cell_block (o := 0) (hS9.block w.heap.size (by have := B0.size; omega))).trans (B0.c0.trans hop)
    go_simp
    try with_reducible rfl
  show wpAnyH _ _ _ _ _ _ _ (Act.put _ (some _) _) _
  simp only [Act.put, List.setIfInBounds_toArray, List.set_cons_zero, List.set_cons_succ]
  refine wpAnyH_take (i := 6) (v := ?_) rfl (by kernel_rfl) (by kernel_rfl) (by kernel_rfl) (fun _ _ _ h => h) (Or.inl ⟨by rfl, ?_⟩) hHeld ?_
  rotate_left
  · intro w9 hS9
    go_simp
    try with_reducible rfl
  show wpAnyH _ _ _ _ _ _ _ (Act.put _ (some _) _) _
  simp only [Act.put, List.setIfInBounds_toArray, List.set_cons_zero, List.set_cons_succ]
  refine wpAnyH_take (i := 7) (v := ?_) rfl (by kernel_rfl) (by kernel_rfl) (by kernel_rfl) (fun _ _ _ h => h) (Or.inl ⟨by rfl, ?_⟩) hHeld ?_
  rotate_left
  · intro w9 hS9
    have g0 := (cell_block (o := 1) (hS9.block w.heap.size (by have := B0.size; omega))).trans (B0.c1.trans hwm)
    go_simp
    try with_reducible rfl
  show wpAnyH _ _ _ _ _ _ _ (Act.put _ (some _) _) _
  simp only [Act.put, List.setIfInBounds_toArray, List.set_cons_zero, List.set_cons_succ]
  refine wpAnyH_ready (rs := [0]) (by kernel_rfl) (by simp) ?_
  refine AllReadyH.cons rfl (fun K hK => ?_) AllReadyH.nil
  · go_simp
    go_wp2_with (go_at_call 61; refine (opWordsS W.drew W.heap.size rfl).mono ?_; rintro e wA ⟨rfl, hc1, hz1, bA'⟩; have bA := hHeld.trans (bA'.mono hHeld.size); have f1 := (hc1 n hn28).trans (congrArg (fun z => some (Value.string z)) HZ.out); have hzA := hHeld.size; clear hc1)
    refine hK.out _ _ ?_ (fun hHeld2 => ?_)
    · exact bA
    clear hK K hHeld
    have hHeld := hHeld2
    clear hHeld2
    try simp only [Act.put, List.setIfInBounds_toArray, List.set_cons_zero, List.set_cons_succ]
    refine wpAnyH_take (i := 3) (v := ?_) rfl (by kernel_rfl) (by kernel_rfl) (by kernel_rfl) (fun _ _ _ h => h) (Or.inl ⟨by rfl, ?_⟩) hHeld ?_
    rotate_left
    · intro w9 hS9
      go_simp
      try with_reducible rfl
    show wpAnyH _ _ _ _ _ _ _ (Act.put _ (some _) _) _
    simp only [Act.put, List.setIfInBounds_toArray, List.set_cons_zero, List.set_cons_succ]
    refine wpAnyH_ready (rs := [4, 8]) (by kernel_rfl) (by simp) ?_
    refine AllReadyH.cons rfl (fun K hK => ?_) (AllReadyH.cons rfl (fun K hK => ?_) AllReadyH.nil)
    · go_simp
      refine hK.out _ _ ?_ (fun hHeld2 => ?_)
      · exact hHeld
      clear hK K hHeld
      have hHeld := hHeld2
      clear hHeld2
      try simp only [Act.put, List.setIfInBounds_toArray, List.set_cons_zero, List.set_cons_succ]
      refine wpAnyH_take (i := 5) (v := ?_) rfl (by kernel_rfl) (by kernel_rfl) (by kernel_rfl) (fun _ _ _ h => h) (Or.inl ⟨by rfl, ?_⟩) hHeld ?_
      rotate_left
      · intro w9 hS9
        go_simp
        rw [if_neg (by omega)]
        try with_reducible rfl
      show wpAnyH _ _ _ _ _ _ _ (Act.put _ (some _) _) _
      simp only [Act.put, List.setIfInBounds_toArray, List.set_cons_zero, List.set_cons_succ]
      refine wpAnyH_ready (rs := [8]) (by kernel_rfl) (by simp) ?_
      refine AllReadyH.cons rfl (fun K hK => ?_) AllReadyH.nil
      go_simp
      go_wp2_with (go_at_call 62; refine (HDM.out _).mono ?_; rintro e wB ⟨rfl, bB'⟩; have bB := hHeld.trans (bB'.mono hHeld.size))
      refine hK.out _ _ ?_ (fun hHeld2 => ?_)
      · exact bB
      clear hK K hHeld
      have hHeld := hHeld2
      clear hHeld2
      try simp only [Act.put, List.setIfInBounds_toArray, List.set_cons_zero, List.set_cons_succ]
      refine wpAnyH_take (i := 9) (v := ?_) rfl (by kernel_rfl) (by kernel_rfl) (by kernel_rfl) (fun _ _ _ h => h) (Or.inl ⟨by rfl, ?_⟩) hHeld ?_
      rotate_left
      · intro w9 hS9
        go_simp
        rw [if_neg (by omega)]
        try with_reducible rfl
      show wpAnyH _ _ _ _ _ _ _ (Act.put _ (some _) _) _
      simp only [Act.put, List.setIfInBounds_toArray, List.set_cons_zero, List.set_cons_succ]
      refine wpAnyH_take (i := 10) (v := ?_) rfl (by kernel_rfl) (by kernel_rfl) (by kernel_rfl) (fun _ _ _ h => h) (Or.inl ⟨by rfl, ?_⟩) hHeld ?_
      rotate_left
      · intro w9 hS9
        go_simp
        try with_reducible rfl
      show wpAnyH _ _ _ _ _ _ _ (Act.put _ (some _) _) _
      simp only [Act.put, List.setIfInBounds_toArray, List.set_cons_zero, List.set_cons_succ]
      refine wpAnyH_done (by kernel_rfl) ?_ _
      have IF := B0.keep (hHeld.mono B0.size)
      clear hHeld
      have y0 := IF.c0.trans hop
      have y1 := IF.c1.trans hwm
      have y2 := IF.c2
      have y3 := IF.c3
      have y4 := IF.c4
      have y5 := IF.c5.trans him'
      have y6 := IF.c6
      by_cases hc1 : (n : Int) = 21
      · have n1 : ((n : Int) == 21) = true := by simpa using hc1
        have HT : Hid (instTx d = _) := HTt.out (by simp [immB, hc1])
        clear hc1
        go_wp2_with fail
        refine (HDI.out _).mono ?_
        rintro e wE ⟨rfl, bE⟩
        have IE := IF.keep (bE.mono IF.size)
        clear y0 y1 y2 y3 y4 y5 y6
        have y0 := IE.c0.trans hop
        have y1 := IE.c1.trans hwm
        have y2 := IE.c2
        have y3 := IE.c3
        have y4 := IE.c4
        have y5 := IE.c5.trans him'
        have y6 := IE.c6
        go_wp2_with fail
        refine (HOS.out _ lo (hk.keep (agree_of_below IE.below lo))).mono ?_
        rintro e wC ⟨v, r, rfl, hoC, bC⟩
        have IC := IE.keep (bC.mono IE.size)
        go_wp2_with fail
        refine (HNU.out v r wC _ hoC.ints).mono ?_
        rintro e wD ⟨rfl, bD⟩
        have ID := IC.keep (bD.mono IC.size)
        go_wp2_with fail
        go_ret
        exact ⟨by rw [HT.out]; rfl, ID.below⟩
      · by_cases hc2 : (n : Int) = 26
        · have n1 : ((n : Int) == 21) = false := by simpa using hc1
          have n2 : ((n : Int) == 26) = true := by simpa using hc2
          have HT : Hid (instTx d = _) := HTt.out (by simp [immB, hc2])
          clear hc1 hc2
          go_wp2_with fail
          refine (HDI.out _).mono ?_
          rintro e wE ⟨rfl, bE⟩
          have IE := IF.keep (bE.mono IF.size)
          clear y0 y1 y2 y3 y4 y5 y6
          have y0 := IE.c0.trans hop
          have y1 := IE.c1.trans hwm
          have y2 := IE.c2
          have y3 := IE.c3
          have y4 := IE.c4
          have y5 := IE.c5.trans him'
          have y6 := IE.c6
          go_wp2_with fail
          refine (HOS.out _ lo (hk.keep (agree_of_below IE.below lo))).mono ?_
          rintro e wC ⟨v, r, rfl, hoC, bC⟩
          have IC := IE.keep (bC.mono IE.size)
          go_wp2_with fail
          refine (HNU.out v r wC _ hoC.ints).mono ?_
          rintro e wD ⟨rfl, bD⟩
          have ID := IC.keep (bD.mono IC.size)
          go_wp2_with fail
          go_ret
          exact ⟨by rw [HT.out]; rfl, ID.below⟩
        · have n1 : ((n : Int) == 21) = false := by simpa using hc1
          have n2 : ((n : Int) == 26) = false := by simpa using hc2
          have HT : Hid (instTx d = _) := HTf.out (by simp [immB, hc1, hc2])
          clear hc1 hc2
          go_wp2_with fail
          refine (HOS.out _ lo (hk.keep (agree_of_below IF.below lo))).mono ?_
          rintro e wC ⟨v, r, rfl, hoC, bC⟩
          have IC := IF.keep (bC.mono IF.size)
          go_wp2_with fail
          refine (HNU.out v r wC _ hoC.ints).mono ?_
          rintro e wD ⟨rfl, bD⟩
          have ID := IC.keep (bD.mono IC.size)
          go_wp2_with fail
          go_ret
          exact ⟨by rw [HT.out]; rfl, ID.below⟩
    · go_simp
      go_wp2_with (go_at_call 62; refine (HDM.out _).mono ?_; rintro e wB ⟨rfl, bB'⟩; have bB := hHeld.trans (bB'.mono hHeld.size); have f2 := (cell_block (o := n) (bB'.block _ (by omega))).trans f1)
      refine hK.out _ _ ?_ (fun hHeld2 => ?_)
      · exact bB
      clear hK K hHeld
      have hHeld := hHeld2
      clear hHeld2
      try simp only [Act.put, List.setIfInBounds_toArray, List.set_cons_zero, List.set_cons_succ]
      refine wpAnyH_ready (rs := [4]) (by kernel_rfl) (by simp) ?_
      refine AllReadyH.cons rfl (fun K hK => ?_) AllReadyH.nil
      go_simp
      refine hK.out _ _ ?_ (fun hHeld2 => ?_)
      · exact hHeld
      clear hK K hHeld
      have hHeld := hHeld2
      clear hHeld2
      try simp only [Act.put, List.setIfInBounds_toArray, List.set_cons_zero, List.set_cons_succ]
      refine wpAnyH_take (i := 5) (v := ?_) rfl (by kernel_rfl) (by kernel_rfl) (by kernel_rfl) (fun _ _ _ h => h) (Or.inl ⟨by rfl, ?_⟩) hHeld ?_
      rotate_left
      · intro w9 hS9
        go_simp
        rw [if_neg (by omega)]
        try with_reducible rfl
      show wpAnyH _ _ _ _ _ _ _ (Act.put _ (some _) _) _
      simp only [Act.put, List.setIfInBounds_toArray, List.set_cons_zero, List.set_cons_succ]
      refine wpAnyH_take (i := 9) (v := ?_) rfl (by kernel_rfl) (by kernel_rfl) (by kernel_rfl) (fun _ _ _ h => h) (Or.inl ⟨by rfl, ?_⟩) hHeld ?_
      rotate_left
      · intro w9 hS9
        go_simp
        rw [if_neg (by omega)]
        try with_reducible rfl
      show wpAnyH _ _ _ _ _ _ _ (Act.put _ (some _) _) _
      simp only [Act.put, List.setIfInBounds_toArray, List.set_cons_zero, List.set_cons_succ]
      refine wpAnyH_take (i := 10) (v := ?_) rfl (by kernel_rfl) (by kernel_rfl) (by kernel_rfl) (fun _ _ _ h => h) (Or.inl ⟨by rfl, ?_⟩) hHeld ?_
      rotate_left
      · intro w9 hS9
        go_simp
        try with_reducible rfl
      show wpAnyH _ _ _ _ _ _ _ (Act.put _ (some _) _) _
      simp only [Act.put, List.setIfInBounds_toArray, List.set_cons_zero, List.set_cons_succ]
      refine wpAnyH_done (by kernel_rfl) ?_ _
      have IF := B0.keep (hHeld.mono B0.size)
      clear hHeld
      have y0 := IF.c0.trans hop
      have y1 := IF.c1.trans hwm
      have y2 := IF.c2
      have y3 := IF.c3
      have y4 := IF.c4
      have y5 := IF.c5.trans him'
      have y6 := IF.c6
      by_cases hc1 : (n : Int) = 21
      · have n1 : ((n : Int) == 21) = true := by simpa using hc1
        have HT : Hid (instTx d = _) := HTt.out (by simp [immB, hc1])
        clear hc1
        go_wp2_with fail
        refine (HDI.out _).mono ?_
        rintro e wE ⟨rfl, bE⟩
        have IE := IF.keep (bE.mono IF.size)
        clear y0 y1 y2 y3 y4 y5 y6
        have y0 := IE.c0.trans hop
        have y1 := IE.c1.trans hwm
        have y2 := IE.c2
        have y3 := IE.c3
        have y4 := IE.c4
        have y5 := IE.c5.trans him'
        have y6 := IE.c6
        go_wp2_with fail
        refine (HOS.out _ lo (hk.keep (agree_of_below IE.below lo))).mono ?_
        rintro e wC ⟨v, r, rfl, hoC, bC⟩
        have IC := IE.keep (bC.mono IE.size)
        go_wp2_with fail
        refine (HNU.out v r wC _ hoC.ints).mono ?_
        rintro e wD ⟨rfl, bD⟩
        have ID := IC.keep (bD.mono IC.size)
        go_wp2_with fail
        go_ret
        exact ⟨by rw [HT.out]; rfl, ID.below⟩
      · by_cases hc2 : (n : Int) = 26
        · have n1 : ((n : Int) == 21) = false := by simpa using hc1
          have n2 : ((n : Int) == 26) = true := by simpa using hc2
          have HT : Hid (instTx d = _) := HTt.out (by simp [immB, hc2])
          clear hc1 hc2
          go_wp2_with fail
          refine (HDI.out _).mono ?_
          rintro e wE ⟨rfl, bE⟩
          have IE := IF.keep (bE.mono IF.size)
          clear y0 y1 y2 y3 y4 y5 y6
          have y0 := IE.c0.trans hop
          have y1 := IE.c1.trans hwm
          have y2 := IE.c2
          have y3 := IE.c3
          have y4 := IE.c4
          have y5 := IE.c5.trans him'
          have y6 := IE.c6
          go_wp2_with fail
          refine (HOS.out _ lo (hk.keep (agree_of_below IE.below lo))).mono ?_
          rintro e wC ⟨v, r, rfl, hoC, bC⟩
          have IC := IE.keep (bC.mono IE.size)
          go_wp2_with fail
          refine (HNU.out v r wC _ hoC.ints).mono ?_
          rintro e wD ⟨rfl, bD⟩
          have ID := IC.keep (bD.mono IC.size)
          go_wp2_with fail
          go_ret
          exact ⟨by rw [HT.out]; rfl, ID.below⟩
        · have n1 : ((n : Int) == 21) = false := by simpa using hc1
          have n2 : ((n : Int) == 26) = false := by simpa using hc2
          have HT : Hid (instTx d = _) := HTf.out (by simp [immB, hc1, hc2])
          clear hc1 hc2
          go_wp2_with fail
          refine (HOS.out _ lo (hk.keep (agree_of_below IF.below lo))).mono ?_
          rintro e wC ⟨v, r, rfl, hoC, bC⟩
          have IC := IF.keep (bC.mono IF.size)
          go_wp2_with fail
          refine (HNU.out v r wC _ hoC.ints).mono ?_
          rintro e wD ⟨rfl, bD⟩
          have ID := IC.keep (bD.mono IC.size)
          go_wp2_with fail
          go_ret
          exact ⟨by rw [HT.out]; rfl, ID.below⟩
end Go.Proofs.YtclagbdomfgodaaGreatDoor
namespace Go.Proofs.YtclagbdomfgodaaGreatDoor
open Go.RowKit
set_option linter.unusedVariables false

end Go.Proofs.YtclagbdomfgodaaGreatDoor
