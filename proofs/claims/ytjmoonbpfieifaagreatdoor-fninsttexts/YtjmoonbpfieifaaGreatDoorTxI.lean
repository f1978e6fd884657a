/- The text of an instruction: the program's and the model's. -/
import Derived.Test.YtjmoonbpfieifaaGreatDoorDecQ
import Derived.Test.YtjmoonbpfieifaaGreatDoorOpsQ
import Derived.Test.YtjmoonbpfieifaaGreatDoorFmD
import Derived.Test.YtjmoonbpfieifaaGreatDoorFmEQ
import Derived.Deep.RegionWith
import Derived.Deep.RegionHeld2
namespace Go.Proofs.YtjmoonbpfieifaaGreatDoor
open Go.RowKit
set_option linter.unusedVariables false

def immB (op : Int) : Bool := op == 21 || op == 26
/-- The numbers of an instruction's line. -/
def instN (d : InstD) : List Int := [d.w] ++ ((if immB d.op = true then [d.imm] else []) ++ opsD d)
def instTx (d : InstD) : ByteArray := opW d.op.toNat ++ bs (numsL (instN d))
def instText (d : InstD) : ByteArray := if instB d 60 3 = true then instTx d else ⟨#[]⟩
/-- What is known of an instruction in its form. -/
structure InF (d : InstD) : Prop where
  op1 : 1 ≤ d.op
  op27 : d.op ≤ 27
  w0 : ∃ n : Nat, d.w = n ∧ n ≤ 4294967295
  imm0 : ∃ n : Nat, d.imm = n ∧ n ≤ 4294967295
  ops : SmN (opsD d)
  len : (opsD d).length ≤ 4
  args : d.args.length ≤ 4
theorem width_small {x : Int} (h : widthB x = true) : ∃ n : Nat, x = n ∧ n ≤ 32 := by
  simp [widthB] at h
  exact ⟨x.toNat, by omega, by omega⟩
theorem top_small {x : Int} (h : widthB x = true) : topZ x ≤ 4294967296 := by
  simp [widthB] at h
  rcases h with ((rfl | rfl) | rfl) | rfl <;> decide
theorem instB_inF {d : InstD} (h : instB d 60 3 = true) : InF d := by
  simp only [instB, Bool.and_eq_true] at h
  obtain ⟨⟨⟨hw, hi⟩, hf⟩, ho⟩ := h
  have hop : ¬ (d.op < 1 ∨ 27 < d.op) := fun hc => by rw [wB, if_pos hc] at hw; cases hw
  have hws : ∃ n : Nat, d.w = n ∧ n ≤ 32 := by
    rw [wB, if_neg hop] at hw
    split at hw
    · exact ⟨0, by simpa using hw, by omega⟩
    · split at hw
      · exact ⟨8, by simpa using hw, by omega⟩
      · exact width_small hw
  refine ⟨by omega, by omega, ?_, ?_, ?_, ?_, ?_⟩
  · obtain ⟨n, hn, hl⟩ := hws; exact ⟨n, hn, by omega⟩
  · rw [iB] at hi
    split at hi
    · simp only [valueB, Bool.and_eq_true, decide_eq_true_eq] at hi
      have := top_small hi.1
      exact ⟨d.imm.toNat, by omega, by omega⟩
    · split at hi
      · simp [belowB] at hi
        exact ⟨d.imm.toNat, by omega, by omega⟩
      · exact ⟨0, by simpa using hi, by omega⟩
  · intro x hx
    have := List.all_eq_true.1 ho x hx
    simp [belowB] at this
    exact ⟨x.toNat, by omega, by omega⟩
  · have ha : d.op = 26 → d.args.length ≤ 4 := fun e => by
      rw [fB, if_pos e] at hf
      simp at hf
      omega
    unfold opsD
    split
    · simp
    · split
      · simp
      · split
        · simp
        · split
          · rename_i h; exact ha h
          · simp
  · rw [fB] at hf
    split at hf
    · simp at hf; omega
    · simp at hf; have := hf.1.1.1; simp [this]
theorem instN_sm {d : InstD} (h : InF d) : SmN (instN d) := by
  intro x hx
  unfold instN at hx
  rcases List.mem_append.1 hx with hx | hx
  · rw [List.mem_singleton.1 hx]; exact h.w0
  · rcases List.mem_append.1 hx with hx | hx
    · split at hx
      · rw [List.mem_singleton.1 hx]; exact h.imm0
      · simp at hx
    · exact h.ops x hx
theorem instN_len {d : InstD} (h : InF d) : (instN d).length ≤ 6 := by
  have := h.len
  unfold instN
  split <;> simp <;> omega
theorem hasImmI (op : Int) (w : World) : Calls Tryz.prog 44 #[.int .i64 op] w fun e w' => e = .returned (.bool (immB op)) ∧ w' = w := by
  by_cases h1 : op = 21
  · subst h1
    go_enter Tryz.func44, Tryz.ntmps44
    go_wp2_with fail
    go_ret
    exact ⟨rfl, rfl⟩
  · have n1 : (op == 21) = false := by simpa using h1
    have E : Hid (immB op = (op == 26)) := by show _ = _; simp [immB, n1]
    go_enter Tryz.func44, Tryz.ntmps44
    go_wp2_with fail
    go_ret
    exact ⟨by rw [E.out]; rfl, rfl⟩
theorem append_zero {t ty : TypeId} (g n c : Nat) (hc : n ≤ c) (v : Option Addr) (r : Nat) (w : World) (i : TypeInfo) (ht : Tryz.prog.underlying t = some (.slice 2)) (hi : Tryz.prog.info? 2 = some i) :
    (Builtin.append_ #[t, t] ty #[.slice (some ⟨g, 0, none⟩) n c, .slice v 0 r]).run Tryz.prog w = .ok (.slice (some ⟨g, 0, none⟩) n c) w := by
  cases v with
  | none => simp [Builtin.append_, run_underlying ht, sizeOf, typeInfo, hi, Builtin.lenOf, Builtin.firstCells, storeCells, hc]
  | some a => simp [Builtin.append_, run_underlying ht, sizeOf, typeInfo, hi, Builtin.lenOf, Builtin.firstCells, storeCells, loadCells, loadCellsFrom, hc]
theorem step_sameT {w : World} {ops : Array Oper} {o : Oper} {a : Act} {K : Act → World → Prop} {Q : Exit → Act → World → Prop} {E : Prop} (hgd : o.guard = none) (s x : Operand) (t : TypeId) (ho : o.op = .call { callee := .builtin .append, args := #[s, x], argTypes := #[t, t] })
    {sv xv : Value} (hs : a.eval s = sv) (hx : a.eval x = xv) (hr : ∀ ty, (Builtin.append_ #[t, t] ty #[sv, xv]).run Tryz.prog w = .ok sv w) (h : K (a.put o.dst sv) w) :
    if Region.wanted o (yielded ops a.tmps) = true then Oper.wp Tryz.prog o a w K Q else E := by
  rw [if_pos (by simp [Region.wanted, hgd])]
  have hr := hr o.type
  unfold Oper.wp execOp
  simp only [ho, resolve, invoke, builtin, Sem.run_bind, Sem.run_pure, Result.andThen_ok, List.map_toArray, List.map_cons, List.map_nil, hs, hx, hr]
  exact h
/-- The box of an instruction, as it stays. -/
structure IBox (d : InstD) (u : Option Addr) (q : Nat) (w w1 : World) : Prop where
  c0 : w1.cell? ⟨w.heap.size, 0, none⟩ = some (.int .i64 d.op)
  c1 : w1.cell? ⟨w.heap.size, 1, none⟩ = some (.int .i64 d.w)
  c2 : w1.cell? ⟨w.heap.size, 2, none⟩ = some (.int .i64 d.a)
  c3 : w1.cell? ⟨w.heap.size, 3, none⟩ = some (.int .i64 d.b)
  c4 : w1.cell? ⟨w.heap.size, 4, none⟩ = some (.int .i64 d.c)
  c5 : w1.cell? ⟨w.heap.size, 5, none⟩ = some (.int .i64 d.imm)
  c6 : w1.cell? ⟨w.heap.size, 6, none⟩ = some (.slice u d.args.length q)
  below : Below w.heap.size w w1
  size : w.heap.size + 1 ≤ w1.heap.size
theorem IBox.start {d : InstD} {u : Option Addr} {q : Nat} {w : World} {T : TypeId} : IBox d u q w (w.alloc (.cells #[.int .i64 d.op, .int .i64 d.w, .int .i64 d.a, .int .i64 d.b, .int .i64 d.c, .int .i64 d.imm, .slice u d.args.length q] T)) := by
  have hb := heap_alloc_last w (.cells #[.int .i64 d.op, .int .i64 d.w, .int .i64 d.a, .int .i64 d.b, .int .i64 d.c, .int .i64 d.imm, .slice u d.args.length q] T)
  exact ⟨(cell_of_heap hb).trans rfl, (cell_of_heap hb).trans rfl, (cell_of_heap hb).trans rfl, (cell_of_heap hb).trans rfl, (cell_of_heap hb).trans rfl, (cell_of_heap hb).trans rfl, (cell_of_heap hb).trans rfl, (Below.refl _ _).alloc (Nat.le_refl _) _, by simp⟩
theorem IBox.keep {d : InstD} {u : Option Addr} {q : Nat} {w w1 w2 : World} (h : IBox d u q w w1) (k : Below (w.heap.size + 1) w1 w2) : IBox d u q w w2 := by
  have e : ∀ o, w2.cell? ⟨w.heap.size, o, none⟩ = w1.cell? ⟨w.heap.size, o, none⟩ := fun o => cell_block (k.block _ (by omega))
  exact ⟨(e 0).trans h.c0, (e 1).trans h.c1, (e 2).trans h.c2, (e 3).trans h.c3, (e 4).trans h.c4, (e 5).trans h.c5, (e 6).trans h.c6, h.below.trans (k.mono (by omega)), Nat.le_trans h.size k.size⟩
end Go.Proofs.YtjmoonbpfieifaaGreatDoor
