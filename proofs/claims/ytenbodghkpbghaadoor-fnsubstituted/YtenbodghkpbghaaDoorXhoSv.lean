import Derived.Test.YtenbodghkpbghaaDoorGnYSv
import Derived.Deep.RegionHeld2
import Derived.Test.YtenbodghkpbghaaDoorRdrSv
import Derived.Test.YtenbodghkpbghaaDoorGnVSv
import Derived.Deep.DeepCutAuto
import Derived.Laws.ResultCell
import Derived.Test.YtenbodghkpbghaaDoorKndSv
import Derived.Test.YtenbodghkpbghaaDoorOwnSv
namespace Go.Proofs.YtenbodghkpbghaaDoor
open Go.RowKit
set_option linter.unusedVariables false
section
variable {P : Program} {md : Region.Mode} {ops : Array Oper} {Q : Exit → Act → World → Prop} {S : World → Prop} {E : Nat → Bool}
def wpAnyX (P : Program) (md : Region.Mode) (ops : Array Oper) (Q : Exit → Act → World → Prop) (S : World → Prop) (E : Nat → Bool) : Nat → Array Bool → Act → World → Prop
 | 0, listed, a, w => Region.ready md ops listed = [] ∧ Q .normal a w
 | fuel + 1, listed, a, w =>
  (Region.ready md ops listed = [] → Q .normal a w) ∧
  ∀ i ∈ Region.ready md ops listed, wpOp P ops Q i (fun a' w' => (E i = true ∨ S w') ∧ wpAnyX P md ops Q S E fuel (listed.setIfInBounds i true) a' w') a w
theorem wpAny_of_x : ∀ (fuel : Nat) (listed : Array Bool) (a : Act) (w : World), wpAnyX P md ops Q S E fuel listed a w → wpAny P md ops Q fuel listed a w
 | 0, _, _, _, h => h
 | fuel + 1, _, _, _, h => ⟨h.1, fun i hi => wpOp_mono (fun a' w' h' => wpAny_of_x fuel _ a' w' h'.2) (h.2 i hi)⟩
theorem wpAnyX_first {i : Nat} {oi : Oper} {v : Value} (hi : ops[i]? = some oi) (hsel : ∀ (j : Nat) (o : Oper) cs b, ops[j]? = some o → o.op ≠ .select cs b)
  (hE : ∀ j oj, ops[j]? = some oj → E j = true → ∃ e ∈ oj.after, Region.binds md e = true ∧ e.on = i)
  (hQ : ∀ c a w, Q (.panic c) (a.put oi.dst v) w → Q (.panic c) a w) :
  ∀ (fuel : Nat) (listed : Array Bool) (a : Act) (w : World),
   (∀ j oj, ops[j]? = some oj → j ≠ i → listed.getD j true = false → (∀ e ∈ oj.after, Region.binds md e = true → e.on ≠ i) → oi.apart ops oj = true) →
   i ∈ Region.ready md ops listed → YieldsIf P ops S oi v a → S w →
   wpAnyX P md ops Q S E fuel (listed.setIfInBounds i true) (a.put oi.dst v) w → wpAnyX P md ops Q S E (fuel + 1) listed a w := by
 intro fuel
 induction fuel with
 | zero =>
  intro listed a w _ hr hy hS H
  refine ⟨fun h => (by rw [h] at hr; cases hr), fun j hj => ?_⟩
  by_cases hji : j = i
  ·subst hji; exact hy.wpOp hi hS ⟨.inr hS, H⟩
  ·have := ready_mono hj hji
   rw [H.1] at this
   cases this
 | succ fuel ih =>
  intro listed a w hfree hr hy hS H
  refine ⟨fun h => (by rw [h] at hr; cases hr), fun j hj => ?_⟩
  by_cases hji : j = i
  ·subst hji; exact hy.wpOp hi hS ⟨.inr hS, H⟩
  ·have h1 := H.2 j (ready_mono hj hji)
   obtain ⟨hjun, oj, hoj, hall⟩ := mem_ready.1 hj
   have hnot : ∀ e ∈ oj.after, Region.binds md e = true → e.on ≠ i := fun e he hb heq => by
    have h1 := hall e he hb
    have h0 := (mem_ready.1 hr).1
    rw [heq] at h1
    rcases Nat.lt_or_ge i listed.size with h' | h'
    ·simp [h'] at h0 h1; rw [h0] at h1; cases h1
    ·simp [Array.getElem?_eq_none h'] at h1
   have hEj : ¬ E j = true := fun h => by
    obtain ⟨e, he, hb, hon⟩ := hE j oj hoj h
    exact hnot e he hb hon
   have h2 := wpOp_putIf hoj (hfree j oj hoj hji hjun hnot) (fun cs b => hsel i oi cs b hi) (fun cs b => hsel j oj cs b hoj) hQ hy h1
   have hfree' : ∀ k ok, ops[k]? = some ok → k ≠ i → (listed.setIfInBounds j true).getD k true = false →
     (∀ e ∈ ok.after, Region.binds md e = true → e.on ≠ i) → oi.apart ops ok = true := fun k ok hk hki hun hno => by
    refine hfree k ok hk hki ?_ hno
    by_cases hjk : j = k
    ·subst hjk; exact hjun
    ·rw [getD_set_ne true hjk] at hun; exact hun
   refine wpOp_mono (fun a' w' h3 => ⟨h3.2.1, ih (listed.setIfInBounds j true) a' w' hfree' (ready_mono hr (Ne.symm hji)) h3.1 (h3.2.1.resolve_left hEj) ?_⟩) h2
   rw [Array.setIfInBounds_comm _ _ hji]
   exact h3.2.2
def exB (md : Region.Mode) (ops : Array Oper) (E : Nat → Bool) (i : Nat) : Bool := (List.range ops.size).all fun j => !E j || (match ops[j]? with | some oj => oj.after.toList.any fun e => Region.binds md e && decide (e.on = i) | none => true)
theorem exB_spec {i : Nat} (h : exB md ops E i = true) : ∀ j oj, ops[j]? = some oj → E j = true → ∃ e ∈ oj.after, Region.binds md e = true ∧ e.on = i := fun j oj hj hE => by
 unfold exB at h
 rw [List.all_eq_true] at h
 have h1 := h j (List.mem_range.2 (Array.getElem?_eq_some_iff.1 hj).1)
 rw [hE, hj] at h1
 simp only [Bool.not_true, Bool.false_or, List.any_eq_true, Bool.and_eq_true, decide_eq_true_eq] at h1
 obtain ⟨e, he, hb, ho⟩ := h1
 exact ⟨e, Array.mem_toList_iff.1 he, hb, ho⟩
theorem takeX (i : Nat) {oi : Oper} {v : Value} {fuel : Nat} {listed : Array Bool} {s : Tmp} {a : Act} {w : World} (hi : ops[i]? = some oi) (hd : oi.dst = some s)
  (hc : (exB md ops E i && (Region.noSelect ops && (Region.free md ops listed i && (Region.ready md ops listed).contains i))) = true)
  (hQ : ∀ c a w, Q (.panic c) (a.put oi.dst v) w → Q (.panic c) a w) (hy : YieldsIf P ops S oi v a) (hS : S w)
  (h : wpAnyX P md ops Q S E fuel (listed.setIfInBounds i true) { a with tmps := a.tmps.setIfInBounds s v } w) : wpAnyX P md ops Q S E (fuel + 1) listed a w := by
 simp only [Bool.and_eq_true] at hc
 refine wpAnyX_first hi (Region.noSelect_spec hc.2.1) (exB_spec hc.1) hQ fuel listed a w (Region.free_spec hi hc.2.2.1) (by simpa using hc.2.2.2) hy hS ?_
 rw [hd]
 exact h
theorem readyX (i : Nat) {o : Oper} {fuel : Nat} {listed : Array Bool} {a : Act} {w : World} (ho : ops[i]? = some o) (hr : Region.ready md ops listed = [i])
  (h : ∀ K' : Act → World → Prop, Shut (∀ a w, (E i = true ∨ S w) → wpAnyX P md ops Q S E fuel (listed.setIfInBounds i true) a w → K' a w) → if Region.wanted o (yielded ops a.tmps) = true then Oper.wp P o a w K' Q else K' (a.put o.dst undef) w) : wpAnyX P md ops Q S E (fuel + 1) listed a w :=
 ⟨fun h0 => (by rw [hr] at h0; cases h0), fun j hj => (by
  rw [hr] at hj
  obtain rfl := List.mem_singleton.1 hj
  exact wpOp_step ho (fun K' hK => h K' (fun a w hS hW => hK a w ⟨hS, hW⟩)))⟩
theorem doneX {listed : Array Bool} {a : Act} {w : World} (hr : Region.ready md ops listed = []) (h : Q .normal a w) : ∀ fuel, wpAnyX P md ops Q S E fuel listed a w
 | 0 => ⟨hr, h⟩
 | _ + 1 => ⟨fun _ => h, by rw [hr]; simp⟩
theorem startX {id : Nat} {a : Act} {w : World} (S : World → Prop) (E : Nat → Bool) (hm : P.follows .mixedOrders = true) (h : wpAnyX P .any ops Q S E ops.size (Array.replicate ops.size false) a w.drew) : (Code.region id ops true).wp P Q a w :=
 wp_region_any hm (wpAny_of_x _ _ _ _ h)
end
theorem step_runP {P : Program} {ops : Array Oper} {o : Oper} {a : Act} {w w1 : World} {K : Act → World → Prop} {Q : Exit → Act → World → Prop} {E : Prop} {v' : Value} (hgd : o.guard = none) (s x : Operand) (t : TypeId)
  (ho : o.op = .call { callee := .builtin .append, args := #[s, x], argTypes := #[t, t] }) {v1 v2 : Value} (h1 : a.eval s = v1) (h2 : a.eval x = v2) (hrun : (Builtin.append_ #[t, t] o.type #[v1, v2]).run P w = .ok v' w1) (h : K (a.put o.dst v') w1) :
  if Region.wanted o (yielded ops a.tmps) = true then Oper.wp P o a w K Q else E := by
 have hw : Region.wanted o (yielded ops a.tmps) = true := by simp [Region.wanted, hgd]
 rw [if_pos hw]
 unfold Oper.wp execOp
 simp only [ho, resolve, invoke, builtin, Sem.run_bind, Sem.run_pure, Result.andThen_ok, List.map_toArray, List.map_cons, List.map_nil, h1, h2, hrun]
 exact h
end Go.Proofs.YtenbodghkpbghaaDoor
namespace Go.Proofs.YtenbodghkpbghaaDoor
open Go.RowKit Go.Deep
set_option linter.unusedVariables false
set_option linter.unusedSimpArgs false
theorem results_pair {P : Program} {fn : Func} {p u : Tmp} {ty : TypeId} (h : fn.results = #[.cell p ty, .tmp u]) (tmps : Array Value) (w : World) (g : Nat) (cs : Array Value)
  (hp : tmps.getD p undef = .pointer (some ⟨g, 0, none⟩)) (hl : (loadVar ty ⟨g, 0, none⟩).run P w = .ok (.agg cs) w) :
  (results fn tmps).run P w = .ok (.tuple #[.agg cs, tmps.getD u undef]) w := by
 have hp' : tmps[p]?.getD undef = .pointer (some ⟨g, 0, none⟩) := by simpa using hp
 rw [results_cell_tmp h]
 simp [hp', asAddr, hl, Result.andThen]
theorem field_modS (u : Option Addr) (n c : Nat) (w : World) : (Instr.field 59 (.agg #[.slice u n c]) 0).run Tryd.prog w = .ok (.slice u n c) w := by
 simp [Instr.field, go_sem, asAgg]
theorem push_big {ops : Array Oper} {rest : List Oper} {o : Oper} {a : Act} {Q : Exit → Act → World → Prop} {w : World} (hgd : o.guard = none) (s x : Operand)
  (ho : o.op = .call { callee := .builtin .append, args := #[s, x], argTypes := #[24, 24] })
  (base : Nat) (v : Value) (l : List Int) (hs : a.eval s = v) (hown : Row w base v l) (n : Int) (b c : Nat) (hx : a.eval x = .slice (some ⟨b, 0, none⟩) 1 c) (hc : w.cell? ⟨b, 0, none⟩ = some (.int .i64 n)) (hl : l.length ≤ 4000000000000) (hbase : base ≤ w.heap.size)
  (h : ∀ v' w', Row w' base v' (l ++ [n]) → w.grownBy w' v.ownBlock → wpList Tryd.prog ops Q rest (a.put o.dst v') w') : wpList Tryd.prog ops Q (o :: rest) a w := by
 obtain ⟨i0, hi, hz0, hz1, hz2⟩ := info_parts infoI
 refine wpList_append_own w hgd s x 24 ho base 2 i0 (.int .i64 0) 1 8 Tryd.underlying24 hi hz0 hz1 hz2 rfl (by decide) v l.length (l.map (Value.int .i64)) hs hown ⟨b, 0, none⟩ 1 c [.int .i64 n] hx (by simp) ?_ (by simp [Value.oneCell']) (by unfold maxLen; omega) (by omega) hbase ?_
 ·intro j u hj
  match j, hj with
  | 0, hj => rw [Addr.add_lit]; simp at hj; rw [← hj]; exact hc
 ·intro v' w' h1 h2 _
  refine h v' w' ?_ h2
  unfold Row
  rw [List.length_append, List.map_append]
  exact h1
theorem Row.intsB {w : World} {base : Nat} {v : Value} {l : List Int} (hm : l.length ≤ 9223372036854775807) (h : Row w base v l) : ∃ u c, v = .slice u l.length c ∧ IntsAt w base u l := by
 rcases h.2 with ⟨hv, hn⟩ | ⟨g, cap, cur, hv, hb, hg, hnc, _, hcs, htk⟩
 ·exact ⟨none, 0, by rw [hv, hn], by omega, .inl (List.length_eq_zero_iff.1 hn)⟩
 ·refine ⟨_, cap, hv, by omega, .inr ⟨g, 0, rfl, hb, (Array.getElem?_eq_some_iff.1 hg).1, fun i hi => ?_⟩⟩
  have e : (cur.toList.take (l.length * 1))[i]? = (l.map (Value.int .i64))[i]? := by rw [htk]
  rw [List.getElem?_take, if_pos (by omega)] at e
  simp [hi] at e
  rw [Nat.zero_add, cell_of_heap hg]
  simpa [List.getD, hi] using e
theorem cntL_sm {l : List BlockD} (h : ∀ b ∈ l, SmBlock b) : cntL l ≤ l.length * 2097152 := by
 induction l with
 | nil => exact Nat.le_refl _
 | cons x r ih =>
  have h1 := ih fun b hb => h b (List.mem_cons_of_mem _ hb)
  have h2 := h x (List.mem_cons_self ..)
  have h3 := h2.1.1
  have h4 := h2.2.1
  rw [show cntL (x :: r) = x.phis.length + x.insts.length + cntL r from rfl, List.length_cons, Nat.succ_mul]
  omega
theorem cnt_sm {d : FuncD} (h : SmFunc d) (h4 : d.blocks.length ≤ 400) : cntF d ≤ 1000000000 := by
 have h1 := cntL_sm h.2.2
 have h2 := h.1
 have h3 := Nat.mul_le_mul_right 2097152 h4
 unfold cntF
 omega
structure DuS (g : Nat) (a0 : Option Addr) (len cap : Nat) (wT wr : World) : Prop where
 rd : Rd g a0 len cap wr
 lt : g < wT.heap.size
 old : ∀ b, b < wT.heap.size → b ≠ g → wr.heap[b]? = wT.heap[b]?
 size : wT.heap.size ≤ wr.heap.size
 os : wr.os = wT.os
 tape : wr.tape = wT.tape
 output : wr.output = wT.output
theorem DuS.draw {g len cap : Nat} {a0 : Option Addr} {wT wr w2 : World} (h : DuS g a0 len cap wT wr) (r : Rd g a0 len cap w2) (k : wr.grownBy w2 (some g)) : DuS g a0 len cap wT w2 :=
 ⟨r, h.lt, fun b hb hn => (k.block b (Nat.lt_of_lt_of_le hb h.size) (by intro e; exact hn (Option.some.inj e))).trans (h.old b hb hn), Nat.le_trans h.size k.size, k.os.trans h.os, k.tape.trans h.tape, k.output.trans h.output⟩
theorem DuS.push {g len cap : Nat} {a0 : Option Addr} {wT wr w2 : World} {r : Option Nat} (h : DuS g a0 len cap wT wr) (k : wr.grownBy w2 r) (hr : ∀ q, r = some q → wT.heap.size ≤ q) : DuS g a0 len cap wT w2 :=
 ⟨rd_keep h.rd k.size fun b hb => k.block b (by have := h.lt; have := h.size; omega) (fun e => by have := hr b e.symm; have := h.lt; omega), h.lt, fun b hb hn => (k.block b (Nat.lt_of_lt_of_le hb h.size) (fun e => by have := hr b e.symm; omega)).trans (h.old b hb hn), Nat.le_trans h.size k.size, k.os.trans h.os, k.tape.trans h.tape, k.output.trans h.output⟩
theorem DuS.keep {g len cap : Nat} {a0 : Option Addr} {wT wr w2 : World} (h : DuS g a0 len cap wT wr) (k : Below wr.heap.size wr w2) : DuS g a0 len cap wT w2 :=
 h.push (r := none) ⟨k.os, k.tape, k.output, k.size, fun b hb _ => k.block b hb⟩ (fun q e => by cases e)
theorem grown_row {w w' : World} {base g : Nat} {v : Value} {l : List Int} (h : Row w base v l) (k : w.grownBy w' (some g)) (hg : g < base) : Row w' base v l :=
 h.block fun q hq hl => k.block q hl (fun e => by have := (h.ge hq).1; have := Option.some.inj e; omega)
set_option maxHeartbeats 8000000 in
set_option maxRecDepth 100000 in
theorem drawSubst (a0 : Option Addr) (len cap : Nat) (w : World) (hl : len ≤ 1048576) (hc : Code a0 len w.heap.size w) :
  Calls Tryd.prog 6 #[.slice a0 len cap] w fun e w' => ∃ (d : FuncD) (up ub : Option Addr) (cp cb : Nat) (l : List Int) (u : Option Addr) (c : Nat), e = .returned (.tuple #[.agg #[.slice up d.params.length cp, .int .i64 d.ret, .slice ub d.blocks.length cb], .slice u l.length c]) ∧ l.length ≤ 2000000000 ∧ SmFunc d ∧ IntsAt w' w.heap.size up d.params ∧ BlocksAt w' w.heap.size ub d.blocks ∧ IntsAt w' w.heap.size u l ∧ Below w.heap.size w w' := by
 have hb0 : Below w.heap.size w (w.alloc (.cells #[.slice none 0 0, .int .i64 0, .slice none 0 0] 27)) := (Below.refl _ _).alloc (Nat.le_refl _) _
 have hrd := rd_open (cap := cap) hl (hc.below hb0)
 have PM := module_two _ a0 len cap _ hrd
 have hsz : ((w.alloc (.cells #[.slice none 0 0, .int .i64 0, .slice none 0 0] 27))).heap.size = w.heap.size + 1 := by simp
 rw [hsz] at PM
 go_enter Tryd.func6, Tryd.ntmps6
 go_wp2_with (first | (go_at_call 21; refine (open_any _ _ _ _).mono ?_; rintro e w0 ⟨rfl, rfl⟩; simp only [hsz]) | (go_at_call 22; refine PM.mono ?_; rintro e w2 ⟨gm, n, cm, rfl, hn1, d, up, ub, cp, cb, r0, r1, r2, hsm, hone, hin, hbl, hrd2, hold, hs2, o1, o2, o3⟩; have hi0 : (0 : Int) < (n : Int) := (by omega); have hfld := (field_modS (some ⟨gm, 0, none⟩) n cm w2); go_upto_region 3 with fail))
 have hz2 : w.heap.size + 2 ≤ w2.heap.size := by have := hs2; simp at this; omega
 have hRb : w2.heap[w.heap.size]? = some (.cells #[.slice none 0 0, .int .i64 0, .slice none 0 0] 27 (0, 0)) := (hold w.heap.size (by simp; omega) (by omega)).trans (heap_alloc2_old _ _ _)
 have hW2 : ∀ b, b < w.heap.size → w2.heap[b]? = w.heap[b]? := fun b hb => (hold b (by simp; omega) (by omega)).trans ((Below.heap_alloc _ _ _ (by simp; omega)).trans (Below.heap_alloc _ _ _ hb))
 obtain ⟨wT, hwT⟩ : ∃ wT, wT = w2.alloc (.cells #[.slice up d.params.length cp, .int .i64 d.ret, .slice ub d.blocks.length cb] 27) := ⟨_, rfl⟩
 have hT : wT.heap[w2.heap.size]? = some (.cells #[.slice up d.params.length cp, .int .i64 d.ret, .slice ub d.blocks.length cb] 27 (0, 0)) := by rw [hwT]; exact heap_alloc_last _ _
 have hBT : Below w2.heap.size w2 wT := by rw [hwT]; exact (Below.refl _ _).alloc (Nat.le_refl _) _
 have hsT : wT.heap.size = w2.heap.size + 1 := by rw [hwT]; simp
 have HW : Hid (∀ b, b < w.heap.size → wT.heap[b]? = w.heap[b]?) := fun b hb => (hBT.block b (by omega)).trans (hW2 b hb)
 have HRT : Hid (At wT w.heap.size #[.slice none 0 0, .int .i64 0, .slice none 0 0] 27) := (hBT.block w.heap.size (by omega)).trans hRb
 have HTT : Hid (At wT w2.heap.size #[.slice up d.params.length cp, .int .i64 d.ret, .slice ub d.blocks.length cb] 27) := hT
 have hlo : ((((w.alloc (.cells #[.slice none 0 0, .int .i64 0, .slice none 0 0] 27))).alloc (.cells #[.slice a0 len cap, .int .i64 0] 81))).heap.size = w.heap.size + 2 := by simp
 rw [hlo] at hin hbl
 have HI := hin.keep (agree_of_below hBT (w.heap.size + 2))
 have HBl := hbl.keep (agree_of_below hBT (w.heap.size + 2))
 have HOS : Hid (wT.os = w.os ∧ wT.tape = w.tape ∧ wT.output = w.output) := ⟨hBT.os.trans o1, hBT.tape.trans o2, hBT.output.trans o3⟩
 have HD0 : Hid (DuS (w.heap.size + 1) a0 len cap wT wT) := ⟨rd_keep hrd2 hBT.size fun b hb => hBT.block b (by omega), by omega, fun _ _ _ => rfl, Nat.le_refl _, rfl, rfl, rfl⟩
 have hc400 := cnt_sm hsm hone.2
 have HSM : Hid (SmFunc d) := hsm
 have AG : Hid (∀ wr, DuS (w.heap.size + 1) a0 len cap wT wr → Agree (w.heap.size + 2) wT wr) := fun wr h => ⟨h.size, fun b h1 h2 => h.old b h2 (by omega)⟩
 have HII : Hid (IntsAt wT (w.heap.size + 2) up d.params) := HI
 have HBB : Hid (BlocksAt wT (w.heap.size + 2) ub d.blocks) := HBl
 obtain ⟨cn, hcn⟩ : ∃ cn : Nat, cntF d = cn := ⟨_, rfl⟩
 rw [hcn] at hc400
 have CNT : Hid (∀ wr, DuS (w.heap.size + 1) a0 len cap wT wr → Calls Tryd.prog 23 #[.agg #[.slice up d.params.length cp, .int .i64 d.ret, .slice ub d.blocks.length cb]] wr fun e w' => e = .returned (.int .i64 cn) ∧ Below wr.heap.size wr w') := fun wr h => by
  rw [← hcn]; exact countS_any (w.heap.size + 2) d up cp ub cb wr HSM.out (HBB.out.keep (AG.out wr h))
 rw [← hwT]
 clear hwT PM hrd hfld r0 r1 r2 hin hbl HI HBl hcn hW2 hRb hT hrd2 hold o1 o2 o3 hs2 hsm hone hlo hb0 hsz hBT
 obtain ⟨T, hTz⟩ : ∃ T, w2.heap.size = T := ⟨_, rfl⟩
 rw [hTz] at hsT HTT hz2 ⊢
 clear hTz w2
 go_upto_region 4 with fail
 have hbL : Below wT.heap.size wT (wT.alloc (.cells #[] 2)) := (Below.refl _ _).alloc (Nat.le_refl _) _
 have HD1 : Hid (DuS (w.heap.size + 1) a0 len cap wT (wT.alloc (.cells #[] 2))) := HD0.out.keep hbL
 have HR1 : Hid (Row (wT.alloc (.cells #[] 2)) wT.heap.size (.slice (some ⟨wT.heap.size, 0, none⟩) 0 0) []) := Row.lit wT _ (Nat.le_refl _)
 clear HD0 hbL
 generalize (wT.alloc (.cells #[] 2)) = W1 at *
 go_wp2_with fail
 go_loopw [6, 7] (fun v i wr => ∃ (k : Nat) (l : List Int), k ≤ cn ∧ i = .int .i64 k ∧ Hid (l.length = k) ∧ Hid (Row wr wT.heap.size v l) ∧ Hid (DuS (w.heap.size + 1) a0 len cap wT wr)) (fun _ i _ => cn - (intOf i).toNat)
 case atStart => exact ⟨0, [], by omega, rfl, rfl, (by have h := HR1.out; rw [hsT] at h ⊢; exact h), HD1.out⟩
 case round =>
  clear HR1 HD1
  obtain ⟨k, l, hk, rfl, hlk, HR, HD⟩ := hrel
  obtain ⟨w4, hwo⟩ : ∃ w1, w1 = wr := ⟨_, rfl⟩
  subst hwo
  have t0 : w4.cell? ⟨T, 0, none⟩ = some (.slice up d.params.length cp) := (cell_block (HD.out.old T (by omega) (by omega))).trans (HTT.out.cell 0)
  have t1 : w4.cell? ⟨T, 1, none⟩ = some (.int .i64 d.ret) := (cell_block (HD.out.old T (by omega) (by omega))).trans (HTT.out.cell 1)
  have t2 : w4.cell? ⟨T, 2, none⟩ = some (.slice ub d.blocks.length cb) := (cell_block (HD.out.old T (by omega) (by omega))).trans (HTT.out.cell 2)
  have PC := CNT.out w4 HD.out
  go_wp2_with fail
  refine PC.mono ?_
  rintro e w5 ⟨rfl, b5⟩
  clear PC t0 t1 t2
  have HD5 : Hid (DuS (w.heap.size + 1) a0 len cap wT w5) := HD.out.keep b5
  have HR5 : Hid (Row w5 wT.heap.size u6 l) := HR.out.keep b5
  clear HD HR b5
  by_cases hkc : k < cn
  ·have PO := once_any (w.heap.size + 1) a0 len cap 6 w5 HD5.out.rd (by omega)
   go_wp2_with fail
   refine PO.mono ?_
   rintro e w6 ⟨b, rfl, r6, g6⟩
   have HD6 : Hid (DuS (w.heap.size + 1) a0 len cap wT w6) := HD5.out.draw r6 g6
   have HR6 : Hid (Row w6 wT.heap.size u6 l) := grown_row HR5.out g6 (by have := HD5.out.lt; omega)
   clear PO r6 g6 HD5 HR5
   cases b with
   | true =>
    have t0 : w6.cell? ⟨T, 0, none⟩ = some (.slice up d.params.length cp) := (cell_block (HD6.out.old T (by omega) (by omega))).trans (HTT.out.cell 0)
    have t1 : w6.cell? ⟨T, 1, none⟩ = some (.int .i64 d.ret) := (cell_block (HD6.out.old T (by omega) (by omega))).trans (HTT.out.cell 1)
    have t2 : w6.cell? ⟨T, 2, none⟩ = some (.slice ub d.blocks.length cb) := (cell_block (HD6.out.old T (by omega) (by omega))).trans (HTT.out.cell 2)
    have PC := CNT.out w6 HD6.out
    have hw1 : wrap64 ((cn : Int) - 1) = (cn : Int) - 1 := by unfold wrap64; omega
    go_wp2_with fail
    refine PC.mono ?_
    rintro e w7 ⟨rfl, b7⟩
    clear PC t0 t1 t2
    have HD7 : Hid (DuS (w.heap.size + 1) a0 len cap wT w7) := HD6.out.keep b7
    have HR7 : Hid (Row w7 wT.heap.size u6 l) := HR6.out.keep b7
    have PF := off_any (w.heap.size + 1) a0 len cap 0 ((cn : Int) - 1) w7 HD7.out.rd (by omega) (by omega) (by omega)
    clear HD6 HR6 b7
    go_wp2_with fail
    try rw [show IntKind.i64.wrap ((cn : Int) - 1) = (cn : Int) - 1 from by rw [IntKind.wrap_i64]; omega]
    refine PF.mono ?_
    rintro e w8 ⟨y, rfl, _, _, r8, g8⟩
    have HD8 : Hid (DuS (w.heap.size + 1) a0 len cap wT w8) := HD7.out.draw r8 g8
    have HR8 : Hid (Row w8 wT.heap.size u6 l) := grown_row HR7.out g8 (by have := HD7.out.lt; omega)
    clear PF r8 g8 HD7 HR7 hw1
    have hz8 := HD8.out.size
    have hll : l.length ≤ 1000000000 := by have := hlk.out; omega
    go_wp2_with (at_builtin; refine push_big rfl _ _ rfl wT.heap.size u6 l rfl (HR8.out.alloc _) y _ 1 rfl (by exact one_cell_at rfl) (by omega) (by simp; omega) ?_; intro v9 w9 ho9 hg9)
    have HR9 : Hid (Row w9 wT.heap.size v9 (l ++ [y])) := ho9
    have HD9 : Hid (DuS (w.heap.size + 1) a0 len cap wT w9) := (HD8.out.keep ((Below.refl _ _).alloc (Nat.le_refl _) _)).push hg9 (fun q hq => (HR8.out.ge hq).1)
    clear ho9 hg9 HR8 HD8 hll hz8
    go_wp2_with fail
    go_roundw
    case rel => exact ⟨k + 1, _, by omega, by go_num, (by have := hlk.out; show _ = _; rw [List.length_append]; simp; omega), HR9.out, HD9.out⟩
    case measure => simp [intOf]; omega
   | false =>
    have hz8 := HD6.out.size
    have hll : l.length ≤ 1000000000 := by have := hlk.out; omega
    go_wp2_with (at_builtin; refine push_big rfl _ _ rfl wT.heap.size u6 l rfl (HR6.out.alloc _) (k : Int) _ 1 rfl (by exact one_cell_at rfl) (by omega) (by simp; omega) ?_; intro v9 w9 ho9 hg9)
    have HR9 : Hid (Row w9 wT.heap.size v9 (l ++ [(k : Int)])) := ho9
    have HD9 : Hid (DuS (w.heap.size + 1) a0 len cap wT w9) := (HD6.out.keep ((Below.refl _ _).alloc (Nat.le_refl _) _)).push hg9 (fun q hq => (HR6.out.ge hq).1)
    clear ho9 hg9 HR6 HD6 hll hz8
    go_wp2_with fail
    go_roundw
    case rel => exact ⟨k + 1, _, by omega, by go_num, (by have := hlk.out; show _ = _; rw [List.length_append]; simp; omega), HR9.out, HD9.out⟩
    case measure => simp [intOf]; omega
  ·have PO := once_any (w.heap.size + 1) a0 len cap 20 w5 HD5.out.rd (by omega)
   have hll : l.length ≤ 1000000000 := by have := hlk.out; omega
   go_wp2_with fail
   refine PO.mono ?_
   rintro e w6 ⟨b, rfl, r6, g6⟩
   have HD6 : Hid (DuS (w.heap.size + 1) a0 len cap wT w6) := HD5.out.draw r6 g6
   have HR6 : Hid (Row w6 wT.heap.size u6 l) := grown_row HR5.out g6 (by have := HD5.out.lt; omega)
   clear PO r6 g6 HD5 HR5
   have END : Hid (∀ (v : Value) (l2 : List Int) (W : World), l2.length ≤ 2000000000 → Row W wT.heap.size v l2 → DuS (w.heap.size + 1) a0 len cap wT W → ∃ (u : Option Addr) (c : Nat), v = .slice u l2.length c ∧ IntsAt ((((W.setCell ⟨w.heap.size, 0, none⟩ (.slice up d.params.length cp)).setCell ⟨w.heap.size, 1, none⟩ (.int .i64 d.ret)).setCell ⟨w.heap.size, 2, none⟩ (.slice ub d.blocks.length cb))) w.heap.size up d.params ∧ BlocksAt ((((W.setCell ⟨w.heap.size, 0, none⟩ (.slice up d.params.length cp)).setCell ⟨w.heap.size, 1, none⟩ (.int .i64 d.ret)).setCell ⟨w.heap.size, 2, none⟩ (.slice ub d.blocks.length cb))) w.heap.size ub d.blocks ∧ IntsAt ((((W.setCell ⟨w.heap.size, 0, none⟩ (.slice up d.params.length cp)).setCell ⟨w.heap.size, 1, none⟩ (.int .i64 d.ret)).setCell ⟨w.heap.size, 2, none⟩ (.slice ub d.blocks.length cb))) w.heap.size u l2 ∧ Below w.heap.size w ((((W.setCell ⟨w.heap.size, 0, none⟩ (.slice up d.params.length cp)).setCell ⟨w.heap.size, 1, none⟩ (.int .i64 d.ret)).setCell ⟨w.heap.size, 2, none⟩ (.slice ub d.blocks.length cb))) ∧ At ((((W.setCell ⟨w.heap.size, 0, none⟩ (.slice up d.params.length cp)).setCell ⟨w.heap.size, 1, none⟩ (.int .i64 d.ret)).setCell ⟨w.heap.size, 2, none⟩ (.slice ub d.blocks.length cb))) w.heap.size #[.slice up d.params.length cp, .int .i64 d.ret, .slice ub d.blocks.length cb] 27) := fun v l2 W h1 h2 h3 => by
    obtain ⟨u, c, hv, hi⟩ := h2.intsB (by omega)
    have hset : ∀ b, b ≠ w.heap.size → ((((W.setCell ⟨w.heap.size, 0, none⟩ (.slice up d.params.length cp)).setCell ⟨w.heap.size, 1, none⟩ (.int .i64 d.ret)).setCell ⟨w.heap.size, 2, none⟩ (.slice ub d.blocks.length cb))).heap[b]? = W.heap[b]? := fun b hb => by rw [Below.heap_setCell _ _ _ _ hb, Below.heap_setCell _ _ _ _ hb, Below.heap_setCell _ _ _ _ hb]
    have hz9 : W.heap.size ≤ ((((W.setCell ⟨w.heap.size, 0, none⟩ (.slice up d.params.length cp)).setCell ⟨w.heap.size, 1, none⟩ (.int .i64 d.ret)).setCell ⟨w.heap.size, 2, none⟩ (.slice ub d.blocks.length cb))).heap.size := by simp only [World.size_setCell]; exact Nat.le_refl _
    have hag : Agree (w.heap.size + 2) W ((((W.setCell ⟨w.heap.size, 0, none⟩ (.slice up d.params.length cp)).setCell ⟨w.heap.size, 1, none⟩ (.int .i64 d.ret)).setCell ⟨w.heap.size, 2, none⟩ (.slice ub d.blocks.length cb))) := ⟨hz9, fun b k1 k2 => hset b (by omega)⟩
    have hAR : At W w.heap.size #[.slice none 0 0, .int .i64 0, .slice none 0 0] 27 := (h3.old _ (by omega) (by omega)).trans HRT.out
    have hsz := h3.size
    refine ⟨u, c, hv, ((HII.out.keep (AG.out W h3)).keep hag).low (by omega), ((HBB.out.keep (AG.out W h3)).keep hag).low (by omega), ((hi.low (by omega)).keep hag).low (by omega), ⟨?_, ?_, ?_, by omega, fun b hb => ?_⟩, ?_⟩
    ·exact ((set_os _ _ _).trans ((set_os _ _ _).trans ((set_os _ _ _).trans (h3.os.trans HOS.out.1))))
    ·exact ((set_tape _ _ _).trans ((set_tape _ _ _).trans ((set_tape _ _ _).trans (h3.tape.trans HOS.out.2.1))))
    ·exact ((set_output _ _ _).trans ((set_output _ _ _).trans ((set_output _ _ _).trans (h3.output.trans HOS.out.2.2))))
    ·exact (hset b (by omega)).trans ((h3.old b (by omega) (by omega)).trans (HW.out b hb))
    ·exact heap_set (o := 2) (heap_set (o := 1) (heap_set (o := 0) hAR))
   cases b with
   | false =>
    have t0 : w6.cell? ⟨T, 0, none⟩ = some (.slice up d.params.length cp) := (cell_block (HD6.out.old T (by omega) (by omega))).trans (HTT.out.cell 0)
    have t1 : w6.cell? ⟨T, 1, none⟩ = some (.int .i64 d.ret) := (cell_block (HD6.out.old T (by omega) (by omega))).trans (HTT.out.cell 1)
    have t2 : w6.cell? ⟨T, 2, none⟩ = some (.slice ub d.blocks.length cb) := (cell_block (HD6.out.old T (by omega) (by omega))).trans (HTT.out.cell 2)
    have z0 : w6.cell? ⟨w.heap.size, 0, none⟩ = some (.slice none 0 0) := (cell_block (HD6.out.old _ (by omega) (by omega))).trans (HRT.out.cell 0)
    have z1 : w6.cell? ⟨w.heap.size, 1, none⟩ = some (.int .i64 0) := (cell_block (HD6.out.old _ (by omega) (by omega))).trans (HRT.out.cell 1)
    have z2 : w6.cell? ⟨w.heap.size, 2, none⟩ = some (.slice none 0 0) := (cell_block (HD6.out.old _ (by omega) (by omega))).trans (HRT.out.cell 2)
    have zf : ∀ o, w6.frozen? ⟨w.heap.size, o, none⟩ = false := fun o => froz_of_heap (show w6.heap[w.heap.size]? = _ from (HD6.out.old _ (by omega) (by omega)).trans HRT.out)
    obtain ⟨u, c, rfl, e1, e2, e3, e4, e5⟩ := END.out u6 l w6 (by omega) HR6.out HD6.out
    go_wp2_with fail
    refine bodyPost_ret (v := .tuple #[.agg #[.slice up d.params.length cp, .int .i64 d.ret, .slice ub d.blocks.length cb], .slice u l.length c]) ((results_pair Tryd.results6 _ _ w.heap.size _ rfl (run_loadVar_row _ _ 27 _ _ (0, 0) _ e5 Tryd.underlying27 rfl (by kernel_rfl))).trans (by rfl)) rfl ⟨d, up, ub, cp, cb, l, u, c, rfl, by omega, HSM.out, e1, e2, e3, e4⟩
   | true =>
    have s0 : At w6.drew T #[.slice up d.params.length cp, .int .i64 d.ret, .slice ub d.blocks.length cb] 27 := (HD6.out.old T (by omega) (by omega)).trans HTT.out
    have row3 : Hid (∀ W : World, At W T #[.slice up d.params.length cp, .int .i64 d.ret, .slice ub d.blocks.length cb] 27 → W.cell? ⟨T, 0, none⟩ = some (.slice up d.params.length cp) ∧ W.cell? ⟨T, 1, none⟩ = some (.int .i64 d.ret) ∧ W.cell? ⟨T, 2, none⟩ = some (.slice ub d.blocks.length cb)) := fun W h => ⟨h.cell 0, h.cell 1, h.cell 2⟩
    go_upto_region 11 with fail
    refine startX (fun w' => At w' T #[.slice up d.params.length cp, .int .i64 d.ret, .slice ub d.blocks.length cb] 27) (fun _ => false) (by kernel_rfl) ?_
    refine takeX 0 (v := ?_) rfl rfl (by kernel_rfl) (fun _ _ _ h => h) (yesH (by rfl) ?_) s0 ?_
    rotate_left
    ·intro w9 hS9
     obtain ⟨g0, g1, g2⟩ := row3.out w9 hS9
     go_simp
     try with_reducible rfl
    try simp only [Act.put, sA, sB, sC]
    refine takeX 1 (v := ?_) rfl rfl (by kernel_rfl) (fun _ _ _ h => h) (yesH (by rfl) ?_) s0 ?_
    rotate_left
    ·intro w9 hS9
     obtain ⟨g0, g1, g2⟩ := row3.out w9 hS9
     go_simp
     try with_reducible rfl
    try simp only [Act.put, sA, sB, sC]
    have hbA : Below w6.heap.size w6 (w6.alloc (.cells #[.int .i64 0] 2)) := (Below.refl _ _).alloc (Nat.le_refl _) _
    have s7 : At (w6.alloc (.cells #[.int .i64 0] 2)).drew T #[.slice up d.params.length cp, .int .i64 d.ret, .slice ub d.blocks.length cb] 27 := (hbA.block T (by have := HD6.out.size; omega)).trans (show w6.heap[T]? = _ from s0)
    obtain ⟨i0, hi, hz0, hz1, hzz⟩ := info_parts infoI
    have hz6 := HD6.out.size
    obtain ⟨v9, w9, hrun, hown, hgr, _⟩ := run_append_own_at (P := Tryd.prog) (w6.alloc (.cells #[.int .i64 0] 2)).drew wT.heap.size 24 24 2 i0 (.int .i64 0) 1 8 Tryd.underlying24 hi hz0 hz1 hzz rfl (by decide) u6 l.length (l.map (Value.int .i64)) (show Row (w6.alloc (.cells #[.int .i64 0] 2)).drew wT.heap.size u6 l from HR6.out.keep hbA.drew) ⟨w6.heap.size, 0, none⟩ 1 1 [.int .i64 0] (by simp) (World.news_of_block (show At (w6.alloc (.cells #[.int .i64 0] 2)).drew w6.heap.size #[.int .i64 0] 2 from At.new w6 _ _)) (by simp [Value.oneCell']) (by unfold maxLen; omega) (by omega) (by show wT.heap.size ≤ (w6.alloc _).heap.size; have := hbA.size; omega)
    have HR9 : Row w9 wT.heap.size v9 (l ++ [0]) := by
     unfold Row
     rw [List.length_append, List.map_append]
     exact hown
    have HD9 : DuS (w.heap.size + 1) a0 len cap wT w9 := (HD6.out.keep hbA.drew).push hgr (fun q hq => (HR6.out.ge hq).1)
    obtain ⟨u, c, rfl, e1, e2, e3, e4, e5⟩ := END.out v9 (l ++ [0]) w9 (by rw [List.length_append]; simp; omega) HR9 HD9
    have s9 : At w9 T #[.slice up d.params.length cp, .int .i64 d.ret, .slice ub d.blocks.length cb] 27 := (HD9.old T (by omega) (by omega)).trans HTT.out
    have HDD : Hid (DuS (w.heap.size + 1) a0 len cap wT w9) := HD9
    have z0 : w9.cell? ⟨w.heap.size, 0, none⟩ = some (.slice none 0 0) := (cell_block (HDD.out.old _ (by omega) (by omega))).trans (HRT.out.cell 0)
    have z1 : w9.cell? ⟨w.heap.size, 1, none⟩ = some (.int .i64 0) := (cell_block (HDD.out.old _ (by omega) (by omega))).trans (HRT.out.cell 1)
    have z2 : w9.cell? ⟨w.heap.size, 2, none⟩ = some (.slice none 0 0) := (cell_block (HDD.out.old _ (by omega) (by omega))).trans (HRT.out.cell 2)
    have zf : ∀ o, w9.frozen? ⟨w.heap.size, o, none⟩ = false := fun o => froz_of_heap (show w9.heap[w.heap.size]? = _ from (HDD.out.old _ (by omega) (by omega)).trans HRT.out)
    have s10 : At (((w9.setCell ⟨w.heap.size, 0, none⟩ (.slice up d.params.length cp)).setCell ⟨w.heap.size, 1, none⟩ (.int .i64 d.ret)).setCell ⟨w.heap.size, 2, none⟩ (.slice ub d.blocks.length cb)) T #[.slice up d.params.length cp, .int .i64 d.ret, .slice ub d.blocks.length cb] 27 := ((s9.setOther (by omega)).setOther (by omega)).setOther (by omega)
    clear HR9 HD9 HDD hown hgr HR6 HD6 hbA hi hz0 hz1 hzz
    refine readyX 2 rfl (by kernel_rfl) (fun K hK => ?_)
    go_simp
    refine hK.out _ _ (.inr s7) ?_
    clear hK K s7 s0
    try simp only [Act.put, sA, sB, sC]
    refine readyX 3 rfl (by kernel_rfl) (fun K hK => ?_)
    refine step_runP rfl _ _ _ rfl rfl rfl hrun ?_
    refine hK.out _ _ (.inr s9) ?_
    clear hK K hrun s9
    try simp only [Act.put, sA, sB, sC]
    refine readyX 4 rfl (by kernel_rfl) (fun K hK => ?_)
    go_simp
    refine hK.out _ _ (.inr s10) ?_
    clear hK K
    try simp only [Act.put, sA, sB, sC]
    refine takeX 5 (v := ?_) rfl rfl (by kernel_rfl) (fun _ _ _ h => h) (yesH (by rfl) ?_) s10 ?_
    rotate_left
    ·intro w9 hS9
     go_simp
     try with_reducible rfl
    try simp only [Act.put, sA, sB, sC]
    refine doneX (by kernel_rfl) ?_ _
    go_wp2_with fail
    refine bodyPost_ret (v := .tuple #[.agg #[.slice up d.params.length cp, .int .i64 d.ret, .slice ub d.blocks.length cb], .slice u (l.length + 1) c]) ((results_pair Tryd.results6 _ _ w.heap.size _ rfl (run_loadVar_row _ _ 27 _ _ (0, 0) _ e5 Tryd.underlying27 rfl (by kernel_rfl))).trans (by rfl)) rfl ⟨d, up, ub, cp, cb, l ++ [0], u, c, by simp, by rw [List.length_append]; simp; omega, HSM.out, e1, e2, e3, e4⟩
end Go.Proofs.YtenbodghkpbghaaDoor
namespace Go.Proofs.YtenbodghkpbghaaDoor
open Go.RowKit
def opsD (d : InstD) : List Int :=
 if opB d.op = true ∨ d.op = 24 then [d.a, d.b] else if d.op = 18 ∨ d.op = 19 ∨ d.op = 20 ∨ d.op = 23 ∨ d.op = 25 ∨ d.op = 27 then [d.a] else if d.op = 22 then [d.a, d.b, d.c] else if d.op = 26 then d.args else []
theorem own_mk {w : World} {l : List Int} {cs : Array Value} {v : List Int} (e : v = l) (hm : l.length ≤ 1000) (hc : ∀ i, i < l.length → cs[i]? = some (.int .i64 (l.getD i 0))) : OwnAt (w.alloc (.cells cs 2)) w.heap.size (some ⟨w.heap.size, 0, none⟩) v := by
 subst e; exact own_lit w _ hm cs hc
theorem own_mk2 {w : World} {o : Obj} {l : List Int} {cs : Array Value} {v : List Int} (e : v = l) (hm : l.length ≤ 1000) (hc : ∀ i, i < l.length → cs[i]? = some (.int .i64 (l.getD i 0))) : OwnAt ((w.alloc o).alloc (.cells cs 2)) w.heap.size (some ⟨w.heap.size + 1, 0, none⟩) v := by
 have h := own_mk (w := w.alloc o) e hm hc
 have hz : (w.alloc o).heap.size = w.heap.size + 1 := by simp
 rw [hz] at h
 exact h.low (by omega)
theorem two_cells (a b : Int) : ∀ i, i < [a, b].length → (#[Value.int .i64 a, Value.int .i64 b] : Array Value)[i]? = some (.int .i64 ([a, b].getD i 0)) := by
 intro i hi
 match i, hi with
 | 0, _ => rfl
 | 1, _ => rfl
theorem one_cells (a : Int) : ∀ i, i < [a].length → (#[Value.int .i64 a] : Array Value)[i]? = some (.int .i64 ([a].getD i 0)) := by
 intro i hi
 match i, hi with
 | 0, _ => rfl
theorem three_cells (a b c : Int) : ∀ i, i < [a, b, c].length → (#[Value.int .i64 a, Value.int .i64 b, Value.int .i64 c] : Array Value)[i]? = some (.int .i64 ([a, b, c].getD i 0)) := by
 intro i hi
 match i, hi with
 | 0, _ => rfl
 | 1, _ => rfl
 | 2, _ => rfl
set_option maxHeartbeats 1000000 in
theorem operS_bin (d : InstD) (u : Option Addr) (q : Nat) (w : World) (h : opB d.op = true) :
  Calls Tryd.prog 77 #[.agg #[.int .i64 d.op, .int .i64 d.w, .int .i64 d.a, .int .i64 d.b, .int .i64 d.c, .int .i64 d.imm, .slice u d.args.length q]] w fun e w' => ∃ u c, e = .returned (.slice u (opsD d).length c) ∧ OwnAt w' w.heap.size u (opsD d) ∧ Below w.heap.size w w' := by
 have E : opsD d = [d.a, d.b] := by simp [opsD, h]
 rw [E]; clear E
 have dd : (decide (1 ≤ d.op) && decide (d.op ≤ 17)) = true := h
 clear h
 go_enter Tryd.func77, Tryd.ntmps77
 go_wp2_with (go_at_call 30; refine (inS _ _ _ _).mono ?_; rintro e w' ⟨rfl, rfl⟩)
 go_ret
 refine ⟨_, _, rfl, own_mk2 rfl (by simp) (two_cells d.a d.b), ((Below.refl _ _).alloc (Nat.le_refl _) _).alloc (by simp) _⟩
set_option maxHeartbeats 1000000 in
theorem bk_oper (a b : Int) (w : World) : Calls Tryd.prog 133 #[.agg #[.int .i64 a, .int .i64 b]] w fun e w' => ∃ u c, e = .returned (.slice u 2 c) ∧ OwnAt w' w.heap.size u [a, b] ∧ Below w.heap.size w w' := by
 go_enter Tryd.func133, Tryd.ntmps133
 go_wp2_with fail
 go_ret
 refine ⟨_, _, rfl, own_mk2 rfl (by simp) (two_cells a b), ((Below.refl _ _).alloc (Nat.le_refl _) _).alloc (by simp) _⟩
end Go.Proofs.YtenbodghkpbghaaDoor
namespace Go.Proofs.YtenbodghkpbghaaDoor
open Go.RowKit
set_option maxHeartbeats 1000000 in
theorem operS_18 (iw a b c imm : Int) (args : List Int) (u : Option Addr) (q : Nat) (w : World) :
  Calls Tryd.prog 77 #[.agg #[.int .i64 18, .int .i64 iw, .int .i64 a, .int .i64 b, .int .i64 c, .int .i64 imm, .slice u args.length q]] w fun e w' => ∃ v r, e = .returned (.slice v 1 r) ∧ OwnAt w' w.heap.size v [a] ∧ Below w.heap.size w w' := by
 go_enter Tryd.func77, Tryd.ntmps77
 go_wp2_with (go_at_call 30; refine (inS _ _ _ _).mono ?_; rintro e w' ⟨rfl, rfl⟩)
 go_ret
 exact ⟨_, _, rfl, own_mk2 rfl (by simp) (one_cells a), ((Below.refl _ _).alloc (Nat.le_refl _) _).alloc (by simp) _⟩
set_option maxHeartbeats 1000000 in
theorem operS_19 (iw a b c imm : Int) (args : List Int) (u : Option Addr) (q : Nat) (w : World) :
  Calls Tryd.prog 77 #[.agg #[.int .i64 19, .int .i64 iw, .int .i64 a, .int .i64 b, .int .i64 c, .int .i64 imm, .slice u args.length q]] w fun e w' => ∃ v r, e = .returned (.slice v 1 r) ∧ OwnAt w' w.heap.size v [a] ∧ Below w.heap.size w w' := by
 go_enter Tryd.func77, Tryd.ntmps77
 go_wp2_with (go_at_call 30; refine (inS _ _ _ _).mono ?_; rintro e w' ⟨rfl, rfl⟩)
 go_ret
 exact ⟨_, _, rfl, own_mk2 rfl (by simp) (one_cells a), ((Below.refl _ _).alloc (Nat.le_refl _) _).alloc (by simp) _⟩
set_option maxHeartbeats 1000000 in
theorem operS_20 (iw a b c imm : Int) (args : List Int) (u : Option Addr) (q : Nat) (w : World) :
  Calls Tryd.prog 77 #[.agg #[.int .i64 20, .int .i64 iw, .int .i64 a, .int .i64 b, .int .i64 c, .int .i64 imm, .slice u args.length q]] w fun e w' => ∃ v r, e = .returned (.slice v 1 r) ∧ OwnAt w' w.heap.size v [a] ∧ Below w.heap.size w w' := by
 go_enter Tryd.func77, Tryd.ntmps77
 go_wp2_with (go_at_call 30; refine (inS _ _ _ _).mono ?_; rintro e w' ⟨rfl, rfl⟩)
 go_ret
 exact ⟨_, _, rfl, own_mk2 rfl (by simp) (one_cells a), ((Below.refl _ _).alloc (Nat.le_refl _) _).alloc (by simp) _⟩
set_option maxHeartbeats 1000000 in
theorem operS_21 (iw a b c imm : Int) (args : List Int) (u : Option Addr) (q : Nat) (w : World) :
  Calls Tryd.prog 77 #[.agg #[.int .i64 21, .int .i64 iw, .int .i64 a, .int .i64 b, .int .i64 c, .int .i64 imm, .slice u args.length q]] w fun e w' => ∃ v r, e = .returned (.slice v 0 r) ∧ OwnAt w' w.heap.size v [] ∧ Below w.heap.size w w' := by
 go_enter Tryd.func77, Tryd.ntmps77
 go_wp2_with (go_at_call 30; refine (inS _ _ _ _).mono ?_; rintro e w' ⟨rfl, rfl⟩)
 go_ret
 exact ⟨_, _, rfl, own_mk2 rfl (by simp) (fun i hi => by simp at hi), ((Below.refl _ _).alloc (Nat.le_refl _) _).alloc (by simp) _⟩
set_option maxHeartbeats 1000000 in
theorem operS_22 (iw a b c imm : Int) (args : List Int) (u : Option Addr) (q : Nat) (w : World) :
  Calls Tryd.prog 77 #[.agg #[.int .i64 22, .int .i64 iw, .int .i64 a, .int .i64 b, .int .i64 c, .int .i64 imm, .slice u args.length q]] w fun e w' => ∃ v r, e = .returned (.slice v 3 r) ∧ OwnAt w' w.heap.size v [a, b, c] ∧ Below w.heap.size w w' := by
 go_enter Tryd.func77, Tryd.ntmps77
 go_wp2_with (go_at_call 30; refine (inS _ _ _ _).mono ?_; rintro e w' ⟨rfl, rfl⟩)
 go_ret
 exact ⟨_, _, rfl, own_mk2 rfl (by simp) (three_cells a b c), ((Below.refl _ _).alloc (Nat.le_refl _) _).alloc (by simp) _⟩
set_option maxHeartbeats 1000000 in
theorem operS_23 (iw a b c imm : Int) (args : List Int) (u : Option Addr) (q : Nat) (w : World) :
  Calls Tryd.prog 77 #[.agg #[.int .i64 23, .int .i64 iw, .int .i64 a, .int .i64 b, .int .i64 c, .int .i64 imm, .slice u args.length q]] w fun e w' => ∃ v r, e = .returned (.slice v 1 r) ∧ OwnAt w' w.heap.size v [a] ∧ Below w.heap.size w w' := by
 go_enter Tryd.func77, Tryd.ntmps77
 go_wp2_with (go_at_call 30; refine (inS _ _ _ _).mono ?_; rintro e w' ⟨rfl, rfl⟩)
 go_ret
 exact ⟨_, _, rfl, own_mk2 rfl (by simp) (one_cells a), ((Below.refl _ _).alloc (Nat.le_refl _) _).alloc (by simp) _⟩
set_option maxHeartbeats 1000000 in
theorem operS_24 (iw a b c imm : Int) (args : List Int) (u : Option Addr) (q : Nat) (w : World) :
  Calls Tryd.prog 77 #[.agg #[.int .i64 24, .int .i64 iw, .int .i64 a, .int .i64 b, .int .i64 c, .int .i64 imm, .slice u args.length q]] w fun e w' => ∃ v r, e = .returned (.slice v 2 r) ∧ OwnAt w' w.heap.size v [a, b] ∧ Below w.heap.size w w' := by
 go_enter Tryd.func77, Tryd.ntmps77
 go_wp2_with (go_at_call 30; refine (inS _ _ _ _).mono ?_; rintro e w' ⟨rfl, rfl⟩)
 go_ret
 exact ⟨_, _, rfl, own_mk2 rfl (by simp) (two_cells a b), ((Below.refl _ _).alloc (Nat.le_refl _) _).alloc (by simp) _⟩
set_option maxHeartbeats 1000000 in
theorem operS_25 (iw a b c imm : Int) (args : List Int) (u : Option Addr) (q : Nat) (w : World) :
  Calls Tryd.prog 77 #[.agg #[.int .i64 25, .int .i64 iw, .int .i64 a, .int .i64 b, .int .i64 c, .int .i64 imm, .slice u args.length q]] w fun e w' => ∃ v r, e = .returned (.slice v 1 r) ∧ OwnAt w' w.heap.size v [a] ∧ Below w.heap.size w w' := by
 go_enter Tryd.func77, Tryd.ntmps77
 go_wp2_with (go_at_call 30; refine (inS _ _ _ _).mono ?_; rintro e w' ⟨rfl, rfl⟩)
 go_ret
 exact ⟨_, _, rfl, own_mk2 rfl (by simp) (one_cells a), ((Below.refl _ _).alloc (Nat.le_refl _) _).alloc (by simp) _⟩
set_option maxHeartbeats 1000000 in
theorem operS_27 (iw a b c imm : Int) (args : List Int) (u : Option Addr) (q : Nat) (w : World) :
  Calls Tryd.prog 77 #[.agg #[.int .i64 27, .int .i64 iw, .int .i64 a, .int .i64 b, .int .i64 c, .int .i64 imm, .slice u args.length q]] w fun e w' => ∃ v r, e = .returned (.slice v 1 r) ∧ OwnAt w' w.heap.size v [a] ∧ Below w.heap.size w w' := by
 go_enter Tryd.func77, Tryd.ntmps77
 go_wp2_with (go_at_call 30; refine (inS _ _ _ _).mono ?_; rintro e w' ⟨rfl, rfl⟩)
 go_ret
 exact ⟨_, _, rfl, own_mk2 rfl (by simp) (one_cells a), ((Below.refl _ _).alloc (Nat.le_refl _) _).alloc (by simp) _⟩
set_option maxHeartbeats 1000000 in
theorem operS_26 (lo : Nat) (iw a b c imm : Int) (args : List Int) (u : Option Addr) (q : Nat) (w : World) (hs : args.length ≤ 1048576) (k : IntsAt w lo u args) :
  Calls Tryd.prog 77 #[.agg #[.int .i64 26, .int .i64 iw, .int .i64 a, .int .i64 b, .int .i64 c, .int .i64 imm, .slice u args.length q]] w fun e w' => ∃ v r, e = .returned (.slice v args.length r) ∧ OwnAt w' w.heap.size v args ∧ Below w.heap.size w w' := by
 go_enter Tryd.func77, Tryd.ntmps77
 go_wp2_with (first | (go_at_call 30; refine (inS _ _ _ _).mono ?_; rintro e w' ⟨rfl, rfl⟩) | (go_at_call 79; refine (copyS_any lo _ _ _ _ hs (k.keep (agree_alloc _ _ _))).mono ?_; rintro e w1 ⟨v, r, rfl, ho, hb1⟩))
 go_ret
 exact ⟨_, _, rfl, ho.low (by simp), ((Below.refl _ _).alloc (Nat.le_refl _) _).trans (hb1.mono (by simp))⟩
set_option maxHeartbeats 1000000 in
theorem operS_no (op iw a b c imm : Int) (args : List Int) (u : Option Addr) (q : Nat) (w : World) (h : op < 1 ∨ 27 < op) :
  Calls Tryd.prog 77 #[.agg #[.int .i64 op, .int .i64 iw, .int .i64 a, .int .i64 b, .int .i64 c, .int .i64 imm, .slice u args.length q]] w fun e w' => ∃ v r, e = .returned (.slice v 0 r) ∧ OwnAt w' w.heap.size v [] ∧ Below w.heap.size w w' := by
 have d1 : (decide (1 ≤ op) && decide (op ≤ 17)) = false := by simp; omega
 have d2 : (decide (18 ≤ op) && decide (op ≤ 20)) = false := by simp; omega
 have e1 : ¬ op = 24 := by omega
 have e2 : ¬ op = 23 := by omega
 have e3 : ¬ op = 25 := by omega
 have e4 : ¬ op = 27 := by omega
 have e5 : ¬ op = 22 := by omega
 have e6 : ¬ op = 26 := by omega
 clear h
 go_enter Tryd.func77, Tryd.ntmps77
 go_wp2_with (go_at_call 30; refine (inS _ _ _ _).mono ?_; rintro e w' ⟨rfl, rfl⟩)
 go_ret
 exact ⟨_, _, rfl, own_mk2 rfl (by simp) (fun i hi => by simp at hi), ((Below.refl _ _).alloc (Nat.le_refl _) _).alloc (by simp) _⟩
theorem operS (lo : Nat) (d : InstD) (u : Option Addr) (q : Nat) (w : World) (hs : d.args.length ≤ 1048576) (k : IntsAt w lo u d.args) :
  Calls Tryd.prog 77 #[.agg #[.int .i64 d.op, .int .i64 d.w, .int .i64 d.a, .int .i64 d.b, .int .i64 d.c, .int .i64 d.imm, .slice u d.args.length q]] w fun e w' => ∃ v r, e = .returned (.slice v (opsD d).length r) ∧ OwnAt w' w.heap.size v (opsD d) ∧ Below w.heap.size w w' := by
 rcases op_split d.op with h | h
 ·exact operS_bin d u q w h
 obtain ⟨op, iw, a, b, c, imm, args⟩ := d
 dsimp only at h hs k ⊢
 rcases h with h | h | h | h | h | h | h | h | h | h | ⟨ho, h⟩
 ·subst h
  have E : opsD ⟨18, iw, a, b, c, imm, args⟩ = [a] := by rfl
  rw [E]
  exact operS_18 iw a b c imm args u q w
 ·subst h
  have E : opsD ⟨19, iw, a, b, c, imm, args⟩ = [a] := by rfl
  rw [E]
  exact operS_19 iw a b c imm args u q w
 ·subst h
  have E : opsD ⟨20, iw, a, b, c, imm, args⟩ = [a] := by rfl
  rw [E]
  exact operS_20 iw a b c imm args u q w
 ·subst h
  have E : opsD ⟨21, iw, a, b, c, imm, args⟩ = [] := by rfl
  rw [E]
  exact operS_21 iw a b c imm args u q w
 ·subst h
  have E : opsD ⟨22, iw, a, b, c, imm, args⟩ = [a, b, c] := by rfl
  rw [E]
  exact operS_22 iw a b c imm args u q w
 ·subst h
  have E : opsD ⟨23, iw, a, b, c, imm, args⟩ = [a] := by rfl
  rw [E]
  exact operS_23 iw a b c imm args u q w
 ·subst h
  have E : opsD ⟨24, iw, a, b, c, imm, args⟩ = [a, b] := by rfl
  rw [E]
  exact operS_24 iw a b c imm args u q w
 ·subst h
  have E : opsD ⟨25, iw, a, b, c, imm, args⟩ = [a] := by rfl
  rw [E]
  exact operS_25 iw a b c imm args u q w
 ·subst h
  have E : opsD ⟨26, iw, a, b, c, imm, args⟩ = args := by rfl
  rw [E]
  exact operS_26 lo iw a b c imm args u q w hs k
 ·subst h
  have E : opsD ⟨27, iw, a, b, c, imm, args⟩ = [a] := by rfl
  rw [E]
  exact operS_27 iw a b c imm args u q w
 ·have E : opsD ⟨op, iw, a, b, c, imm, args⟩ = [] := by
   have e0 : ¬ opB op = true := by rw [ho]; decide
   unfold opsD
   dsimp only
   rw [if_neg (by simp only [not_or]; exact ⟨e0, by omega⟩), if_neg (by omega), if_neg (by omega), if_neg (by omega)]
  rw [E]
  exact operS_no op iw a b c imm args u q w h
theorem opsD_len (d : InstD) (hs : d.args.length ≤ 1048576) : (opsD d).length ≤ 1048576 := by
 unfold opsD
 split
 ·simp
 ·split
  ·simp
  ·split
   ·simp
   ·split
    ·exact hs
    ·simp
end Go.Proofs.YtenbodghkpbghaaDoor
