import Derived.Test.YtenbodghkpbghaaDoorXhoSv
import Derived.Deep.AppendLies
import Derived.Deep.RegionHeld2
import Derived.Test.YtenbodghkpbghaaDoorGnVSv
import Derived.Test.YtenbodghkpbghaaDoorKndSv
import Derived.Laws.ResultCell
import Derived.Deep.DeepCutAuto
import Derived.BigRegion
import Derived.Laws.Rows
import Derived.Test.YtenbodghkpbghaaDoorOwnSv
import Derived.Test.YtenbodghkpbghaaDoorGnYSv
import Derived.Maps.OwnSet
import Derived.Maps.OwnOps
namespace Go.Proofs.YtenbodghkpbghaaDoor
open Go.RowKit
theorem op1_unary (a : Int) (w : World) : Calls Tryd.prog 134 #[.agg #[.int .i64 a]] w fun e w' => ∃ u c, e = .returned (.slice u 1 c) ∧ OwnAt w' w.heap.size u [a] ∧ Below w.heap.size w w' := by
 go_enter Tryd.func134, Tryd.ntmps134
 go_wp2_with fail
 go_ret
 exact ⟨_, _, rfl, own_mk2 rfl (by simp) (one_cells a), ((Below.refl _ _).alloc (Nat.le_refl _) _).alloc (by simp) _⟩
theorem op1_load (a : Int) (w : World) : Calls Tryd.prog 137 #[.agg #[.int .i64 a]] w fun e w' => ∃ u c, e = .returned (.slice u 1 c) ∧ OwnAt w' w.heap.size u [a] ∧ Below w.heap.size w w' := by
 go_enter Tryd.func137, Tryd.ntmps137
 go_wp2_with fail
 go_ret
 exact ⟨_, _, rfl, own_mk2 rfl (by simp) (one_cells a), ((Below.refl _ _).alloc (Nat.le_refl _) _).alloc (by simp) _⟩
theorem op1_print (a : Int) (w : World) : Calls Tryd.prog 139 #[.agg #[.int .i64 a]] w fun e w' => ∃ u c, e = .returned (.slice u 1 c) ∧ OwnAt w' w.heap.size u [a] ∧ Below w.heap.size w w' := by
 go_enter Tryd.func139, Tryd.ntmps139
 go_wp2_with fail
 go_ret
 exact ⟨_, _, rfl, own_mk2 rfl (by simp) (one_cells a), ((Below.refl _ _).alloc (Nat.le_refl _) _).alloc (by simp) _⟩
theorem op2_store (a b : Int) (w : World) : Calls Tryd.prog 138 #[.agg #[.int .i64 a, .int .i64 b]] w fun e w' => ∃ u c, e = .returned (.slice u 2 c) ∧ OwnAt w' w.heap.size u [a, b] ∧ Below w.heap.size w w' := by
 go_enter Tryd.func138, Tryd.ntmps138
 go_wp2_with fail
 go_ret
 exact ⟨_, _, rfl, own_mk2 rfl (by simp) (two_cells a b), ((Below.refl _ _).alloc (Nat.le_refl _) _).alloc (by simp) _⟩
theorem op3_select (a b c : Int) (w : World) : Calls Tryd.prog 136 #[.agg #[.int .i64 a, .int .i64 b, .int .i64 c]] w fun e w' => ∃ u q, e = .returned (.slice u 3 q) ∧ OwnAt w' w.heap.size u [a, b, c] ∧ Below w.heap.size w w' := by
 go_enter Tryd.func136, Tryd.ntmps136
 go_wp2_with fail
 go_ret
 exact ⟨_, _, rfl, own_mk2 rfl (by simp) (three_cells a b c), ((Below.refl _ _).alloc (Nat.le_refl _) _).alloc (by simp) _⟩
theorem op0_const (a : Int) (w : World) : Calls Tryd.prog 135 #[.agg #[.int .i64 a]] w fun e w' => ∃ u c, e = .returned (.slice u 0 c) ∧ OwnAt w' w.heap.size u [] ∧ Below w.heap.size w w' := by
 go_enter Tryd.func135, Tryd.ntmps135
 go_wp2_with fail
 go_ret
 exact ⟨_, _, rfl, ⟨by simp, .inl rfl⟩, by first | exact Below.refl _ _ | exact (Below.refl _ _).alloc (Nat.le_refl _) _⟩
theorem op0_strange (w : World) : Calls Tryd.prog 141 #[.agg #[]] w fun e w' => ∃ u c, e = .returned (.slice u 0 c) ∧ OwnAt w' w.heap.size u [] ∧ Below w.heap.size w w' := by
 go_enter Tryd.func141, Tryd.ntmps141
 go_wp2_with fail
 go_ret
 exact ⟨_, _, rfl, ⟨by simp, .inl rfl⟩, by first | exact Below.refl _ _ | exact (Below.refl _ _).alloc (Nat.le_refl _) _⟩
theorem append_nothing {t ty : TypeId} (a : Option Addr) (c : Nat) (w : World) (i : TypeInfo) (ht : Tryd.prog.underlying t = some (.slice 2)) (hi : Tryd.prog.info? 2 = some i) :
  (Builtin.append_ #[t, t] ty #[.slice none 0 0, .slice a 0 c]).run Tryd.prog w = .ok (.slice none 0 0) w := by
 cases a <;> simp [Builtin.append_, run_underlying ht, sizeOf, typeInfo, hi, Builtin.lenOf, Builtin.firstCells, loadCells, loadCellsFrom]
theorem wp_append_nothing {w : World} {o : Oper} {a : Act} {K : Act → World → Prop} {Q : Exit → Act → World → Prop} (s x : Operand) (t : TypeId)
  (ho : o.op = .call { callee := .builtin .append, args := #[s, x], argTypes := #[t, t] }) (i : TypeInfo) (ht : Tryd.prog.underlying t = some (.slice 2)) (hi : Tryd.prog.info? 2 = some i)
  (hs : a.eval s = .slice none 0 0) (ad : Option Addr) (c : Nat) (hx : a.eval x = .slice ad 0 c) (h : K (a.put o.dst (.slice none 0 0)) w) : o.wp Tryd.prog a w K Q := by
 have hr := append_nothing (ty := o.type) ad c w i ht hi
 unfold Oper.wp execOp
 simp only [ho, resolve, invoke, builtin, Sem.run_bind, Sem.run_pure, Result.andThen_ok, List.map_toArray, List.map_cons, List.map_nil, hs, hx, hr]
 exact h
theorem wpList_append_nothing {w : World} {ops : Array Oper} {rest : List Oper} {o : Oper} {a : Act} {Q : Exit → Act → World → Prop} (hgd : o.guard = none) (s x : Operand) (t : TypeId)
  (ho : o.op = .call { callee := .builtin .append, args := #[s, x], argTypes := #[t, t] }) (i : TypeInfo) (ht : Tryd.prog.underlying t = some (.slice 2)) (hi : Tryd.prog.info? 2 = some i)
  (hs : a.eval s = .slice none 0 0) (ad : Option Addr) (c : Nat) (hx : a.eval x = .slice ad 0 c) (h : wpList Tryd.prog ops Q rest (a.put o.dst (.slice none 0 0)) w) : wpList Tryd.prog ops Q (o :: rest) a w :=
 wpList_plain hgd fun _ hK => wp_append_nothing s x t ho i ht hi hs ad c hx (hK _ _ h)
theorem ints_src {w : World} {lo : Nat} {u : Option Addr} {l : List Int} (h : IntsAt w lo u l) (hp : 0 < l.length) : ∃ ad, u = some ad ∧ ∀ j x, (l.map (Value.int .i64))[j]? = some x → w.cell? (ad.add j) = some x := by
 rcases h.2 with h | ⟨b, off, ha, _, hb, hc⟩
 ·subst h; simp at hp
 ·refine ⟨_, ha, fun j x hj => ?_⟩
  have hjl : j < l.length := by
   have := (List.getElem?_eq_some_iff.1 hj).1
   simpa using this
  have hat : (⟨b, off, none⟩ : Addr).add j = ⟨b, off + j, none⟩ := by unfold Addr.add; split <;> simp_all
  rw [hat, hc j hjl]
  simp [hjl] at hj
  rw [← hj]; simp [List.getD, hjl]
theorem oi_row {w : World} {base g cap : Nat} {l : List Int} (hm : l.length ≤ 1048576) (h : w.ownsRow base 2 1 (.slice (some ⟨g, 0, none⟩) (0 + l.length) cap) (0 + l.length) ([] ++ l.map (Value.int .i64))) : OwnAt w base (some ⟨g, 0, none⟩) l := by
 rw [Nat.zero_add, List.nil_append] at h
 obtain ⟨u, c, e, ho⟩ := own_of_row hm h
 cases e
 exact ho
theorem opn_nil (imm : Int) (u : Option Addr) (q : Nat) (w : World) : Calls Tryd.prog 140 #[.agg #[.int .i64 imm, .slice u 0 q]] w fun e w' => ∃ u c, e = .returned (.slice u 0 c) ∧ OwnAt w' w.heap.size u [] ∧ Below w.heap.size w w' := by
 obtain ⟨i0, hi, _, _, _⟩ := info_parts infoI
 have HI : Hid (Tryd.prog.info? 2 = some i0) := hi
 clear hi
 go_enter Tryd.func140, Tryd.ntmps140
 go_wp2_with (at_builtin; refine wpList_append_nothing rfl _ _ 24 rfl i0 Tryd.underlying24 HI.out rfl u q rfl ?_)
 go_ret
 exact ⟨_, _, rfl, ⟨by simp, .inl rfl⟩, (Below.refl _ _).alloc (Nat.le_refl _) _⟩
theorem opn_call (lo : Nat) (imm : Int) (args : List Int) (u : Option Addr) (q : Nat) (w : World) (hs : args.length ≤ 1048576) (k : IntsAt w lo u args) : Calls Tryd.prog 140 #[.agg #[.int .i64 imm, .slice u args.length q]] w fun e w' => ∃ u c, e = .returned (.slice u args.length c) ∧ OwnAt w' w.heap.size u args ∧ Below w.heap.size w w' := by
 by_cases hp : 0 < args.length
 ·obtain ⟨i0, hi, hz0, hz1, hz2⟩ := info_parts infoI
  have HI : Hid (Tryd.prog.info? 2 = some i0) := hi
  have HZ0 : Hid (i0.zero = some (.int .i64 0)) := hz0
  have HZ1 : Hid (i0.size = 1) := hz1
  have HZ2 : Hid (i0.bytes = 8) := hz2
  clear hi hz0 hz1 hz2
  obtain ⟨ad, rfl, hn⟩ := ints_src (k.keep (agree_alloc w (.cells #[.int .i64 imm, .slice u args.length q] 107) _)) hp
  have HN : Hid (∀ j x, (args.map (Value.int .i64))[j]? = some x → (w.alloc (.cells #[.int .i64 imm, .slice (some ad) args.length q] 107)).cell? (ad.add j) = some x) := hn
  clear hn
  go_enter Tryd.func140, Tryd.ntmps140
  go_wp2_with (at_builtin; refine wpList_append_lies _ rfl _ _ 24 rfl w.heap.size 2 i0 (.int .i64 0) 1 8 Tryd.underlying24 HI.out HZ0.out HZ1.out HZ2.out rfl (by decide) (.slice none 0 0) 0 [] rfl ⟨rfl, .inl ⟨rfl, rfl⟩⟩ ad args.length q (args.map (Value.int .i64)) rfl (by simp) (by exact HN.out) (by simp [Value.oneCell']) hp (by unfold maxLen; omega) (by omega) (by simp) _ rfl ?_; intro g cap w1 hown hgrow hat hlt; have ho := oi_row hs hown)
  go_ret
  exact ⟨_, _, rfl, ho, ((Below.refl _ _).alloc (Nat.le_refl _) _).trans ⟨hgrow.os, hgrow.tape, hgrow.output, hgrow.size, fun k hk => hgrow.block k (by simp; omega) (by simp [Value.ownBlock])⟩⟩
 ·have hz : args = [] := List.length_eq_zero_iff.1 (by simpa using hp)
  subst hz
  exact opn_nil imm u q w
set_option maxRecDepth 100000 in
theorem meth_binary (a b : Int) (w : World) : (method 284 96 (.agg #[.int .i64 a, .int .i64 b]) "loop.example/g00457/impl.operands").run Tryd.prog w = .ok (133, .agg #[.int .i64 a, .int .i64 b]) w := by kernel_rfl
set_option maxRecDepth 100000 in
theorem meth_unary (a : Int) (w : World) : (method 284 98 (.agg #[.int .i64 a]) "loop.example/g00457/impl.operands").run Tryd.prog w = .ok (134, .agg #[.int .i64 a]) w := by kernel_rfl
set_option maxRecDepth 100000 in
theorem meth_const (a : Int) (w : World) : (method 284 100 (.agg #[.int .i64 a]) "loop.example/g00457/impl.operands").run Tryd.prog w = .ok (135, .agg #[.int .i64 a]) w := by kernel_rfl
set_option maxRecDepth 100000 in
theorem meth_select (a b c : Int) (w : World) : (method 284 102 (.agg #[.int .i64 a, .int .i64 b, .int .i64 c]) "loop.example/g00457/impl.operands").run Tryd.prog w = .ok (136, .agg #[.int .i64 a, .int .i64 b, .int .i64 c]) w := by kernel_rfl
set_option maxRecDepth 100000 in
theorem meth_load (a : Int) (w : World) : (method 284 103 (.agg #[.int .i64 a]) "loop.example/g00457/impl.operands").run Tryd.prog w = .ok (137, .agg #[.int .i64 a]) w := by kernel_rfl
set_option maxRecDepth 100000 in
theorem meth_store (a b : Int) (w : World) : (method 284 104 (.agg #[.int .i64 a, .int .i64 b]) "loop.example/g00457/impl.operands").run Tryd.prog w = .ok (138, .agg #[.int .i64 a, .int .i64 b]) w := by kernel_rfl
set_option maxRecDepth 100000 in
theorem meth_print (a : Int) (w : World) : (method 284 105 (.agg #[.int .i64 a]) "loop.example/g00457/impl.operands").run Tryd.prog w = .ok (139, .agg #[.int .i64 a]) w := by kernel_rfl
set_option maxRecDepth 100000 in
theorem meth_strange (w : World) : (method 284 109 (.agg #[]) "loop.example/g00457/impl.operands").run Tryd.prog w = .ok (141, .agg #[]) w := by kernel_rfl
set_option maxRecDepth 100000 in
theorem meth_call (a : Int) (u : Option Addr) (n q : Nat) (w : World) : (method 284 107 (.agg #[.int .i64 a, .slice u n q]) "loop.example/g00457/impl.operands").run Tryd.prog w = .ok (140, .agg #[.int .i64 a, .slice u n q]) w := by kernel_rfl
theorem box0 {w w1 : World} {o : Obj} (h : Below (w.alloc o).heap.size (w.alloc o) w1) : Below (w.heap.size + 1) (w.alloc o) w1 := h.mono (by simp)
theorem below_box {w w' : World} {o : Obj} (h : Below (w.heap.size + 1) (w.alloc o) w') : Below w.heap.size w w' :=
 ((Below.refl w.heap.size w).alloc (Nat.le_refl _) o).trans (h.mono (by omega))
structure Disp (d : InstD) (u : Option Addr) (q : Nat) (T : TypeId) (v : Value) (f : FuncId) : Prop where
 kv : kindV d u q = .iface T v
 meth : ∀ w : World, (method 284 T v "loop.example/g00457/impl.operands").run Tryd.prog w = .ok (f, v) w
 call : ∀ w : World, (callFunc f #[v]).run Tryd.prog w = .ok (.enter f #[v]) w
 con : ∀ (lo : Nat) (w : World), d.args.length ≤ 1048576 → IntsAt w lo u d.args → Calls Tryd.prog f #[v] w fun e w' => ∃ a r, e = .returned (.slice a (opsD d).length r) ∧ OwnAt w' w.heap.size a (opsD d) ∧ Below w.heap.size w w'
 as_strange : 1 ≤ d.op ∧ d.op ≤ 27 → ∀ w : World, (Instr.typeAssert (.iface T v) 73 109 true).run Tryd.prog w = .ok (.tuple #[.agg #[], .bool false]) w
 as_store : ¬ d.op = 24 → ∀ w : World, (Instr.typeAssert (.iface T v) 73 104 true).run Tryd.prog w = .ok (.tuple #[.agg #[.int .i64 0, .int .i64 0], .bool false]) w
 as_print : ¬ d.op = 25 → ∀ w : World, (Instr.typeAssert (.iface T v) 73 105 true).run Tryd.prog w = .ok (.tuple #[.agg #[.int .i64 0], .bool false]) w
 as_load : ¬ d.op = 23 → ∀ w : World, (Instr.typeAssert (.iface T v) 73 103 true).run Tryd.prog w = .ok (.tuple #[.agg #[.int .i64 0], .bool false]) w
 as_const : ¬ d.op = 21 → ∀ w : World, (Instr.typeAssert (.iface T v) 73 100 true).run Tryd.prog w = .ok (.tuple #[.agg #[.int .i64 0], .bool false]) w
 as_call : ¬ d.op = 26 → ∀ w : World, (Instr.typeAssert (.iface T v) 73 107 true).run Tryd.prog w = .ok (.tuple #[.agg #[.int .i64 0, .slice none 0 0], .bool false]) w
theorem disp (d : InstD) (u : Option Addr) (q : Nat) : ∃ T v f, Disp d u q T v f := by
 obtain ⟨op, iw, a, b, c, imm, args⟩ := d
 rcases op_split op with h | h | h | h | h | h | h | h | h | h | h | ⟨ho, h⟩
 ·have E : opsD ⟨op, iw, a, b, c, imm, args⟩ = [a, b] := by simp [opsD, h]
  refine ⟨_, _, _, ⟨kv_bin h, fun w => meth_binary a b w, fun w => by kernel_rfl, fun lo w hs k => by rw [E]; exact bk_oper a b w, fun _ w => as_binaryKind_strangeKind _ w, fun _ w => as_binaryKind_storeKind _ w, fun _ w => as_binaryKind_printKind _ w, fun _ w => as_binaryKind_loadKind _ w, fun _ w => as_binaryKind_constKind _ w, fun _ w => as_binaryKind_callKind _ w⟩⟩
 ·subst h
  have E : opsD ⟨18, iw, a, b, c, imm, args⟩ = [a] := rfl
  refine ⟨_, _, _, ⟨kv_18 rfl, fun w => meth_unary a w, fun w => by kernel_rfl, fun lo w hs k => by rw [E]; exact op1_unary a w, fun _ w => as_unaryKind_strangeKind _ w, fun _ w => as_unaryKind_storeKind _ w, fun _ w => as_unaryKind_printKind _ w, fun _ w => as_unaryKind_loadKind _ w, fun _ w => as_unaryKind_constKind _ w, fun _ w => as_unaryKind_callKind _ w⟩⟩
 ·subst h
  have E : opsD ⟨19, iw, a, b, c, imm, args⟩ = [a] := rfl
  refine ⟨_, _, _, ⟨kv_19 rfl, fun w => meth_unary a w, fun w => by kernel_rfl, fun lo w hs k => by rw [E]; exact op1_unary a w, fun _ w => as_unaryKind_strangeKind _ w, fun _ w => as_unaryKind_storeKind _ w, fun _ w => as_unaryKind_printKind _ w, fun _ w => as_unaryKind_loadKind _ w, fun _ w => as_unaryKind_constKind _ w, fun _ w => as_unaryKind_callKind _ w⟩⟩
 ·subst h
  have E : opsD ⟨20, iw, a, b, c, imm, args⟩ = [a] := rfl
  refine ⟨_, _, _, ⟨kv_20 rfl, fun w => meth_unary a w, fun w => by kernel_rfl, fun lo w hs k => by rw [E]; exact op1_unary a w, fun _ w => as_unaryKind_strangeKind _ w, fun _ w => as_unaryKind_storeKind _ w, fun _ w => as_unaryKind_printKind _ w, fun _ w => as_unaryKind_loadKind _ w, fun _ w => as_unaryKind_constKind _ w, fun _ w => as_unaryKind_callKind _ w⟩⟩
 ·subst h
  have E : opsD ⟨21, iw, a, b, c, imm, args⟩ = [] := rfl
  refine ⟨_, _, _, ⟨kv_21 rfl, fun w => meth_const imm w, fun w => by kernel_rfl, fun lo w hs k => by rw [E]; exact op0_const imm w, fun _ w => as_constKind_strangeKind _ w, fun _ w => as_constKind_storeKind _ w, fun _ w => as_constKind_printKind _ w, fun _ w => as_constKind_loadKind _ w, fun hn => by exact absurd rfl hn, fun _ w => as_constKind_callKind _ w⟩⟩
 ·subst h
  have E : opsD ⟨22, iw, a, b, c, imm, args⟩ = [a, b, c] := rfl
  refine ⟨_, _, _, ⟨kv_22 rfl, fun w => meth_select a b c w, fun w => by kernel_rfl, fun lo w hs k => by rw [E]; exact op3_select a b c w, fun _ w => as_selectKind_strangeKind _ w, fun _ w => as_selectKind_storeKind _ w, fun _ w => as_selectKind_printKind _ w, fun _ w => as_selectKind_loadKind _ w, fun _ w => as_selectKind_constKind _ w, fun _ w => as_selectKind_callKind _ w⟩⟩
 ·subst h
  have E : opsD ⟨23, iw, a, b, c, imm, args⟩ = [a] := rfl
  refine ⟨_, _, _, ⟨kv_23 rfl, fun w => meth_load a w, fun w => by kernel_rfl, fun lo w hs k => by rw [E]; exact op1_load a w, fun _ w => as_loadKind_strangeKind _ w, fun _ w => as_loadKind_storeKind _ w, fun _ w => as_loadKind_printKind _ w, fun hn => by exact absurd rfl hn, fun _ w => as_loadKind_constKind _ w, fun _ w => as_loadKind_callKind _ w⟩⟩
 ·subst h
  have E : opsD ⟨24, iw, a, b, c, imm, args⟩ = [a, b] := rfl
  refine ⟨_, _, _, ⟨kv_24 rfl, fun w => meth_store a b w, fun w => by kernel_rfl, fun lo w hs k => by rw [E]; exact op2_store a b w, fun _ w => as_storeKind_strangeKind _ w, fun hn => by exact absurd rfl hn, fun _ w => as_storeKind_printKind _ w, fun _ w => as_storeKind_loadKind _ w, fun _ w => as_storeKind_constKind _ w, fun _ w => as_storeKind_callKind _ w⟩⟩
 ·subst h
  have E : opsD ⟨25, iw, a, b, c, imm, args⟩ = [a] := rfl
  refine ⟨_, _, _, ⟨kv_25 rfl, fun w => meth_print a w, fun w => by kernel_rfl, fun lo w hs k => by rw [E]; exact op1_print a w, fun _ w => as_printKind_strangeKind _ w, fun _ w => as_printKind_storeKind _ w, fun hn => by exact absurd rfl hn, fun _ w => as_printKind_loadKind _ w, fun _ w => as_printKind_constKind _ w, fun _ w => as_printKind_callKind _ w⟩⟩
 ·subst h
  have E : opsD ⟨26, iw, a, b, c, imm, args⟩ = args := rfl
  refine ⟨_, _, _, ⟨kv_26 rfl, fun w => meth_call imm u args.length q w, fun w => by kernel_rfl, fun lo w hs k => by rw [E]; exact opn_call lo imm args u q w hs k, fun _ w => as_callKind_strangeKind _ w, fun _ w => as_callKind_storeKind _ w, fun _ w => as_callKind_printKind _ w, fun _ w => as_callKind_loadKind _ w, fun _ w => as_callKind_constKind _ w, fun hn => by exact absurd rfl hn⟩⟩
 ·subst h
  have E : opsD ⟨27, iw, a, b, c, imm, args⟩ = [a] := rfl
  refine ⟨_, _, _, ⟨kv_27 rfl, fun w => meth_unary a w, fun w => by kernel_rfl, fun lo w hs k => by rw [E]; exact op1_unary a w, fun _ w => as_unaryKind_strangeKind _ w, fun _ w => as_unaryKind_storeKind _ w, fun _ w => as_unaryKind_printKind _ w, fun _ w => as_unaryKind_loadKind _ w, fun _ w => as_unaryKind_constKind _ w, fun _ w => as_unaryKind_callKind _ w⟩⟩
 ·have E : opsD ⟨op, iw, a, b, c, imm, args⟩ = [] := by
   have e0 : ¬ opB op = true := by rw [ho]; decide
   unfold opsD
   dsimp only
   rw [if_neg (by simp only [not_or]; exact ⟨e0, by omega⟩), if_neg (by omega), if_neg (by omega), if_neg (by omega)]
  refine ⟨_, _, _, ⟨kv_no ho h, fun w => meth_strange  w, fun w => by kernel_rfl, fun lo w hs k => by rw [E]; exact op0_strange w, fun hn => by exact absurd hn (by dsimp only; omega), fun _ w => as_strangeKind_storeKind _ w, fun _ w => as_strangeKind_printKind _ w, fun _ w => as_strangeKind_loadKind _ w, fun _ w => as_strangeKind_constKind _ w, fun _ w => as_strangeKind_callKind _ w⟩⟩
set_option maxRecDepth 100000 in
theorem operI (lo : Nat) (d : InstD) (u : Option Addr) (q : Nat) (w : World) (hs : d.args.length ≤ 1048576) (k : IntsAt w lo u d.args) :
  Calls Tryd.prog 12 #[.agg #[.int .i64 d.op, .int .i64 d.w, .int .i64 d.a, .int .i64 d.b, .int .i64 d.c, .int .i64 d.imm, .slice u d.args.length q]] w fun e w' => ∃ v r, e = .returned (.slice v (opsD d).length r) ∧ OwnAt w' w.heap.size v (opsD d) ∧ Below w.heap.size w w' := by
 obtain ⟨T, V, f, D⟩ := disp d u q
 have E := D.kv
 have K := fun w => kind_any d u q w
 rw [E] at K
 clear E
 have M := D.meth
 have CF := D.call
 have HC : Hid (∀ W, Below w.heap.size w W → Calls Tryd.prog f #[V] W fun e w' => ∃ a r, e = .returned (.slice a (opsD d).length r) ∧ OwnAt w' W.heap.size a (opsD d) ∧ Below W.heap.size W w') := fun W hW => D.con lo W hs (k.keep (agree_of_below hW _))
 clear D hs k
 go_enter Tryd.func12, Tryd.ntmps12
 go_wp2_with fail
 refine (K _).mono ?_
 rintro e w1 ⟨rfl, hb1⟩
 have hB := below_box (box0 hb1)
 go_wp2_with fail
 refine (HC.out _ hB).mono ?_
 rintro e w2 ⟨v, r, rfl, ho, hb2⟩
 go_wp2_with fail
 go_ret
 exact ⟨_, _, rfl, ho.low hB.size, hB.trans (hb2.mono hB.size)⟩
end Go.Proofs.YtenbodghkpbghaaDoor
namespace Go.Proofs.YtenbodghkpbghaaDoor
open Go.RowKit
def namesT (t : TermD) : List Int := if t.kind = 1 ∨ t.kind = 3 then [t.a] else []
set_option maxHeartbeats 1000000 in
theorem termI (t : TermD) (w : World) : Calls Tryd.prog 98 #[.agg #[.int .i64 t.kind, .int .i64 t.a, .int .i64 t.x, .int .i64 t.y]] w fun e w' => ∃ v r, e = .returned (.slice v (namesT t).length r) ∧ OwnAt w' w.heap.size v (namesT t) ∧ Below w.heap.size w w' := by
 obtain ⟨kind, a, x, y⟩ := t
 dsimp only
 by_cases h1 : kind = 1
 ·subst h1
  have E : namesT ⟨1, a, x, y⟩ = [a] := rfl
  rw [E]
  clear E
  go_enter Tryd.func98, Tryd.ntmps98
  go_wp2_with fail
  go_ret
  exact ⟨_, _, rfl, own_mk2 rfl (by simp) (one_cells a), ((Below.refl _ _).alloc (Nat.le_refl _) _).alloc (by simp) _⟩
 ·by_cases h3 : kind = 3
  ·subst h3
   have E : namesT ⟨3, a, x, y⟩ = [a] := rfl
   rw [E]
   clear E
   go_enter Tryd.func98, Tryd.ntmps98
   go_wp2_with fail
   go_ret
   exact ⟨_, _, rfl, own_mk2 rfl (by simp) (one_cells a), ((Below.refl _ _).alloc (Nat.le_refl _) _).alloc (by simp) _⟩
  ·have E : namesT ⟨kind, a, x, y⟩ = [] := by simp [namesT, h1, h3]
   rw [E]
   clear E
   have g1 : (kind == 1) = false := by simpa using h1
   have g3 : (kind == 3) = false := by simpa using h3
   go_enter Tryd.func98, Tryd.ntmps98
   go_wp2_with fail
   go_ret
   exact ⟨_, _, rfl, ⟨by simp, .inl rfl⟩, (Below.refl _ _).alloc (Nat.le_refl _) _⟩
end Go.Proofs.YtenbodghkpbghaaDoor
namespace Go.Proofs.YtenbodghkpbghaaDoor
open Go.RowKit
end Go.Proofs.YtenbodghkpbghaaDoor
namespace Go.Proofs.YtenbodghkpbghaaDoor
open Go.RowKit
def placeL : List BlockD → Nat → Int → Int × Int
 | [], _, _ => (-2, 0)
 | d :: r, b, x => if x < cntB d then ((b : Int), x) else placeL r (b + 1) (x - cntB d)
def placeF (d : FuncD) (id : Int) : Int × Int := if id < 0 then (-2, 0) else if id < d.params.length then (-1, id) else placeL d.blocks 0 (id - d.params.length)
theorem ret_p {a b c d : Int} (h : a = b) (k : c = d) : Ending.returned (.tuple #[.int .i64 a, .int .i64 c]) = .returned (.tuple #[.int .i64 b, .int .i64 d]) := by rw [h, k]
theorem placeL_hit {l : List BlockD} {k : Nat} {b : Nat} {x : Int} {d : BlockD} (hd : l.drop k = d :: l.drop (k + 1)) (h : x < cntB d) : placeL (l.drop k) b x = ((b : Int), x) := by rw [hd, placeL, if_pos h]
theorem placeL_miss {l : List BlockD} {k : Nat} {b : Nat} {x : Int} {d : BlockD} (hd : l.drop k = d :: l.drop (k + 1)) (h : ¬ x < cntB d) : placeL (l.drop k) b x = placeL (l.drop (k + 1)) (b + 1) (x - cntB d) := by rw [hd, placeL, if_neg h]
set_option maxHeartbeats 2000000 in
theorem placeI_any (lo : Nat) (d : FuncD) (u0 : Option Addr) (c0 : Nat) (u2 : Option Addr) (c2 : Nat) (id : Int) (w : World) (hs : SmFunc d) (k2 : BlocksAt w lo u2 d.blocks) (hi : id ≤ 9223372036854775807) :
  Calls Tryd.prog 11 #[.agg #[.slice u0 d.params.length c0, .int .i64 d.ret, .slice u2 d.blocks.length c2], .int .i64 id] w fun e w' => e = .returned (.tuple #[.int .i64 (placeF d id).1, .int .i64 (placeF d id).2]) ∧ Below w.heap.size w w' := by
 have hp := hs.1
 have hbl := hs.2.1
 have HS : Hid (∀ p ∈ d.blocks, SmBlock p) := hs.2.2
 clear hs
 by_cases h1 : id < 0
 ·have E : Hid (placeF d id = (-2, 0)) := by show _ = _; rw [placeF, if_pos h1]
  go_enter Tryd.func11, Tryd.ntmps11
  go_wp2_with fail
  go_ret2
  exact ⟨ret_p (by rw [E.out]) (by rw [E.out]), (Below.refl _ _).alloc (Nat.le_refl _) _⟩
 by_cases h2 : id < d.params.length
 ·have E : Hid (placeF d id = (-1, id)) := by show _ = _; rw [placeF, if_neg h1, if_pos h2]
  go_enter Tryd.func11, Tryd.ntmps11
  go_wp2_with fail
  go_ret2
  exact ⟨ret_p (by rw [E.out]) (by rw [E.out]), (Below.refl _ _).alloc (Nat.le_refl _) _⟩
 have E : Hid (placeF d id = placeL d.blocks 0 (id - d.params.length)) := by show _ = _; rw [placeF, if_neg h1, if_neg h2]
 go_enter Tryd.func11, Tryd.ntmps11
 go_wp2_with fail
 go_loopw [6, 26] (fun x i wr => ∃ (k : Nat) (z : Int), k ≤ d.blocks.length ∧ i = .int .i64 k ∧ x = .int .i64 z ∧ 0 ≤ z ∧ z ≤ 9223372036854775807 ∧ placeL (d.blocks.drop k) k z = placeF d id ∧ Below w.heap.size w wr) (fun _ i _ => d.blocks.length - (intOf i).toNat)
 case atStart => exact ⟨0, _, by omega, rfl, rfl, by omega, by omega, by rw [E.out]; rfl, (Below.refl _ _).alloc (Nat.le_refl _) _⟩
 case round =>
  obtain ⟨k, z, hk, rfl, rfl, hz0, hz1, hq, hW⟩ := hrel
  have HQ : Hid (placeL (d.blocks.drop k) k z = placeF d id) := hq
  clear hq
  by_cases hlt : k < d.blocks.length
  ·rcases k2.2 with hn | ⟨b, off, rfl, hlo, hb, hcell⟩
   ·simp [hn] at hlt
   obtain ⟨⟨v0, q0, g0, _⟩, ⟨v1, q1, g1, _⟩, g2, g3, g4, g5⟩ := hcell k hlt
   have hdr := drop_get block0 d.blocks k hlt
   have hsm := HS.out _ (getD_mem block0 d.blocks k hlt)
   generalize d.blocks.getD k block0 = x at g0 g1 g2 g3 g4 g5 hdr hsm
   have e0 : wr.cell? ⟨b, off + k * 6, none⟩ = some (.slice v0 x.phis.length q0) := (cell_block (hW.block b hb)).trans g0
   have e1 : wr.cell? ⟨b, off + k * 6 + 1, none⟩ = some (.slice v1 x.insts.length q1) := (cell_block (hW.block b hb)).trans g1
   have e2 : wr.cell? ⟨b, off + k * 6 + 2, none⟩ = some (.int .i64 x.term.kind) := (cell_block (hW.block b hb)).trans g2
   have e3 : wr.cell? ⟨b, off + k * 6 + 3, none⟩ = some (.int .i64 x.term.a) := (cell_block (hW.block b hb)).trans g3
   have e4 : wr.cell? ⟨b, off + k * 6 + 4, none⟩ = some (.int .i64 x.term.x) := (cell_block (hW.block b hb)).trans g4
   have e5 : wr.cell? ⟨b, off + k * 6 + 5, none⟩ = some (.int .i64 x.term.y) := (cell_block (hW.block b hb)).trans g5
   have s0 := hsm.1.1
   have s1 := hsm.2.1
   have HD : Hid (d.blocks.drop k = x :: d.blocks.drop (k + 1)) := hdr
   have HW : Hid (Below w.heap.size w wr) := hW
   clear hcell g0 g1 g2 g3 g4 g5 hdr hsm hW k2
   by_cases hc : z < (x.phis.length : Int) + (x.insts.length : Int)
   ·go_wp2_with fail
    go_ret2
    have hh := HQ.out.symm.trans (placeL_hit HD.out (by unfold cntB; omega))
    exact ⟨ret_p (by rw [hh]) (by rw [hh]), HW.out.alloc HW.out.size _⟩
   ·go_wp2_with fail
    go_roundw
    case rel =>
     have hh := (placeL_miss HD.out (by unfold cntB; omega)).symm.trans HQ.out
     have ec : ((cntB x : Nat) : Int) = (x.phis.length : Int) + (x.insts.length : Int) := by unfold cntB; omega
     rw [ec] at hh
     exact ⟨k + 1, _, by omega, by go_num, rfl, by omega, by omega, hh, HW.out.alloc HW.out.size _⟩
    case measure => simp [intOf]; omega
  ·have hke : k = d.blocks.length := by omega
   go_wp2_with fail
   go_ret2
   have hh := HQ.out
   rw [hke, List.drop_length, placeL] at hh
   exact ⟨ret_p (by rw [← hh]) (by rw [← hh]), hW⟩
end Go.Proofs.YtenbodghkpbghaaDoor
namespace Go.Proofs.YtenbodghkpbghaaDoor
open Go.RowKit
end Go.Proofs.YtenbodghkpbghaaDoor
namespace Go.Proofs.YtenbodghkpbghaaDoor
open Go.RowKit
theorem results_cell_row_tmp {P : Program} {fn : Func} {p u : Tmp} {ty : TypeId} (h : fn.results = #[.cell p ty, .tmp u]) (tmps : Array Value) (w : World) (g : Nat) (cs : Array Value)
  (hp : tmps.getD p undef = .pointer (some ⟨g, 0, none⟩)) (hl : (loadVar ty ⟨g, 0, none⟩).run P w = .ok (.agg cs) w) :
  (results fn tmps).run P w = .ok (.tuple #[.agg cs, tmps.getD u undef]) w := by
 have hp' : tmps[p]?.getD undef = .pointer (some ⟨g, 0, none⟩) := by simpa using hp
 rw [results_cell_tmp h]
 simp [hp', asAddr, hl, Result.andThen]
theorem drew_heap (w : World) (i : Nat) : w.drew.heap[i]? = w.heap[i]? := rfl
end Go.Proofs.YtenbodghkpbghaaDoor
namespace Go.Proofs.YtenbodghkpbghaaDoor
open Go.RowKit
end Go.Proofs.YtenbodghkpbghaaDoor
namespace Go.Proofs.YtenbodghkpbghaaDoor
open Go.RowKit
end Go.Proofs.YtenbodghkpbghaaDoor
namespace Go.Proofs.YtenbodghkpbghaaDoor
open Go.RowKit
end Go.Proofs.YtenbodghkpbghaaDoor
namespace Go.Proofs.YtenbodghkpbghaaDoor
open Go.RowKit
set_option linter.unusedVariables false
def belowB (n c : Int) : Bool := decide (0 ≤ n) && decide (n < c)
def termB (t : TermD) (ids blocks : Int) : Bool :=
 if t.kind = 1 then belowB t.a ids && t.x == 0 && t.y == 0
 else if t.kind = 2 then belowB t.x blocks && t.a == 0 && t.y == 0
 else if t.kind = 3 then belowB t.a ids && belowB t.x blocks && belowB t.y blocks && t.x != t.y
 else t.kind == 4 && t.a == 0 && t.x == 0 && t.y == 0
theorem in_below (n c : Int) : (decide (0 ≤ n) && decide (n ≤ c - 1)) = belowB n c := by
 unfold belowB
 by_cases h : n < c
 ·rw [decide_eq_true h, decide_eq_true (show n ≤ c - 1 by omega)]
 ·rw [decide_eq_false h, decide_eq_false (show ¬ n ≤ c - 1 by omega)]
theorem inB (n c : Int) (w : World) : Calls Tryd.prog 30 #[.int .i64 n, .int .i64 0, .int .i64 (c - 1)] w fun e w' => e = .returned (.bool (belowB n c)) ∧ w' = w := by
 have h := inS n 0 (c - 1) w
 rw [in_below] at h
 exact h
theorem belowFI (n c : Int) (w : World) : Calls Tryd.prog 46 #[.int .i64 n, .int .i64 c] w fun e w' => e = .returned (.bool (belowB n c)) ∧ w' = w := by
 by_cases h0 : 0 ≤ n
 ·by_cases h1 : n < c
  ·have E : Hid (true = belowB n c) := by show _ = _; rw [belowB, decide_eq_true h0, decide_eq_true h1]; rfl
   go_enter Tryd.func46, Tryd.ntmps46
   go_wp2_with fail
   go_ret
   exact ⟨ret_bool (by simpa [h0, h1] using E.out), rfl⟩
  ·have E : Hid (false = belowB n c) := by show _ = _; rw [belowB, decide_eq_true h0, decide_eq_false h1]; rfl
   go_enter Tryd.func46, Tryd.ntmps46
   go_wp2_with fail
   go_ret
   exact ⟨ret_bool (by simpa [h0, h1] using E.out), rfl⟩
 ·have E : Hid (false = belowB n c) := by show _ = _; rw [belowB, decide_eq_false h0]; rfl
  go_enter Tryd.func46, Tryd.ntmps46
  go_wp2_with fail
  go_ret
  exact ⟨ret_bool (by simpa [h0] using E.out), rfl⟩
theorem all_no {α : Type} (z : α) {f : α → Bool} (l : List α) (k : Nat) (h : k < l.length) (hn : ¬ f (l.getD k z) = true) : l.all f = false := by
 rw [List.all_eq_false]
 exact ⟨_, getD_mem z l k h, hn⟩
theorem all_yes {α : Type} (z : α) {f : α → Bool} (l : List α) (h : ∀ j, j < l.length → f (l.getD j z) = true) : l.all f = true := by
 rw [List.all_eq_true]
 intro x hx
 obtain ⟨j, hj, e⟩ := List.getElem_of_mem hx
 have := h j hj
 simp [List.getD, hj] at this
 rw [← e]; exact this
set_option maxHeartbeats 1000000 in
theorem allBelowI (lo : Nat) (a : Option Addr) (cap : Nat) (l : List Int) (c : Int) (w : World) (hv : IntsAt w lo a l) :
  Calls Tryd.prog 27 #[.slice a l.length cap, .int .i64 c] w fun e w' => e = .returned (.bool (l.all fun n => belowB n c)) ∧ w' = w := by
 have hm := hv.1
 go_enter Tryd.func27, Tryd.ntmps27
 go_wp2_with fail
 go_loop [9] (fun i => ∃ k : Nat, k ≤ l.length ∧ i = .int .i64 k ∧ Hid (∀ j, j < k → (fun n => belowB n c) (l.getD j 0) = true)) (fun i => l.length - (intOf i).toNat)
 case atStart => exact ⟨0, by omega, rfl, fun j hj => by omega⟩
 case round =>
  obtain ⟨k, hk, rfl, HD⟩ := hrel
  by_cases hlt : k < l.length
  ·rcases hv.2 with rfl | ⟨b, off, rfl, hlo, hb, hcell⟩
   ·simp at hlt
   have e0 := hcell k hlt
   generalize hx : l.getD k 0 = x at e0
   have HX : Hid (l.getD k 0 = x) := hx
   clear hcell hx hv
   by_cases hp : (fun n => belowB n c) x = true
   ·have HP : Hid ((fun n => belowB n c) x = true) := hp
    dsimp only at hp
    go_wp2_with (go_at_call 46; refine (belowFI _ _ _).mono ?_; rintro e w' ⟨rfl, rfl⟩)
    exact ⟨⟨k + 1, by omega, by go_num, fun j hj => by
     by_cases e : j = k
     ·subst e; rw [HX.out]; exact HP.out
     ·exact HD.out j (by omega)⟩, by simp only [intOf]; omega⟩
   ·have HP : Hid (¬ (fun n => belowB n c) x = true) := hp
    dsimp only at hp
    have hp2 := Bool.eq_false_iff.2 hp
    clear hp
    go_wp2_with (go_at_call 46; refine (belowFI _ _ _).mono ?_; rintro e w' ⟨rfl, rfl⟩)
    go_ret
    refine ⟨ret_bool ?_, rfl⟩
    exact (all_no 0 l k hlt (by rw [HX.out]; exact HP.out)).symm
  ·have hke : k = l.length := by omega
   go_wp2_with fail
   go_ret
   exact ⟨ret_bool (all_yes 0 l (fun j hj => HD.out j (by omega))).symm, rfl⟩
set_option maxHeartbeats 1000000 in
theorem allWidthsI (lo : Nat) (a : Option Addr) (cap : Nat) (l : List Int) (w : World) (hv : IntsAt w lo a l) :
  Calls Tryd.prog 71 #[.slice a l.length cap] w fun e w' => e = .returned (.bool (l.all fun n => widthB n)) ∧ w' = w := by
 have hm := hv.1
 go_enter Tryd.func71, Tryd.ntmps71
 go_wp2_with fail
 go_loop [7] (fun i => ∃ k : Nat, k ≤ l.length ∧ i = .int .i64 k ∧ Hid (∀ j, j < k → (fun n => widthB n) (l.getD j 0) = true)) (fun i => l.length - (intOf i).toNat)
 case atStart => exact ⟨0, by omega, rfl, fun j hj => by omega⟩
 case round =>
  obtain ⟨k, hk, rfl, HD⟩ := hrel
  by_cases hlt : k < l.length
  ·rcases hv.2 with rfl | ⟨b, off, rfl, hlo, hb, hcell⟩
   ·simp at hlt
   have e0 := hcell k hlt
   generalize hx : l.getD k 0 = x at e0
   have HX : Hid (l.getD k 0 = x) := hx
   clear hcell hx hv
   by_cases hp : (fun n => widthB n) x = true
   ·have HP : Hid ((fun n => widthB n) x = true) := hp
    dsimp only at hp
    go_wp2_with (go_at_call 72; refine (widthI _ _).mono ?_; rintro e w' ⟨rfl, rfl⟩)
    exact ⟨⟨k + 1, by omega, by go_num, fun j hj => by
     by_cases e : j = k
     ·subst e; rw [HX.out]; exact HP.out
     ·exact HD.out j (by omega)⟩, by simp only [intOf]; omega⟩
   ·have HP : Hid (¬ (fun n => widthB n) x = true) := hp
    dsimp only at hp
    have hp2 := Bool.eq_false_iff.2 hp
    clear hp
    go_wp2_with (go_at_call 72; refine (widthI _ _).mono ?_; rintro e w' ⟨rfl, rfl⟩)
    go_ret
    refine ⟨ret_bool ?_, rfl⟩
    exact (all_no 0 l k hlt (by rw [HX.out]; exact HP.out)).symm
  ·have hke : k = l.length := by omega
   go_wp2_with fail
   go_ret
   exact ⟨ret_bool (all_yes 0 l (fun j hj => HD.out j (by omega))).symm, rfl⟩
set_option maxHeartbeats 1000000 in
theorem termShI1 (a x y ids blocks funcs : Int) (w : World) :
  Calls Tryd.prog 97 #[.agg #[.int .i64 1, .int .i64 a, .int .i64 x, .int .i64 y], .agg #[.int .i64 ids, .int .i64 blocks, .int .i64 funcs]] w fun e w' => e = .returned (.bool (termB ⟨1, a, x, y⟩ ids blocks)) ∧ Below w.heap.size w w' := by
 go_enter Tryd.func97, Tryd.ntmps97
 go_wp2_with (go_at_call 46; refine (belowFI _ _ _).mono ?_; rintro e w' ⟨rfl, rfl⟩)
 all_goals
  go_ret
  refine ⟨ret_bool ?_, ((Below.refl _ _).alloc (Nat.le_refl _) _).alloc (by simp) _⟩
  simp_all [termB]
set_option maxHeartbeats 1000000 in
theorem termShS1 (a x y ids blocks : Int) (w : World) (g0 : 0 ≤ ids) (g1 : ids ≤ 4611686018427387904) (g2 : 0 ≤ blocks) (g3 : blocks ≤ 4611686018427387904) :
  Calls Tryd.prog 50 #[.agg #[.int .i64 1, .int .i64 a, .int .i64 x, .int .i64 y], .int .i64 ids, .int .i64 blocks] w fun e w' => e = .returned (.bool (termB ⟨1, a, x, y⟩ ids blocks)) ∧ Below w.heap.size w w' := by
 go_enter Tryd.func50, Tryd.ntmps50
 go_wp2_with (go_at_call 30; refine (inB _ _ _).mono ?_; rintro e w' ⟨rfl, rfl⟩)
 all_goals
  go_ret
  refine ⟨ret_bool ?_, (Below.refl _ _).alloc (Nat.le_refl _) _⟩
  simp_all [termB]
set_option maxHeartbeats 1000000 in
theorem termShI2 (a x y ids blocks funcs : Int) (w : World) :
  Calls Tryd.prog 97 #[.agg #[.int .i64 2, .int .i64 a, .int .i64 x, .int .i64 y], .agg #[.int .i64 ids, .int .i64 blocks, .int .i64 funcs]] w fun e w' => e = .returned (.bool (termB ⟨2, a, x, y⟩ ids blocks)) ∧ Below w.heap.size w w' := by
 go_enter Tryd.func97, Tryd.ntmps97
 go_wp2_with (go_at_call 46; refine (belowFI _ _ _).mono ?_; rintro e w' ⟨rfl, rfl⟩)
 all_goals
  go_ret
  refine ⟨ret_bool ?_, ((Below.refl _ _).alloc (Nat.le_refl _) _).alloc (by simp) _⟩
  simp_all [termB]
set_option maxHeartbeats 1000000 in
theorem termShS2 (a x y ids blocks : Int) (w : World) (g0 : 0 ≤ ids) (g1 : ids ≤ 4611686018427387904) (g2 : 0 ≤ blocks) (g3 : blocks ≤ 4611686018427387904) :
  Calls Tryd.prog 50 #[.agg #[.int .i64 2, .int .i64 a, .int .i64 x, .int .i64 y], .int .i64 ids, .int .i64 blocks] w fun e w' => e = .returned (.bool (termB ⟨2, a, x, y⟩ ids blocks)) ∧ Below w.heap.size w w' := by
 go_enter Tryd.func50, Tryd.ntmps50
 go_wp2_with (go_at_call 30; refine (inB _ _ _).mono ?_; rintro e w' ⟨rfl, rfl⟩)
 all_goals
  go_ret
  refine ⟨ret_bool ?_, (Below.refl _ _).alloc (Nat.le_refl _) _⟩
  simp_all [termB]
set_option maxHeartbeats 1000000 in
theorem termShI3 (a x y ids blocks funcs : Int) (w : World) :
  Calls Tryd.prog 97 #[.agg #[.int .i64 3, .int .i64 a, .int .i64 x, .int .i64 y], .agg #[.int .i64 ids, .int .i64 blocks, .int .i64 funcs]] w fun e w' => e = .returned (.bool (termB ⟨3, a, x, y⟩ ids blocks)) ∧ Below w.heap.size w w' := by
 go_enter Tryd.func97, Tryd.ntmps97
 go_wp2_with (go_at_call 46; refine (belowFI _ _ _).mono ?_; rintro e w' ⟨rfl, rfl⟩)
 all_goals
  go_ret
  refine ⟨ret_bool ?_, ((Below.refl _ _).alloc (Nat.le_refl _) _).alloc (by simp) _⟩
  simp_all [termB]
set_option maxHeartbeats 1000000 in
theorem termShS3 (a x y ids blocks : Int) (w : World) (g0 : 0 ≤ ids) (g1 : ids ≤ 4611686018427387904) (g2 : 0 ≤ blocks) (g3 : blocks ≤ 4611686018427387904) :
  Calls Tryd.prog 50 #[.agg #[.int .i64 3, .int .i64 a, .int .i64 x, .int .i64 y], .int .i64 ids, .int .i64 blocks] w fun e w' => e = .returned (.bool (termB ⟨3, a, x, y⟩ ids blocks)) ∧ Below w.heap.size w w' := by
 go_enter Tryd.func50, Tryd.ntmps50
 go_wp2_with (go_at_call 30; refine (inB _ _ _).mono ?_; rintro e w' ⟨rfl, rfl⟩)
 all_goals
  go_ret
  refine ⟨ret_bool ?_, (Below.refl _ _).alloc (Nat.le_refl _) _⟩
  simp_all [termB]
set_option maxHeartbeats 1000000 in
theorem termShI4 (a x y ids blocks funcs : Int) (w : World) :
  Calls Tryd.prog 97 #[.agg #[.int .i64 4, .int .i64 a, .int .i64 x, .int .i64 y], .agg #[.int .i64 ids, .int .i64 blocks, .int .i64 funcs]] w fun e w' => e = .returned (.bool (termB ⟨4, a, x, y⟩ ids blocks)) ∧ Below w.heap.size w w' := by
 go_enter Tryd.func97, Tryd.ntmps97
 go_wp2_with (go_at_call 46; refine (belowFI _ _ _).mono ?_; rintro e w' ⟨rfl, rfl⟩)
 all_goals
  go_ret
  refine ⟨ret_bool ?_, ((Below.refl _ _).alloc (Nat.le_refl _) _).alloc (by simp) _⟩
  simp_all [termB]
set_option maxHeartbeats 1000000 in
theorem termShS4 (a x y ids blocks : Int) (w : World) (g0 : 0 ≤ ids) (g1 : ids ≤ 4611686018427387904) (g2 : 0 ≤ blocks) (g3 : blocks ≤ 4611686018427387904) :
  Calls Tryd.prog 50 #[.agg #[.int .i64 4, .int .i64 a, .int .i64 x, .int .i64 y], .int .i64 ids, .int .i64 blocks] w fun e w' => e = .returned (.bool (termB ⟨4, a, x, y⟩ ids blocks)) ∧ Below w.heap.size w w' := by
 go_enter Tryd.func50, Tryd.ntmps50
 go_wp2_with (go_at_call 30; refine (inB _ _ _).mono ?_; rintro e w' ⟨rfl, rfl⟩)
 all_goals
  go_ret
  refine ⟨ret_bool ?_, (Below.refl _ _).alloc (Nat.le_refl _) _⟩
  simp_all [termB]
set_option maxHeartbeats 1000000 in
theorem termShI0 (k a x y ids blocks funcs : Int) (w : World) (h1 : ¬ k = 1) (h2 : ¬ k = 2) (h3 : ¬ k = 3) (h4 : ¬ k = 4) :
  Calls Tryd.prog 97 #[.agg #[.int .i64 k, .int .i64 a, .int .i64 x, .int .i64 y], .agg #[.int .i64 ids, .int .i64 blocks, .int .i64 funcs]] w fun e w' => e = .returned (.bool (termB ⟨k, a, x, y⟩ ids blocks)) ∧ Below w.heap.size w w' := by
 go_enter Tryd.func97, Tryd.ntmps97
 go_wp2_with (go_at_call 46; refine (belowFI _ _ _).mono ?_; rintro e w' ⟨rfl, rfl⟩)
 go_ret
 refine ⟨ret_bool ?_, ((Below.refl _ _).alloc (Nat.le_refl _) _).alloc (by simp) _⟩
 simp [termB, h1, h2, h3, h4]
set_option maxHeartbeats 1000000 in
theorem termShS0 (k a x y ids blocks : Int) (w : World) (g0 : 0 ≤ ids) (g1 : ids ≤ 4611686018427387904) (g2 : 0 ≤ blocks) (g3 : blocks ≤ 4611686018427387904) (h1 : ¬ k = 1) (h2 : ¬ k = 2) (h3 : ¬ k = 3) (h4 : ¬ k = 4) :
  Calls Tryd.prog 50 #[.agg #[.int .i64 k, .int .i64 a, .int .i64 x, .int .i64 y], .int .i64 ids, .int .i64 blocks] w fun e w' => e = .returned (.bool (termB ⟨k, a, x, y⟩ ids blocks)) ∧ Below w.heap.size w w' := by
 have g4 : (k == 4) = false := by simpa using h4
 go_enter Tryd.func50, Tryd.ntmps50
 go_wp2_with (go_at_call 30; refine (inB _ _ _).mono ?_; rintro e w' ⟨rfl, rfl⟩)
 all_goals
  go_ret
  refine ⟨ret_bool ?_, (Below.refl _ _).alloc (Nat.le_refl _) _⟩
  simp_all [termB]
theorem termShI (t : TermD) (ids blocks funcs : Int) (w : World) :
  Calls Tryd.prog 97 #[.agg #[.int .i64 t.kind, .int .i64 t.a, .int .i64 t.x, .int .i64 t.y], .agg #[.int .i64 ids, .int .i64 blocks, .int .i64 funcs]] w fun e w' => e = .returned (.bool (termB t ids blocks)) ∧ Below w.heap.size w w' := by
 obtain ⟨k, a, x, y⟩ := t
 by_cases h1 : k = 1
 ·subst h1; exact termShI1 a x y ids blocks funcs w
 by_cases h2 : k = 2
 ·subst h2; exact termShI2 a x y ids blocks funcs w
 by_cases h3 : k = 3
 ·subst h3; exact termShI3 a x y ids blocks funcs w
 by_cases h4 : k = 4
 ·subst h4; exact termShI4 a x y ids blocks funcs w
 exact termShI0 k a x y ids blocks funcs w h1 h2 h3 h4
theorem termShS (t : TermD) (ids blocks : Int) (w : World) (g0 : 0 ≤ ids) (g1 : ids ≤ 4611686018427387904) (g2 : 0 ≤ blocks) (g3 : blocks ≤ 4611686018427387904) :
  Calls Tryd.prog 50 #[.agg #[.int .i64 t.kind, .int .i64 t.a, .int .i64 t.x, .int .i64 t.y], .int .i64 ids, .int .i64 blocks] w fun e w' => e = .returned (.bool (termB t ids blocks)) ∧ Below w.heap.size w w' := by
 obtain ⟨k, a, x, y⟩ := t
 by_cases h1 : k = 1
 ·subst h1; exact termShS1 a x y ids blocks w g0 g1 g2 g3
 by_cases h2 : k = 2
 ·subst h2; exact termShS2 a x y ids blocks w g0 g1 g2 g3
 by_cases h3 : k = 3
 ·subst h3; exact termShS3 a x y ids blocks w g0 g1 g2 g3
 by_cases h4 : k = 4
 ·subst h4; exact termShS4 a x y ids blocks w g0 g1 g2 g3
 exact termShS0 k a x y ids blocks w g0 g1 g2 g3 h1 h2 h3 h4
end Go.Proofs.YtenbodghkpbghaaDoor
namespace Go.Proofs.YtenbodghkpbghaaDoor
open Go.RowKit
set_option linter.unusedVariables false
def wB (d : InstD) : Bool := if d.op < 1 ∨ 27 < d.op then false else if d.op = 24 ∨ d.op = 25 then d.w == 0 else if d.op = 23 then d.w == 8 else widthB d.w
def iB (d : InstD) (funcs : Int) : Bool := if d.op = 21 then valueB d.w d.imm else if d.op = 26 then belowB d.imm funcs else d.imm == 0
def fB (d : InstD) : Bool :=
 if d.op = 26 then decide (d.args.length ≤ 4) && d.a == 0 && d.b == 0 && d.c == 0
 else decide (d.args.length = 0) && (decide (1 ≤ (opsD d).length) || d.a == 0) && (decide (2 ≤ (opsD d).length) || d.b == 0) && (decide (3 ≤ (opsD d).length) || d.c == 0)
def instB (d : InstD) (ids funcs : Int) : Bool := wB d && iB d funcs && fB d && (opsD d).all fun n => belowB n ids
set_option maxRecDepth 100000 in
theorem wI_no (d : InstD) (u : Option Addr) (q : Nat) (w : World) (ho : opB d.op = false) (h : d.op < 1 ∨ 27 < d.op) : Calls Tryd.prog 109 #[.agg #[.int .i64 d.op, .int .i64 d.w, .int .i64 d.a, .int .i64 d.b, .int .i64 d.c, .int .i64 d.imm, .slice u d.args.length q], kindV d u q] w fun e w' => e = .returned (.bool (wB d)) ∧ Below w.heap.size w w' := by
 rw [kv_no ho h]
 have E : Hid (false = wB d) := by show _ = _; rw [wB, if_pos h]
 have A := as_strangeKind_strangeKind
 go_enter Tryd.func109, Tryd.ntmps109
 go_wp2_with (go_at_call 72; refine (widthI _ _).mono ?_; rintro e w' ⟨rfl, rfl⟩)
 go_ret
 exact ⟨ret_bool E.out, (Below.refl _ _).alloc (Nat.le_refl _) _⟩
set_option maxRecDepth 100000 in
theorem wI_24 (d : InstD) (u : Option Addr) (q : Nat) (w : World) (h : d.op = 24) : Calls Tryd.prog 109 #[.agg #[.int .i64 d.op, .int .i64 d.w, .int .i64 d.a, .int .i64 d.b, .int .i64 d.c, .int .i64 d.imm, .slice u d.args.length q], kindV d u q] w fun e w' => e = .returned (.bool (wB d)) ∧ Below w.heap.size w w' := by
 rw [kv_24 h]
 have E : Hid ((d.w == 0) = wB d) := by show _ = _; rw [wB, h]; rfl
 have A_strange := as_storeKind_strangeKind
 have A_store := as_storeKind_storeKind
 have A_print := as_storeKind_printKind
 have A_load := as_storeKind_loadKind
 go_enter Tryd.func109, Tryd.ntmps109
 go_wp2_with (go_at_call 72; refine (widthI _ _).mono ?_; rintro e w' ⟨rfl, rfl⟩)
 go_ret
 exact ⟨ret_bool E.out, (Below.refl _ _).alloc (Nat.le_refl _) _⟩
set_option maxRecDepth 100000 in
theorem wI_25 (d : InstD) (u : Option Addr) (q : Nat) (w : World) (h : d.op = 25) : Calls Tryd.prog 109 #[.agg #[.int .i64 d.op, .int .i64 d.w, .int .i64 d.a, .int .i64 d.b, .int .i64 d.c, .int .i64 d.imm, .slice u d.args.length q], kindV d u q] w fun e w' => e = .returned (.bool (wB d)) ∧ Below w.heap.size w w' := by
 rw [kv_25 h]
 have E : Hid ((d.w == 0) = wB d) := by show _ = _; rw [wB, h]; rfl
 have A_strange := as_printKind_strangeKind
 have A_store := as_printKind_storeKind
 have A_print := as_printKind_printKind
 have A_load := as_printKind_loadKind
 go_enter Tryd.func109, Tryd.ntmps109
 go_wp2_with (go_at_call 72; refine (widthI _ _).mono ?_; rintro e w' ⟨rfl, rfl⟩)
 go_ret
 exact ⟨ret_bool E.out, (Below.refl _ _).alloc (Nat.le_refl _) _⟩
set_option maxRecDepth 100000 in
theorem wI_23 (d : InstD) (u : Option Addr) (q : Nat) (w : World) (h : d.op = 23) : Calls Tryd.prog 109 #[.agg #[.int .i64 d.op, .int .i64 d.w, .int .i64 d.a, .int .i64 d.b, .int .i64 d.c, .int .i64 d.imm, .slice u d.args.length q], kindV d u q] w fun e w' => e = .returned (.bool (wB d)) ∧ Below w.heap.size w w' := by
 rw [kv_23 h]
 have E : Hid ((d.w == 8) = wB d) := by show _ = _; rw [wB, h]; rfl
 have A_strange := as_loadKind_strangeKind
 have A_store := as_loadKind_storeKind
 have A_print := as_loadKind_printKind
 have A_load := as_loadKind_loadKind
 go_enter Tryd.func109, Tryd.ntmps109
 go_wp2_with (go_at_call 72; refine (widthI _ _).mono ?_; rintro e w' ⟨rfl, rfl⟩)
 go_ret
 exact ⟨ret_bool E.out, (Below.refl _ _).alloc (Nat.le_refl _) _⟩
set_option maxRecDepth 100000 in
theorem wI_more (d : InstD) (u : Option Addr) (q : Nat) (w : World) (h1 : 1 ≤ d.op ∧ d.op ≤ 27) (h4 : ¬ d.op = 24) (h5 : ¬ d.op = 25) (h3 : ¬ d.op = 23) : Calls Tryd.prog 109 #[.agg #[.int .i64 d.op, .int .i64 d.w, .int .i64 d.a, .int .i64 d.b, .int .i64 d.c, .int .i64 d.imm, .slice u d.args.length q], kindV d u q] w fun e w' => e = .returned (.bool (wB d)) ∧ Below w.heap.size w w' := by
 obtain ⟨T, v, f, D⟩ := disp d u q
 rw [D.kv]
 have E : Hid (widthB d.w = wB d) := by show _ = _; rw [wB, if_neg (by omega), if_neg (by omega), if_neg h3]
 have A1 := D.as_strange h1
 have A2 := D.as_store h4
 have A3 := D.as_print h5
 have A4 := D.as_load h3
 clear D h1 h4 h5 h3
 go_enter Tryd.func109, Tryd.ntmps109
 go_wp2_with (go_at_call 72; refine (widthI _ _).mono ?_; rintro e w' ⟨rfl, rfl⟩)
 go_ret
 exact ⟨ret_bool E.out, (Below.refl _ _).alloc (Nat.le_refl _) _⟩
theorem wI (d : InstD) (u : Option Addr) (q : Nat) (w : World) : Calls Tryd.prog 109 #[.agg #[.int .i64 d.op, .int .i64 d.w, .int .i64 d.a, .int .i64 d.b, .int .i64 d.c, .int .i64 d.imm, .slice u d.args.length q], kindV d u q] w fun e w' => e = .returned (.bool (wB d)) ∧ Below w.heap.size w w' := by
 by_cases h : d.op < 1 ∨ 27 < d.op
 ·exact wI_no d u q w (by simp [opB]; omega) h
 by_cases h4 : d.op = 24
 ·exact wI_24 d u q w h4
 by_cases h5 : d.op = 25
 ·exact wI_25 d u q w h5
 by_cases h3 : d.op = 23
 ·exact wI_23 d u q w h3
 exact wI_more d u q w (by omega) h4 h5 h3
set_option maxRecDepth 100000 in
theorem immI_21 (d : InstD) (u : Option Addr) (q : Nat) (ids blocks funcs : Int) (w : World) (h : d.op = 21) : Calls Tryd.prog 110 #[.agg #[.int .i64 d.op, .int .i64 d.w, .int .i64 d.a, .int .i64 d.b, .int .i64 d.c, .int .i64 d.imm, .slice u d.args.length q], kindV d u q, .agg #[.int .i64 ids, .int .i64 blocks, .int .i64 funcs]] w fun e w' => e = .returned (.bool (iB d funcs)) ∧ Below w.heap.size w w' := by
 rw [kv_21 h]
 have E : Hid (valueB d.w d.imm = iB d funcs) := by show _ = _; rw [iB, if_pos h]
 have A := as_constKind_constKind
 go_enter Tryd.func110, Tryd.ntmps110
 go_wp2_with (go_at_call 115; refine (valueI _ _ _).mono ?_; rintro e w' ⟨rfl, rfl⟩)
 go_ret
 exact ⟨ret_bool E.out, by first | exact ((Below.refl _ _).alloc (Nat.le_refl _) _).alloc (by simp) _ | exact (((Below.refl _ _).alloc (Nat.le_refl _) _).alloc (by simp) _).alloc (by simp; omega) _ | exact (Below.refl _ _).alloc (Nat.le_refl _) _⟩
set_option maxRecDepth 100000 in
theorem immI_26 (d : InstD) (u : Option Addr) (q : Nat) (ids blocks funcs : Int) (w : World) (h : d.op = 26) : Calls Tryd.prog 110 #[.agg #[.int .i64 d.op, .int .i64 d.w, .int .i64 d.a, .int .i64 d.b, .int .i64 d.c, .int .i64 d.imm, .slice u d.args.length q], kindV d u q, .agg #[.int .i64 ids, .int .i64 blocks, .int .i64 funcs]] w fun e w' => e = .returned (.bool (iB d funcs)) ∧ Below w.heap.size w w' := by
 rw [kv_26 h]
 have E : Hid (belowB d.imm funcs = iB d funcs) := by show _ = _; rw [iB, h]; rfl
 have A := as_callKind_constKind
 have A2 := as_callKind_callKind
 go_enter Tryd.func110, Tryd.ntmps110
 go_wp2_with (go_at_call 46; refine (belowFI _ _ _).mono ?_; rintro e w' ⟨rfl, rfl⟩)
 go_ret
 exact ⟨ret_bool E.out, by first | exact ((Below.refl _ _).alloc (Nat.le_refl _) _).alloc (by simp) _ | exact (((Below.refl _ _).alloc (Nat.le_refl _) _).alloc (by simp) _).alloc (by simp; omega) _ | exact (Below.refl _ _).alloc (Nat.le_refl _) _⟩
set_option maxRecDepth 100000 in
theorem immI_more (d : InstD) (u : Option Addr) (q : Nat) (ids blocks funcs : Int) (w : World) (h1 : ¬ d.op = 21) (h6 : ¬ d.op = 26) : Calls Tryd.prog 110 #[.agg #[.int .i64 d.op, .int .i64 d.w, .int .i64 d.a, .int .i64 d.b, .int .i64 d.c, .int .i64 d.imm, .slice u d.args.length q], kindV d u q, .agg #[.int .i64 ids, .int .i64 blocks, .int .i64 funcs]] w fun e w' => e = .returned (.bool (iB d funcs)) ∧ Below w.heap.size w w' := by
 obtain ⟨T, v, f, D⟩ := disp d u q
 rw [D.kv]
 have E : Hid ((d.imm == 0) = iB d funcs) := by show _ = _; rw [iB, if_neg h1, if_neg h6]
 have A1 := D.as_const h1
 have A2 := D.as_call h6
 clear D h1 h6
 go_enter Tryd.func110, Tryd.ntmps110
 go_wp2_with fail
 go_ret
 exact ⟨ret_bool E.out, by first | exact ((Below.refl _ _).alloc (Nat.le_refl _) _).alloc (by simp) _ | exact (((Below.refl _ _).alloc (Nat.le_refl _) _).alloc (by simp) _).alloc (by simp; omega) _ | exact (Below.refl _ _).alloc (Nat.le_refl _) _⟩
theorem immI (d : InstD) (u : Option Addr) (q : Nat) (ids blocks funcs : Int) (w : World) : Calls Tryd.prog 110 #[.agg #[.int .i64 d.op, .int .i64 d.w, .int .i64 d.a, .int .i64 d.b, .int .i64 d.c, .int .i64 d.imm, .slice u d.args.length q], kindV d u q, .agg #[.int .i64 ids, .int .i64 blocks, .int .i64 funcs]] w fun e w' => e = .returned (.bool (iB d funcs)) ∧ Below w.heap.size w w' := by
 by_cases h1 : d.op = 21
 ·exact immI_21 d u q ids blocks funcs w h1
 by_cases h6 : d.op = 26
 ·exact immI_26 d u q ids blocks funcs w h6
 exact immI_more d u q ids blocks funcs w h1 h6
end Go.Proofs.YtenbodghkpbghaaDoor
namespace Go.Proofs.YtenbodghkpbghaaDoor
open Go.RowKit
set_option linter.unusedVariables false
end Go.Proofs.YtenbodghkpbghaaDoor
namespace Go.Proofs.YtenbodghkpbghaaDoor
open Go.RowKit Go.Maps
set_option linter.unusedVariables false
theorem lawR : Keyed Tryd.prog 2 := int_keyed Tryd.underlying2
theorem zeroR (w : World) : (zeroValue 2).run Tryd.prog w = .ok (.int .i64 0) w := by kernel_rfl
def RenAt (w : World) (B : Nat) (ρ : Int → Int) : Prop := ∃ (n : Nat) (D : DataW Unit), w.ownsMap Tryd.prog 2 (plainElem Tryd.prog 2) B n D ∧ ∀ id c : Int, D.atKey (.int .i64 id) (.lit (.int .i64 0)) = .lit (.int .i64 c) → (if Maps.has D (.int .i64 id) = true then c else id) = ρ id
theorem RenAt.lt {w : World} {B : Nat} {ρ : Int → Int} (h : RenAt w B ρ) : B < w.heap.size := by
 obtain ⟨n, D, h1, _⟩ := h
 exact h1.lt
theorem RenAt.keep {w w' : World} {B : Nat} {ρ : Int → Int} (h : RenAt w B ρ) (k : w'.heap[B]? = w.heap[B]?) : RenAt w' B ρ := by
 obtain ⟨n, D, ⟨es, clock, hb, F, hs, hD⟩, h2⟩ := h
 exact ⟨n, D, ⟨es, clock, k.trans hb, F, hs, hD⟩, h2⟩
theorem RenAt.below {w w' : World} {B : Nat} {ρ : Int → Int} (h : RenAt w B ρ) (k : Below w.heap.size w w') : RenAt w' B ρ := h.keep (k.block B h.lt)
theorem RenAt.made (w : World) : RenAt (w.alloc (.map #[] 0)) w.heap.size (fun id => id) := ⟨0, .map [], World.ownsMap_made _ _ _ _, fun id c _ => rfl⟩
set_option maxHeartbeats 2000000 in
set_option maxRecDepth 100000 in
theorem ofIdI (B : Nat) (ρ : Int → Int) (id : Int) (w : World) (h : RenAt w B ρ) (h0 : 0 ≤ id) (h1 : id ≤ 100000) :
  Calls Tryd.prog 99 #[.map (some B), .int .i64 id] w fun e w' => e = .returned (.int .i64 (ρ id)) ∧ w' = w := by
 obtain ⟨n, D, hown, hρ⟩ := h
 have hkey := keyOf_int_mk (P := Tryd.prog) (q := .i64) Tryd.underlying2 (a := id) (WalkArith.wf_i64 (by omega))
 have HR : Hid (∀ c : Int, D.atKey (.int .i64 id) (.lit (.int .i64 0)) = .lit (.int .i64 c) → (if Maps.has D (.int .i64 id) = true then c else id) = ρ id) := fun c hc => hρ id c hc
 clear hρ
 cases hh : Maps.has D (.int .i64 id) with
 | true =>
  go_enter Tryd.func99, Tryd.ntmps99
  go_wp2_with (first | (at_lookup; refine wpList_lookup_own_ok_int _ rfl _ _ 66 rfl 2 2 .i64 lawR Tryd.underlying66 Tryd.underlying2 (zeroR _) B n D rfl hown _ _ rfl hkey ?_; intro c hat hwc; have HC : Hid ((if Maps.has D (.int .i64 id) = true then c else id) = ρ id) := HR.out c hat; clear hat) | fail)
  go_ret
  have k := HC.out
  rw [hh, if_pos rfl] at k
  exact ⟨ret_int k, rfl⟩
 | false =>
  go_enter Tryd.func99, Tryd.ntmps99
  go_wp2_with (first | (at_lookup; refine wpList_lookup_own_ok_int _ rfl _ _ 66 rfl 2 2 .i64 lawR Tryd.underlying66 Tryd.underlying2 (zeroR _) B n D rfl hown _ _ rfl hkey ?_; intro c hat hwc; have HC : Hid ((if Maps.has D (.int .i64 id) = true then c else id) = ρ id) := HR.out c hat; clear hat) | fail)
  go_ret
  have k := HC.out
  rw [hh, if_neg (by simp)] at k
  exact ⟨ret_int k, rfl⟩
set_option maxHeartbeats 4000000 in
set_option maxRecDepth 100000 in
theorem ofIdsI (B lo : Nat) (ρ : Int → Int) (u : Option Addr) (q : Nat) (ids : List Int) (w : World) (h : RenAt w B ρ) (hv : IntsAt w lo u ids) (hl : ids.length ≤ 1000) (hr : ∀ x ∈ ids, 0 ≤ x ∧ x ≤ 100000) :
  Calls Tryd.prog 75 #[.map (some B), .slice u ids.length q] w fun e w' => ∃ v, e = .returned v ∧ Row w' w.heap.size v (ids.map ρ) ∧ Below w.heap.size w w' := by
 have HK : Hid (IntsAt w lo u ids) := hv
 have HRN : Hid (RenAt w B ρ) := h
 have HRG : Hid (∀ x ∈ ids, 0 ≤ x ∧ x ≤ 100000) := hr
 clear hv h hr
 go_enter Tryd.func75, Tryd.ntmps75
 go_wp2_with fail
 go_loopw [5, 10] (fun st i wr => ∃ k : Nat, k ≤ ids.length ∧ i = .int .i64 k ∧ Hid (Row wr w.heap.size st ((ids.take k).map ρ)) ∧ Hid (Below w.heap.size w wr)) (fun _ i _ => ids.length - (intOf i).toNat)
 case atStart => exact ⟨0, by omega, rfl, Row.nil _ _, Below.refl _ _⟩
 case round =>
  obtain ⟨k, hk, rfl, HX, HB⟩ := hrel
  obtain ⟨wo, hwo⟩ : ∃ wo, wo = wr := ⟨_, rfl⟩
  subst hwo
  by_cases hlt : k < ids.length
  ·obtain ⟨ga, off, rfl, e1⟩ : ∃ ga off, u = some ⟨ga, off, none⟩ ∧ wo.cell? ⟨ga, off + k, none⟩ = some (.int .i64 (ids.getD k 0)) := by
    rcases (HK.out.keep (agree_of_below HB.out lo)).2 with h | ⟨ga, off, ha, _, _, hc⟩
    ·rw [h] at hlt; simp at hlt
    ·exact ⟨ga, off, ha, hc k hlt⟩
   have hm := HRG.out _ (getD_mem 0 ids k hlt)
   have HN : Hid ((ids.take (k + 1)).map ρ = (ids.take k).map ρ ++ [ρ (ids.getD k 0)]) := by
    show _ = _
    rw [List.take_succ_eq_append_getElem hlt, List.map_append]
    simp [List.getD, hlt]
   have P := ofIdI B ρ (ids.getD k 0) wo (HRN.out.below HB.out) hm.1 hm.2
   have hz := HB.out.size
   have hll : ((ids.take k).map ρ).length ≤ 1000 := by rw [List.length_map, List.length_take]; omega
   generalize ids.getD k 0 = x at e1 HN P
   generalize (ids.take k).map ρ = L at *
   generalize hρx : ρ x = y at *
   clear hρx hm
   go_wp2_with fail
   refine P.mono ?_
   rintro e w2 ⟨rfl, hw2⟩
   rw [hw2]
   clear hw2 P
   go_wp2_with (at_builtin; refine push_int rfl _ _ rfl w.heap.size u5 L rfl (HX.out.alloc _) y _ 1 rfl (by exact one_cell_at rfl) (by omega) (by simp; omega) ?_; intro v3 w3 ho3 hg3)
   have HX3 : Hid (Row w3 w.heap.size v3 ((ids.take (k + 1)).map ρ)) := by show Row _ _ _ _; rw [HN.out]; exact ho3
   have HB3 : Hid (Below w.heap.size w w3) := (HB.out.alloc hz _).grown hg3 (by simp; omega) (fun q hq => (HX.out.ge hq).1)
   clear ho3 hg3
   go_wp2_with fail
   go_roundw
   case rel => exact ⟨k + 1, by omega, by go_num, HX3, HB3⟩
   case measure => simp [intOf]; omega
  ·have hkl : ids.take k = ids := List.take_of_length_le (by omega)
   have HX2 : Hid (Row wo w.heap.size u5 (ids.map ρ)) := by show Row _ _ _ _; rw [← hkl]; exact HX.out
   go_wp2_with fail
   go_ret
   exact ⟨_, rfl, HX2.out, HB.out⟩
set_option maxHeartbeats 2000000 in
theorem wantI (w : World) : Calls Tryd.prog 112 #[.bool true] w fun e w' => e = .returned (.tuple #[]) ∧ w' = w := by
 go_enter Tryd.func112, Tryd.ntmps112
 go_wp2_with fail
 exact bodyPost_end (results_none Tryd.results112 _ _ _) rfl ⟨rfl, rfl⟩
set_option maxHeartbeats 4000000 in
set_option maxRecDepth 100000 in
theorem equalI (la lb : Nat) (a b : Option Addr) (ca cb : Nat) (l : List Int) (w : World) (ha : IntsAt w la a l) (hb : IntsAt w lb b l) (hl : l.length ≤ 1000) :
  Calls Tryd.prog 113 #[.slice a l.length ca, .slice b l.length cb] w fun e w' => e = .returned (.bool true) ∧ Below w.heap.size w w' := by
 have HA : Hid (IntsAt w la a l) := ha
 have HB : Hid (IntsAt w lb b l) := hb
 clear ha hb
 go_enter Tryd.func113, Tryd.ntmps113
 go_wp2_with fail
 go_loopw [13] (fun i wr => ∃ k : Nat, k ≤ l.length ∧ i = .int .i64 k ∧ Hid (Below w.heap.size w wr)) (fun i _ => l.length - (intOf i).toNat)
 case atStart => exact ⟨0, by omega, rfl, Below.refl _ _⟩
 case round =>
  obtain ⟨k, hk, rfl, HW⟩ := hrel
  by_cases hlt : k < l.length
  ·obtain ⟨ga, oa, rfl, ea⟩ : ∃ ga off, a = some ⟨ga, off, none⟩ ∧ wr.cell? ⟨ga, off + k, none⟩ = some (.int .i64 (l.getD k 0)) := by
    rcases (HA.out.keep (agree_of_below HW.out la)).2 with h | ⟨ga, off, ha, _, _, hc⟩
    ·rw [h] at hlt; simp at hlt
    ·exact ⟨ga, off, ha, hc k hlt⟩
   obtain ⟨gb, ob, rfl, eb⟩ : ∃ gb off, b = some ⟨gb, off, none⟩ ∧ wr.cell? ⟨gb, off + k, none⟩ = some (.int .i64 (l.getD k 0)) := by
    rcases (HB.out.keep (agree_of_below HW.out lb)).2 with h | ⟨ga, off, ha, _, _, hc⟩
    ·rw [h] at hlt; simp at hlt
    ·exact ⟨ga, off, ha, hc k hlt⟩
   have hltI : (k : Int) < l.length := by omega
   generalize l.getD k 0 = x at ea eb
   go_wp2_with fail
   go_quiet (fail)
   go_wp2_with fail
   go_roundw
   case rel => exact ⟨k + 1, by omega, by go_num, below_drewN HW.out _⟩
   case measure => simp [intOf]; omega
  ·have e : k = l.length := by omega
   subst e
   go_wp2_with fail
   go_ret
   exact ⟨rfl, HW.out⟩
end Go.Proofs.YtenbodghkpbghaaDoor
