import Derived.Test.YtkpmiikafconmaaGreatDoorShelfV
import Derived.Laws.AppendOwnNone
import Derived.Deep.AppendLies
import Derived.Deep.QuietTactic
import Derived.BigQuiet
import Derived.Deep.RegionWith
import Derived.WalkSmall
namespace Go.Proofs.YtkpmiikafconmaaGreatDoor
open Go.RowKit
def SmPhi (d : PhiD) : Prop := d.ins.length ≤ 1048576
def SmInst (d : InstD) : Prop := d.args.length ≤ 1048576
def SmBlock (d : BlockD) : Prop := (d.phis.length ≤ 1048576 ∧ ∀ p ∈ d.phis, SmPhi p) ∧ (d.insts.length ≤ 1048576 ∧ ∀ p ∈ d.insts, SmInst p)
def SmFunc (d : FuncD) : Prop := d.params.length ≤ 1048576 ∧ (d.blocks.length ≤ 1048576 ∧ ∀ p ∈ d.blocks, SmBlock p)
theorem ret_i {a b : Int} (h : a = b) : Ending.returned (.int .i64 a) = .returned (.int .i64 b) := by rw [h]
end Go.Proofs.YtkpmiikafconmaaGreatDoor
namespace Go.Proofs.YtkpmiikafconmaaGreatDoor
open Go.RowKit
theorem heap_alloc_last (w : World) (o : Obj) : (w.alloc o).heap[w.heap.size]? = some o := by
 show (w.heap.push o)[w.heap.size]? = _
 simp
theorem cell_of_heap {w : World} {g o : Nat} {cur : Array Value} {t : TypeId} (h : w.heap[g]? = some (.cells cur t (0, 0))) : w.cell? ⟨g, o, none⟩ = cur[o]? := by
 unfold World.cell?; rw [h]; rfl
theorem froz_of_heap {w : World} {g o : Nat} {cur : Array Value} {t : TypeId} (h : w.heap[g]? = some (.cells cur t (0, 0))) : w.frozen? ⟨g, o, none⟩ = false := by
 unfold World.frozen?; rw [h]; rfl
theorem heap_set {w : World} {g o : Nat} {cur : Array Value} {t : TypeId} {v : Value} (h : w.heap[g]? = some (.cells cur t (0, 0))) : (w.setCell ⟨g, o, none⟩ v).heap[g]? = some (.cells (cur.setIfInBounds o v) t (0, 0)) := by
 show (w.heap.modify g _)[g]? = _
 rw [Array.getElem?_modify, if_pos rfl, h]
 rfl
theorem infoI : (Tryz.prog.info? 2).map (fun i => (i.zero, i.size, i.bytes)) = some (some (.int .i64 0), 1, 8) := by kernel_rfl
end Go.Proofs.YtkpmiikafconmaaGreatDoor
namespace Go.Proofs.YtkpmiikafconmaaGreatDoor
open Go.RowKit
def Row (w : World) (base : Nat) (v : Value) (l : List Int) : Prop := w.ownsRow base 2 1 v l.length (l.map (Value.int .i64))
theorem Row.nil (w : World) (base : Nat) : Row w base (.slice none 0 0) [] := World.ownsRow_nil _ _ _ _
theorem Row.slice {w : World} {base : Nat} {v : Value} {l : List Int} (h : Row w base v l) : ∃ a c, v = .slice a l.length c := by
 rcases h.2 with ⟨rfl, hn⟩ | ⟨g, cap, cur, rfl, _⟩
 ·exact ⟨none, 0, by rw [hn]⟩
 ·exact ⟨_, _, rfl⟩
theorem Row.ge {w : World} {base : Nat} {v : Value} {l : List Int} (h : Row w base v l) {g : Nat} (hv : v.ownBlock = some g) : base ≤ g ∧ g < w.heap.size := by
 rcases h.2 with ⟨rfl, _⟩ | ⟨g', cap, cur, rfl, hb, hg, r⟩
 ·cases hv
 ·cases hv; exact ⟨hb, (Array.getElem?_eq_some_iff.1 hg).1⟩
theorem Row.block {w w' : World} {base : Nat} {v : Value} {l : List Int} (h : Row w base v l) (k : ∀ g, v.ownBlock = some g → g < w.heap.size → w'.heap[g]? = w.heap[g]?) : Row w' base v l := by
 refine ⟨h.1, ?_⟩
 rcases h.2 with h2 | ⟨g, cap, cur, rfl, hb, hg, r⟩
 ·exact .inl h2
 ·exact .inr ⟨g, cap, cur, rfl, hb, (k g rfl (Array.getElem?_eq_some_iff.1 hg).1).trans hg, r⟩
theorem Row.keep {w w' : World} {base : Nat} {v : Value} {l : List Int} (h : Row w base v l) (k : Below w.heap.size w w') : Row w' base v l := h.block fun g _ hg => k.block g hg
theorem Row.alloc {w : World} {base : Nat} {v : Value} {l : List Int} (h : Row w base v l) (o : Obj) : Row (w.alloc o) base v l := World.ownsRow.alloc h o
theorem Row.low {w : World} {lo lo' : Nat} {v : Value} {l : List Int} (h : Row w lo v l) (k : lo' ≤ lo) : Row w lo' v l := by
 refine ⟨h.1, ?_⟩
 rcases h.2 with h2 | ⟨g, cap, cur, hv, hb, r⟩
 ·exact .inl h2
 ·exact .inr ⟨g, cap, cur, hv, Nat.le_trans k hb, r⟩
theorem Row.ints {w : World} {base : Nat} {v : Value} {l : List Int} (hm : l.length ≤ 4194304) (h : Row w base v l) : ∃ u c, v = .slice u l.length c ∧ IntsAt w base u l := by
 rcases h.2 with ⟨hv, hn⟩ | ⟨g, cap, cur, hv, hb, hg, hnc, _, hcs, htk⟩
 ·exact ⟨none, 0, by rw [hv, hn], by omega, .inl (List.length_eq_zero_iff.1 hn)⟩
 ·refine ⟨_, cap, hv, by omega, .inr ⟨g, 0, rfl, hb, (Array.getElem?_eq_some_iff.1 hg).1, fun i hi => ?_⟩⟩
  have e : (cur.toList.take (l.length * 1))[i]? = (l.map (Value.int .i64))[i]? := by rw [htk]
  rw [List.getElem?_take, if_pos (by omega)] at e
  simp [hi] at e
  rw [Nat.zero_add, cell_of_heap hg]
  simpa [List.getD, hi] using e
theorem Row.lit (w : World) (base : Nat) (h : base ≤ w.heap.size) : Row (w.alloc (.cells #[] 2)) base (.slice (some ⟨w.heap.size, 0, none⟩) 0 0) [] :=
 World.ownsRow_lit w #[] 0 h (by decide) (by simp)
theorem one_cell (w : World) (v : Value) (t : TypeId) : (w.alloc (.cells #[v] t)).cell? ⟨w.heap.size, 0, none⟩ = some v := (cell_of_heap (heap_alloc_last _ _)).trans rfl
theorem one_cell_at {w : World} {v : Value} {t : TypeId} {s : Nat} (h : w.heap.size = s) : (w.alloc (.cells #[v] t)).cell? ⟨s, 0, none⟩ = some v := by subst h; exact one_cell w v t
theorem push_int {ops : Array Oper} {rest : List Oper} {o : Oper} {a : Act} {Q : Exit → Act → World → Prop} {w : World} (hgd : o.guard = none) (s x : Operand)
  (ho : o.op = .call { callee := .builtin .append, args := #[s, x], argTypes := #[41, 41] })
  (base : Nat) (v : Value) (l : List Int) (hs : a.eval s = v) (hown : Row w base v l) (n : Int) (b c : Nat) (hx : a.eval x = .slice (some ⟨b, 0, none⟩) 1 c) (hc : w.cell? ⟨b, 0, none⟩ = some (.int .i64 n)) (hl : l.length ≤ 4194304) (hbase : base ≤ w.heap.size)
  (h : ∀ v' w', Row w' base v' (l ++ [n]) → w.grownBy w' v.ownBlock → wpList Tryz.prog ops Q rest (a.put o.dst v') w') : wpList Tryz.prog ops Q (o :: rest) a w := by
 obtain ⟨i0, hi, hz0, hz1, hz2⟩ := info_parts infoI
 refine wpList_append_own w hgd s x 41 ho base 2 i0 (.int .i64 0) 1 8 Tryz.underlying41 hi hz0 hz1 hz2 rfl (by decide) v l.length (l.map (Value.int .i64)) hs hown ⟨b, 0, none⟩ 1 c [.int .i64 n] hx (by simp) ?_ (by simp [Value.oneCell']) (by unfold maxLen; omega) (by omega) hbase ?_
 ·intro j u hj
  match j, hj with
  | 0, hj => rw [Addr.add_lit]; simp at hj; rw [← hj]; exact hc
 ·intro v' w' h1 h2 _
  refine h v' w' ?_ h2
  unfold Row
  rw [List.length_append, List.map_append]
  exact h1
theorem push_at {ops : Array Oper} {rest : List Oper} {o : Oper} {a : Act} {Q : Exit → Act → World → Prop} {w : World} (hgd : o.guard = none) (s x : Operand)
  (ho : o.op = .call { callee := .builtin .append, args := #[s, x], argTypes := #[41, 41] })
  (base : Nat) (v : Value) (l : List Int) (hs : a.eval s = v) (hown : Row w base v l) (n : Int) (b c : Nat) (hx : a.eval x = .slice (some ⟨b, 0, none⟩) 1 c) (hc : w.cell? ⟨b, 0, none⟩ = some (.int .i64 n)) (hl : l.length ≤ 4194304) (hbase : base ≤ w.heap.size) (H : Nat) (hH : w.heap.size = H)
  (h : ∀ g cap w', Row w' base (.slice (some ⟨g, 0, none⟩) (l.length + 1) cap) (l ++ [n]) → w.grownBy w' v.ownBlock → (v.ownBlock = some g ∨ g = H) → g < w'.heap.size → wpList Tryz.prog ops Q rest (a.put o.dst (.slice (some ⟨g, 0, none⟩) (l.length + 1) cap)) w') : wpList Tryz.prog ops Q (o :: rest) a w := by
 obtain ⟨i0, hi, hz0, hz1, hz2⟩ := info_parts infoI
 refine wpList_append_lies w hgd s x 41 ho base 2 i0 (.int .i64 0) 1 8 Tryz.underlying41 hi hz0 hz1 hz2 rfl (by decide) v l.length (l.map (Value.int .i64)) hs hown ⟨b, 0, none⟩ 1 c [.int .i64 n] hx (by simp) ?_ (by simp [Value.oneCell']) (by decide) (by unfold maxLen; omega) (by omega) hbase H hH ?_
 ·intro j u hj
  match j, hj with
  | 0, hj => rw [Addr.add_lit]; simp at hj; rw [← hj]; exact hc
 ·intro g cap w' h1 h2 h3 h4
  refine h g cap w' ?_ h2 h3 h4
  unfold Row
  rw [List.length_append, List.map_append]
  exact h1
end Go.Proofs.YtkpmiikafconmaaGreatDoor
namespace Go.Proofs.YtkpmiikafconmaaGreatDoor
open Go.RowKit
def At (w : World) (g : Nat) (cs : Array Value) (T : TypeId) : Prop := w.heap[g]? = some (.cells cs T (0, 0))
theorem At.lt {w : World} {g : Nat} {cs : Array Value} {T : TypeId} (h : At w g cs T) : g < w.heap.size := (Array.getElem?_eq_some_iff.1 h).1
theorem At.below {w w' : World} {g : Nat} {cs : Array Value} {T : TypeId} (h : At w g cs T) (k : Below w.heap.size w w') : At w' g cs T := (k.block g h.lt).trans h
theorem At.new (w : World) (cs : Array Value) (T : TypeId) : At (w.alloc (.cells cs T)) w.heap.size cs T := heap_alloc_last w _
theorem At.cell {w : World} {g : Nat} {cs : Array Value} {T : TypeId} (h : At w g cs T) (o : Nat) : w.cell? ⟨g, o, none⟩ = cs[o]? := cell_of_heap h
theorem At.setOther {w : World} {g gi o : Nat} {cs : Array Value} {T : TypeId} {v : Value} (h : At w g cs T) (hn : g ≠ gi) : At (w.setCell ⟨gi, o, none⟩ v) g cs T := (Below.heap_setCell _ _ _ _ (by show g ≠ gi; exact hn)).trans h
end Go.Proofs.YtkpmiikafconmaaGreatDoor
namespace Go.Proofs.YtkpmiikafconmaaGreatDoor
open Go.RowKit
end Go.Proofs.YtkpmiikafconmaaGreatDoor
namespace Go.Proofs.YtkpmiikafconmaaGreatDoor
open Go.RowKit
set_option maxHeartbeats 1000000 in
theorem eqInts_any (lo lo' : Nat) (a b : Option Addr) (ca cb : Nat) (l : List Int) (w : World) (ha : IntsAt w lo a l) (hb : IntsAt w lo' b l) :
  Calls Tryz.prog 101 #[.slice a l.length ca, .slice b l.length cb] w fun e w' => e = .returned (.bool true) ∧ Below w.heap.size w w' := by
 have hm := ha.1
 go_enter Tryz.func101, Tryz.ntmps101
 go_wp2_with fail
 go_loopw [5] (fun i wr => ∃ (k : Nat), k ≤ l.length ∧ i = .int .i64 k ∧ Below w.heap.size w wr) (fun i _ => l.length - (intOf i).toNat)
 case atStart => exact ⟨0, by omega, rfl, Below.refl _ _⟩
 case round =>
  obtain ⟨k, hk, rfl, hB⟩ := hrel
  by_cases hlt : k < l.length
  ·rcases ha.2 with rfl | ⟨ba, offa, rfl, hla, hba, hca⟩
   ·simp at hlt
   rcases hb.2 with rfl | ⟨bb, offb, rfl, hlb, hbb, hcb⟩
   ·simp at hlt
   have e0 : wr.cell? ⟨ba, offa + k, none⟩ = some (.int .i64 (l.getD k 0)) := (cell_block (hB.block ba hba)).trans (hca k hlt)
   have e1 : wr.cell? ⟨bb, offb + k, none⟩ = some (.int .i64 (l.getD k 0)) := (cell_block (hB.block bb hbb)).trans (hcb k hlt)
   generalize l.getD k 0 = d at e0 e1
   have HB : Hid (Below w.heap.size w wr) := hB
   clear hca hcb hB ha hb
   go_wp2_with fail
   go_quiet (fail)
   go_wp2_with fail
   go_roundw
   case rel => exact ⟨k + 1, by omega, by go_num, below_drewN HB.out _⟩
   case measure => simp [intOf]; omega
  ·go_wp2_with fail
   go_ret
   exact ⟨rfl, hB⟩
set_option maxHeartbeats 2000000 in
theorem eqPhi_any (lo lo' : Nat) (d : PhiD) (u1 : Option Addr) (c1 : Nat) (v1 : Option Addr) (q1 : Nat) (w : World) (k1 : IntsAt w lo u1 d.ins) (n1 : IntsAt w lo' v1 d.ins) :
  Calls Tryz.prog 180 #[.agg #[.int .i64 d.w, .slice u1 d.ins.length c1], .agg #[.int .i64 d.w, .slice v1 d.ins.length q1]] w fun e w' => e = .returned (.bool true) ∧ Below w.heap.size w w' := by
 go_enter Tryz.func180, Tryz.ntmps180
 go_wp2_with (first | (go_at_call 101; refine (eqInts_any lo lo' _ _ _ _ _ _ (k1.keep (agree_of_below (((Below.refl w.heap.size w).alloc (Nat.le_refl _) _).alloc (by first | (simp; done) | (simp; omega)) _) _)) (n1.keep (agree_of_below (((Below.refl w.heap.size w).alloc (Nat.le_refl _) _).alloc (by first | (simp; done) | (simp; omega)) _) _))).mono ?_; rintro e w1 ⟨rfl, hb1⟩; have hcc1 := bcell hb1; have z1a : w.heap.size < w1.heap.size := (by have := hb1.size; (try simp at this); omega); have z1b : w.heap.size + 1 < w1.heap.size := (by have := hb1.size; (try simp at this); omega); have hB1 : Below w.heap.size w w1 := (((Below.refl w.heap.size w).alloc (Nat.le_refl _) _).alloc (by first | (simp; done) | (simp; omega)) _).trans (hb1.mono (by first | (simp; done) | (simp; omega)))))
 go_ret
 exact ⟨rfl, hB1⟩
set_option maxHeartbeats 2000000 in
theorem eqPhiS_any (lo lo' : Nat) (a b : Option Addr) (ca cb : Nat) (l : List PhiD) (w : World) (ha : PhisAt w lo a l) (hb : PhisAt w lo' b l) :
  Calls Tryz.prog 161 #[.slice a l.length ca, .slice b l.length cb] w fun e w' => e = .returned (.bool true) ∧ Below w.heap.size w w' := by
 have hm := ha.1
 go_enter Tryz.func161, Tryz.ntmps161
 go_wp2_with fail
 go_loopw [5] (fun i wr => ∃ (k : Nat), k ≤ l.length ∧ i = .int .i64 k ∧ Below w.heap.size w wr) (fun i _ => l.length - (intOf i).toNat)
 case atStart => exact ⟨0, by omega, rfl, Below.refl _ _⟩
 case round =>
  obtain ⟨k, hk, rfl, hB⟩ := hrel
  by_cases hlt : k < l.length
  ·rcases ha.2 with rfl | ⟨ba, offa, rfl, hla, hba, hca⟩
   ·simp at hlt
   rcases hb.2 with rfl | ⟨bb, offb, rfl, hlb, hbb, hcb⟩
   ·simp at hlt
   obtain ⟨h0, ⟨u1, c1, h1, k1⟩⟩ := hca k hlt
   obtain ⟨g0, ⟨v1, q1, g1, n1⟩⟩ := hcb k hlt
   generalize l.getD k phi0 = d at h0 g0 h1 g1 k1 n1
   have e0 : wr.cell? ⟨ba, offa + k * 2, none⟩ = some (.int .i64 d.w) := (cell_block (hB.block ba hba)).trans h0
   have f0 : wr.cell? ⟨bb, offb + k * 2, none⟩ = some (.int .i64 d.w) := (cell_block (hB.block bb hbb)).trans g0
   have e1 : wr.cell? ⟨ba, offa + k * 2 + 1, none⟩ = some (.slice u1 d.ins.length c1) := (cell_block (hB.block ba hba)).trans h1
   have f1 : wr.cell? ⟨bb, offb + k * 2 + 1, none⟩ = some (.slice v1 d.ins.length q1) := (cell_block (hB.block bb hbb)).trans g1
   have m1 := k1.keep (agree_of_below hB _)
   have o1 := n1.keep (agree_of_below hB _)
   have HB : Hid (Below w.heap.size w wr) := hB
   clear hca hcb hB ha hb h0 g0 h1 g1 k1 n1
   go_wp2_with fail
   go_region_with (go_at_call 180; refine (eqPhi_any lo lo' d _ _ _ _ _ (by exact m1) (by exact o1)).mono ?_; rintro e w1 ⟨rfl, hb1⟩)
   all_goals
    go_wp2_with fail
    go_roundw
    case rel =>
     have hx := HB.out
     have hy := hb1.mono (B' := w.heap.size) hx.size
     exact ⟨k + 1, by omega, by go_num, ⟨hy.os.trans hx.os, hy.tape.trans hx.tape, hy.output.trans hx.output, Nat.le_trans hx.size hy.size, fun i hi => (hy.block i hi).trans (hx.block i hi)⟩⟩
    case measure => simp [intOf]; omega
  ·go_wp2_with fail
   go_ret
   exact ⟨rfl, hB⟩
set_option maxHeartbeats 2000000 in
theorem eqInst_any (lo lo' : Nat) (d : InstD) (u6 : Option Addr) (c6 : Nat) (v6 : Option Addr) (q6 : Nat) (w : World) (k6 : IntsAt w lo u6 d.args) (n6 : IntsAt w lo' v6 d.args) :
  Calls Tryz.prog 181 #[.agg #[.int .i64 d.op, .int .i64 d.w, .int .i64 d.a, .int .i64 d.b, .int .i64 d.c, .int .i64 d.imm, .slice u6 d.args.length c6], .agg #[.int .i64 d.op, .int .i64 d.w, .int .i64 d.a, .int .i64 d.b, .int .i64 d.c, .int .i64 d.imm, .slice v6 d.args.length q6]] w fun e w' => e = .returned (.bool true) ∧ Below w.heap.size w w' := by
 go_enter Tryz.func181, Tryz.ntmps181
 go_wp2_with (first | (go_at_call 101; refine (eqInts_any lo lo' _ _ _ _ _ _ (k6.keep (agree_of_below (((Below.refl w.heap.size w).alloc (Nat.le_refl _) _).alloc (by first | (simp; done) | (simp; omega)) _) _)) (n6.keep (agree_of_below (((Below.refl w.heap.size w).alloc (Nat.le_refl _) _).alloc (by first | (simp; done) | (simp; omega)) _) _))).mono ?_; rintro e w1 ⟨rfl, hb1⟩; have hcc1 := bcell hb1; have z1a : w.heap.size < w1.heap.size := (by have := hb1.size; (try simp at this); omega); have z1b : w.heap.size + 1 < w1.heap.size := (by have := hb1.size; (try simp at this); omega); have hB1 : Below w.heap.size w w1 := (((Below.refl w.heap.size w).alloc (Nat.le_refl _) _).alloc (by first | (simp; done) | (simp; omega)) _).trans (hb1.mono (by first | (simp; done) | (simp; omega)))))
 go_ret
 exact ⟨rfl, hB1⟩
set_option maxHeartbeats 2000000 in
theorem eqInstS_any (lo lo' : Nat) (a b : Option Addr) (ca cb : Nat) (l : List InstD) (w : World) (ha : InstsAt w lo a l) (hb : InstsAt w lo' b l) :
  Calls Tryz.prog 162 #[.slice a l.length ca, .slice b l.length cb] w fun e w' => e = .returned (.bool true) ∧ Below w.heap.size w w' := by
 have hm := ha.1
 go_enter Tryz.func162, Tryz.ntmps162
 go_wp2_with fail
 go_loopw [5] (fun i wr => ∃ (k : Nat), k ≤ l.length ∧ i = .int .i64 k ∧ Below w.heap.size w wr) (fun i _ => l.length - (intOf i).toNat)
 case atStart => exact ⟨0, by omega, rfl, Below.refl _ _⟩
 case round =>
  obtain ⟨k, hk, rfl, hB⟩ := hrel
  by_cases hlt : k < l.length
  ·rcases ha.2 with rfl | ⟨ba, offa, rfl, hla, hba, hca⟩
   ·simp at hlt
   rcases hb.2 with rfl | ⟨bb, offb, rfl, hlb, hbb, hcb⟩
   ·simp at hlt
   obtain ⟨h0, h1, h2, h3, h4, h5, ⟨u6, c6, h6, k6⟩⟩ := hca k hlt
   obtain ⟨g0, g1, g2, g3, g4, g5, ⟨v6, q6, g6, n6⟩⟩ := hcb k hlt
   generalize l.getD k inst0 = d at h0 g0 h1 g1 h2 g2 h3 g3 h4 g4 h5 g5 h6 g6 k6 n6
   have e0 : wr.cell? ⟨ba, offa + k * 7, none⟩ = some (.int .i64 d.op) := (cell_block (hB.block ba hba)).trans h0
   have f0 : wr.cell? ⟨bb, offb + k * 7, none⟩ = some (.int .i64 d.op) := (cell_block (hB.block bb hbb)).trans g0
   have e1 : wr.cell? ⟨ba, offa + k * 7 + 1, none⟩ = some (.int .i64 d.w) := (cell_block (hB.block ba hba)).trans h1
   have f1 : wr.cell? ⟨bb, offb + k * 7 + 1, none⟩ = some (.int .i64 d.w) := (cell_block (hB.block bb hbb)).trans g1
   have e2 : wr.cell? ⟨ba, offa + k * 7 + 2, none⟩ = some (.int .i64 d.a) := (cell_block (hB.block ba hba)).trans h2
   have f2 : wr.cell? ⟨bb, offb + k * 7 + 2, none⟩ = some (.int .i64 d.a) := (cell_block (hB.block bb hbb)).trans g2
   have e3 : wr.cell? ⟨ba, offa + k * 7 + 3, none⟩ = some (.int .i64 d.b) := (cell_block (hB.block ba hba)).trans h3
   have f3 : wr.cell? ⟨bb, offb + k * 7 + 3, none⟩ = some (.int .i64 d.b) := (cell_block (hB.block bb hbb)).trans g3
   have e4 : wr.cell? ⟨ba, offa + k * 7 + 4, none⟩ = some (.int .i64 d.c) := (cell_block (hB.block ba hba)).trans h4
   have f4 : wr.cell? ⟨bb, offb + k * 7 + 4, none⟩ = some (.int .i64 d.c) := (cell_block (hB.block bb hbb)).trans g4
   have e5 : wr.cell? ⟨ba, offa + k * 7 + 5, none⟩ = some (.int .i64 d.imm) := (cell_block (hB.block ba hba)).trans h5
   have f5 : wr.cell? ⟨bb, offb + k * 7 + 5, none⟩ = some (.int .i64 d.imm) := (cell_block (hB.block bb hbb)).trans g5
   have e6 : wr.cell? ⟨ba, offa + k * 7 + 6, none⟩ = some (.slice u6 d.args.length c6) := (cell_block (hB.block ba hba)).trans h6
   have f6 : wr.cell? ⟨bb, offb + k * 7 + 6, none⟩ = some (.slice v6 d.args.length q6) := (cell_block (hB.block bb hbb)).trans g6
   have m6 := k6.keep (agree_of_below hB _)
   have o6 := n6.keep (agree_of_below hB _)
   have HB : Hid (Below w.heap.size w wr) := hB
   clear hca hcb hB ha hb h0 g0 h1 g1 h2 g2 h3 g3 h4 g4 h5 g5 h6 g6 k6 n6
   go_wp2_with fail
   go_region_with (go_at_call 181; refine (eqInst_any lo lo' d _ _ _ _ _ (by exact m6) (by exact o6)).mono ?_; rintro e w1 ⟨rfl, hb1⟩)
   all_goals
    go_wp2_with fail
    go_roundw
    case rel =>
     have hx := HB.out
     have hy := hb1.mono (B' := w.heap.size) hx.size
     exact ⟨k + 1, by omega, by go_num, ⟨hy.os.trans hx.os, hy.tape.trans hx.tape, hy.output.trans hx.output, Nat.le_trans hx.size hy.size, fun i hi => (hy.block i hi).trans (hx.block i hi)⟩⟩
    case measure => simp [intOf]; omega
  ·go_wp2_with fail
   go_ret
   exact ⟨rfl, hB⟩
set_option maxHeartbeats 2000000 in
theorem eqTerm_any (k a x y : Int) (w : World) :
  Calls Tryz.prog 163 #[.agg #[.int .i64 k, .int .i64 a, .int .i64 x, .int .i64 y], .agg #[.int .i64 k, .int .i64 a, .int .i64 x, .int .i64 y]] w fun e w' => e = .returned (.bool true) ∧ Below w.heap.size w w' := by
 go_enter Tryz.func163, Tryz.ntmps163
 go_wp2_with fail
 go_ret
 exact ⟨rfl, ((Below.refl w.heap.size w).alloc (Nat.le_refl _) _).alloc (by first | (simp; done) | (simp; omega)) _⟩
end Go.Proofs.YtkpmiikafconmaaGreatDoor
namespace Go.Proofs.YtkpmiikafconmaaGreatDoor
open Go.RowKit
set_option maxHeartbeats 2000000 in
theorem eqBlock_any (lo lo' : Nat) (d : BlockD) (u0 : Option Addr) (c0 : Nat) (u1 : Option Addr) (c1 : Nat) (v0 : Option Addr) (q0 : Nat) (v1 : Option Addr) (q1 : Nat) (w : World) (k0 : PhisAt w lo u0 d.phis) (k1 : InstsAt w lo u1 d.insts) (n0 : PhisAt w lo' v0 d.phis) (n1 : InstsAt w lo' v1 d.insts) :
  Calls Tryz.prog 135 #[.agg #[.slice u0 d.phis.length c0, .slice u1 d.insts.length c1, .int .i64 d.term.kind, .int .i64 d.term.a, .int .i64 d.term.x, .int .i64 d.term.y], .agg #[.slice v0 d.phis.length q0, .slice v1 d.insts.length q1, .int .i64 d.term.kind, .int .i64 d.term.a, .int .i64 d.term.x, .int .i64 d.term.y]] w fun e w' => e = .returned (.bool true) ∧ Below w.heap.size w w' := by
 go_enter Tryz.func135, Tryz.ntmps135
 go_wp2_with (first | (go_at_call 161; refine (eqPhiS_any lo lo' _ _ _ _ _ _ (k0.keep (agree_of_below (((Below.refl w.heap.size w).alloc (Nat.le_refl _) _).alloc (by first | (simp; done) | (simp; omega)) _) _)) (n0.keep (agree_of_below (((Below.refl w.heap.size w).alloc (Nat.le_refl _) _).alloc (by first | (simp; done) | (simp; omega)) _) _))).mono ?_; rintro e w1 ⟨rfl, hb1⟩; have hcc1 := bcell hb1; have z1a : w.heap.size < w1.heap.size := (by have := hb1.size; (try simp at this); omega); have z1b : w.heap.size + 1 < w1.heap.size := (by have := hb1.size; (try simp at this); omega); have hB1 : Below w.heap.size w w1 := (((Below.refl w.heap.size w).alloc (Nat.le_refl _) _).alloc (by first | (simp; done) | (simp; omega)) _).trans (hb1.mono (by first | (simp; done) | (simp; omega)))) | (go_at_call 162; refine (eqInstS_any lo lo' _ _ _ _ _ _ (k1.keep (agree_of_below hB1 _)) (n1.keep (agree_of_below hB1 _))).mono ?_; rintro e w2 ⟨rfl, hb2⟩; have hcc2 := bcell hb2; have z2a : w.heap.size < w2.heap.size := (by have := hb2.size; (try simp at this); omega); have z2b : w.heap.size + 1 < w2.heap.size := (by have := hb2.size; (try simp at this); omega); have hB2 : Below w.heap.size w w2 := hB1.trans (hb2.mono hB1.size)) | (go_at_call 163; refine (eqTerm_any _ _ _ _ _).mono ?_; rintro e w3 ⟨rfl, hb3⟩; have hcc3 := bcell hb3; have z3a : w.heap.size < w3.heap.size := (by have := hb3.size; (try simp at this); omega); have z3b : w.heap.size + 1 < w3.heap.size := (by have := hb3.size; (try simp at this); omega); have hB3 : Below w.heap.size w w3 := hB2.trans (hb3.mono hB2.size)))
 go_ret
 exact ⟨rfl, hB3⟩
set_option maxHeartbeats 2000000 in
theorem eqBlockS_any (lo lo' : Nat) (a b : Option Addr) (ca cb : Nat) (l : List BlockD) (w : World) (ha : BlocksAt w lo a l) (hb : BlocksAt w lo' b l) :
  Calls Tryz.prog 102 #[.slice a l.length ca, .slice b l.length cb] w fun e w' => e = .returned (.bool true) ∧ Below w.heap.size w w' := by
 have hm := ha.1
 go_enter Tryz.func102, Tryz.ntmps102
 go_wp2_with fail
 go_loopw [5] (fun i wr => ∃ (k : Nat), k ≤ l.length ∧ i = .int .i64 k ∧ Below w.heap.size w wr) (fun i _ => l.length - (intOf i).toNat)
 case atStart => exact ⟨0, by omega, rfl, Below.refl _ _⟩
 case round =>
  obtain ⟨k, hk, rfl, hB⟩ := hrel
  by_cases hlt : k < l.length
  ·rcases ha.2 with rfl | ⟨ba, offa, rfl, hla, hba, hca⟩
   ·simp at hlt
   rcases hb.2 with rfl | ⟨bb, offb, rfl, hlb, hbb, hcb⟩
   ·simp at hlt
   obtain ⟨⟨u0, c0, h0, k0⟩, ⟨u1, c1, h1, k1⟩, h2, h3, h4, h5⟩ := hca k hlt
   obtain ⟨⟨v0, q0, g0, n0⟩, ⟨v1, q1, g1, n1⟩, g2, g3, g4, g5⟩ := hcb k hlt
   generalize l.getD k block0 = d at h0 g0 h1 g1 h2 g2 h3 g3 h4 g4 h5 g5 k0 n0 k1 n1
   have e0 : wr.cell? ⟨ba, offa + k * 6, none⟩ = some (.slice u0 d.phis.length c0) := (cell_block (hB.block ba hba)).trans h0
   have f0 : wr.cell? ⟨bb, offb + k * 6, none⟩ = some (.slice v0 d.phis.length q0) := (cell_block (hB.block bb hbb)).trans g0
   have m0 := k0.keep (agree_of_below hB _)
   have o0 := n0.keep (agree_of_below hB _)
   have e1 : wr.cell? ⟨ba, offa + k * 6 + 1, none⟩ = some (.slice u1 d.insts.length c1) := (cell_block (hB.block ba hba)).trans h1
   have f1 : wr.cell? ⟨bb, offb + k * 6 + 1, none⟩ = some (.slice v1 d.insts.length q1) := (cell_block (hB.block bb hbb)).trans g1
   have m1 := k1.keep (agree_of_below hB _)
   have o1 := n1.keep (agree_of_below hB _)
   have e2 : wr.cell? ⟨ba, offa + k * 6 + 2, none⟩ = some (.int .i64 d.term.kind) := (cell_block (hB.block ba hba)).trans h2
   have f2 : wr.cell? ⟨bb, offb + k * 6 + 2, none⟩ = some (.int .i64 d.term.kind) := (cell_block (hB.block bb hbb)).trans g2
   have e3 : wr.cell? ⟨ba, offa + k * 6 + 3, none⟩ = some (.int .i64 d.term.a) := (cell_block (hB.block ba hba)).trans h3
   have f3 : wr.cell? ⟨bb, offb + k * 6 + 3, none⟩ = some (.int .i64 d.term.a) := (cell_block (hB.block bb hbb)).trans g3
   have e4 : wr.cell? ⟨ba, offa + k * 6 + 4, none⟩ = some (.int .i64 d.term.x) := (cell_block (hB.block ba hba)).trans h4
   have f4 : wr.cell? ⟨bb, offb + k * 6 + 4, none⟩ = some (.int .i64 d.term.x) := (cell_block (hB.block bb hbb)).trans g4
   have e5 : wr.cell? ⟨ba, offa + k * 6 + 5, none⟩ = some (.int .i64 d.term.y) := (cell_block (hB.block ba hba)).trans h5
   have f5 : wr.cell? ⟨bb, offb + k * 6 + 5, none⟩ = some (.int .i64 d.term.y) := (cell_block (hB.block bb hbb)).trans g5
   have HB : Hid (Below w.heap.size w wr) := hB
   clear hca hcb hB ha hb h0 g0 h1 g1 h2 g2 h3 g3 h4 g4 h5 g5 k0 n0 k1 n1
   go_wp2_with fail
   go_region_with (go_at_call 135; refine (eqBlock_any lo lo' d _ _ _ _ _ _ _ _ _ (by exact m0) (by exact m1) (by exact o0) (by exact o1)).mono ?_; rintro e w1 ⟨rfl, hb1⟩)
   all_goals
    go_wp2_with fail
    go_roundw
    case rel =>
     have hx := HB.out
     have hy := hb1.mono (B' := w.heap.size) hx.size
     exact ⟨k + 1, by omega, by go_num, ⟨hy.os.trans hx.os, hy.tape.trans hx.tape, hy.output.trans hx.output, Nat.le_trans hx.size hy.size, fun i hi => (hy.block i hi).trans (hx.block i hi)⟩⟩
    case measure => simp [intOf]; omega
  ·go_wp2_with fail
   go_ret
   exact ⟨rfl, hB⟩
set_option maxHeartbeats 2000000 in
theorem eqFunc_any (lo lo' : Nat) (d : FuncD) (u0 : Option Addr) (c0 : Nat) (u2 : Option Addr) (c2 : Nat) (v0 : Option Addr) (q0 : Nat) (v2 : Option Addr) (q2 : Nat) (w : World) (k0 : IntsAt w lo u0 d.params) (k2 : BlocksAt w lo u2 d.blocks) (n0 : IntsAt w lo' v0 d.params) (n2 : BlocksAt w lo' v2 d.blocks) :
  Calls Tryz.prog 64 #[.agg #[.slice u0 d.params.length c0, .int .i64 d.ret, .slice u2 d.blocks.length c2], .agg #[.slice v0 d.params.length q0, .int .i64 d.ret, .slice v2 d.blocks.length q2]] w fun e w' => e = .returned (.bool true) ∧ Below w.heap.size w w' := by
 go_enter Tryz.func64, Tryz.ntmps64
 go_wp2_with (first | (go_at_call 101; refine (eqInts_any lo lo' _ _ _ _ _ _ (k0.keep (agree_of_below (((Below.refl w.heap.size w).alloc (Nat.le_refl _) _).alloc (by first | (simp; done) | (simp; omega)) _) _)) (n0.keep (agree_of_below (((Below.refl w.heap.size w).alloc (Nat.le_refl _) _).alloc (by first | (simp; done) | (simp; omega)) _) _))).mono ?_; rintro e w1 ⟨rfl, hb1⟩; have hcc1 := bcell hb1; have z1a : w.heap.size < w1.heap.size := (by have := hb1.size; (try simp at this); omega); have z1b : w.heap.size + 1 < w1.heap.size := (by have := hb1.size; (try simp at this); omega); have hB1 : Below w.heap.size w w1 := (((Below.refl w.heap.size w).alloc (Nat.le_refl _) _).alloc (by first | (simp; done) | (simp; omega)) _).trans (hb1.mono (by first | (simp; done) | (simp; omega)))) | (go_at_call 102; refine (eqBlockS_any lo lo' _ _ _ _ _ _ (k2.keep (agree_of_below hB1 _)) (n2.keep (agree_of_below hB1 _))).mono ?_; rintro e w2 ⟨rfl, hb2⟩; have hcc2 := bcell hb2; have z2a : w.heap.size < w2.heap.size := (by have := hb2.size; (try simp at this); omega); have z2b : w.heap.size + 1 < w2.heap.size := (by have := hb2.size; (try simp at this); omega); have hB2 : Below w.heap.size w w2 := hB1.trans (hb2.mono hB1.size)))
 go_ret
 exact ⟨rfl, hB2⟩
end Go.Proofs.YtkpmiikafconmaaGreatDoor
