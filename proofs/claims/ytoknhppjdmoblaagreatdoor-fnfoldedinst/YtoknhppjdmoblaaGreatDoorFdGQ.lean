import Derived.Test.YtoknhppjdmoblaaGreatDoorFdE2
import Derived.Test.YtoknhppjdmoblaaGreatDoorFdF
import Derived.Test.YtoknhppjdmoblaaGreatDoorMemQ
import Derived.Laws.AppendOwnNone
import Derived.Deep.AppendLies
import Derived.Test.YtoknhppjdmoblaaGreatDoorFdAQ
import Derived.Maps.OwnSet
import Derived.Maps.OwnOps
import Derived.Deep.RegionHeld2
import Derived.Test.YtoknhppjdmoblaaGreatDoorFdBQ
import Derived.Test.YtoknhppjdmoblaaGreatDoorOps3
import Derived.Laws.CopyOwn
namespace Go.Proofs.YtoknhppjdmoblaaGreatDoor
set_option linter.unusedVariables false
set_option linter.unusedSimpArgs false
open Go.RowKit
theorem rule2I (lo : Nat) (d : FuncD) (i : InstD) (u0 : Option Addr) (c0 : Nat) (u2 : Option Addr) (c2 : Nat) (ua : Option Addr) (qa : Nat) (w : World) (hs : SmFunc d) (k0 : IntsAt w lo u0 d.params) (k2 : BlocksAt w lo u2 d.blocks) (ku : IntsAt w lo ua i.args) (hi : ISm i) :
  Calls Tryz.prog 60 #[.agg #[.slice u0 d.params.length c0, .int .i64 d.ret, .slice u2 d.blocks.length c2, .int .i64 i.op, .int .i64 i.w, .int .i64 i.a, .int .i64 i.b, .int .i64 i.c, .int .i64 i.imm, .slice ua i.args.length qa]] w fun e w' => InstTold w lo (rule2 d i) e ∧ Below w.heap.size w w' := by
 by_cases h1 : i.op = 1
 ·exact rule2_1 lo d i u0 c0 u2 c2 ua qa w hs k0 k2 ku hi h1
 by_cases h9 : i.op = 9
 ·exact rule2_9 lo d i u0 c0 u2 c2 ua qa w hs k0 k2 ku hi h9
 by_cases h10 : i.op = 10
 ·exact rule2_10 lo d i u0 c0 u2 c2 ua qa w hs k0 k2 ku hi h10
 by_cases h2 : i.op = 2
 ·exact rule2_2 lo d i u0 c0 u2 c2 ua qa w hs k0 k2 ku hi h2
 by_cases h11 : i.op = 11
 ·exact rule2_11 lo d i u0 c0 u2 c2 ua qa w hs k0 k2 ku hi h11
 by_cases h12 : i.op = 12
 ·exact rule2_12 lo d i u0 c0 u2 c2 ua qa w hs k0 k2 ku hi h12
 by_cases h13 : i.op = 13
 ·exact rule2_13 lo d i u0 c0 u2 c2 ua qa w hs k0 k2 ku hi h13
 by_cases h4 : i.op = 4
 ·exact rule2_4 lo d i u0 c0 u2 c2 ua qa w hs k0 k2 ku hi h4
 by_cases h3 : i.op = 3
 ·exact rule2_3 lo d i u0 c0 u2 c2 ua qa w hs k0 k2 ku hi h3
 by_cases h8 : i.op = 8
 ·exact rule2_8 lo d i u0 c0 u2 c2 ua qa w hs k0 k2 ku hi h8
 exact rule2_no lo d i u0 c0 u2 c2 ua qa w hs k0 k2 ku hi ⟨h1, h9, h10, h2, h11, h12, h13, h4, h3, h8⟩
end Go.Proofs.YtoknhppjdmoblaaGreatDoor
namespace Go.Proofs.YtoknhppjdmoblaaGreatDoor
set_option linter.unusedVariables false
set_option linter.unusedSimpArgs false
open Go.RowKit
def Row (w : World) (base : Nat) (v : Value) (l : List Int) : Prop := w.ownsRow base 2 1 v l.length (l.map (Value.int .i64))
theorem Row.nil (w : World) (base : Nat) : Row w base (.slice none 0 0) [] := World.ownsRow_nil _ _ _ _
theorem Row.slice {w : World} {base : Nat} {v : Value} {l : List Int} (h : Row w base v l) : ∃ a c, v = .slice a l.length c := by
 rcases h.2 with ⟨rfl, hn⟩ | ⟨g, cap, cur, rfl, _⟩
 ·exact ⟨none, 0, by rw [hn]⟩
 ·exact ⟨_, _, rfl⟩
theorem Row.ge {w : World} {base : Nat} {v : Value} {l : List Int} (h : Row w base v l) {g : Nat} (hv : v.ownBlock = some g) : base ≤ g ∧ g < w.heap.size := by
 rcases h.2 with ⟨rfl, _⟩ | ⟨g', cap, cur, rfl, hb, hg, r⟩
 ·cases hv
 ·cases hv; exact ⟨hb, (Array.getElem?_eq_some_iff.1 hg).1⟩
theorem Row.block {w w' : World} {base : Nat} {v : Value} {l : List Int} (h : Row w base v l) (k : ∀ g, v.ownBlock = some g → g < w.heap.size → w'.heap[g]? = w.heap[g]?) : Row w' base v l := by
 refine ⟨h.1, ?_⟩
 rcases h.2 with h2 | ⟨g, cap, cur, rfl, hb, hg, r⟩
 ·exact .inl h2
 ·exact .inr ⟨g, cap, cur, rfl, hb, (k g rfl (Array.getElem?_eq_some_iff.1 hg).1).trans hg, r⟩
theorem Row.keep {w w' : World} {base : Nat} {v : Value} {l : List Int} (h : Row w base v l) (k : Below w.heap.size w w') : Row w' base v l := h.block fun g _ hg => k.block g hg
theorem Row.alloc {w : World} {base : Nat} {v : Value} {l : List Int} (h : Row w base v l) (o : Obj) : Row (w.alloc o) base v l := World.ownsRow.alloc h o
theorem Row.low {w : World} {lo lo' : Nat} {v : Value} {l : List Int} (h : Row w lo v l) (k : lo' ≤ lo) : Row w lo' v l := by
 refine ⟨h.1, ?_⟩
 rcases h.2 with h2 | ⟨g, cap, cur, hv, hb, r⟩
 ·exact .inl h2
 ·exact .inr ⟨g, cap, cur, hv, Nat.le_trans k hb, r⟩
theorem Row.ints {w : World} {base : Nat} {v : Value} {l : List Int} (hm : l.length ≤ 4194304) (h : Row w base v l) : ∃ u c, v = .slice u l.length c ∧ IntsAt w base u l := by
 rcases h.2 with ⟨hv, hn⟩ | ⟨g, cap, cur, hv, hb, hg, hnc, _, hcs, htk⟩
 ·exact ⟨none, 0, by rw [hv, hn], by omega, .inl (List.length_eq_zero_iff.1 hn)⟩
 ·refine ⟨_, cap, hv, by omega, .inr ⟨g, 0, rfl, hb, (Array.getElem?_eq_some_iff.1 hg).1, fun i hi => ?_⟩⟩
  have e : (cur.toList.take (l.length * 1))[i]? = (l.map (Value.int .i64))[i]? := by rw [htk]
  rw [List.getElem?_take, if_pos (by omega)] at e
  simp [hi] at e
  rw [Nat.zero_add, cell_of_heap hg]
  simpa [List.getD, hi] using e
theorem Row.lit (w : World) (base : Nat) (h : base ≤ w.heap.size) : Row (w.alloc (.cells #[] 2)) base (.slice (some ⟨w.heap.size, 0, none⟩) 0 0) [] :=
 World.ownsRow_lit w #[] 0 h (by decide) (by simp)
theorem one_cell (w : World) (v : Value) (t : TypeId) : (w.alloc (.cells #[v] t)).cell? ⟨w.heap.size, 0, none⟩ = some v := (cell_of_heap (heap_alloc_last _ _)).trans rfl
theorem one_cell_at {w : World} {v : Value} {t : TypeId} {s : Nat} (h : w.heap.size = s) : (w.alloc (.cells #[v] t)).cell? ⟨s, 0, none⟩ = some v := by subst h; exact one_cell w v t
theorem push_int {ops : Array Oper} {rest : List Oper} {o : Oper} {a : Act} {Q : Exit → Act → World → Prop} {w : World} (hgd : o.guard = none) (s x : Operand)
  (ho : o.op = .call { callee := .builtin .append, args := #[s, x], argTypes := #[24, 24] })
  (base : Nat) (v : Value) (l : List Int) (hs : a.eval s = v) (hown : Row w base v l) (n : Int) (b c : Nat) (hx : a.eval x = .slice (some ⟨b, 0, none⟩) 1 c) (hc : w.cell? ⟨b, 0, none⟩ = some (.int .i64 n)) (hl : l.length ≤ 4194304) (hbase : base ≤ w.heap.size)
  (h : ∀ v' w', Row w' base v' (l ++ [n]) → w.grownBy w' v.ownBlock → wpList Tryz.prog ops Q rest (a.put o.dst v') w') : wpList Tryz.prog ops Q (o :: rest) a w := by
 obtain ⟨i0, hi, hz0, hz1, hz2⟩ := info_parts infoI
 refine wpList_append_own w hgd s x 24 ho base 2 i0 (.int .i64 0) 1 8 Tryz.underlying24 hi hz0 hz1 hz2 rfl (by decide) v l.length (l.map (Value.int .i64)) hs hown ⟨b, 0, none⟩ 1 c [.int .i64 n] hx (by simp) ?_ (by simp [Value.oneCell']) (by unfold maxLen; omega) (by omega) hbase ?_
 ·intro j u hj
  match j, hj with
  | 0, hj => rw [Addr.add_lit]; simp at hj; rw [← hj]; exact hc
 ·intro v' w' h1 h2 _
  refine h v' w' ?_ h2
  unfold Row
  rw [List.length_append, List.map_append]
  exact h1
end Go.Proofs.YtoknhppjdmoblaaGreatDoor
namespace Go.Proofs.YtoknhppjdmoblaaGreatDoor
set_option linter.unusedVariables false
set_option linter.unusedSimpArgs false
open Go.RowKit Go.Maps
theorem lawR : Keyed Tryz.prog 2 := int_keyed Tryz.underlying2
theorem zeroR (w : World) : (zeroValue 2).run Tryz.prog w = .ok (.int .i64 0) w := by kernel_rfl
def RenAt (w : World) (B : Nat) (ρ : Int → Int) : Prop := ∃ (n : Nat) (D : DataW Unit), w.ownsMap Tryz.prog 2 (plainElem Tryz.prog 2) B n D ∧ ∀ id c : Int, D.atKey (.int .i64 id) (.lit (.int .i64 0)) = .lit (.int .i64 c) → (if Maps.has D (.int .i64 id) = true then c else id) = ρ id
theorem RenAt.lt {w : World} {B : Nat} {ρ : Int → Int} (h : RenAt w B ρ) : B < w.heap.size := by
 obtain ⟨n, D, h1, _⟩ := h
 exact h1.lt
theorem RenAt.keep {w w' : World} {B : Nat} {ρ : Int → Int} (h : RenAt w B ρ) (k : w'.heap[B]? = w.heap[B]?) : RenAt w' B ρ := by
 obtain ⟨n, D, ⟨es, clock, hb, F, hs, hD⟩, h2⟩ := h
 exact ⟨n, D, ⟨es, clock, k.trans hb, F, hs, hD⟩, h2⟩
theorem RenAt.below {w w' : World} {B : Nat} {ρ : Int → Int} (h : RenAt w B ρ) (k : Below w.heap.size w w') : RenAt w' B ρ := h.keep (k.block B h.lt)
theorem RenAt.made (w : World) : RenAt (w.alloc (.map #[] 0)) w.heap.size (fun id => id) := ⟨0, .map [], World.ownsMap_made _ _ _ _, fun id c _ => rfl⟩
set_option maxHeartbeats 2000000 in
set_option maxRecDepth 100000 in
theorem ofIdI (B : Nat) (ρ : Int → Int) (id : Int) (w : World) (h : RenAt w B ρ) (h0 : 0 ≤ id) (h1 : id ≤ 100000) :
  Calls Tryz.prog 138 #[.map (some B), .int .i64 id] w fun e w' => e = .returned (.int .i64 (ρ id)) ∧ w' = w := by
 obtain ⟨n, D, hown, hρ⟩ := h
 have hkey := keyOf_int_mk (P := Tryz.prog) (q := .i64) Tryz.underlying2 (a := id) (WalkArith.wf_i64 (by omega))
 have HR : Hid (∀ c : Int, D.atKey (.int .i64 id) (.lit (.int .i64 0)) = .lit (.int .i64 c) → (if Maps.has D (.int .i64 id) = true then c else id) = ρ id) := fun c hc => hρ id c hc
 clear hρ
 cases hh : Maps.has D (.int .i64 id) with
 | true =>
  go_enter Tryz.func138, Tryz.ntmps138
  go_wp2_with (first | (at_lookup; refine wpList_lookup_own_ok_int _ rfl _ _ 102 rfl 2 2 .i64 lawR Tryz.underlying102 Tryz.underlying2 (zeroR _) B n D rfl hown _ _ rfl hkey ?_; intro c hat hwc; have HC : Hid ((if Maps.has D (.int .i64 id) = true then c else id) = ρ id) := HR.out c hat; clear hat) | fail)
  go_ret
  have k := HC.out
  rw [hh, if_pos rfl] at k
  exact ⟨ret_int k, rfl⟩
 | false =>
  go_enter Tryz.func138, Tryz.ntmps138
  go_wp2_with (first | (at_lookup; refine wpList_lookup_own_ok_int _ rfl _ _ 102 rfl 2 2 .i64 lawR Tryz.underlying102 Tryz.underlying2 (zeroR _) B n D rfl hown _ _ rfl hkey ?_; intro c hat hwc; have HC : Hid ((if Maps.has D (.int .i64 id) = true then c else id) = ρ id) := HR.out c hat; clear hat) | fail)
  go_ret
  have k := HC.out
  rw [hh, if_neg (by simp)] at k
  exact ⟨ret_int k, rfl⟩
set_option maxHeartbeats 4000000 in
set_option maxRecDepth 100000 in
theorem ofIdsI (B lo : Nat) (ρ : Int → Int) (u : Option Addr) (q : Nat) (ids : List Int) (w : World) (h : RenAt w B ρ) (hv : IntsAt w lo u ids) (hl : ids.length ≤ 1000) (hr : ∀ x ∈ ids, 0 ≤ x ∧ x ≤ 100000) :
  Calls Tryz.prog 107 #[.map (some B), .slice u ids.length q] w fun e w' => ∃ v, e = .returned v ∧ Row w' w.heap.size v (ids.map ρ) ∧ Below w.heap.size w w' := by
 have HK : Hid (IntsAt w lo u ids) := hv
 have HRN : Hid (RenAt w B ρ) := h
 have HRG : Hid (∀ x ∈ ids, 0 ≤ x ∧ x ≤ 100000) := hr
 clear hv h hr
 go_enter Tryz.func107, Tryz.ntmps107
 go_wp2_with fail
 go_loopw [5, 10] (fun st i wr => ∃ k : Nat, k ≤ ids.length ∧ i = .int .i64 k ∧ Hid (Row wr w.heap.size st ((ids.take k).map ρ)) ∧ Hid (Below w.heap.size w wr)) (fun _ i _ => ids.length - (intOf i).toNat)
 case atStart => exact ⟨0, by omega, rfl, Row.nil _ _, Below.refl _ _⟩
 case round =>
  obtain ⟨k, hk, rfl, HX, HB⟩ := hrel
  obtain ⟨wo, hwo⟩ : ∃ wo, wo = wr := ⟨_, rfl⟩
  subst hwo
  by_cases hlt : k < ids.length
  ·obtain ⟨ga, off, rfl, e1⟩ : ∃ ga off, u = some ⟨ga, off, none⟩ ∧ wo.cell? ⟨ga, off + k, none⟩ = some (.int .i64 (ids.getD k 0)) := by
    rcases (HK.out.keep (agree_of_below HB.out lo)).2 with h | ⟨ga, off, ha, _, _, hc⟩
    ·rw [h] at hlt; simp at hlt
    ·exact ⟨ga, off, ha, hc k hlt⟩
   have hm := HRG.out _ (getD_mem 0 ids k hlt)
   have HN : Hid ((ids.take (k + 1)).map ρ = (ids.take k).map ρ ++ [ρ (ids.getD k 0)]) := by
    show _ = _
    rw [List.take_succ_eq_append_getElem hlt, List.map_append]
    simp [List.getD, hlt]
   have P := ofIdI B ρ (ids.getD k 0) wo (HRN.out.below HB.out) hm.1 hm.2
   have hz := HB.out.size
   have hll : ((ids.take k).map ρ).length ≤ 1000 := by rw [List.length_map, List.length_take]; omega
   generalize ids.getD k 0 = x at e1 HN P
   generalize (ids.take k).map ρ = L at *
   generalize hρx : ρ x = y at *
   clear hρx hm
   go_wp2_with fail
   refine P.mono ?_
   rintro e w2 ⟨rfl, hw2⟩
   rw [hw2]
   clear hw2 P
   go_wp2_with (at_builtin; refine push_int rfl _ _ rfl w.heap.size u5 L rfl (HX.out.alloc _) y _ 1 rfl (by exact one_cell_at rfl) (by omega) (by simp; omega) ?_; intro v3 w3 ho3 hg3)
   have HX3 : Hid (Row w3 w.heap.size v3 ((ids.take (k + 1)).map ρ)) := by show Row _ _ _ _; rw [HN.out]; exact ho3
   have HB3 : Hid (Below w.heap.size w w3) := (HB.out.alloc hz _).grown hg3 (by simp; omega) (fun q hq => (HX.out.ge hq).1)
   clear ho3 hg3
   go_wp2_with fail
   go_roundw
   case rel => exact ⟨k + 1, by omega, by go_num, HX3, HB3⟩
   case measure => simp [intOf]; omega
  ·have hkl : ids.take k = ids := List.take_of_length_le (by omega)
   have HX2 : Hid (Row wo w.heap.size u5 (ids.map ρ)) := by show Row _ _ _ _; rw [← hkl]; exact HX.out
   go_wp2_with fail
   go_ret
   exact ⟨_, rfl, HX2.out, HB.out⟩
set_option maxHeartbeats 2000000 in
theorem wantI (w : World) : Calls Tryz.prog 136 #[.bool true] w fun e w' => e = .returned (.tuple #[]) ∧ w' = w := by
 go_enter Tryz.func136, Tryz.ntmps136
 go_wp2_with fail
 exact bodyPost_end (results_none Tryz.results136 _ _ _) rfl ⟨rfl, rfl⟩
set_option maxHeartbeats 4000000 in
set_option maxRecDepth 100000 in
theorem equalI (la lb : Nat) (a b : Option Addr) (ca cb : Nat) (l : List Int) (w : World) (ha : IntsAt w la a l) (hb : IntsAt w lb b l) (hl : l.length ≤ 1000) :
  Calls Tryz.prog 137 #[.slice a l.length ca, .slice b l.length cb] w fun e w' => e = .returned (.bool true) ∧ Below w.heap.size w w' := by
 have HA : Hid (IntsAt w la a l) := ha
 have HB : Hid (IntsAt w lb b l) := hb
 clear ha hb
 go_enter Tryz.func137, Tryz.ntmps137
 go_wp2_with fail
 go_loopw [13] (fun i wr => ∃ k : Nat, k ≤ l.length ∧ i = .int .i64 k ∧ Hid (Below w.heap.size w wr)) (fun i _ => l.length - (intOf i).toNat)
 case atStart => exact ⟨0, by omega, rfl, Below.refl _ _⟩
 case round =>
  obtain ⟨k, hk, rfl, HW⟩ := hrel
  by_cases hlt : k < l.length
  ·obtain ⟨ga, oa, rfl, ea⟩ : ∃ ga off, a = some ⟨ga, off, none⟩ ∧ wr.cell? ⟨ga, off + k, none⟩ = some (.int .i64 (l.getD k 0)) := by
    rcases (HA.out.keep (agree_of_below HW.out la)).2 with h | ⟨ga, off, ha, _, _, hc⟩
    ·rw [h] at hlt; simp at hlt
    ·exact ⟨ga, off, ha, hc k hlt⟩
   obtain ⟨gb, ob, rfl, eb⟩ : ∃ gb off, b = some ⟨gb, off, none⟩ ∧ wr.cell? ⟨gb, off + k, none⟩ = some (.int .i64 (l.getD k 0)) := by
    rcases (HB.out.keep (agree_of_below HW.out lb)).2 with h | ⟨ga, off, ha, _, _, hc⟩
    ·rw [h] at hlt; simp at hlt
    ·exact ⟨ga, off, ha, hc k hlt⟩
   have hltI : (k : Int) < l.length := by omega
   generalize l.getD k 0 = x at ea eb
   go_wp2_with fail
   go_quiet (fail)
   go_wp2_with fail
   go_roundw
   case rel => exact ⟨k + 1, by omega, by go_num, below_drewN HW.out _⟩
   case measure => simp [intOf]; omega
  ·have e : k = l.length := by omega
   subst e
   go_wp2_with fail
   go_ret
   exact ⟨rfl, HW.out⟩
end Go.Proofs.YtoknhppjdmoblaaGreatDoor
namespace Go.Proofs.YtoknhppjdmoblaaGreatDoor
set_option linter.unusedVariables false
set_option linter.unusedSimpArgs false
open Go.RowKit
def mkD (op w imm : Int) (l : List Int) : InstD := if op = 26 then ⟨op, w, 0, 0, 0, imm, l⟩ else ⟨op, w, l.getD 0 0, l.getD 1 0, l.getD 2 0, imm, []⟩
theorem size64F : (Tryz.prog.info? 2).map (·.size) = some 1 := by kernel_rfl
theorem src_ofF {w2 : World} {la : Nat} {ul : Option Addr} {l : List Int} {o : Obj} (kl : IntsAt w2 la ul l) : 0 < (l.map (Value.int .i64)).length → ∃ ad, ul = some ad ∧ ∀ j v, (l.map (Value.int .i64))[j]? = some v → (w2.alloc o).cell? (ad.add j) = some v := fun hp => by
 rcases kl.2 with hn | ⟨g, off, rfl, _, hg, hcl⟩
 ·rw [hn] at hp; simp at hp
 ·refine ⟨_, rfl, fun j v hj => ?_⟩
  rw [List.getElem?_map] at hj
  have hjl : j < l.length := by
   rcases Nat.lt_or_ge j l.length with h | h
   ·exact h
   ·rw [List.getElem?_eq_none h] at hj; cases hj
  have hadd : (⟨g, off, none⟩ : Addr).add j = ⟨g, off + j, none⟩ := by unfold Addr.add; split <;> simp_all
  rw [hadd]
  refine (cell_block (((Below.refl w2.heap.size w2).alloc (Nat.le_refl _) o).block g hg)).trans ((hcl j hjl).trans ?_)
  rw [← hj]
  simp [List.getD, hjl]
theorem three_row {l : List Int} (hl : l.length ≤ 3) : splice [Value.int .i64 0, .int .i64 0, .int .i64 0] 0 (l.map (Value.int .i64)) = [.int .i64 (l.getD 0 0), .int .i64 (l.getD 1 0), .int .i64 (l.getD 2 0)] := by
 match l, hl with
 | [], _ => rfl
 | [a], _ => rfl
 | [a, b], _ => rfl
 | [a, b, c], _ => rfl
 | _ :: _ :: _ :: _ :: _, h => simp at h
set_option maxRecDepth 100000 in
theorem run_copy3 {w2 : World} {la cl g : Nat} {ul : Option Addr} {l : List Int} (kl : IntsAt w2 la ul l) (hl : l.length ≤ 3) (hg2 : w2.heap.size = g) :
  ∃ w3, (Builtin.copy_ #[24, 24] 3 #[.slice (some ⟨g, 0, none⟩) 3 3, .slice ul l.length cl]).run Tryz.prog (w2.alloc (.cells #[.int .i64 0, .int .i64 0, .int .i64 0] 154)) = .ok (goInt l.length) w3 ∧
   Hid (w3.heap[g]? = some (.cells #[.int .i64 (l.getD 0 0), .int .i64 (l.getD 1 0), .int .i64 (l.getD 2 0)] 154 (0, 0))) ∧ Below w2.heap.size w2 w3 := by
 subst hg2
 have hg := heap_alloc_last w2 (.cells #[.int .i64 0, .int .i64 0, .int .i64 0] 154)
 have b1 : Below w2.heap.size w2 (w2.alloc (.cells #[.int .i64 0, .int .i64 0, .int .i64 0] 154)) := (Below.refl _ _).alloc (Nat.le_refl _) _
 by_cases h0 : l.length = 0
 ·have hn : l = [] := List.length_eq_zero_iff.1 h0
  subst hn
  exact ⟨_, run_copy_none _ _ _ _ 2 _ _ _ _ _ _ Tryz.underlying24 size64F (by simp), hg, b1⟩
 ·obtain ⟨ad, rfl, hs⟩ := src_ofF (o := .cells #[.int .i64 0, .int .i64 0, .int .i64 0] 154) kl (by simp; omega)
  have hr := run_copy_row (P := Tryz.prog) _ 24 24 3 2 w2.heap.size 0 3 3 ad l.length cl _ _ (l.map (Value.int .i64)) Tryz.underlying24 size64F hg (by simp only [List.length_map, Nat.min_def]; split <;> omega) hs (by simp; omega) (by intro v hv; obtain ⟨x, _, rfl⟩ := List.mem_map.1 hv; rfl)
  rw [List.length_map] at hr
  refine ⟨_, hr, ?_, b1.trans ⟨rfl, rfl, rfl, by simp, fun b hb => setRow_other _ _ _ _ (by omega)⟩⟩
  have h2 := setRow_heap _ w2.heap.size _ ((#[Value.int .i64 0, .int .i64 0, .int .i64 0] : Array Value).toList.take 0 ++ l.map (Value.int .i64) ++ (#[Value.int .i64 0, .int .i64 0, .int .i64 0] : Array Value).toList.drop (0 + l.length)).toArray 154 (0, 0) hg
  show _ = _
  rw [h2]
  have h3 := three_row hl
  unfold splice at h3
  rw [List.length_map] at h3
  congr 2
  rw [List.append_assoc]
  show (List.take 0 [Value.int .i64 0, .int .i64 0, .int .i64 0] ++ (l.map (Value.int .i64) ++ List.drop (0 + l.length) [Value.int .i64 0, .int .i64 0, .int .i64 0])).toArray = _
  rw [h3]
set_option maxHeartbeats 4000000 in
set_option maxRecDepth 100000 in
theorem instOf26 (w0 imm : Int) (u : Option Addr) (q : Nat) (l : List Int) (w : World) :
  Calls Tryz.prog 106 #[.int .i64 26, .int .i64 w0, .int .i64 imm, .slice u l.length q] w fun e w' => e = .returned (.agg #[.int .i64 26, .int .i64 w0, .int .i64 0, .int .i64 0, .int .i64 0, .int .i64 imm, .slice u l.length q]) ∧ Below w.heap.size w w' := by
 go_enter Tryz.func106, Tryz.ntmps106
 go_wp2_with fail
 have hr : ((w.alloc (.cells #[.int .i64 26, .int .i64 w0, .int .i64 0, .int .i64 0, .int .i64 0, .int .i64 imm, .slice u l.length q] 29)).alloc (.cells #[.int .i64 26, .int .i64 w0, .int .i64 0, .int .i64 0, .int .i64 0, .int .i64 imm, .slice u l.length q] 29)).heap[w.heap.size]? = some (.cells #[.int .i64 26, .int .i64 w0, .int .i64 0, .int .i64 0, .int .i64 0, .int .i64 imm, .slice u l.length q] 29 (0, 0)) := (Below.heap_alloc _ _ _ (by simp)).trans (heap_alloc_last _ _)
 refine bodyPost_ret (v := .agg #[.int .i64 26, .int .i64 w0, .int .i64 0, .int .i64 0, .int .i64 0, .int .i64 imm, .slice u l.length q]) ((results_cell_row Tryz.results106 _ _ w.heap.size 29 _ (0, 0) _ rfl hr Tryz.underlying29 rfl (by kernel_rfl)).trans (by rfl)) rfl ⟨rfl, ?_⟩
 exact ((Below.refl _ _).alloc (Nat.le_refl _) _).alloc (by simp) _
set_option maxHeartbeats 4000000 in
set_option maxRecDepth 100000 in
theorem instOfX (op w0 imm : Int) (lo : Nat) (u : Option Addr) (q : Nat) (l : List Int) (w : World) (ho : ¬ op = 26) (hl : l.length ≤ 3) (hv : IntsAt w lo u l) (hops : opsD (mkD op w0 imm l) = l) :
  Calls Tryz.prog 106 #[.int .i64 op, .int .i64 w0, .int .i64 imm, .slice u l.length q] w fun e w' => e = .returned (.agg #[.int .i64 op, .int .i64 w0, .int .i64 (l.getD 0 0), .int .i64 (l.getD 1 0), .int .i64 (l.getD 2 0), .int .i64 imm, .slice none 0 0]) ∧ Below w.heap.size w w' := by
 have qo : (op == 26) = false := by simpa using ho
 have b2 : Below w.heap.size w ((w.alloc (.cells #[.int .i64 0, .int .i64 0, .int .i64 0, .int .i64 0, .int .i64 0, .int .i64 0, .slice none 0 0] 29)).alloc (.cells #[.int .i64 op, .int .i64 w0, .int .i64 0, .int .i64 0, .int .i64 0, .int .i64 imm, .slice none 0 0] 29)) := ((Below.refl _ _).alloc (Nat.le_refl _) _).alloc (by simp) _
 have HB2 : Hid (Below w.heap.size w _) := b2
 have hi2 : ((w.alloc (.cells #[.int .i64 0, .int .i64 0, .int .i64 0, .int .i64 0, .int .i64 0, .int .i64 0, .slice none 0 0] 29)).alloc (.cells #[.int .i64 op, .int .i64 w0, .int .i64 0, .int .i64 0, .int .i64 0, .int .i64 imm, .slice none 0 0] 29)).heap[w.heap.size + 1]? = some (.cells #[.int .i64 op, .int .i64 w0, .int .i64 0, .int .i64 0, .int .i64 0, .int .i64 imm, .slice none 0 0] 29 (0, 0)) := heap_two2 _ _ _
 have hr2 : ((w.alloc (.cells #[.int .i64 0, .int .i64 0, .int .i64 0, .int .i64 0, .int .i64 0, .int .i64 0, .slice none 0 0] 29)).alloc (.cells #[.int .i64 op, .int .i64 w0, .int .i64 0, .int .i64 0, .int .i64 0, .int .i64 imm, .slice none 0 0] 29)).heap[w.heap.size]? = some (.cells #[.int .i64 0, .int .i64 0, .int .i64 0, .int .i64 0, .int .i64 0, .int .i64 0, .slice none 0 0] 29 (0, 0)) := (Below.heap_alloc _ _ _ (by simp)).trans (heap_alloc_last _ _)
 obtain ⟨w3, hcp, HC3, b3⟩ := run_copy3 (g := w.heap.size + 1 + 1) (cl := q) (hv.keep (agree_of_below b2 lo)) hl (by simp)
 have hz2 : ((w.alloc (.cells #[.int .i64 0, .int .i64 0, .int .i64 0, .int .i64 0, .int .i64 0, .int .i64 0, .slice none 0 0] 29)).alloc (.cells #[.int .i64 op, .int .i64 w0, .int .i64 0, .int .i64 0, .int .i64 0, .int .i64 imm, .slice none 0 0] 29)).heap.size = w.heap.size + 2 := by simp
 rw [hz2] at b3
 have hi3 := (b3.block (w.heap.size + 1) (by omega)).trans hi2
 have hr3 := (b3.block w.heap.size (by omega)).trans hr2
 have HB3 : Hid (Below w.heap.size w w3) := b2.trans (b3.mono (by omega))
 have MK : Hid (mkD op w0 imm l = ⟨op, w0, l.getD 0 0, l.getD 1 0, l.getD 2 0, imm, []⟩) := by show _ = _; unfold mkD; rw [if_neg ho]
 have HOPS : Hid (opsD (mkD op w0 imm l) = l) := hops
 have HV : Hid (IntsAt w lo u l) := hv
 clear b2 b3 hi2 hr2 hz2 hops hv ho
 go_enter Tryz.func106, Tryz.ntmps106
 go_wp2_with fail
 clear hcp
 have f0 : w3.cell? ⟨w.heap.size + 1 + 1, 0, none⟩ = some (.int .i64 (l.getD 0 0)) := (cell_of_heap HC3.out).trans rfl
 have f1 : w3.cell? ⟨w.heap.size + 1 + 1, 1, none⟩ = some (.int .i64 (l.getD 1 0)) := (cell_of_heap HC3.out).trans rfl
 have f2 : w3.cell? ⟨w.heap.size + 1 + 1, 2, none⟩ = some (.int .i64 (l.getD 2 0)) := (cell_of_heap HC3.out).trans rfl
 have i0 : w3.cell? ⟨w.heap.size + 1, 0, none⟩ = some (.int .i64 op) := (cell_of_heap hi3).trans rfl
 have i1 : w3.cell? ⟨w.heap.size + 1, 1, none⟩ = some (.int .i64 w0) := (cell_of_heap hi3).trans rfl
 have i2 : w3.cell? ⟨w.heap.size + 1, 2, none⟩ = some (.int .i64 0) := (cell_of_heap hi3).trans rfl
 have i3 : w3.cell? ⟨w.heap.size + 1, 3, none⟩ = some (.int .i64 0) := (cell_of_heap hi3).trans rfl
 have i4 : w3.cell? ⟨w.heap.size + 1, 4, none⟩ = some (.int .i64 0) := (cell_of_heap hi3).trans rfl
 have i5 : w3.cell? ⟨w.heap.size + 1, 5, none⟩ = some (.int .i64 imm) := (cell_of_heap hi3).trans rfl
 have i6 : w3.cell? ⟨w.heap.size + 1, 6, none⟩ = some (.slice none 0 0) := (cell_of_heap hi3).trans rfl
 have fi : ∀ o, w3.frozen? ⟨w.heap.size + 1, o, none⟩ = false := fun o => froz_of_heap hi3
 generalize hx0 : l.getD 0 0 = x0 at *
 have HX0 : Hid (l.getD 0 0 = x0) := hx0
 clear hx0
 generalize hx1 : l.getD 1 0 = x1 at *
 have HX1 : Hid (l.getD 1 0 = x1) := hx1
 clear hx1
 generalize hx2 : l.getD 2 0 = x2 at *
 have HX2 : Hid (l.getD 2 0 = x2) := hx2
 clear hx2
 go_region
 have hi4 : (((w3.setCell ⟨w.heap.size + 1, 2, none⟩ (.int .i64 x0)).setCell ⟨w.heap.size + 1, 3, none⟩ (.int .i64 x1)).setCell ⟨w.heap.size + 1, 4, none⟩ (.int .i64 x2)).drew.heap[w.heap.size + 1]? = some (.cells #[.int .i64 op, .int .i64 w0, .int .i64 x0, .int .i64 x1, .int .i64 x2, .int .i64 imm, .slice none 0 0] 29 (0, 0)) := by
  have k := heap_set (o := 4) (v := .int .i64 x2) (heap_set (o := 3) (v := .int .i64 x1) (heap_set (o := 2) (v := .int .i64 x0) hi3))
  rw [drew_heap]
  simpa using k
 have hr4 : (((w3.setCell ⟨w.heap.size + 1, 2, none⟩ (.int .i64 x0)).setCell ⟨w.heap.size + 1, 3, none⟩ (.int .i64 x1)).setCell ⟨w.heap.size + 1, 4, none⟩ (.int .i64 x2)).drew.heap[w.heap.size]? = some (.cells #[.int .i64 0, .int .i64 0, .int .i64 0, .int .i64 0, .int .i64 0, .int .i64 0, .slice none 0 0] 29 (0, 0)) :=
  (Below.heap_setCell _ _ _ _ (by show w.heap.size ≠ w.heap.size + 1; omega)).trans ((Below.heap_setCell _ _ _ _ (by show w.heap.size ≠ w.heap.size + 1; omega)).trans ((Below.heap_setCell _ _ _ _ (by show w.heap.size ≠ w.heap.size + 1; omega)).trans hr3))
 have HB4 : Hid (Below w.heap.size w (((w3.setCell ⟨w.heap.size + 1, 2, none⟩ (.int .i64 x0)).setCell ⟨w.heap.size + 1, 3, none⟩ (.int .i64 x1)).setCell ⟨w.heap.size + 1, 4, none⟩ (.int .i64 x2)).drew) := (((HB3.out.setCell (by dsimp only; omega) _).setCell (by dsimp only; omega) _).setCell (by dsimp only; omega) _).drew
 clear hi3 hr3 HC3 HB3 f0 f1 f2 i0 i1 i2 i3 i4 i5 i6 fi HB2
 generalize (((w3.setCell ⟨w.heap.size + 1, 2, none⟩ (.int .i64 x0)).setCell ⟨w.heap.size + 1, 3, none⟩ (.int .i64 x1)).setCell ⟨w.heap.size + 1, 4, none⟩ (.int .i64 x2)).drew = W4 at *
 have j0 : W4.cell? ⟨w.heap.size + 1, 0, none⟩ = some (.int .i64 op) := (cell_of_heap hi4).trans rfl
 have j1 : W4.cell? ⟨w.heap.size + 1, 1, none⟩ = some (.int .i64 w0) := (cell_of_heap hi4).trans rfl
 have j2 : W4.cell? ⟨w.heap.size + 1, 2, none⟩ = some (.int .i64 x0) := (cell_of_heap hi4).trans rfl
 have j3 : W4.cell? ⟨w.heap.size + 1, 3, none⟩ = some (.int .i64 x1) := (cell_of_heap hi4).trans rfl
 have j4 : W4.cell? ⟨w.heap.size + 1, 4, none⟩ = some (.int .i64 x2) := (cell_of_heap hi4).trans rfl
 have j5 : W4.cell? ⟨w.heap.size + 1, 5, none⟩ = some (.int .i64 imm) := (cell_of_heap hi4).trans rfl
 have j6 : W4.cell? ⟨w.heap.size + 1, 6, none⟩ = some (.slice none 0 0) := (cell_of_heap hi4).trans rfl
 have HO : opsD ⟨op, w0, x0, x1, x2, imm, []⟩ = l := by rw [← MK.out]; exact HOPS.out
 have P := operI 0 ⟨op, w0, x0, x1, x2, imm, []⟩ none 0 W4 (by simp) (ints_none _ _)
 rw [HO] at P
 clear HO MK HOPS
 go_wp2_with fail
 refine P.mono ?_
 rintro e w5 ⟨v5, q5, rfl, o5, b5⟩
 have HB5 : Hid (Below w.heap.size w w5) := HB4.out.trans (b5.mono HB4.out.size)
 have E := equalI _ lo v5 u q5 q l w5 o5.ints (HV.out.keep (agree_of_below HB5.out lo)) (by omega)
 have hi5 := (b5.block _ (Array.getElem?_eq_some_iff.1 hi4).1).trans hi4
 have hr5 := (b5.block _ (Array.getElem?_eq_some_iff.1 hr4).1).trans hr4
 clear P o5 b5 hi4 hr4 j0 j1 j2 j3 j4 j5 j6
 go_wp2_with fail
 refine E.mono ?_
 rintro e w6 ⟨rfl, b6⟩
 have HB6 : Hid (Below w.heap.size w w6) := HB5.out.trans (b6.mono HB5.out.size)
 have hi6 := (b6.block _ (Array.getElem?_eq_some_iff.1 hi5).1).trans hi5
 have hr6 := (b6.block _ (Array.getElem?_eq_some_iff.1 hr5).1).trans hr5
 clear E b6 hi5 hr5
 go_wp2_with fail
 refine (wantI w6).mono ?_
 rintro e w7 ⟨rfl, hw7⟩
 rw [hw7]
 clear hw7
 have j0 : w6.cell? ⟨w.heap.size + 1, 0, none⟩ = some (.int .i64 op) := (cell_of_heap hi6).trans rfl
 have j1 : w6.cell? ⟨w.heap.size + 1, 1, none⟩ = some (.int .i64 w0) := (cell_of_heap hi6).trans rfl
 have j2 : w6.cell? ⟨w.heap.size + 1, 2, none⟩ = some (.int .i64 x0) := (cell_of_heap hi6).trans rfl
 have j3 : w6.cell? ⟨w.heap.size + 1, 3, none⟩ = some (.int .i64 x1) := (cell_of_heap hi6).trans rfl
 have j4 : w6.cell? ⟨w.heap.size + 1, 4, none⟩ = some (.int .i64 x2) := (cell_of_heap hi6).trans rfl
 have j5 : w6.cell? ⟨w.heap.size + 1, 5, none⟩ = some (.int .i64 imm) := (cell_of_heap hi6).trans rfl
 have j6 : w6.cell? ⟨w.heap.size + 1, 6, none⟩ = some (.slice none 0 0) := (cell_of_heap hi6).trans rfl
 have r0 : w6.cell? ⟨w.heap.size, 0, none⟩ = some (.int .i64 0) := (cell_of_heap hr6).trans rfl
 have r1 : w6.cell? ⟨w.heap.size, 1, none⟩ = some (.int .i64 0) := (cell_of_heap hr6).trans rfl
 have r2 : w6.cell? ⟨w.heap.size, 2, none⟩ = some (.int .i64 0) := (cell_of_heap hr6).trans rfl
 have r3 : w6.cell? ⟨w.heap.size, 3, none⟩ = some (.int .i64 0) := (cell_of_heap hr6).trans rfl
 have r4 : w6.cell? ⟨w.heap.size, 4, none⟩ = some (.int .i64 0) := (cell_of_heap hr6).trans rfl
 have r5 : w6.cell? ⟨w.heap.size, 5, none⟩ = some (.int .i64 0) := (cell_of_heap hr6).trans rfl
 have r6 : w6.cell? ⟨w.heap.size, 6, none⟩ = some (.slice none 0 0) := (cell_of_heap hr6).trans rfl
 have rf : ∀ o, w6.frozen? ⟨w.heap.size, o, none⟩ = false := fun o => froz_of_heap hr6
 go_wp2_with fail
 have hr := (heap_set (o := 6) (v := .slice none 0 0) (heap_set (o := 5) (v := .int .i64 imm) (heap_set (o := 4) (v := .int .i64 x2) (heap_set (o := 3) (v := .int .i64 x1) (heap_set (o := 2) (v := .int .i64 x0) (heap_set (o := 1) (v := .int .i64 w0) (heap_set (o := 0) (v := .int .i64 op) hr6)))))))
 refine bodyPost_ret (v := .agg #[.int .i64 op, .int .i64 w0, .int .i64 x0, .int .i64 x1, .int .i64 x2, .int .i64 imm, .slice none 0 0]) ((results_cell_row Tryz.results106 _ _ w.heap.size 29 _ (0, 0) _ rfl hr Tryz.underlying29 rfl (by kernel_rfl)).trans (by rfl)) rfl ⟨by rw [HX0.out, HX1.out, HX2.out], ?_⟩
 exact (by repeat (first | refine Below.setCell ?_ (by dsimp only; omega) _ | exact HB6.out))
end Go.Proofs.YtoknhppjdmoblaaGreatDoor
