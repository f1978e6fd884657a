import Derived.Test.YtenbodghkpbghaaDoorRdrSv
import Derived.Laws.AppendOwnNone
import Derived.Deep.LoopGhost
import Derived.Deep.Slices
import Derived.Deep.RegionLaw
import Derived.Deep.DeepCutAuto
import Derived.WalkKit
import Derived.Test.YtenbodghkpbghaaDoorRows
import Derived.WalkSpells
namespace Go.Proofs.YtenbodghkpbghaaDoor
open Go.RowKit
def OwnAt (w : World) (lo : Nat) (a : Option Addr) (l : List Int) : Prop :=
 l.length ≤ 9223372036854775807 ∧ (l = [] ∨ ∃ g cur, a = some ⟨g, 0, none⟩ ∧ lo ≤ g ∧ w.heap[g]? = some (.cells cur 2 (0, 0)) ∧ ∀ i, i < l.length → cur[i]? = some (.int .i64 (l.getD i 0)))
theorem OwnAt.ints {w : World} {lo : Nat} {a : Option Addr} {l : List Int} (h : OwnAt w lo a l) : IntsAt w lo a l := by
 obtain ⟨hm, h⟩ := h
 refine ⟨hm, ?_⟩
 rcases h with h | ⟨g, cur, ha, hl, hb, hc⟩
 ·exact .inl h
 ·exact .inr ⟨g, 0, ha, hl, (Array.getElem?_eq_some_iff.1 hb).1, fun i hi => by rw [Nat.zero_add, cell_of_heap hb]; exact hc i hi⟩
theorem OwnAt.keep {w w' : World} {lo : Nat} {a : Option Addr} {l : List Int} (h : OwnAt w lo a l) (k : Agree lo w w') : OwnAt w' lo a l := by
 obtain ⟨hm, h⟩ := h
 refine ⟨hm, ?_⟩
 rcases h with h | ⟨g, cur, ha, hl, hb, hc⟩
 ·exact .inl h
 ·exact .inr ⟨g, cur, ha, hl, (k.2 g hl (Array.getElem?_eq_some_iff.1 hb).1).trans hb, hc⟩
theorem OwnAt.low {w : World} {lo lo' : Nat} {a : Option Addr} {l : List Int} (h : OwnAt w lo a l) (k : lo' ≤ lo) : OwnAt w lo' a l := by
 obtain ⟨hm, h⟩ := h
 refine ⟨hm, ?_⟩
 rcases h with h | ⟨g, cur, ha, hl, hb, hc⟩
 ·exact .inl h
 ·exact .inr ⟨g, cur, ha, Nat.le_trans k hl, hb, hc⟩
theorem own_lit (w : World) (l : List Int) (hm : l.length ≤ 1000) (cs : Array Value) (hc : ∀ i, i < l.length → cs[i]? = some (.int .i64 (l.getD i 0))) : OwnAt (w.alloc (.cells cs 2)) w.heap.size (some ⟨w.heap.size, 0, none⟩) l :=
 ⟨by omega, .inr ⟨w.heap.size, cs, rfl, Nat.le_refl _, heap_alloc_last _ _, hc⟩⟩
theorem own_of_row {w : World} {base : Nat} {v : Value} {l : List Int} (hm : l.length ≤ 1048576) (h : w.ownsRow base 2 1 v l.length (l.map (Value.int .i64))) : ∃ u c, v = .slice u l.length c ∧ OwnAt w base u l := by
 rcases h.2 with ⟨hv, hn⟩ | ⟨g, cap, cur, hv, hb, hg, hnc, _, hcs, htk⟩
 ·exact ⟨none, 0, by rw [hv, hn], by omega, .inl (List.length_eq_zero_iff.1 hn)⟩
 ·refine ⟨_, cap, hv, by omega, .inr ⟨g, cur, rfl, hb, hg, fun i hi => ?_⟩⟩
  have e : (cur.toList.take (l.length * 1))[i]? = (l.map (Value.int .i64))[i]? := by rw [htk]
  rw [List.getElem?_take, if_pos (by omega)] at e
  simp [hi] at e
  simpa [List.getD, hi] using e
theorem append_none {t ty : TypeId} (v : Value) (hv : v = .slice none 0 0 ∨ ∃ g, v = .slice (some ⟨g, 0, none⟩) 0 0) (c : Nat) (w : World) (i : TypeInfo) (ht : Tryd.prog.underlying t = some (.slice 2)) (hi : Tryd.prog.info? 2 = some i) :
  (Builtin.append_ #[t, t] ty #[v, .slice none 0 c]).run Tryd.prog w = .ok v w := by
 rcases hv with rfl | ⟨g, rfl⟩
 ·simp [Builtin.append_, run_underlying ht, sizeOf, typeInfo, hi, Builtin.lenOf, Builtin.firstCells]
 ·simp [Builtin.append_, run_underlying ht, sizeOf, typeInfo, hi, Builtin.lenOf, Builtin.firstCells, storeCells]
set_option maxHeartbeats 1000000 in
theorem copyS_any (lo : Nat) (a : Option Addr) (cap : Nat) (l : List Int) (w : World) (hl : l.length ≤ 1048576) (hv : IntsAt w lo a l) :
  Calls Tryd.prog 79 #[.slice a l.length cap] w fun e w' => ∃ u c, e = .returned (.slice u l.length c) ∧ OwnAt w' w.heap.size u l ∧ Below w.heap.size w w' := by
 obtain ⟨i0, hi, hz0, hz1, hz2⟩ := info_parts infoI
 rcases a with _ | ad
 ·have hnil : l = [] := by
   rcases hv.2 with h | ⟨b, off, h, _⟩
   ·exact h
   ·simp at h
  subst hnil
  go_enter Tryd.func79, Tryd.ntmps79
  have hap := fun g => append_none (t := 24) (ty := 24) (.slice (some ⟨g, 0, none⟩) 0 0) (.inr ⟨g, rfl⟩) cap (w.alloc (.cells #[] 2)) i0 Tryd.underlying24 hi
  clear hi hz0 hz1 hz2
  go_wp2_with fail
  go_ret
  exact ⟨_, _, rfl, ⟨by simp, .inl rfl⟩, (Below.refl _ _).alloc (Nat.le_refl _) _⟩
 ·have hcell : ∀ j u, (l.map (Value.int .i64))[j]? = some u → (w.alloc (.cells #[] 2)).cell? (ad.add j) = some u := by
   intro j u hj
   rcases hv.2 with h | ⟨b, off, h, _, hb, hc⟩
   ·simp [h] at hj
   ·simp at h
    subst h
    have hjl : j < l.length := by
     have := (List.getElem?_eq_some_iff.1 hj).1
     simpa using this
    have hat : (⟨b, off, none⟩ : Addr).add j = ⟨b, off + j, none⟩ := by unfold Addr.add; split <;> simp_all
    rw [hat, cell_block (Below.heap_alloc w _ b hb), hc j hjl]
    simp [hjl] at hj
    rw [← hj]; simp [List.getD, hjl]
  go_enter Tryd.func79, Tryd.ntmps79
  go_wp2_with (at_builtin; refine wpList_append_own _ rfl _ _ 24 rfl w.heap.size 2 i0 (.int .i64 0) 1 8 Tryd.underlying24 hi hz0 hz1 hz2 rfl (by decide) _ 0 [] rfl (World.ownsRow_lit w #[] 0 (Nat.le_refl _) (by decide) (by simp)) ad l.length cap (l.map (Value.int .i64)) rfl (by simp) hcell (by simp [Value.oneCell']) (by unfold maxLen; omega) (by omega) (by simp) ?_; intro v' w1 hown hgrow _)
  simp only [Nat.zero_add, List.nil_append] at hown
  obtain ⟨u, c, rfl, ho⟩ := own_of_row hl hown
  go_ret
  exact ⟨u, c, rfl, ho, ((Below.refl _ _).alloc (Nat.le_refl _) _).grown hgrow (by simp) (fun k hk => by have hk' : some w.heap.size = some k := hk; simp at hk'; omega)⟩
end Go.Proofs.YtenbodghkpbghaaDoor
namespace Go.Proofs.YtenbodghkpbghaaDoor
open Go.RowKit Go.Deep
set_option linter.unusedVariables false
theorem step_same {w : World} {ops : Array Oper} {o : Oper} {a : Act} {K : Act → World → Prop} {Q : Exit → Act → World → Prop} {E : Prop} (hgd : o.guard = none) (s x : Operand) (t : TypeId) (ho : o.op = .call { callee := .builtin .append, args := #[s, x], argTypes := #[t, t] })
  {sv xv : Value} (hs : a.eval s = sv) (hx : a.eval x = xv) (hr : ∀ ty, (Builtin.append_ #[t, t] ty #[sv, xv]).run Tryd.prog w = .ok sv w) (h : K (a.put o.dst sv) w) :
  if Region.wanted o (yielded ops a.tmps) = true then Oper.wp Tryd.prog o a w K Q else E := by
 rw [if_pos (by simp [Region.wanted, hgd])]
 have hr := hr o.type
 unfold Oper.wp execOp
 simp only [ho, resolve, invoke, builtin, Sem.run_bind, Sem.run_pure, Result.andThen_ok, List.map_toArray, List.map_cons, List.map_nil, hs, hx, hr]
 exact h
theorem lit_own {w : World} {b L : Nat} (hL : w.heap[L]? = some (.cells #[] 2 (0, 0))) (hb : b ≤ L) : w.ownsRow b 2 1 (.slice (some ⟨L, 0, none⟩) 0 0) 0 [] :=
 ⟨by simp, .inr ⟨L, 0, #[], rfl, hb, hL, Nat.le_refl _, by unfold maxLen; omega, by simp, by simp⟩⟩
theorem one_of {w : World} {L : Nat} {x : Value} {T : TypeId} (hL : w.heap[L]? = some (.cells #[x] T (0, 0))) : ∀ j u, [x][j]? = some u → w.cell? ((⟨L, 0, none⟩ : Addr).add j) = some u := fun j u hj => by
 rw [Addr.add_lit, cell_of_heap hL]
 cases j with
 | zero => simpa using hj
 | succ j => simp at hj
theorem SlN.read {base n N : Nat} {M : Tmap} {s : Value} {v : World} (h : SlN M 2 s n) (th : TH base M N v) (hn : 0 < n) : ∃ gi c, ∃ zs : List Int, s = .slice (some ⟨gi, 0, none⟩) n c ∧ zs.length = n ∧ base ≤ gi ∧ gi < v.heap.size ∧ (∃ m, M gi = some (2, m) ∧ n ≤ m) ∧ ∀ j u, (zs.map (Value.int .i64))[j]? = some u → v.cell? ((⟨gi, 0, none⟩ : Addr).add j) = some u := by
 obtain ⟨u, c, hs, h⟩ := h
 rcases h with h | ⟨g, m, hu, hM, hnm⟩
 ·omega
 obtain ⟨h1, cur, h2, h3⟩ := th g _ m hM
 have hz : ∀ i, i < n → ∃ z : Int, cur[i]? = some (.int .i64 z) := fun i hi => by
  have := (h3 i (by omega)).1 rfl
  simpa [szT] using this
 have hin : Inhabited Int := ⟨0⟩
 obtain ⟨f, hf⟩ := choose_lt hz
 refine ⟨g, c, (List.range n).map f, by rw [hs, hu], by simp, h1, (Array.getElem?_eq_some_iff.1 h2).1, ⟨m, hM, hnm⟩, fun j u hj => ?_⟩
 have hjl : j < n := by
  have := (List.getElem?_eq_some_iff.1 hj).1
  simpa using this
 rw [Addr.add_lit, cell_of_heap h2, Nat.zero_add, hf j hjl]
 simp [hjl] at hj
 rw [hj]
theorem own_ge1 {w : World} {b n m g c : Nat} {T : TypeId} {s : Nat} {xs : List Value} (h : w.ownsRow b T s (.slice (some ⟨g, 0, none⟩) n c) m xs) (hn : 0 < m) : b ≤ g := by
 rcases h.2 with ⟨hbad, _⟩ | ⟨g', c', cur, hv, hb, _⟩
 ·cases hbad
 ·cases hv; exact hb
structure Fresh (v w2 : World) (s : Value) (n : Nat) : Prop where
 below : Below v.heap.size v w2
 new : ∃ g2 cap cur, s = .slice (some ⟨g2, 0, none⟩) n cap ∧ v.heap.size ≤ g2 ∧ w2.heap[g2]? = some (.cells cur 2 (0, 0)) ∧ ∀ i, i < n → ∃ z : Int, cur[i]? = some (.int .i64 z)
theorem fresh_of {v w2 : World} {n cap g2 : Nat} {zs : List Int} {x : Int} (hb : Below v.heap.size v w2) (h : w2.ownsRow v.heap.size 2 1 (.slice (some ⟨g2, 0, none⟩) (n + 1) cap) (n + 1) (zs.map (Value.int .i64) ++ [.int .i64 x])) (hz : zs.length = n) : Fresh v w2 (.slice (some ⟨g2, 0, none⟩) (n + 1) cap) (n + 1) := by
 refine ⟨hb, ?_⟩
 rcases h.2 with ⟨hbad, _⟩ | ⟨g, c, cur, hv, hg, hc, _, _, _, ht⟩
 ·cases hbad
 ·cases hv
  refine ⟨g2, cap, cur, rfl, hg, hc, fun i hi => ?_⟩
  have e : (cur.toList.take ((n + 1) * 1))[i]? = (zs.map (Value.int .i64) ++ [Value.int .i64 x])[i]? := by rw [ht]
  rw [List.getElem?_take, if_pos (by omega)] at e
  rw [← Array.getElem?_toList, e]
  by_cases hin : i < n
  ·rw [List.getElem?_append_left (by simp; omega)]
   exact ⟨zs[i]'(by omega), by simp [hz, hin]⟩
  ·rw [List.getElem?_append_right (by simp; omega)]
   have : i - (zs.map (Value.int .i64)).length = 0 := by simp; omega
   rw [this]
   exact ⟨x, rfl⟩
theorem heap_next (w : World) (o p : Obj) : ((w.alloc o).alloc p).heap[w.heap.size + 1]? = some p := by
 have h := heap_alloc_last (w.alloc o) p
 have e : (w.alloc o).heap.size = w.heap.size + 1 := by simp
 rw [e] at h
 exact h
theorem bel_grown {v a b : World} {L : Nat} (h : Below v.heap.size v a) (k : a.grownBy b (some L)) (hL : v.heap.size ≤ L) : Below v.heap.size v b :=
 ⟨k.os.trans h.os, k.tape.trans h.tape, k.output.trans h.output, Nat.le_trans h.size k.size, fun i hi => (k.block i (Nat.lt_of_lt_of_le hi h.size) (by simp; omega)).trans (h.block i hi)⟩
theorem cell_off {w : World} {G o p : Nat} {x : Value} {y : Value} (h : w.cell? ⟨G, o, none⟩ = some y) (hn : o ≠ p) : (w.setCell ⟨G, p, none⟩ x).cell? ⟨G, o, none⟩ = some y := by
 rw [World.cell?_setCell_other _ _ _ _ (by intro e; cases e; exact hn rfl)]
 exact h
theorem frozen_set {w : World} {G p o : Nat} {x : Value} {y : Bool} (h : w.frozen? ⟨G, o, none⟩ = y) : (w.setCell ⟨G, p, none⟩ x).frozen? ⟨G, o, none⟩ = y := by
 rw [World.frozen?_setCell]
 exact h
theorem frozen_block {w w' : World} {b o : Nat} (h : w'.heap[b]? = w.heap[b]?) : w'.frozen? ⟨b, o, none⟩ = w.frozen? ⟨b, o, none⟩ := by
 unfold World.frozen?; rw [h]
set_option maxHeartbeats 2000000 in
set_option maxRecDepth 100000 in
theorem add_some (base g G : Nat) (a0 : Option Addr) (len cap : Nat) (M : Tmap) (N : Nat) (S : GRec) (x : Int) (v : World) (h : Gok base g G a0 len cap M N S v) (hNN : N < 10000) (hnid : 0 < S.nid) (hI : SlN M 2 S.idv S.nid) (hW : SlN M 2 S.wsv S.nid) :
  Calls Tryd.prog 65 #[.pointer (some ⟨G, 0, none⟩), .int .i64 x] v fun e v' => ∃ n : Int, e = .returned (.int .i64 n) ∧ ∃ M' S', Gok base g G a0 len cap M' (N + 1) S' v' ∧ S' = { S with idv := S'.idv, wsv := S'.wsv, nid := S.nid + 1, nx := S.nx + 1 } ∧ Mov g G M M' v v' := by
 obtain ⟨i0, hi, hz0, hz1, hz2⟩ := info_parts infoI
 have HI : Hid (Tryd.prog.info? 2 = some i0) := hi
 have HZ0 : Hid (i0.zero = some (.int .i64 0)) := hz0
 have HZ1 : Hid (i0.size = 1) := hz1
 have HZ2 : Hid (i0.bytes = 8) := hz2
 clear hi hz0 hz1 hz2
 have hbn := h.bn
 have hGl := (Array.getElem?_eq_some_iff.1 h.cells).1
 obtain ⟨gi, ci, zs, eI, hzl, hgb, hgl, _, hread⟩ := hI.read h.th hnid
 have c10 : v.cell? ⟨G, 10, none⟩ = some (.int .i64 S.nx) := (gcell h.cells 10).1.trans rfl
 have c11 : v.cell? ⟨G, 11, none⟩ = some (.slice (some ⟨gi, 0, none⟩) S.nid ci) := (gcell h.cells 11).1.trans (by rw [← eI]; rfl)
 have d10 : v.drew.cell? ⟨G, 10, none⟩ = some (.int .i64 S.nx) := c10
 have d11 : v.drew.cell? ⟨G, 11, none⟩ = some (.slice (some ⟨gi, 0, none⟩) S.nid ci) := c11
 have HN : Hid (∀ w1 : World, Below v.heap.size v w1 → ∀ j u, (zs.map (Value.int .i64))[j]? = some u → w1.cell? ((⟨gi, 0, none⟩ : Addr).add j) = some u) := fun w1 hb j u hj => by
  have := hread j u hj
  rw [Addr.add_lit] at this ⊢
  exact (cell_block (hb.block gi hgl)).trans this
 obtain ⟨gj, cj, ys, eW, hyl, hgb2, hgl2, ⟨mj, hMj, _⟩, hread2⟩ := hW.read h.th hnid
 have hgj : gj ≠ G := fun e => by rw [e, h.mG] at hMj; cases hMj
 have c12 : v.cell? ⟨G, 12, none⟩ = some (.slice (some ⟨gj, 0, none⟩) S.nid cj) := (gcell h.cells 12).1.trans (by rw [← eW]; rfl)
 have f10 := (gcell h.cells 10).2
 have f12 := (gcell h.cells 12).2
 clear hread hI hW
 have hB0 : Below v.heap.size v v.drew := (Below.refl _ _).drew
 have b1 : Below v.heap.size v (v.drew.alloc (.cells #[] 2)) := hB0.alloc (Nat.le_refl _) _
 have b2 : Below v.heap.size v ((v.drew.alloc (.cells #[] 2)).alloc (.cells #[.int .i64 S.nx] 2)) := b1.alloc b1.size _
 have b3 : Below v.heap.size v (v.drew.alloc (.cells #[.int .i64 S.nx] 2)) := hB0.alloc (Nat.le_refl _) _
 have b4 : Below v.heap.size v ((v.drew.alloc (.cells #[.int .i64 S.nx] 2)).alloc (.cells #[] 2)) := b3.alloc b3.size _
 have l1 := heap_alloc_last v.drew (.cells #[] 2)
 have l2 := (Below.heap_alloc (v.drew.alloc (.cells #[] 2)) (.cells #[.int .i64 S.nx] 2) v.heap.size (by simp)).trans l1
 have q2 := heap_next v.drew (.cells #[] 2) (.cells #[.int .i64 S.nx] 2)
 have l4 := heap_next v.drew (.cells #[.int .i64 S.nx] 2) (.cells #[] 2)
 have q4 := (Below.heap_alloc (v.drew.alloc (.cells #[.int .i64 S.nx] 2)) (.cells #[] 2) v.heap.size (by simp)).trans (heap_alloc_last v.drew (.cells #[.int .i64 S.nx] 2))
 have f11 := (gcell h.cells 11).2
 have x1 := (cell_block (o := 11) (b1.block G hGl)).trans c11
 have x2 := (cell_block (o := 11) (b2.block G hGl)).trans c11
 have x3 := (cell_block (o := 11) (b3.block G hGl)).trans c11
 have x4 := (cell_block (o := 11) (b4.block G hGl)).trans c11
 have y1 := (cell_block (o := 10) (b1.block G hGl)).trans c10
 have y2 := (cell_block (o := 10) (b2.block G hGl)).trans c10
 have y3 := (cell_block (o := 10) (b3.block G hGl)).trans c10
 have y4 := (cell_block (o := 10) (b4.block G hGl)).trans c10
 go_enter Tryd.func65, Tryd.ntmps65
 go_wp2_with fail
 go_cut [4] (fun s4 wx => s4 = .int .i64 0 ∧ ∃ w2 s2, Fresh v w2 s2 (S.nid + 1) ∧ wx = w2.setCell ⟨G, 11, none⟩ s2)
 case first =>
  go_region_law (first | (refine step_append_lies _ rfl (.tmp 6) (.tmp 10) 24 rfl v.heap.size 2 i0 (.int .i64 0) 1 8 Tryd.underlying24 HI.out HZ0.out HZ1.out HZ2.out rfl (by decide) (.slice (some ⟨v.heap.size + 1, 0, none⟩) 0 0) 0 [] rfl (by exact lit_own l4 (by omega)) ⟨gi, 0, none⟩ S.nid ci (zs.map (Value.int .i64)) rfl (by simp [hzl]) (by exact HN.out _ b4) (by simp [Value.oneCell']) hnid (by unfold maxLen; omega) (by omega) (by exact b4.size) _ rfl ?_; intro g1 cap1 w1 hown1 hgrow1 hat1 hlt1; have hg1 : v.heap.size ≤ g1 := own_ge1 hown1 (by omega); have B1 : Below v.heap.size v w1 := bel_grown b4 hgrow1 (by show v.heap.size ≤ v.heap.size + 1; omega); have k10 := (cell_block (B1.block G hGl)).trans c10; have k11 := (cell_block (B1.block G hGl)).trans c11; simp only [Nat.zero_add, List.nil_append] at hown1 ⊢; have m1 := (hgrow1.block v.heap.size (by simp; omega) (by simp [Value.ownBlock])).trans q4) | (refine step_append_lies _ rfl (.tmp 6) (.tmp 10) 24 rfl v.heap.size 2 i0 (.int .i64 0) 1 8 Tryd.underlying24 HI.out HZ0.out HZ1.out HZ2.out rfl (by decide) (.slice (some ⟨v.heap.size, 0, none⟩) 0 0) 0 [] rfl (by exact lit_own l2 (by omega)) ⟨gi, 0, none⟩ S.nid ci (zs.map (Value.int .i64)) rfl (by simp [hzl]) (by exact HN.out _ b2) (by simp [Value.oneCell']) hnid (by unfold maxLen; omega) (by omega) (by exact b2.size) _ rfl ?_; intro g1 cap1 w1 hown1 hgrow1 hat1 hlt1; have hg1 : v.heap.size ≤ g1 := own_ge1 hown1 (by omega); have B1 : Below v.heap.size v w1 := bel_grown b2 hgrow1 (by exact Nat.le_refl _); have k10 := (cell_block (B1.block G hGl)).trans c10; have k11 := (cell_block (B1.block G hGl)).trans c11; simp only [Nat.zero_add, List.nil_append] at hown1 ⊢; have m1 := (hgrow1.block (v.heap.size + 1) (by simp) (by simp [Value.ownBlock])).trans q2) | (refine step_append_lies _ rfl (.tmp 6) (.tmp 10) 24 rfl v.heap.size 2 i0 (.int .i64 0) 1 8 Tryd.underlying24 HI.out HZ0.out HZ1.out HZ2.out rfl (by decide) (.slice (some ⟨v.heap.size, 0, none⟩) 0 0) 0 [] rfl (by exact lit_own l1 (by omega)) ⟨gi, 0, none⟩ S.nid ci (zs.map (Value.int .i64)) rfl (by simp [hzl]) (by exact HN.out _ b1) (by simp [Value.oneCell']) hnid (by unfold maxLen; omega) (by omega) (by exact b1.size) _ rfl ?_; intro g1 cap1 w1 hown1 hgrow1 hat1 hlt1; have hg1 : v.heap.size ≤ g1 := own_ge1 hown1 (by omega); have B1 : Below v.heap.size v w1 := bel_grown b1 hgrow1 (by exact Nat.le_refl _); have k10 := (cell_block (B1.block G hGl)).trans c10; have k11 := (cell_block (B1.block G hGl)).trans c11; simp only [Nat.zero_add, List.nil_append] at hown1 ⊢) | (refine step_append_lies _ rfl (.tmp 11) (.tmp 16) 24 rfl v.heap.size 2 i0 (.int .i64 0) 1 8 Tryd.underlying24 HI.out HZ0.out HZ1.out HZ2.out rfl (by decide) (.slice (some ⟨g1, 0, none⟩) S.nid cap1) S.nid (zs.map (Value.int .i64)) rfl (by exact hown1) ⟨v.heap.size + 1, 0, none⟩ 1 1 [.int .i64 S.nx] rfl (by simp) (by exact one_of m1) (by simp [Value.oneCell']) (by omega) (by unfold maxLen; omega) (by omega) (by exact B1.size) _ rfl ?_; intro g2 cap2 w2 hown2 hgrow2 hat2 hlt2; have B2 : Below v.heap.size v w2 := bel_grown B1 hgrow2 (by exact hg1); have n10 := (cell_block (B2.block G hGl)).trans c10; have n11 := (cell_block (B2.block G hGl)).trans c11; have n11f := (frozen_block (B2.block G hGl)).trans f11) | (refine step_append_lies _ rfl (.tmp 11) (.tmp 16) 24 rfl v.heap.size 2 i0 (.int .i64 0) 1 8 Tryd.underlying24 HI.out HZ0.out HZ1.out HZ2.out rfl (by decide) (.slice (some ⟨g1, 0, none⟩) S.nid cap1) S.nid (zs.map (Value.int .i64)) rfl (by exact hown1) ⟨v.heap.size, 0, none⟩ 1 1 [.int .i64 S.nx] rfl (by simp) (by exact one_of m1) (by simp [Value.oneCell']) (by omega) (by unfold maxLen; omega) (by omega) (by exact B1.size) _ rfl ?_; intro g2 cap2 w2 hown2 hgrow2 hat2 hlt2; have B2 : Below v.heap.size v w2 := bel_grown B1 hgrow2 (by exact hg1); have n10 := (cell_block (B2.block G hGl)).trans c10; have n11 := (cell_block (B2.block G hGl)).trans c11; have n11f := (frozen_block (B2.block G hGl)).trans f11) | (refine step_append_lies _ rfl (.tmp 11) (.tmp 16) 24 rfl v.heap.size 2 i0 (.int .i64 0) 1 8 Tryd.underlying24 HI.out HZ0.out HZ1.out HZ2.out rfl (by decide) (.slice (some ⟨g1, 0, none⟩) S.nid cap1) S.nid (zs.map (Value.int .i64)) rfl (by exact hown1.alloc _) ⟨w1.heap.size, 0, none⟩ 1 1 [.int .i64 S.nx] rfl (by simp) (by exact one_of (heap_alloc_last w1 _)) (by simp [Value.oneCell']) (by omega) (by unfold maxLen; omega) (by omega) (by exact (B1.alloc B1.size _).size) _ rfl ?_; intro g2 cap2 w2 hown2 hgrow2 hat2 hlt2; have B2 : Below v.heap.size v w2 := bel_grown (B1.alloc B1.size _) hgrow2 (by exact hg1); have n10 := (cell_block (B2.block G hGl)).trans c10; have n11 := (cell_block (B2.block G hGl)).trans c11; have n11f := (frozen_block (B2.block G hGl)).trans f11))
  all_goals
   go_wp2_with fail
   go_meet
   case rel => exact ⟨rfl, w2, _, fresh_of B2 hown2 hzl, rfl⟩
 case rest =>
  obtain ⟨rfl, w2, s2, hF, rfl⟩ := hcut
  clear x1 x2 x3 x4 y1 y2 y3 y4 b1 b2 b3 b4 l1 l2 l4 q2 q4 d10 d11 hB0 HN
  have hB2 := hF.below
  have hz2 : v.heap.size ≤ (w2.setCell ⟨G, 11, none⟩ s2).heap.size := by have := hB2.size; simpa [World.setCell] using this
  have e10 : (w2.setCell ⟨G, 11, none⟩ s2).cell? ⟨G, 10, none⟩ = some (.int .i64 S.nx) := cell_off ((cell_block (hB2.block G hGl)).trans c10) (by decide)
  have e12 : (w2.setCell ⟨G, 11, none⟩ s2).cell? ⟨G, 12, none⟩ = some (.slice (some ⟨gj, 0, none⟩) S.nid cj) := cell_off ((cell_block (hB2.block G hGl)).trans c12) (by decide)
  have g10 : (w2.setCell ⟨G, 11, none⟩ s2).frozen? ⟨G, 10, none⟩ = false := (frozen_set (frozen_block (hB2.block G hGl))).trans f10
  have g12 : (w2.setCell ⟨G, 11, none⟩ s2).frozen? ⟨G, 12, none⟩ = false := (frozen_set (frozen_block (hB2.block G hGl))).trans f12
  have HG : Hid ((w2.setCell ⟨G, 11, none⟩ s2).heap[G]? = some (.cells (gcells g { S with idv := s2 }) 122 (0, 0))) := (heap_set ((hB2.block G hGl).trans h.cells)).trans rfl
  have HO : Hid (∀ b, b < v.heap.size → b ≠ G → (w2.setCell ⟨G, 11, none⟩ s2).heap[b]? = v.heap[b]?) := fun b hb hn => (Below.heap_setCell _ _ _ _ hn).trans (hB2.block b hb)
  have HN2 : Hid (∀ w1 : World, Below v.heap.size (w2.setCell ⟨G, 11, none⟩ s2) w1 → ∀ j u, (ys.map (Value.int .i64))[j]? = some u → w1.cell? ((⟨gj, 0, none⟩ : Addr).add j) = some u) := fun w1 hb j u hj => by
   have := hread2 j u hj
   rw [Addr.add_lit] at this ⊢
   exact (cell_block ((hb.block gj hgl2).trans (HO.out gj hgl2 hgj))).trans this
  generalize hwx : w2.setCell ⟨G, 11, none⟩ s2 = wx at hz2 e10 e12 g10 g12 HG HO HN2 ⊢
  have HF : Hid (Fresh v w2 s2 (S.nid + 1)) := hF
  have HX : Hid (w2.setCell ⟨G, 11, none⟩ s2 = wx) := hwx
  have hGx : G < wx.heap.size := Nat.lt_of_lt_of_le hGl hz2
  have hBx : Below v.heap.size wx wx := Below.refl _ _
  have hAx : Below v.heap.size wx (wx.alloc (.cells #[] 2)) := hBx.alloc hz2 _
  clear hF hwx hB2
  go_wp2_with (first | (at_builtin; refine wpList_append_lies _ rfl (.tmp 21) (.tmp 25) 24 rfl wx.heap.size 2 i0 (.int .i64 0) 1 8 Tryd.underlying24 HI.out HZ0.out HZ1.out HZ2.out rfl (by decide) (.slice (some ⟨wx.heap.size, 0, none⟩) 0 0) 0 [] rfl (lit_own (heap_alloc_last wx _) (Nat.le_refl _)) ⟨gj, 0, none⟩ S.nid cj (ys.map (Value.int .i64)) rfl (by simp [hyl]) (HN2.out _ hAx) (by simp [Value.oneCell']) hnid (by unfold maxLen; omega) (by omega) (by simp) _ rfl ?_; intro g3 cap3 w3 hown3 hgrow3 hat3 hlt3; simp only [Nat.zero_add, List.nil_append] at hown3 ⊢; have B3 : Below wx.heap.size wx w3 := bel_grown ((Below.refl _ wx).alloc (Nat.le_refl _) _) hgrow3 (by exact Nat.le_refl _); have hg3 : wx.heap.size ≤ g3 := own_ge1 hown3 (by omega)) | (at_builtin; refine wpList_append_lies _ rfl (.tmp 26) (.tmp 28) 24 rfl wx.heap.size 2 i0 (.int .i64 0) 1 8 Tryd.underlying24 HI.out HZ0.out HZ1.out HZ2.out rfl (by decide) (.slice (some ⟨g3, 0, none⟩) S.nid cap3) S.nid (ys.map (Value.int .i64)) rfl (hown3.alloc _) ⟨w3.heap.size, 0, none⟩ 1 1 [.int .i64 x] rfl (by simp) (one_of (heap_alloc_last w3 _)) (by simp [Value.oneCell']) (by omega) (by unfold maxLen; omega) (by omega) (by have := B3.size; simp; omega) _ rfl ?_; intro g4 cap4 w4 hown4 hgrow4 hat4 hlt4; have B4 : Below wx.heap.size wx w4 := bel_grown (B3.alloc B3.size _) hgrow4 (by exact hg3); have m10 := (cell_block (B4.block G hGx)).trans e10; have m12 := (cell_block (B4.block G hGx)).trans e12; have r10 := (frozen_block (B4.block G hGx)).trans g10; have r12 := (frozen_block (B4.block G hGx)).trans g12))
  go_ret
  have hF := HF.out
  obtain ⟨g2', cap2', cur2, e2', hg2', hc2', hi2'⟩ := hF.new
  obtain ⟨_, g4', cap4', cur4, e4', hg4', hc4', hi4'⟩ := fresh_of B4 hown4 hyl
  cases e4'
  have hx2 : wx.heap.size = w2.heap.size := by rw [← HX.out]; simp [World.setCell]
  have hg2l : g2' < wx.heap.size := by rw [hx2]; exact (Array.getElem?_eq_some_iff.1 hc2').1
  have hg2G : g2' ≠ G := by omega
  have hc2x : wx.heap[g2']? = some (.cells cur2 2 (0, 0)) := by rw [← HX.out]; exact (Below.heap_setCell _ _ _ _ hg2G).trans hc2'
  have hg4G : g4 ≠ G := by omega
  have hd : ∀ b, b ≠ G → ((w4.setCell ⟨G, 12, none⟩ (.slice (some ⟨g4, 0, none⟩) (S.nid + 1) cap4)).setCell ⟨G, 10, none⟩ (.int .i64 (S.nx + 1))).heap[b]? = w4.heap[b]? := fun b hb => (Below.heap_setCell _ _ _ _ hb).trans (Below.heap_setCell _ _ _ _ hb)
  have hgr := h.grew (N' := N + 1) (M' := put (put M g2' 2 (S.nid + 1)) g4 2 (S.nid + 1)) (S' := { S with idv := s2, wsv := .slice (some ⟨g4, 0, none⟩) (S.nid + 1) cap4, nid := S.nid + 1, nx := S.nx + 1 }) (v' := (w4.setCell ⟨G, 12, none⟩ (.slice (some ⟨g4, 0, none⟩) (S.nid + 1) cap4)).setCell ⟨G, 10, none⟩ (.int .i64 (S.nx + 1))) (by omega)
   (fun b hb hn => (hd b hn).trans ((B4.block b (by omega)).trans (HO.out b hb hn))) (by have := B4.size; simp [World.setCell]; omega) ?_ ?_ ?_ ?_ ?_ ?_ ⟨rfl, rfl, rfl, rfl, rfl, rfl, rfl, rfl, rfl, rfl, rfl⟩ ?_ (by dsimp only; omega)
  ·exact ⟨_, rfl, _, _, hgr.1, rfl, hgr.2⟩
  ·exact B4.os.trans (by rw [← HX.out]; exact hF.below.os)
  ·exact B4.tape.trans (by rw [← HX.out]; exact hF.below.tape)
  ·exact B4.output.trans (by rw [← HX.out]; exact hF.below.output)
  ·intro b hb
   unfold put
   rw [if_neg (by omega), if_neg (by omega)]
  ·intro b T m hb hbm
   unfold put at hbm
   by_cases q : b = g4
   ·subst q
    rw [if_pos rfl] at hbm
    cases hbm
    exact ⟨rfl, cur4, (hd _ hg4G).trans hc4', hi4'⟩
   ·rw [if_neg q] at hbm
    by_cases q2 : b = g2'
    ·subst q2
     rw [if_pos rfl] at hbm
     cases hbm
     exact ⟨rfl, cur2, (hd _ hg2G).trans ((B4.block _ hg2l).trans hc2x), hi2'⟩
    ·rw [if_neg q2] at hbm
     rw [h.th.none hb] at hbm; cases hbm
  ·exact (heap_set (heap_set ((B4.block G hGx).trans HG.out))).trans rfl
  ·refine .inr ⟨by dsimp only; omega, ⟨_, cap2', e2', .inr ⟨g2', S.nid + 1, rfl, ?_, Nat.le_refl _⟩⟩, ⟨_, cap4, rfl, .inr ⟨g4, S.nid + 1, rfl, by simp [put], Nat.le_refl _⟩⟩⟩
   have : g2' ≠ g4 := by omega
   simp [put, this]
end Go.Proofs.YtenbodghkpbghaaDoor
namespace Go.Proofs.YtenbodghkpbghaaDoor
open Go.RowKit Go.Deep
set_option linter.unusedVariables false
theorem wpList_same {w : World} {ops : Array Oper} {rest : List Oper} {o : Oper} {a : Act} {Q : Exit → Act → World → Prop} (hgd : o.guard = none) (s x : Operand) (t : TypeId) (ho : o.op = .call { callee := .builtin .append, args := #[s, x], argTypes := #[t, t] })
  {sv xv : Value} (hs : a.eval s = sv) (hx : a.eval x = xv) (hr : ∀ ty, (Builtin.append_ #[t, t] ty #[sv, xv]).run Tryd.prog w = .ok sv w) (h : wpList Tryd.prog ops Q rest (a.put o.dst sv) w) : wpList Tryd.prog ops Q (o :: rest) a w :=
 wpList_plain hgd fun _ hK => by
  have hr := hr o.type
  unfold Oper.wp execOp
  simp only [ho, resolve, invoke, builtin, Sem.run_bind, Sem.run_pure, Result.andThen_ok, List.map_toArray, List.map_cons, List.map_nil, hs, hx, hr]
  exact hK _ _ h
set_option maxHeartbeats 2000000 in
set_option maxRecDepth 100000 in
theorem add_none (base g G : Nat) (a0 : Option Addr) (len cap : Nat) (M : Tmap) (N : Nat) (S : GRec) (x : Int) (v : World) (h : Gok base g G a0 len cap M N S v) (hNN : N < 10000) (eI : S.idv = .slice none 0 0) (eW : S.wsv = .slice none 0 0) (hnid : S.nid = 0) :
  Calls Tryd.prog 65 #[.pointer (some ⟨G, 0, none⟩), .int .i64 x] v fun e v' => ∃ n : Int, e = .returned (.int .i64 n) ∧ ∃ M' S', Gok base g G a0 len cap M' (N + 1) S' v' ∧ S' = { S with idv := S'.idv, wsv := S'.wsv, nid := S.nid + 1, nx := S.nx + 1 } ∧ Mov g G M M' v v' := by
 obtain ⟨i0, hi, hz0, hz1, hz2⟩ := info_parts infoI
 have HI : Hid (Tryd.prog.info? 2 = some i0) := hi
 have HZ0 : Hid (i0.zero = some (.int .i64 0)) := hz0
 have HZ1 : Hid (i0.size = 1) := hz1
 have HZ2 : Hid (i0.bytes = 8) := hz2
 clear hi hz0 hz1 hz2
 have hbn := h.bn
 have hGl := (Array.getElem?_eq_some_iff.1 h.cells).1
 have c10 : v.cell? ⟨G, 10, none⟩ = some (.int .i64 S.nx) := (gcell h.cells 10).1.trans rfl
 have c11 : v.cell? ⟨G, 11, none⟩ = some (.slice none 0 0) := (gcell h.cells 11).1.trans (by rw [← eI]; rfl)
 have d10 : v.drew.cell? ⟨G, 10, none⟩ = some (.int .i64 S.nx) := c10
 have d11 : v.drew.cell? ⟨G, 11, none⟩ = some (.slice none 0 0) := c11
 have c12 : v.cell? ⟨G, 12, none⟩ = some (.slice none 0 0) := (gcell h.cells 12).1.trans (by rw [← eW]; rfl)
 have f10 := (gcell h.cells 10).2
 have f12 := (gcell h.cells 12).2
 have hB0 : Below v.heap.size v v.drew := (Below.refl _ _).drew
 have b1 : Below v.heap.size v (v.drew.alloc (.cells #[] 2)) := hB0.alloc (Nat.le_refl _) _
 have b2 : Below v.heap.size v ((v.drew.alloc (.cells #[] 2)).alloc (.cells #[.int .i64 S.nx] 2)) := b1.alloc b1.size _
 have b3 : Below v.heap.size v (v.drew.alloc (.cells #[.int .i64 S.nx] 2)) := hB0.alloc (Nat.le_refl _) _
 have b4 : Below v.heap.size v ((v.drew.alloc (.cells #[.int .i64 S.nx] 2)).alloc (.cells #[] 2)) := b3.alloc b3.size _
 have l1 := heap_alloc_last v.drew (.cells #[] 2)
 have l2 := (Below.heap_alloc (v.drew.alloc (.cells #[] 2)) (.cells #[.int .i64 S.nx] 2) v.heap.size (by simp)).trans l1
 have q2 := heap_next v.drew (.cells #[] 2) (.cells #[.int .i64 S.nx] 2)
 have l4 := heap_next v.drew (.cells #[.int .i64 S.nx] 2) (.cells #[] 2)
 have q4 := (Below.heap_alloc (v.drew.alloc (.cells #[.int .i64 S.nx] 2)) (.cells #[] 2) v.heap.size (by simp)).trans (heap_alloc_last v.drew (.cells #[.int .i64 S.nx] 2))
 have f11 := (gcell h.cells 11).2
 have x1 := (cell_block (o := 11) (b1.block G hGl)).trans c11
 have x2 := (cell_block (o := 11) (b2.block G hGl)).trans c11
 have x3 := (cell_block (o := 11) (b3.block G hGl)).trans c11
 have x4 := (cell_block (o := 11) (b4.block G hGl)).trans c11
 have y1 := (cell_block (o := 10) (b1.block G hGl)).trans c10
 have y2 := (cell_block (o := 10) (b2.block G hGl)).trans c10
 have y3 := (cell_block (o := 10) (b3.block G hGl)).trans c10
 have y4 := (cell_block (o := 10) (b4.block G hGl)).trans c10
 go_enter Tryd.func65, Tryd.ntmps65
 go_wp2_with fail
 go_cut [4] (fun s4 wx => s4 = .int .i64 0 ∧ ∃ w2 s2, Fresh v w2 s2 (0 + 1) ∧ wx = w2.setCell ⟨G, 11, none⟩ s2)
 case first =>
  go_region_law (first | (refine step_same rfl (.tmp 6) (.tmp 10) 24 rfl rfl rfl (fun ty => append_none _ (.inr ⟨_, rfl⟩) 0 _ i0 Tryd.underlying24 HI.out) ?_) | (refine step_append_lies _ rfl (.tmp 11) (.tmp 16) 24 rfl v.heap.size 2 i0 (.int .i64 0) 1 8 Tryd.underlying24 HI.out HZ0.out HZ1.out HZ2.out rfl (by decide) (.slice (some ⟨v.heap.size, 0, none⟩) 0 0) 0 [] rfl (by exact lit_own l2 (by omega)) ⟨v.heap.size + 1, 0, none⟩ 1 1 [.int .i64 S.nx] rfl (by simp) (by exact one_of q2) (by simp [Value.oneCell']) (by omega) (by unfold maxLen; omega) (by omega) (by exact b2.size) _ rfl ?_; intro g2 cap2 w2 hown2 hgrow2 hat2 hlt2; simp only [Nat.zero_add, List.nil_append] at hown2 ⊢; have B2 : Below v.heap.size v w2 := bel_grown b2 hgrow2 (by exact Nat.le_refl _); have n10 := (cell_block (B2.block G hGl)).trans c10; have n11 := (cell_block (B2.block G hGl)).trans c11; have n11f := (frozen_block (B2.block G hGl)).trans f11) | (refine step_append_lies _ rfl (.tmp 11) (.tmp 16) 24 rfl v.heap.size 2 i0 (.int .i64 0) 1 8 Tryd.underlying24 HI.out HZ0.out HZ1.out HZ2.out rfl (by decide) (.slice (some ⟨v.heap.size + 1, 0, none⟩) 0 0) 0 [] rfl (by exact lit_own l4 (by omega)) ⟨v.heap.size, 0, none⟩ 1 1 [.int .i64 S.nx] rfl (by simp) (by exact one_of q4) (by simp [Value.oneCell']) (by omega) (by unfold maxLen; omega) (by omega) (by exact b4.size) _ rfl ?_; intro g2 cap2 w2 hown2 hgrow2 hat2 hlt2; simp only [Nat.zero_add, List.nil_append] at hown2 ⊢; have B2 : Below v.heap.size v w2 := bel_grown b4 hgrow2 (by show v.heap.size ≤ v.heap.size + 1; omega); have n10 := (cell_block (B2.block G hGl)).trans c10; have n11 := (cell_block (B2.block G hGl)).trans c11; have n11f := (frozen_block (B2.block G hGl)).trans f11))
  all_goals
   go_wp2_with fail
   go_meet
   case rel => exact ⟨rfl, w2, _, fresh_of (zs := []) B2 (by simpa using hown2) rfl, rfl⟩
 case rest =>
  obtain ⟨rfl, w2, s2, hF, rfl⟩ := hcut
  clear x1 x2 x3 x4 y1 y2 y3 y4 b1 b2 b3 b4 l1 l2 l4 q2 q4 d10 d11 hB0
  have hB2 := hF.below
  have hz2 : v.heap.size ≤ (w2.setCell ⟨G, 11, none⟩ s2).heap.size := by have := hB2.size; simpa [World.setCell] using this
  have e10 : (w2.setCell ⟨G, 11, none⟩ s2).cell? ⟨G, 10, none⟩ = some (.int .i64 S.nx) := cell_off ((cell_block (hB2.block G hGl)).trans c10) (by decide)
  have e12 : (w2.setCell ⟨G, 11, none⟩ s2).cell? ⟨G, 12, none⟩ = some (.slice none 0 0) := cell_off ((cell_block (hB2.block G hGl)).trans c12) (by decide)
  have g10 : (w2.setCell ⟨G, 11, none⟩ s2).frozen? ⟨G, 10, none⟩ = false := (frozen_set (frozen_block (hB2.block G hGl))).trans f10
  have g12 : (w2.setCell ⟨G, 11, none⟩ s2).frozen? ⟨G, 12, none⟩ = false := (frozen_set (frozen_block (hB2.block G hGl))).trans f12
  have HG : Hid ((w2.setCell ⟨G, 11, none⟩ s2).heap[G]? = some (.cells (gcells g { S with idv := s2 }) 122 (0, 0))) := (heap_set ((hB2.block G hGl).trans h.cells)).trans rfl
  have HO : Hid (∀ b, b < v.heap.size → b ≠ G → (w2.setCell ⟨G, 11, none⟩ s2).heap[b]? = v.heap[b]?) := fun b hb hn => (Below.heap_setCell _ _ _ _ hn).trans (hB2.block b hb)
  generalize hwx : w2.setCell ⟨G, 11, none⟩ s2 = wx at hz2 e10 e12 g10 g12 HG HO ⊢
  have HF : Hid (Fresh v w2 s2 (0 + 1)) := hF
  have HX : Hid (w2.setCell ⟨G, 11, none⟩ s2 = wx) := hwx
  have hGx : G < wx.heap.size := Nat.lt_of_lt_of_le hGl hz2
  have hBx : Below v.heap.size wx wx := Below.refl _ _
  have hAx : Below v.heap.size wx (wx.alloc (.cells #[] 2)) := hBx.alloc hz2 _
  clear hF hwx hB2
  go_wp2_with (first | (at_builtin; refine wpList_same rfl (.tmp 21) (.tmp 25) 24 rfl rfl rfl (fun ty => append_none _ (.inr ⟨_, rfl⟩) 0 _ i0 Tryd.underlying24 HI.out) ?_) | (at_builtin; refine wpList_append_lies _ rfl (.tmp 26) (.tmp 28) 24 rfl wx.heap.size 2 i0 (.int .i64 0) 1 8 Tryd.underlying24 HI.out HZ0.out HZ1.out HZ2.out rfl (by decide) (.slice (some ⟨wx.heap.size, 0, none⟩) 0 0) 0 [] rfl (lit_own ((Below.heap_alloc _ _ _ (by simp)).trans (heap_alloc_last wx _)) (Nat.le_refl _)) ⟨wx.heap.size + 1, 0, none⟩ 1 1 [.int .i64 x] rfl (by simp) (one_of (heap_next wx _ _)) (by simp [Value.oneCell']) (by omega) (by unfold maxLen; omega) (by omega) (by simp; omega) _ rfl ?_; intro g4 cap4 w4 hown4 hgrow4 hat4 hlt4; simp only [Nat.zero_add, List.nil_append] at hown4 ⊢; have B4 : Below wx.heap.size wx w4 := bel_grown (((Below.refl _ wx).alloc (Nat.le_refl _) _).alloc (by simp) _) hgrow4 (by exact Nat.le_refl _); have m10 := (cell_block (B4.block G hGx)).trans e10; have m12 := (cell_block (B4.block G hGx)).trans e12; have r10 := (frozen_block (B4.block G hGx)).trans g10; have r12 := (frozen_block (B4.block G hGx)).trans g12))
  go_ret
  have hF := HF.out
  obtain ⟨g2', cap2', cur2, e2', hg2', hc2', hi2'⟩ := hF.new
  obtain ⟨_, g4', cap4', cur4, e4', hg4', hc4', hi4'⟩ := fresh_of (zs := []) B4 (by simpa using hown4) rfl
  cases e4'
  have hx2 : wx.heap.size = w2.heap.size := by rw [← HX.out]; simp [World.setCell]
  have hg2l : g2' < wx.heap.size := by rw [hx2]; exact (Array.getElem?_eq_some_iff.1 hc2').1
  have hg2G : g2' ≠ G := by omega
  have hc2x : wx.heap[g2']? = some (.cells cur2 2 (0, 0)) := by rw [← HX.out]; exact (Below.heap_setCell _ _ _ _ hg2G).trans hc2'
  have hg4G : g4 ≠ G := by omega
  have hd : ∀ b, b ≠ G → ((w4.setCell ⟨G, 12, none⟩ (.slice (some ⟨g4, 0, none⟩) 1 cap4)).setCell ⟨G, 10, none⟩ (.int .i64 (S.nx + 1))).heap[b]? = w4.heap[b]? := fun b hb => (Below.heap_setCell _ _ _ _ hb).trans (Below.heap_setCell _ _ _ _ hb)
  have hgr := h.grew (N' := N + 1) (M' := put (put M g2' 2 1) g4 2 1) (S' := { S with idv := s2, wsv := .slice (some ⟨g4, 0, none⟩) 1 cap4, nid := S.nid + 1, nx := S.nx + 1 }) (v' := (w4.setCell ⟨G, 12, none⟩ (.slice (some ⟨g4, 0, none⟩) 1 cap4)).setCell ⟨G, 10, none⟩ (.int .i64 (S.nx + 1))) (by omega)
   (fun b hb hn => (hd b hn).trans ((B4.block b (by omega)).trans (HO.out b hb hn))) (by have := B4.size; simp [World.setCell]; omega) ?_ ?_ ?_ ?_ ?_ ?_ ⟨rfl, rfl, rfl, rfl, rfl, rfl, rfl, rfl, rfl, rfl, rfl⟩ ?_ (by dsimp only; omega)
  ·exact ⟨_, rfl, _, _, hgr.1, rfl, hgr.2⟩
  ·exact B4.os.trans (by rw [← HX.out]; exact hF.below.os)
  ·exact B4.tape.trans (by rw [← HX.out]; exact hF.below.tape)
  ·exact B4.output.trans (by rw [← HX.out]; exact hF.below.output)
  ·intro b hb
   unfold put
   rw [if_neg (by omega), if_neg (by omega)]
  ·intro b T m hb hbm
   unfold put at hbm
   by_cases q : b = g4
   ·subst q
    rw [if_pos rfl] at hbm
    cases hbm
    exact ⟨rfl, cur4, (hd _ hg4G).trans hc4', hi4'⟩
   ·rw [if_neg q] at hbm
    by_cases q2 : b = g2'
    ·subst q2
     rw [if_pos rfl] at hbm
     cases hbm
     exact ⟨rfl, cur2, (hd _ hg2G).trans ((B4.block _ hg2l).trans hc2x), hi2'⟩
    ·rw [if_neg q2] at hbm
     rw [h.th.none hb] at hbm; cases hbm
  ·exact (heap_set (heap_set ((B4.block G hGx).trans HG.out))).trans rfl
  ·refine .inr ⟨by dsimp only; omega, by dsimp only; rw [hnid]; exact ⟨_, cap2', e2', .inr ⟨g2', 1, rfl, by simp [put, show g2' ≠ g4 by omega], Nat.le_refl _⟩⟩, by dsimp only; rw [hnid]; exact ⟨_, cap4, rfl, .inr ⟨g4, 1, rfl, by simp [put], Nat.le_refl _⟩⟩⟩
end Go.Proofs.YtenbodghkpbghaaDoor
namespace Go.Proofs.YtenbodghkpbghaaDoor
open Go.RowKit
def widthB (w : Int) : Bool := w == 1 || w == 8 || w == 16 || w == 32
def topZ (w : Int) : Int := if w = 1 then 2 else if w = 8 then 256 else if w = 16 then 65536 else 4294967296
def valueB (w v : Int) : Bool := widthB w && (decide (0 ≤ v) && decide (v < topZ w))
theorem width_yes {w : Int} (h : widthB w = true) : w = 1 ∨ w = 8 ∨ w = 16 ∨ w = 32 := by
 simp [widthB] at h; omega
theorem width_no {w : Int} (h : widthB w = false) : (w == 1) = false ∧ (w == 8) = false ∧ (w == 16) = false ∧ (w == 32) = false := by
 simp [widthB] at h; simp; omega
theorem top_pos (w : Int) : 2 ≤ topZ w ∧ topZ w ≤ 4294967296 := by
 unfold topZ; repeat' split
 all_goals omega
end Go.Proofs.YtenbodghkpbghaaDoor
namespace Go.Proofs.YtenbodghkpbghaaDoor
open Go.RowKit
theorem widthS (a : Int) (w : World) : Calls Tryd.prog 48 #[.int .i64 a] w fun e w' => e = .returned (.bool (widthB a)) ∧ w' = w := by
 by_cases h : widthB a = true
 ·rw [h]
  rcases width_yes h with rfl | rfl | rfl | rfl
  all_goals
   clear h
   go_enter Tryd.func48, Tryd.ntmps48
   go_wp2
   go_ret
   exact ⟨rfl, rfl⟩
 ·have h : widthB a = false := by simpa using h
  rw [h]
  obtain ⟨d1, d2, d3, d4⟩ := width_no h
  clear h
  go_enter Tryd.func48, Tryd.ntmps48
  go_wp2
  go_ret
  exact ⟨rfl, rfl⟩
theorem widthI (a : Int) (w : World) : Calls Tryd.prog 72 #[.int .i64 a] w fun e w' => e = .returned (.bool (widthB a)) ∧ w' = w := by
 by_cases h : widthB a = true
 ·rw [h]
  rcases width_yes h with rfl | rfl | rfl | rfl
  all_goals
   clear h
   go_enter Tryd.func72, Tryd.ntmps72
   go_wp2
   go_ret
   exact ⟨rfl, rfl⟩
 ·have h : widthB a = false := by simpa using h
  rw [h]
  obtain ⟨d1, d2, d3, d4⟩ := width_no h
  clear h
  go_enter Tryd.func72, Tryd.ntmps72
  go_wp2
  go_ret
  exact ⟨rfl, rfl⟩
theorem topS (a : Int) (w : World) (h : widthB a = true) : Calls Tryd.prog 101 #[.int .i64 a] w fun e w' => e = .returned (.int .i64 (topZ a)) ∧ w' = w := by
 rcases width_yes h with rfl | rfl | rfl | rfl
 all_goals
  clear h
  go_enter Tryd.func101, Tryd.ntmps101
  go_wp2
  go_ret
  exact ⟨rfl, rfl⟩
theorem topI (a : Int) (w : World) (h : widthB a = true) : Calls Tryd.prog 116 #[.int .i64 a] w fun e w' => e = .returned (.int .i64 (topZ a)) ∧ w' = w := by
 rcases width_yes h with rfl | rfl | rfl | rfl
 all_goals
  clear h
  go_enter Tryd.func116, Tryd.ntmps116
  go_wp2
  go_ret
  exact ⟨rfl, rfl⟩
theorem ret_bool {a b : Bool} (h : a = b) : Ending.returned (.bool a) = .returned (.bool b) := by rw [h]
theorem ret_int {k : IntKind} {a b : Int} (h : a = b) : Ending.returned (.int k a) = .returned (.int k b) := by rw [h]
theorem inS (n lo hi : Int) (w : World) : Calls Tryd.prog 30 #[.int .i64 n, .int .i64 lo, .int .i64 hi] w fun e w' => e = .returned (.bool (decide (lo ≤ n) && decide (n ≤ hi))) ∧ w' = w := by
 by_cases h1 : lo ≤ n
 ·by_cases h2 : n ≤ hi
  ·have d1 : decide (lo ≤ n) = true := by simpa using h1
   have d2 : decide (n ≤ hi) = true := by simpa using h2
   go_enter Tryd.func30, Tryd.ntmps30
   go_wp2
   go_ret
   exact ⟨ret_bool (by simp [h1, h2]), rfl⟩
  ·have d1 : decide (lo ≤ n) = true := by simpa using h1
   have d2 : decide (n ≤ hi) = false := by simpa using h2
   go_enter Tryd.func30, Tryd.ntmps30
   go_wp2
   go_ret
   exact ⟨ret_bool (by simp), rfl⟩
 ·have d1 : decide (lo ≤ n) = false := by simpa using h1
  go_enter Tryd.func30, Tryd.ntmps30
  go_wp2
  go_ret
  exact ⟨ret_bool (by simp), rfl⟩
theorem valueS_eq {a v : Int} (h : widthB a = true) : (decide (0 ≤ v) && decide (v ≤ topZ a - 1)) = valueB a v := by
 rw [valueB, h, Bool.true_and, Bool.eq_iff_iff]; simp; omega
theorem valueS (a v : Int) (w : World) : Calls Tryd.prog 78 #[.int .i64 a, .int .i64 v] w fun e w' => e = .returned (.bool (valueB a v)) ∧ w' = w := by
 by_cases h : widthB a = true
 ·have tp := top_pos a
  have HE : Hid ((decide (0 ≤ v) && decide (v ≤ topZ a - 1)) = valueB a v) := valueS_eq h
  go_enter Tryd.func78, Tryd.ntmps78
  go_wp2_with (first | (go_at_call 48; refine (widthS _ _).mono ?_; rintro e w' ⟨rfl, rfl⟩) | (go_at_call 101; refine (topS _ _ h).mono ?_; rintro e w' ⟨rfl, rfl⟩) | (go_at_call 30; refine (inS _ _ _ _).mono ?_; rintro e w' ⟨rfl, rfl⟩))
  go_ret
  exact ⟨ret_bool HE.out, rfl⟩
 ·have h : widthB a = false := by simpa using h
  have HE : Hid (false = valueB a v) := by simp [valueB, h, Hid]
  go_enter Tryd.func78, Tryd.ntmps78
  go_wp2_with (first | (go_at_call 48; refine (widthS _ _).mono ?_; rintro e w' ⟨rfl, rfl⟩))
  go_ret
  exact ⟨ret_bool HE.out, rfl⟩
theorem valueI (a v : Int) (w : World) : Calls Tryd.prog 115 #[.int .i64 a, .int .i64 v] w fun e w' => e = .returned (.bool (valueB a v)) ∧ w' = w := by
 by_cases h : widthB a = true
 ·have tp := top_pos a
  by_cases h1 : 0 ≤ v
  ·have HE : Hid (decide (v < topZ a) = valueB a v) := by show _ = _; rw [valueB, h]; simp [h1]
   go_enter Tryd.func115, Tryd.ntmps115
   go_wp2_with (first | (go_at_call 72; refine (widthI _ _).mono ?_; rintro e w' ⟨rfl, rfl⟩) | (go_at_call 116; refine (topI _ _ h).mono ?_; rintro e w' ⟨rfl, rfl⟩))
   go_ret
   exact ⟨ret_bool HE.out, rfl⟩
  ·have HE : Hid (false = valueB a v) := by show _ = _; rw [valueB, h]; simp [h1]
   have d1 : decide (0 ≤ v) = false := by simpa using h1
   go_enter Tryd.func115, Tryd.ntmps115
   go_wp2_with (first | (go_at_call 72; refine (widthI _ _).mono ?_; rintro e w' ⟨rfl, rfl⟩))
   go_ret
   exact ⟨ret_bool HE.out, rfl⟩
 ·have h : widthB a = false := by simpa using h
  have HE : Hid (false = valueB a v) := by simp [valueB, h, Hid]
  go_enter Tryd.func115, Tryd.ntmps115
  go_wp2_with (first | (go_at_call 72; refine (widthI _ _).mono ?_; rintro e w' ⟨rfl, rfl⟩))
  go_ret
  exact ⟨ret_bool HE.out, rfl⟩
end Go.Proofs.YtenbodghkpbghaaDoor
namespace Go.Proofs.YtenbodghkpbghaaDoor
open Go.RowKit
def opB (op : Int) : Bool := decide (1 ≤ op) && decide (op ≤ 17)
def resZ (op a : Int) : Int := if opB op = true ∧ widthB a = true then (if 14 ≤ op then 1 else a) else 0
theorem opI (op : Int) (w : World) : Calls Tryd.prog 55 #[.int .i64 op] w fun e w' => e = .returned (.bool (opB op)) ∧ w' = w := by
 by_cases h1 : 1 ≤ op
 ·have E : Hid (decide (op ≤ 17) = opB op) := by show _ = _; simp [opB, h1]
  go_enter Tryd.func55, Tryd.ntmps55
  go_wp2
  go_ret
  exact ⟨ret_bool E.out, rfl⟩
 ·have E : Hid (false = opB op) := by show _ = _; simp [opB, h1]
  have d1 : decide (1 ≤ op) = false := by simpa using h1
  go_enter Tryd.func55, Tryd.ntmps55
  go_wp2
  go_ret
  exact ⟨ret_bool E.out, rfl⟩
theorem resS (op a : Int) (w : World) : Calls Tryd.prog 114 #[.int .i64 op, .int .i64 a] w fun e w' => e = .returned (.int .i64 (resZ op a)) ∧ w' = w := by
 by_cases hw : widthB a = true
 ·by_cases ho : opB op = true
  ·have d : (decide (1 ≤ op) && decide (op ≤ 17)) = true := ho
   by_cases h : 14 ≤ op
   ·have E : Hid (1 = resZ op a) := by show _ = _; simp [resZ, hw, ho, h]
    clear ho
    go_enter Tryd.func114, Tryd.ntmps114
    go_wp2_with (first | (go_at_call 48; refine (widthS _ _).mono ?_; rintro e w' ⟨rfl, rfl⟩) | (go_at_call 30; refine (inS _ _ _ _).mono ?_; rintro e w' ⟨rfl, rfl⟩))
    go_ret
    exact ⟨ret_int E.out, rfl⟩
   ·have E : Hid (a = resZ op a) := by show _ = _; simp [resZ, hw, ho, h]
    clear ho
    go_enter Tryd.func114, Tryd.ntmps114
    go_wp2_with (first | (go_at_call 48; refine (widthS _ _).mono ?_; rintro e w' ⟨rfl, rfl⟩) | (go_at_call 30; refine (inS _ _ _ _).mono ?_; rintro e w' ⟨rfl, rfl⟩))
    go_ret
    exact ⟨ret_int E.out, rfl⟩
  ·have ho : opB op = false := by simpa using ho
   have d : (decide (1 ≤ op) && decide (op ≤ 17)) = false := ho
   have E : Hid (0 = resZ op a) := by show _ = _; simp [resZ, ho]
   clear ho
   go_enter Tryd.func114, Tryd.ntmps114
   go_wp2_with (first | (go_at_call 48; refine (widthS _ _).mono ?_; rintro e w' ⟨rfl, rfl⟩) | (go_at_call 30; refine (inS _ _ _ _).mono ?_; rintro e w' ⟨rfl, rfl⟩))
   go_ret
   exact ⟨ret_int E.out, rfl⟩
 ·have hw : widthB a = false := by simpa using hw
  have E : Hid (0 = resZ op a) := by show _ = _; simp [resZ, hw]
  go_enter Tryd.func114, Tryd.ntmps114
  go_wp2_with (first | (go_at_call 48; refine (widthS _ _).mono ?_; rintro e w' ⟨rfl, rfl⟩) | (go_at_call 30; refine (inS _ _ _ _).mono ?_; rintro e w' ⟨rfl, rfl⟩))
  go_ret
  exact ⟨ret_int E.out, rfl⟩
end Go.Proofs.YtenbodghkpbghaaDoor
