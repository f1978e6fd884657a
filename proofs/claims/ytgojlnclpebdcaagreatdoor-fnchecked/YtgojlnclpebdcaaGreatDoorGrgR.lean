import Derived.Test.YtgojlnclpebdcaaGreatDoorGraR
import Derived.BigRegion
import Derived.Test.YtgojlnclpebdcaaGreatDoorMemR
import Derived.Laws.AppendOwnNone
import Derived.Deep.LoopGhost
namespace Go.Proofs.YtgojlnclpebdcaaGreatDoor
open Go.RowKit
def termAt (l : List BlockD) (i : Nat) : TermD := (l.getD i block0).term
def succN (l : List BlockD) (i : Nat) : List Nat := (tgtD (termAt l i)).map Int.toNat
def InT (l : List BlockD) (i : Nat) : Prop := ∀ x ∈ tgtD (termAt l i), 0 ≤ x ∧ x < l.length
def RightL (l : List BlockD) : Prop := 1 ≤ l.length ∧ l.length ≤ 10 ∧ ∀ i, i < l.length → InT l i
theorem tgt_len (t : TermD) : (tgtD t).length ≤ 2 := by
 unfold tgtD
 split
 ·simp
 ·split <;> simp
theorem succ_len (l : List BlockD) (a : Nat) : (succN l a).length ≤ 2 := by unfold succN; rw [List.length_map]; exact tgt_len _
theorem succ_out (l : List BlockD) (a : Nat) (h : l.length ≤ a) : succN l a = [] := by
 unfold succN termAt
 have : l.getD a block0 = block0 := by simp [List.getD, h]
 rw [this]; rfl
theorem succ_lt {l : List BlockD} {a : Nat} (h : InT l a) : ∀ s ∈ succN l a, s < l.length := by
 intro s hs
 unfold succN at hs
 obtain ⟨x, hx, rfl⟩ := List.mem_map.1 hs
 have := h x hx; omega
theorem right_lt {l : List BlockD} (h : RightL l) (a : Nat) : ∀ s ∈ succN l a, s < l.length := by
 by_cases ha : a < l.length
 ·exact succ_lt (h.2.2 a ha)
 ·rw [succ_out l a (by omega)]; simp
theorem lst_in {S : Nat → List Nat} {n b j : Nat} (hb : b < n) (h : ∀ i, i < b → ∀ s ∈ S i, s < n) (hj : ∀ s ∈ (S b).take j, s < n) : ∀ r, ∀ y ∈ Lst S b j r, y < n := by
 intro r y hy
 unfold Lst at hy
 split at hy
 ·split at hy
  ·exact h _ (by assumption) y hy
  ·split at hy
   ·exact hj y hy
   ·simp at hy
 ·rcases List.mem_append.1 hy with hy | hy
  ·have := (List.mem_filter.1 hy).1; simp at this; omega
  ·split at hy
   ·simp at hy; omega
   ·simp at hy
theorem build_start {w : World} {N n : Nat} {cur : Array Value} (hh : w.heap[N]? = some (.cells cur 75 (0, 0))) (hc : cur.size = n) (hp : ∀ j, j < n → cur[j]? = some (ptrV N j))
  (hn : ∀ j, j < n → w.heap[N + 1 + j]? = some (.cells #[.int .i64 j, .slice none 0 0, .slice none 0 0] 74 (0, 0))) (hs : N + 1 + n ≤ w.heap.size) : Build w N n none (fun _ => .slice none 0 0) (fun _ => []) := by
 refine ⟨?_, hn, fun r _ => ⟨rfl, .inl ⟨rfl, rfl⟩⟩, fun r s _ _ _ g h => (by cases h), hs, fun g h => (by cases h)⟩
 have e : cur = ((List.range n).map (ptrV N)).toArray := by
  apply Array.ext'
  apply List.ext_getElem?
  intro i
  by_cases hi : i < n
  ·have := hp i hi; simp at this ⊢; rw [this]; simp [hi]
  ·simp [hi, hc]
 rw [hh, e]
theorem heap_two (w : World) (o1 o2 : Obj) : ((w.alloc o1).alloc o2).heap[w.heap.size + 1]? = some o2 := by
 have h := heap_alloc_last (w.alloc o1) o2
 have e : (w.alloc o1).heap.size = w.heap.size + 1 := by simp
 rwa [e] at h
theorem belowI_t (n c : Int) (w : World) (h : 0 ≤ n) (k : n < c) : Calls Tryz.prog 36 #[.int .i64 n, .int .i64 c] w fun e w' => e = .returned (.bool true) ∧ w' = w :=
 (belowI n c w).mono fun e w' h' => ⟨h'.1.trans (by simp [h, k]), h'.2⟩
theorem belowI_f (n c : Int) (w : World) (h : ¬ (0 ≤ n ∧ n < c)) : Calls Tryz.prog 36 #[.int .i64 n, .int .i64 c] w fun e w' => e = .returned (.bool false) ∧ w' = w :=
 (belowI n c w).mono fun e w' h' => ⟨h'.1.trans (by rw [← Bool.decide_and, decide_eq_false h]), h'.2⟩
def TgtAt (w : World) (X : Option Nat) (u : Option Addr) (l : List Int) : Prop :=
 l = [] ∨ ∃ bt off, u = some ⟨bt, off, none⟩ ∧ X = some bt ∧ ∀ i, i < l.length → w.cell? ⟨bt, off + i, none⟩ = some (.int .i64 (l.getD i 0))
theorem tgt_at {w w' : World} {N n : Nat} {R : Nat → Value} {L : Nat → List Nat} {u : Option Addr} {l : List Int} (h : Build w N n none R L) (k : Agree N w w') (hu : IntsAt w' w.heap.size u l) : ∃ X, Build w' N n X R L ∧ TgtAt w' X u l := by
 rcases hu.2 with hn | ⟨b, off, ha, hl, hb, hc⟩
 ·exact ⟨none, h.keep k, .inl hn⟩
 ·exact ⟨some b, h.with k hl hb, .inr ⟨b, off, ha, rfl, hc⟩⟩
theorem TgtAt.next {w w' : World} {X : Option Nat} {u : Option Addr} {l : List Int} (h : TgtAt w X u l) (k : ∀ g, X = some g → w'.heap[g]? = w.heap[g]?) : TgtAt w' X u l := by
 rcases h with h | ⟨b, off, ha, hX, hc⟩
 ·exact .inl h
 ·exact .inr ⟨b, off, ha, hX, fun i hi => (cell_block (k b hX)).trans (hc i hi)⟩
theorem node_more {w wr : World} {B k n : Nat} {cur : Array Value} {v : Value} (hk : k < n) (hcs : cur.size = n) (hblk : wr.heap[B]? = some (.cells cur 75 (0, 0))) (hp : ∀ j, j < k → cur[j]? = some (ptrV B j))
  (hn : ∀ j, j < k → wr.heap[B + 1 + j]? = some (.cells #[.int .i64 j, .slice none 0 0, .slice none 0 0] 74 (0, 0))) (hz : wr.heap.size = B + 1 + k) (hw : w.heap.size + 1 = B) (hb : wr.cell? ⟨w.heap.size, 2, none⟩ = some v) (hB : Below w.heap.size w wr) :
  let w' := (wr.setCell ⟨B, k, none⟩ (.pointer (some ⟨wr.heap.size, 0, none⟩))).alloc (.cells #[.int .i64 k, .slice none 0 0, .slice none 0 0] 74)
  ∃ cur' : Array Value, cur'.size = n ∧ w'.heap[B]? = some (.cells cur' 75 (0, 0)) ∧ (∀ j, j < k + 1 → cur'[j]? = some (ptrV B j)) ∧ (∀ j, j < k + 1 → w'.heap[B + 1 + j]? = some (.cells #[.int .i64 j, .slice none 0 0, .slice none 0 0] 74 (0, 0))) ∧ w'.heap.size = B + 1 + (k + 1) ∧ w'.cell? ⟨w.heap.size, 2, none⟩ = some v ∧ Below w.heap.size w w' := by
 intro w'
 have hz1 : (wr.setCell ⟨B, k, none⟩ (.pointer (some ⟨wr.heap.size, 0, none⟩))).heap.size = wr.heap.size := by simp [World.setCell]
 refine ⟨cur.setIfInBounds k (.pointer (some ⟨wr.heap.size, 0, none⟩)), by simpa using hcs, (Below.heap_alloc _ _ _ (by rw [hz1]; omega)).trans (heap_set hblk), fun j hj => ?_, fun j hj => ?_, by simp [w', World.setCell]; omega, ?_, (hB.setCell (by show w.heap.size ≤ B; omega) _).alloc (by rw [hz1]; exact hB.size) _⟩
 ·by_cases hjk : j = k
  ·subst hjk; rw [hz]; simp [hcs, hk, ptrV]
  ·rw [Array.getElem?_setIfInBounds_ne (by omega)]; exact hp j (by omega)
 ·by_cases hjk : j = k
  ·subst hjk
   have h := heap_alloc_last (wr.setCell ⟨B, j, none⟩ (.pointer (some ⟨wr.heap.size, 0, none⟩))) (.cells #[.int .i64 j, .slice none 0 0, .slice none 0 0] 74)
   rw [hz1] at h
   rw [← hz]
   exact h
  ·exact (Below.heap_alloc _ _ _ (by rw [hz1]; omega)).trans (heap_other (by show B + 1 + j ≠ B; omega) (hn j (by omega)))
 ·exact (cell_block ((Below.heap_alloc _ _ _ (by rw [hz1]; omega)).trans (heap_other (by show w.heap.size ≠ B; omega) rfl))).trans hb
set_option maxRecDepth 100000 in
set_option maxHeartbeats 4000000 in
theorem graphI (lo : Nat) (d : FuncD) (u0 : Option Addr) (c0 : Nat) (u2 : Option Addr) (c2 : Nat) (w : World) (hs : SmFunc d) (k2 : BlocksAt w lo u2 d.blocks) :
  Calls Tryz.prog 35 #[.agg #[.slice u0 d.params.length c0, .int .i64 d.ret, .slice u2 d.blocks.length c2]] w fun e w' => Below w.heap.size w w' ∧ ((¬ RightL d.blocks ∧ e = .returned (.slice none 0 0)) ∨ (RightL d.blocks ∧ ∃ N, w.heap.size ≤ N ∧ e = .returned (.slice (some ⟨N, 0, none⟩) d.blocks.length d.blocks.length) ∧ Graph w' N d.blocks.length (succN d.blocks))) := by
 have hbl := hs.2.1
 clear hs
 by_cases h0 : d.blocks.length < 1
 ·go_enter Tryz.func35, Tryz.ntmps35
  go_wp2_with fail
  go_ret
  exact ⟨(Below.refl _ _).alloc (Nat.le_refl _) _, .inl ⟨fun h => by have := h.1; omega, rfl⟩⟩
 by_cases h1 : 10 < d.blocks.length
 ·go_enter Tryz.func35, Tryz.ntmps35
  go_wp2_with fail
  go_ret
  exact ⟨(Below.refl _ _).alloc (Nat.le_refl _) _, .inl ⟨fun h => by have := h.2.1; omega, rfl⟩⟩
 obtain ⟨i0, hi, hz0, hz1, hz2⟩ := info_parts infoPg
 have hmk := mk_any (t := 69) d.blocks.length Tryz.underlying69 hi hz0 hz1 hz2 (by omega) (by omega)
 clear hi hz0 hz1 hz2
 go_enter Tryz.func35, Tryz.ntmps35
 go_wp2_with fail
 go_loopw [25] (fun i wr => ∃ (k : Nat) (cur : Array Value), k ≤ d.blocks.length ∧ i = .int .i64 k ∧ cur.size = d.blocks.length ∧ wr.heap[w.heap.size + 1]? = some (.cells cur 75 (0, 0)) ∧ (∀ j, j < k → cur[j]? = some (ptrV (w.heap.size + 1) j)) ∧ (∀ j, j < k → wr.heap[w.heap.size + 1 + 1 + j]? = some (.cells #[.int .i64 j, .slice none 0 0, .slice none 0 0] 74 (0, 0))) ∧ wr.heap.size = w.heap.size + 1 + 1 + k ∧ wr.cell? ⟨w.heap.size, 2, none⟩ = some (.slice u2 d.blocks.length c2) ∧ Below w.heap.size w wr) (fun i _ => d.blocks.length - (intOf i).toNat)
 case atStart => exact ⟨0, _, by omega, rfl, by simp [size_madeCells], heap_two _ _ _, fun j hj => by omega, fun j hj => by omega, by simp, by simp, ((Below.refl _ _).alloc (Nat.le_refl _) _).alloc (by simp) _⟩
 case round =>
  obtain ⟨k, cur, hk, rfl, hcs, hblk, hp, hn, hz, hbx, hB⟩ := hrel
  clear hmk
  by_cases hlt : k < d.blocks.length
  ·obtain ⟨cv, hcv⟩ : ∃ cv, cur[k]? = some cv := ⟨_, Array.getElem?_eq_getElem (by omega)⟩
   have e1 : wr.cell? ⟨w.heap.size + 1, k, none⟩ = some cv := by rw [cell_of_heap hblk]; exact hcv
   have e2 : wr.frozen? ⟨w.heap.size + 1, k, none⟩ = false := froz_of_heap hblk
   have HM : Hid _ := node_more hlt hcs hblk hp hn hz rfl hbx hB
   have hz1 : w.heap.size + 1 < wr.heap.size := by omega
   clear hblk hp hn hz hbx hB hcs hcv
   go_wp2_with fail
   go_roundw
   case rel =>
    obtain ⟨cur', q1, q2, q3, q4, q5, q6, q7⟩ := HM.out
    exact ⟨k + 1, cur', by omega, by go_num, q1, q2, q3, q4, q5, q6, q7⟩
   case measure => simp [intOf]; omega
  ·have hke : k = d.blocks.length := by omega
   subst hke
   have hBd := build_start hblk hcs hp hn (by omega)
   rw [← lst_zero (succN d.blocks)] at hBd
   have HBd : Hid (Build wr (w.heap.size + 1) d.blocks.length none (fun _ => .slice none 0 0) (Lst (succN d.blocks) 0 0)) := hBd
   have HW : Hid (Below w.heap.size w wr) := hB
   clear hblk hp hn hz hBd hB hcs
   go_wp2_with fail
   go_loopw [38] (fun i wr => ∃ (k : Nat) (R : Nat → Value), k ≤ d.blocks.length ∧ i = .int .i64 k ∧ Build wr (w.heap.size + 1) d.blocks.length none R (Lst (succN d.blocks) k 0) ∧ (∀ j, j < k → InT d.blocks j) ∧ Below w.heap.size w wr) (fun i _ => d.blocks.length - (intOf i).toNat)
   case atStart => exact ⟨0, _, by omega, rfl, HBd.out, fun j hj => by omega, HW.out⟩
   case round =>
    obtain ⟨k, R, hk, rfl, hBd, hin, hW⟩ := hrel
    by_cases hlt : k < d.blocks.length
    ·rcases k2.2 with hn | ⟨b, off, rfl, hlo, hb, hcell⟩
     ·simp [hn] at hlt
     obtain ⟨⟨v0, q0, g0, _⟩, ⟨v1, q1, g1, _⟩, g2, g3, g4, g5⟩ := hcell k hlt
     have ET : Hid (termAt d.blocks k = (d.blocks.getD k block0).term) := (by show _ = _; rfl)
     generalize d.blocks.getD k block0 = x at g0 g1 g2 g3 g4 g5 ET
     have e0 : wr.cell? ⟨b, off + k * 6, none⟩ = some (.slice v0 x.phis.length q0) := (cell_block (hW.block b hb)).trans g0
     have e1 : wr.cell? ⟨b, off + k * 6 + 1, none⟩ = some (.slice v1 x.insts.length q1) := (cell_block (hW.block b hb)).trans g1
     have e2 : wr.cell? ⟨b, off + k * 6 + 2, none⟩ = some (.int .i64 x.term.kind) := (cell_block (hW.block b hb)).trans g2
     have e3 : wr.cell? ⟨b, off + k * 6 + 3, none⟩ = some (.int .i64 x.term.a) := (cell_block (hW.block b hb)).trans g3
     have e4 : wr.cell? ⟨b, off + k * 6 + 4, none⟩ = some (.int .i64 x.term.x) := (cell_block (hW.block b hb)).trans g4
     have e5 : wr.cell? ⟨b, off + k * 6 + 5, none⟩ = some (.int .i64 x.term.y) := (cell_block (hW.block b hb)).trans g5
     have HBd : Hid (Build wr (w.heap.size + 1) d.blocks.length none R (Lst (succN d.blocks) k 0)) := hBd
     have HW : Hid (Below w.heap.size w wr) := hW
     have HIN : Hid (∀ j, j < k → InT d.blocks j) := hin
     clear hcell g0 g1 g2 g3 g4 g5 hBd hW hin k2
     go_wp2_with (go_at_call 67; refine (targetsI x.term _).mono ?_; rintro e w3 ⟨u3, c3, rfl, hu3, hb3⟩; clear e0 e1 e2 e3 e4 e5)
     obtain ⟨X, hX1, hX2⟩ := tgt_at HBd.out ((agree_alloc _ _ _).trans (agree_of_below hb3 _)) (hu3.low (by simp))
     have HX1 : Hid (Build w3 (w.heap.size + 1) d.blocks.length X R (Lst (succN d.blocks) k 0)) := hX1
     have HX2 : Hid (TgtAt w3 X u3 (tgtD x.term)) := hX2
     have HW3 : Hid (Below w.heap.size w w3) := (HW.out.alloc HW.out.size _).trans (hb3.mono (by have := HW.out.size; simp; omega))
     have htl := tgt_len x.term
     clear hX1 hX2 hu3 hb3 HBd HW
     go_loopw [47] (fun i wr => ∃ (q : Nat) (R : Nat → Value) (X : Option Nat), q ≤ (tgtD x.term).length ∧ i = .int .i64 q ∧ Build wr (w.heap.size + 1) d.blocks.length X R (Lst (succN d.blocks) k q) ∧ TgtAt wr X u3 (tgtD x.term) ∧ (∀ j, j < q → 0 ≤ (tgtD x.term).getD j 0 ∧ (tgtD x.term).getD j 0 < d.blocks.length) ∧ Below w.heap.size w wr) (fun i _ => (tgtD x.term).length - (intOf i).toNat)
     case atStart => exact ⟨0, _, _, by omega, rfl, HX1.out, HX2.out, fun j hj => by omega, HW3.out⟩
     case round =>
      obtain ⟨q, R, X, hq, rfl, hBd, hT, hdn, hW⟩ := hrel
      clear HX1 HX2 HW3
      by_cases hql : q < (tgtD x.term).length
      ·rcases hT with hn | ⟨bt, ot, rfl, rfl, hc⟩
       ·simp [hn] at hql
       have e6 := hc q hql
       have HT : Hid (TgtAt wr (some bt) (some ⟨bt, ot, none⟩) (tgtD x.term)) := .inr ⟨bt, ot, rfl, rfl, hc⟩
       have HBd : Hid (Build wr (w.heap.size + 1) d.blocks.length (some bt) R (Lst (succN d.blocks) k q)) := hBd
       have HW : Hid (Below w.heap.size w wr) := hW
       have hh : ∀ i, i < d.blocks.length → wr.cell? ⟨w.heap.size + 1, i, none⟩ = some (ptrV (w.heap.size + 1) i) := fun i hi => by rw [cell_of_heap hBd.head]; simp [hi]
       have c7 := hh k hlt
       have HDN : Hid (∀ j, j < q → 0 ≤ (tgtD x.term).getD j 0 ∧ (tgtD x.term).getD j 0 < d.blocks.length) := hdn
       have HH : Hid (∀ i, i < d.blocks.length → wr.cell? ⟨w.heap.size + 1, i, none⟩ = some (ptrV (w.heap.size + 1) i)) := hh
       have hsl : Hid ((succN d.blocks k) = (tgtD x.term).map Int.toNat) := (by show _ = _; unfold succN; rw [ET.out])
       generalize hzz : (tgtD x.term).getD q 0 = z at e6
       have HZ : Hid ((tgtD x.term).getD q 0 = z) := hzz
       clear hc hBd hW hdn hh hzz
       by_cases hz : 0 ≤ z ∧ z < d.blocks.length
       ·obtain ⟨y, rfl⟩ : ∃ y : Nat, z = y := ⟨z.toNat, by omega⟩
        have hy : y < d.blocks.length := by omega
        have c8 := HH.out y hy
        unfold ptrV at c7 c8
        have hl : Hid (∀ r, (Lst (succN d.blocks) k q r).length ≤ 1000) := fun r => by have := lst_len (succN d.blocks) (succ_len _) k q r; omega
        have hin : Hid (∀ r, ∀ v ∈ Lst (succN d.blocks) k q r, v < d.blocks.length) := lst_in hlt (fun i hi => succ_lt (HIN.out i hi)) (fun v hv => by
         rw [hsl.out, ← List.map_take] at hv
         obtain ⟨u, hu, rfl⟩ := List.mem_map.1 hv
         obtain ⟨j, hj, rfl⟩ := List.getElem_of_mem hu
         have hj2 : j < q := by simp at hj; omega
         have hj3 : j < (tgtD x.term).length := by simp at hj; omega
         have hd := HDN.out j hj2
         simp only [List.getElem_take]
         simp only [List.getD, List.getElem?_eq_getElem hj3, Option.getD_some] at hd
         omega)
        clear HH
        go_wp2_with (go_at_call 36; refine (belowI_t _ _ _ (by omega) (by omega)).mono ?_; rintro e w4 ⟨rfl, rfl⟩)
        go_region_with (first | (go_at_call 68; refine (leadI (w.heap.size + 1) d.blocks.length (some bt) R (Lst (succN d.blocks) k q) k y _ hlt hy (HBd.out.keep (by exact Agree.refl _ _)) (by exact hl.out) (by exact hin.out)).mono ?_; rintro e w4 ⟨rfl, ⟨R', hB4⟩, hb4, hf4⟩; have HB4 : Hid _ := hB4; have Hb4 : Hid _ := hb4; have HF4 : Hid _ := hf4; clear hB4 hb4 hf4))
        all_goals
         go_wp2_with fail
         go_roundw
         case rel =>
          have hT4 : TgtAt _ (some bt) (some ⟨bt, ot, none⟩) (tgtD x.term) := HT.out.next (fun g hg => (HF4.out g hg).trans rfl)
          have hst := lead_step (succN d.blocks) k q (by rw [hsl.out, List.length_map]; exact hql)
          have hyy : (succN d.blocks k).getD q 0 = y := by
           have := HZ.out
           simp only [List.getD, List.getElem?_eq_getElem hql, Option.getD_some] at this
           rw [hsl.out]; simp [List.getD, hql, this]
          rw [hyy] at hst
          refine ⟨q + 1, R', some bt, by omega, by go_num, hst ▸ HB4.out, hT4, fun j hj => ?_, (HW.out.drew).trans (Hb4.out.mono (by omega))⟩
          by_cases hjq : j = q
          ·subst hjq; rw [HZ.out]; omega
          ·exact HDN.out j (by omega)
         case measure => simp [intOf]; omega
       ·clear HH
        go_wp2_with (go_at_call 36; refine (belowI_f _ _ _ (by omega)).mono ?_; rintro e w4 ⟨rfl, rfl⟩)
        go_ret
        refine ⟨HW.out, .inl ⟨fun h => hz ?_, rfl⟩⟩
        exact h.2.2 k hlt z (by rw [ET.out, ← HZ.out]; exact getD_mem 0 _ q hql)
      ·have hqe : q = (tgtD x.term).length := by omega
       subst hqe
       have HBd : Hid (Build wr (w.heap.size + 1) d.blocks.length X R (Lst (succN d.blocks) k (tgtD x.term).length)) := hBd
       have HW : Hid (Below w.heap.size w wr) := hW
       have HDN : Hid (∀ j, j < (tgtD x.term).length → 0 ≤ (tgtD x.term).getD j 0 ∧ (tgtD x.term).getD j 0 < d.blocks.length) := hdn
       clear hBd hW hdn hT
       go_wp2_with fail
       go_roundw
       case rel =>
        have hnx := lst_next (succN d.blocks) k
        have hsl : (succN d.blocks k).length = (tgtD x.term).length := by unfold succN; rw [ET.out, List.length_map]
        rw [hsl] at hnx
        refine ⟨k + 1, R, by omega, by go_num, hnx ▸ HBd.out.forget, fun j hj => ?_, HW.out⟩
        by_cases hjk : j = k
        ·subst hjk
         intro v hv
         rw [ET.out] at hv
         obtain ⟨i, hi, rfl⟩ := List.getElem_of_mem hv
         have := HDN.out i hi
         simpa only [List.getD, List.getElem?_eq_getElem hi, Option.getD_some] using this
        ·exact HIN.out j (by omega)
       case measure => simp [intOf]; omega
    ·have hke : k = d.blocks.length := by omega
     subst hke
     have HBd : Hid (Build wr (w.heap.size + 1) d.blocks.length none R (Lst (succN d.blocks) d.blocks.length 0)) := hBd
     have HW : Hid (Below w.heap.size w wr) := hW
     have HIN : Hid (∀ j, j < d.blocks.length → InT d.blocks j) := hin
     clear hBd hW hin
     go_wp2_with fail
     go_ret
     exact ⟨HW.out, .inr ⟨⟨by omega, by omega, HIN.out⟩, w.heap.size + 1, by omega, rfl, HBd.out.graph⟩⟩
end Go.Proofs.YtgojlnclpebdcaaGreatDoor
namespace Go.Proofs.YtgojlnclpebdcaaGreatDoor
open Go.RowKit
def Nodes (w : World) (N n : Nat) : Prop := ∀ i, i < n → ∃ cs, w.heap[N + 1 + i]? = some (.cells cs 74 (0, 0))
theorem Graph.nodes {w : World} {N n : Nat} {S : Nat → List Nat} (h : Graph w N n S) : Nodes w N n := fun i hi => by obtain ⟨_, _, _, _, h, _⟩ := h.node i hi; exact ⟨_, h⟩
def FirstAt (l : List Nat) (b : Nat) (z : Int) : Prop := (z = -1 ∧ b ∉ l) ∨ ∃ k : Nat, z = k ∧ k < l.length ∧ l.getD k 0 = b ∧ ∀ j, j < k → l.getD j 0 ≠ b
theorem not_mem_of {l : List Nat} {b : Nat} (h : ∀ j, j < l.length → l.getD j 0 ≠ b) : b ∉ l := by
 intro hb
 obtain ⟨j, hj, e⟩ := List.getElem_of_mem hb
 exact h j hj (by simp [List.getD, hj, e])
set_option maxHeartbeats 1000000 in
theorem indexI (lo N n : Nat) (u : Option Addr) (c : Nat) (l : List Nat) (b : Nat) (w : World) (hp : PtrsAt w lo N u l) (hN : Nodes w N n) (hl : ∀ x ∈ l, x < n) (hb : b < n) (hll : l.length ≤ 1000) :
  Calls Tryz.prog 115 #[.slice u l.length c, ptrV N b] w fun e w' => (∃ z, e = .returned (.int .i64 z) ∧ FirstAt l b z) ∧ w' = w := by
 unfold ptrV
 go_enter Tryz.func115, Tryz.ntmps115
 go_wp2_with fail
 go_loopw [8] (fun i wr => ∃ k : Nat, k ≤ l.length ∧ i = .int .i64 k ∧ (∀ j, j < k → l.getD j 0 ≠ b) ∧ wr = w) (fun i _ => l.length - (intOf i).toNat)
 case atStart => exact ⟨0, by omega, rfl, fun j hj => by omega, rfl⟩
 case round =>
  obtain ⟨k, hk, rfl, hd, rfl⟩ := hrel
  have HD : Hid (∀ j, j < k → l.getD j 0 ≠ b) := hd
  clear hd
  by_cases hlt : k < l.length
  ·rcases hp with hn | ⟨g, rfl, _, _, hc⟩
   ·simp [hn] at hlt
   have e1 : wr.cell? ⟨g, k, none⟩ = some (.pointer (some ⟨N + 1 + l.getD k 0, 0, none⟩)) := hc k hlt
   have hx : l.getD k 0 < n := hl _ (getD_mem 0 l k hlt)
   have e2 := ptr_eql wr N n b (l.getD k 0) hN hb hx
   generalize hxx : l.getD k 0 = x at e1 e2
   have HX : Hid (l.getD k 0 = x) := hxx
   clear hc hx hxx
   by_cases hbx : b = x
   ·rw [decide_eq_true hbx] at e2
    have HB : Hid (b = x) := hbx
    clear hbx hl
    go_wp2_with fail
    go_ret
    exact ⟨⟨_, rfl, .inr ⟨k, rfl, hlt, by rw [HX.out, HB.out], HD.out⟩⟩, rfl⟩
   ·rw [decide_eq_false hbx] at e2
    have HB : Hid (¬ b = x) := hbx
    clear hbx hl
    go_wp2_with fail
    go_roundw
    case rel =>
     refine ⟨k + 1, by omega, by go_num, fun j hj => ?_, by trivial⟩
     by_cases hjk : j = k
     ·subst hjk; rw [HX.out]; exact fun e => HB.out e.symm
     ·exact HD.out j (by omega)
    case measure => simp [intOf]; omega
  ·have hke : k = l.length := by omega
   clear hl
   go_wp2_with fail
   go_ret
   exact ⟨⟨_, rfl, .inl ⟨rfl, not_mem_of (by rw [← hke]; exact HD.out)⟩⟩, rfl⟩
set_option maxHeartbeats 1000000 in
theorem containsI (lo N n : Nat) (u : Option Addr) (c : Nat) (l : List Nat) (b : Nat) (w : World) (hp : PtrsAt w lo N u l) (hN : Nodes w N n) (hl : ∀ x ∈ l, x < n) (hb : b < n) (hll : l.length ≤ 1000) :
  Calls Tryz.prog 74 #[.slice u l.length c, ptrV N b] w fun e w' => e = .returned (.bool (decide (b ∈ l))) ∧ w' = w := by
 have HP : Hid (PtrsAt w lo N u l) := hp
 have HN : Hid (Nodes w N n) := hN
 have HL : Hid (∀ x ∈ l, x < n) := hl
 clear hp hN hl
 unfold ptrV
 go_enter Tryz.func74, Tryz.ntmps74
 go_wp2_with (go_at_call 115; refine (indexI lo N n u c l b _ HP.out HN.out HL.out hb hll).mono ?_; rintro e w1 ⟨⟨z, rfl, hz⟩, rfl⟩; have HZ : Hid (FirstAt l b z) := hz; clear hz)
 go_ret
 refine ⟨congrArg (fun b => Ending.returned (Value.bool b)) ?_, rfl⟩
 rcases HZ.out with ⟨rfl, h⟩ | ⟨k, rfl, hk, he, _⟩
 ·rw [decide_eq_false h]; rfl
 ·have : b ∈ l := by rw [← he]; exact getD_mem 0 l k hk
  rw [decide_eq_true this]; simp
end Go.Proofs.YtgojlnclpebdcaaGreatDoor
namespace Go.Proofs.YtgojlnclpebdcaaGreatDoor
open Go.RowKit
def OwnAt (w : World) (lo : Nat) (a : Option Addr) (l : List Int) : Prop :=
 l.length ≤ 9223372036854775807 ∧ (l = [] ∨ ∃ g cur, a = some ⟨g, 0, none⟩ ∧ lo ≤ g ∧ w.heap[g]? = some (.cells cur 2 (0, 0)) ∧ ∀ i, i < l.length → cur[i]? = some (.int .i64 (l.getD i 0)))
theorem OwnAt.ints {w : World} {lo : Nat} {a : Option Addr} {l : List Int} (h : OwnAt w lo a l) : IntsAt w lo a l := by
 obtain ⟨hm, h⟩ := h
 refine ⟨hm, ?_⟩
 rcases h with h | ⟨g, cur, ha, hl, hb, hc⟩
 ·exact .inl h
 ·exact .inr ⟨g, 0, ha, hl, (Array.getElem?_eq_some_iff.1 hb).1, fun i hi => by rw [Nat.zero_add, cell_of_heap hb]; exact hc i hi⟩
theorem OwnAt.keep {w w' : World} {lo : Nat} {a : Option Addr} {l : List Int} (h : OwnAt w lo a l) (k : Agree lo w w') : OwnAt w' lo a l := by
 obtain ⟨hm, h⟩ := h
 refine ⟨hm, ?_⟩
 rcases h with h | ⟨g, cur, ha, hl, hb, hc⟩
 ·exact .inl h
 ·exact .inr ⟨g, cur, ha, hl, (k.2 g hl (Array.getElem?_eq_some_iff.1 hb).1).trans hb, hc⟩
theorem OwnAt.low {w : World} {lo lo' : Nat} {a : Option Addr} {l : List Int} (h : OwnAt w lo a l) (k : lo' ≤ lo) : OwnAt w lo' a l := by
 obtain ⟨hm, h⟩ := h
 refine ⟨hm, ?_⟩
 rcases h with h | ⟨g, cur, ha, hl, hb, hc⟩
 ·exact .inl h
 ·exact .inr ⟨g, cur, ha, Nat.le_trans k hl, hb, hc⟩
theorem own_lit (w : World) (l : List Int) (hm : l.length ≤ 1000) (cs : Array Value) (hc : ∀ i, i < l.length → cs[i]? = some (.int .i64 (l.getD i 0))) : OwnAt (w.alloc (.cells cs 2)) w.heap.size (some ⟨w.heap.size, 0, none⟩) l :=
 ⟨by omega, .inr ⟨w.heap.size, cs, rfl, Nat.le_refl _, heap_alloc_last _ _, hc⟩⟩
theorem own_of_row {w : World} {base : Nat} {v : Value} {l : List Int} (hm : l.length ≤ 1048576) (h : w.ownsRow base 2 1 v l.length (l.map (Value.int .i64))) : ∃ u c, v = .slice u l.length c ∧ OwnAt w base u l := by
 rcases h.2 with ⟨hv, hn⟩ | ⟨g, cap, cur, hv, hb, hg, hnc, _, hcs, htk⟩
 ·exact ⟨none, 0, by rw [hv, hn], by omega, .inl (List.length_eq_zero_iff.1 hn)⟩
 ·refine ⟨_, cap, hv, by omega, .inr ⟨g, cur, rfl, hb, hg, fun i hi => ?_⟩⟩
  have e : (cur.toList.take (l.length * 1))[i]? = (l.map (Value.int .i64))[i]? := by rw [htk]
  rw [List.getElem?_take, if_pos (by omega)] at e
  simp [hi] at e
  simpa [List.getD, hi] using e
theorem append_none {t ty : TypeId} (v : Value) (hv : v = .slice none 0 0 ∨ ∃ g, v = .slice (some ⟨g, 0, none⟩) 0 0) (c : Nat) (w : World) (i : TypeInfo) (ht : Tryz.prog.underlying t = some (.slice 2)) (hi : Tryz.prog.info? 2 = some i) :
  (Builtin.append_ #[t, t] ty #[v, .slice none 0 c]).run Tryz.prog w = .ok v w := by
 rcases hv with rfl | ⟨g, rfl⟩
 ·simp [Builtin.append_, run_underlying ht, sizeOf, typeInfo, hi, Builtin.lenOf, Builtin.firstCells]
 ·simp [Builtin.append_, run_underlying ht, sizeOf, typeInfo, hi, Builtin.lenOf, Builtin.firstCells, storeCells]
set_option maxHeartbeats 1000000 in
theorem copyS_any (lo : Nat) (a : Option Addr) (cap : Nat) (l : List Int) (w : World) (hl : l.length ≤ 1048576) (hv : IntsAt w lo a l) :
  Calls Tryz.prog 131 #[.slice a l.length cap] w fun e w' => ∃ u c, e = .returned (.slice u l.length c) ∧ OwnAt w' w.heap.size u l ∧ Below w.heap.size w w' := by
 obtain ⟨i0, hi, hz0, hz1, hz2⟩ := info_parts infoI
 rcases a with _ | ad
 ·have hnil : l = [] := by
   rcases hv.2 with h | ⟨b, off, h, _⟩
   ·exact h
   ·simp at h
  subst hnil
  go_enter Tryz.func131, Tryz.ntmps131
  have hap := fun g => append_none (t := 33) (ty := 33) (.slice (some ⟨g, 0, none⟩) 0 0) (.inr ⟨g, rfl⟩) cap (w.alloc (.cells #[] 2)) i0 Tryz.underlying33 hi
  clear hi hz0 hz1 hz2
  go_wp2_with fail
  go_ret
  exact ⟨_, _, rfl, ⟨by simp, .inl rfl⟩, (Below.refl _ _).alloc (Nat.le_refl _) _⟩
 ·have hcell : ∀ j u, (l.map (Value.int .i64))[j]? = some u → (w.alloc (.cells #[] 2)).cell? (ad.add j) = some u := by
   intro j u hj
   rcases hv.2 with h | ⟨b, off, h, _, hb, hc⟩
   ·simp [h] at hj
   ·simp at h
    subst h
    have hjl : j < l.length := by
     have := (List.getElem?_eq_some_iff.1 hj).1
     simpa using this
    have hat : (⟨b, off, none⟩ : Addr).add j = ⟨b, off + j, none⟩ := by unfold Addr.add; split <;> simp_all
    rw [hat, cell_block (Below.heap_alloc w _ b hb), hc j hjl]
    simp [hjl] at hj
    rw [← hj]; simp [List.getD, hjl]
  go_enter Tryz.func131, Tryz.ntmps131
  go_wp2_with (at_builtin; refine wpList_append_own _ rfl _ _ 33 rfl w.heap.size 2 i0 (.int .i64 0) 1 8 Tryz.underlying33 hi hz0 hz1 hz2 rfl (by decide) _ 0 [] rfl (World.ownsRow_lit w #[] 0 (Nat.le_refl _) (by decide) (by simp)) ad l.length cap (l.map (Value.int .i64)) rfl (by simp) hcell (by simp [Value.oneCell']) (by unfold maxLen; omega) (by omega) (by simp) ?_; intro v' w1 hown hgrow _)
  simp only [Nat.zero_add, List.nil_append] at hown
  obtain ⟨u, c, rfl, ho⟩ := own_of_row hl hown
  go_ret
  exact ⟨u, c, rfl, ho, ((Below.refl _ _).alloc (Nat.le_refl _) _).grown hgrow (by simp) (fun k hk => by have hk' : some w.heap.size = some k := hk; simp at hk'; omega)⟩
set_option maxHeartbeats 1000000 in
theorem hasS (lo : Nat) (a : Option Addr) (cap : Nat) (l : List Int) (n : Int) (w : World) (hl : l.length ≤ 1048576) (hv : IntsAt w lo a l) :
  Calls Tryz.prog 93 #[.slice a l.length cap, .int .i64 n] w fun e w' => e = .returned (.bool (decide (n ∈ l))) ∧ Below w.heap.size w w' := by
 have hm := hv.1
 go_enter Tryz.func93, Tryz.ntmps93
 go_wp2_with fail
 go_loopw [5] (fun i wr => ∃ k : Nat, k ≤ l.length ∧ i = .int .i64 k ∧ (∀ j, j < k → l.getD j 0 ≠ n) ∧ Below w.heap.size w wr) (fun i _ => l.length - (intOf i).toNat)
 case atStart => exact ⟨0, by omega, rfl, fun j hj => by omega, Below.refl _ _⟩
 case round =>
  obtain ⟨k, hk, rfl, hd, hB⟩ := hrel
  have HD : Hid (∀ j, j < k → l.getD j 0 ≠ n) := hd
  clear hd
  by_cases hlt : k < l.length
  ·rcases hv.2 with rfl | ⟨b, off, rfl, hlo, hb, hcell⟩
   ·simp at hlt
   have e0 : wr.cell? ⟨b, off + k, none⟩ = some (.int .i64 (l.getD k 0)) := (cell_block (hB.block b hb)).trans (hcell k hlt)
   generalize hxx : l.getD k 0 = x at e0
   have HX : Hid (l.getD k 0 = x) := hxx
   clear hcell hxx
   by_cases hxn : x = n
   ·have HN : Hid (x = n) := hxn
    go_wp2_with fail
    go_ret
    refine ⟨congrArg (fun b => Ending.returned (Value.bool b)) ?_, hB⟩
    exact (decide_eq_true (by rw [← HN.out, ← HX.out]; exact getD_mem 0 l k hlt)).symm
   ·have HN : Hid (¬ x = n) := hxn
    go_wp2_with fail
    go_roundw
    case rel =>
     refine ⟨k + 1, by omega, by go_num, fun j hj => ?_, hB⟩
     by_cases hjk : j = k
     ·subst hjk; rw [HX.out]; exact HN.out
     ·exact HD.out j (by omega)
    case measure => simp [intOf]; omega
  ·have hke : k = l.length := by omega
   go_wp2_with fail
   go_ret
   refine ⟨congrArg (fun b => Ending.returned (Value.bool b)) ?_, hB⟩
   refine (decide_eq_false ?_).symm
   intro hm
   obtain ⟨j, hj, e⟩ := List.getElem_of_mem hm
   exact HD.out j (by omega) (by simp [List.getD, hj, e])
end Go.Proofs.YtgojlnclpebdcaaGreatDoor
