/- Reading: an instruction of its numbers. -/
import Derived.Test.YtclagbdomfgodaaGreatDoorRiPQ
import Derived.Test.YtclagbdomfgodaaGreatDoorOps3
import Derived.Laws.CopyOwn
import Derived.BigQuiet
namespace Go.Proofs.YtclagbdomfgodaaGreatDoor
open Go.RowKit
set_option linter.unusedVariables false

theorem below_drewN {b : Nat} {w w' : World} (h : Below b w w') (n : Nat) : Below b w (w'.drewN n) := ⟨h.os, h.tape, h.output, h.size, h.block⟩
set_option maxHeartbeats 4000000 in
set_option maxRecDepth 100000 in
theorem equalB (la lb : Nat) (a b : Option Addr) (ca cb : Nat) (l m : List Int) (w : World) (ha : IntsAt w la a l) (hb : IntsAt w lb b m) (hl : l.length ≤ 1048576) (hm : m.length ≤ 1048576) :
    Calls Tryz.prog 86 #[.slice a l.length ca, .slice b m.length cb] w fun e w' => e = .returned (.bool (decide (l = m))) ∧ Below w.heap.size w w' := by
  by_cases hlen : l.length = m.length
  · have HA : Hid (IntsAt w la a l) := ha
    have HB : Hid (IntsAt w lb b m) := hb
    have HLn : Hid (l.length = m.length) := hlen
    rw [← hlen]
    clear ha hb hm hlen
    go_enter Tryz.func86, Tryz.ntmps86
    go_wp2_with fail
    go_loopw [13] (fun i wr => ∃ k : Nat, k ≤ l.length ∧ i = .int .i64 k ∧ Hid (∀ j, j < k → l.getD j 0 = m.getD j 0) ∧ Hid (Below w.heap.size w wr)) (fun i _ => l.length - (intOf i).toNat)
    case atStart => exact ⟨0, by omega, rfl, fun j hj => absurd hj (by omega), Below.refl _ _⟩
    case round =>
      obtain ⟨k, hk, rfl, HK, HW⟩ := hrel
      by_cases hlt : k < l.length
      · obtain ⟨ga, oa, rfl, ea⟩ : ∃ ga off, a = some ⟨ga, off, none⟩ ∧ wr.cell? ⟨ga, off + k, none⟩ = some (.int .i64 (l.getD k 0)) := by
          rcases (HA.out.keep (agree_of_below HW.out la)).2 with h | ⟨ga, off, ha, _, _, hc⟩
          · rw [h] at hlt; simp at hlt
          · exact ⟨ga, off, ha, hc k hlt⟩
        obtain ⟨gb, ob, rfl, eb⟩ : ∃ gb off, b = some ⟨gb, off, none⟩ ∧ wr.cell? ⟨gb, off + k, none⟩ = some (.int .i64 (m.getD k 0)) := by
          rcases (HB.out.keep (agree_of_below HW.out lb)).2 with h | ⟨ga, off, ha, _, _, hc⟩
          · have := HLn.out; rw [h] at this; simp at this; rw [this] at hlt; simp at hlt
          · exact ⟨ga, off, ha, hc k (by have := HLn.out; omega)⟩
        have hltI : (k : Int) < l.length := by omega
        by_cases hxy : l.getD k 0 = m.getD k 0
        · have HK2 : Hid (∀ j, j < k + 1 → l.getD j 0 = m.getD j 0) := fun j hj => by
            rcases Nat.lt_or_ge j k with h | h
            · exact HK.out j h
            · have : j = k := by omega
              subst this; exact hxy
          rw [← hxy] at eb
          generalize l.getD k 0 = x at ea eb
          clear hxy HK
          go_wp2_with fail
          go_quiet (fail)
          go_wp2_with fail
          go_roundw
          case rel => exact ⟨k + 1, by omega, by go_num, HK2, below_drewN HW.out _⟩
          case measure => simp [intOf]; omega
        · have HNe : Hid (decide (l = m) = false) := by show _ = _; exact decide_eq_false (fun e => hxy (by rw [e]))
          have hq : (l.getD k 0 != m.getD k 0) = true := by rw [bne_iff_ne]; exact hxy
          generalize l.getD k 0 = x at ea hq hxy
          generalize m.getD k 0 = y at eb hq hxy
          clear HK
          go_wp2_with fail
          go_quiet (fail)
          go_wp2_with fail
          go_ret
          exact ⟨by rw [HNe.out]; rfl, below_drewN HW.out _⟩
      · have e : k = l.length := by omega
        have HEq : Hid (decide (l = m) = true) := by
          show _ = _
          refine decide_eq_true (List.ext_getElem HLn.out fun j h1 h2 => ?_)
          have := HK.out j (by omega)
          simpa [List.getD, h1, h2] using this
        subst e
        go_wp2_with fail
        go_ret
        exact ⟨by rw [HEq.out]; rfl, HW.out⟩
  · have HNe : Hid (decide (l = m) = false) := by show _ = _; exact decide_eq_false (fun e => hlen (by rw [e]))
    have hq : ((l.length : Int) != (m.length : Int)) = true := by rw [bne_iff_ne]; omega
    have h1 := ha.1
    have h2 := hb.1
    clear ha hb hlen
    go_enter Tryz.func86, Tryz.ntmps86
    go_wp2_with fail
    go_ret
    exact ⟨by rw [HNe.out]; rfl, Below.refl _ _⟩
end Go.Proofs.YtclagbdomfgodaaGreatDoor
namespace Go.Proofs.YtclagbdomfgodaaGreatDoor
open Go.RowKit
set_option linter.unusedVariables false
set_option linter.unusedSimpArgs false

theorem ints_nilR {w : World} {base : Nat} {u : Option Addr} : IntsAt w base u [] := ⟨by simp, .inl rfl⟩
theorem heap_two2 (w : World) (o p : Obj) : ((w.alloc o).alloc p).heap[w.heap.size + 1]? = some p := by
  have h := heap_alloc_last (w.alloc o) p
  have e : (w.alloc o).heap.size = w.heap.size + 1 := by simp
  rw [e] at h
  exact h
theorem drew_heap (w : World) (i : Nat) : w.drew.heap[i]? = w.heap[i]? := rfl
def mkD (op w imm : Int) (l : List Int) : InstD := if op = 26 then ⟨op, w, 0, 0, 0, imm, l⟩ else ⟨op, w, l.getD 0 0, l.getD 1 0, l.getD 2 0, imm, []⟩
theorem size64F : (Tryz.prog.info? 2).map (·.size) = some 1 := by kernel_rfl
theorem src_ofF {w2 : World} {la : Nat} {ul : Option Addr} {l : List Int} {o : Obj} (kl : IntsAt w2 la ul l) : 0 < (l.map (Value.int .i64)).length → ∃ ad, ul = some ad ∧ ∀ j v, (l.map (Value.int .i64))[j]? = some v → (w2.alloc o).cell? (ad.add j) = some v := fun hp => by
  rcases kl.2 with hn | ⟨g, off, rfl, _, hg, hcl⟩
  · rw [hn] at hp; simp at hp
  · refine ⟨_, rfl, fun j v hj => ?_⟩
    rw [List.getElem?_map] at hj
    have hjl : j < l.length := by
      rcases Nat.lt_or_ge j l.length with h | h
      · exact h
      · rw [List.getElem?_eq_none h] at hj; cases hj
    have hadd : (⟨g, off, none⟩ : Addr).add j = ⟨g, off + j, none⟩ := by unfold Addr.add; split <;> simp_all
    rw [hadd]
    refine (cell_block (((Below.refl w2.heap.size w2).alloc (Nat.le_refl _) o).block g hg)).trans ((hcl j hjl).trans ?_)
    rw [← hj]
    simp [List.getD, hjl]
theorem three_row {l : List Int} (hl : l.length ≤ 3) : splice [Value.int .i64 0, .int .i64 0, .int .i64 0] 0 (l.map (Value.int .i64)) = [.int .i64 (l.getD 0 0), .int .i64 (l.getD 1 0), .int .i64 (l.getD 2 0)] := by
  match l, hl with
  | [], _ => rfl
  | [a], _ => rfl
  | [a, b], _ => rfl
  | [a, b, c], _ => rfl
  | _ :: _ :: _ :: _ :: _, h => simp at h
set_option maxRecDepth 100000 in
theorem run_copyG {w2 : World} {la cl g : Nat} {ul : Option Addr} {l : List Int} (kl : IntsAt w2 la ul l) (hg2 : w2.heap.size = g) :
    ∃ w3, (Builtin.copy_ #[24, 24] 3 #[.slice (some ⟨g, 0, none⟩) 3 3, .slice ul l.length cl]).run Tryz.prog (w2.alloc (.cells #[.int .i64 0, .int .i64 0, .int .i64 0] 138)) = .ok (goInt (l.take 3).length) w3 ∧
      Hid (w3.heap[g]? = some (.cells #[.int .i64 (l.getD 0 0), .int .i64 (l.getD 1 0), .int .i64 (l.getD 2 0)] 138 (0, 0))) ∧ Below w2.heap.size w2 w3 := by
  subst hg2
  have hg := heap_alloc_last w2 (.cells #[.int .i64 0, .int .i64 0, .int .i64 0] 138)
  have b1 : Below w2.heap.size w2 (w2.alloc (.cells #[.int .i64 0, .int .i64 0, .int .i64 0] 138)) := (Below.refl _ _).alloc (Nat.le_refl _) _
  by_cases h0 : l.length = 0
  · have hn : l = [] := List.length_eq_zero_iff.1 h0
    subst hn
    exact ⟨_, run_copy_none _ _ _ _ 2 _ _ _ _ _ _ Tryz.underlying24 size64F (by simp), hg, b1⟩
  · obtain ⟨ad, rfl, hs⟩ := src_ofF (o := .cells #[.int .i64 0, .int .i64 0, .int .i64 0] 138) kl (by simp; omega)
    have hs2 : ∀ j v, ((l.take 3).map (Value.int .i64))[j]? = some v → (w2.alloc (.cells #[.int .i64 0, .int .i64 0, .int .i64 0] 138)).cell? (ad.add j) = some v := fun j v hj => by
      refine hs j v ?_
      rw [List.map_take, List.getElem?_take] at hj
      split at hj
      · exact hj
      · cases hj
    have hr := run_copy_row (P := Tryz.prog) _ 24 24 3 2 w2.heap.size 0 3 3 ad l.length cl _ _ ((l.take 3).map (Value.int .i64)) Tryz.underlying24 size64F hg (by simp only [List.length_map, List.length_take, Nat.min_def]; split <;> split <;> omega) hs2 (by simp; omega) (by intro v hv; obtain ⟨x, _, rfl⟩ := List.mem_map.1 hv; rfl)
    rw [List.length_map] at hr
    refine ⟨_, hr, ?_, b1.trans ⟨rfl, rfl, rfl, by simp, fun b hb => setRow_other _ _ _ _ (by omega)⟩⟩
    have h2 := setRow_heap _ w2.heap.size _ ((#[Value.int .i64 0, .int .i64 0, .int .i64 0] : Array Value).toList.take 0 ++ (l.take 3).map (Value.int .i64) ++ (#[Value.int .i64 0, .int .i64 0, .int .i64 0] : Array Value).toList.drop (0 + (l.take 3).length)).toArray 138 (0, 0) hg
    show _ = _
    rw [h2]
    have h3 := three_row (l := l.take 3) (by rw [List.length_take]; omega)
    have e0 : (l.take 3).getD 0 0 = l.getD 0 0 := by simp [List.getD, List.getElem?_take]
    have e1 : (l.take 3).getD 1 0 = l.getD 1 0 := by simp [List.getD, List.getElem?_take]
    have e2 : (l.take 3).getD 2 0 = l.getD 2 0 := by simp [List.getD, List.getElem?_take]
    rw [e0, e1, e2] at h3
    unfold splice at h3
    rw [List.length_map] at h3
    congr 2
    rw [List.append_assoc]
    show (List.take 0 [Value.int .i64 0, .int .i64 0, .int .i64 0] ++ ((l.take 3).map (Value.int .i64) ++ List.drop (0 + (l.take 3).length) [Value.int .i64 0, .int .i64 0, .int .i64 0])).toArray = _
    rw [h3]
set_option maxHeartbeats 4000000 in
set_option maxRecDepth 100000 in
theorem instOf26 (w0 imm : Int) (u : Option Addr) (q : Nat) (l : List Int) (w : World) :
    Calls Tryz.prog 67 #[.int .i64 26, .int .i64 w0, .int .i64 imm, .slice u l.length q] w fun e w' => e = .returned (.agg #[.int .i64 26, .int .i64 w0, .int .i64 0, .int .i64 0, .int .i64 0, .int .i64 imm, .slice u l.length q]) ∧ Below w.heap.size w w' := by
  go_enter Tryz.func67, Tryz.ntmps67
  go_wp2_with fail
  have hr : ((w.alloc (.cells #[.int .i64 26, .int .i64 w0, .int .i64 0, .int .i64 0, .int .i64 0, .int .i64 imm, .slice u l.length q] 33)).alloc (.cells #[.int .i64 26, .int .i64 w0, .int .i64 0, .int .i64 0, .int .i64 0, .int .i64 imm, .slice u l.length q] 33)).heap[w.heap.size]? = some (.cells #[.int .i64 26, .int .i64 w0, .int .i64 0, .int .i64 0, .int .i64 0, .int .i64 imm, .slice u l.length q] 33 (0, 0)) := (Below.heap_alloc _ _ _ (by simp)).trans (heap_alloc_last _ _)
  refine bodyPost_ret (v := .agg #[.int .i64 26, .int .i64 w0, .int .i64 0, .int .i64 0, .int .i64 0, .int .i64 imm, .slice u l.length q]) ((results_cell_row Tryz.results67 _ _ w.heap.size 33 _ (0, 0) _ rfl hr Tryz.underlying33 rfl (by kernel_rfl)).trans (by rfl)) rfl ⟨rfl, ?_⟩
  exact ((Below.refl _ _).alloc (Nat.le_refl _) _).alloc (by simp) _
set_option maxHeartbeats 4000000 in
set_option maxRecDepth 100000 in
theorem instOfG (op w0 imm : Int) (lo : Nat) (u : Option Addr) (q : Nat) (l : List Int) (w : World) (a : Addr) (ho : ¬ op = 26) (hl : l.length ≤ 1048576) (hv : IntsAt w lo u l) (hgv : Gv w 1 (errV a)) :
    Calls Tryz.prog 67 #[.int .i64 op, .int .i64 w0, .int .i64 imm, .slice u l.length q] w fun e w' => ((opsD (mkD op w0 imm l) = l ∧ e = .returned (.agg #[.int .i64 op, .int .i64 w0, .int .i64 (l.getD 0 0), .int .i64 (l.getD 1 0), .int .i64 (l.getD 2 0), .int .i64 imm, .slice none 0 0])) ∨ (¬ opsD (mkD op w0 imm l) = l ∧ e = .panicked [{ v := errV a, recovered := false }])) ∧ Below w.heap.size w w' := by
  have qo : (op == 26) = false := by simpa using ho
  have b2 : Below w.heap.size w ((w.alloc (.cells #[.int .i64 0, .int .i64 0, .int .i64 0, .int .i64 0, .int .i64 0, .int .i64 0, .slice none 0 0] 33)).alloc (.cells #[.int .i64 op, .int .i64 w0, .int .i64 0, .int .i64 0, .int .i64 0, .int .i64 imm, .slice none 0 0] 33)) := ((Below.refl _ _).alloc (Nat.le_refl _) _).alloc (by simp) _
  have HB2 : Hid (Below w.heap.size w _) := b2
  have hi2 : ((w.alloc (.cells #[.int .i64 0, .int .i64 0, .int .i64 0, .int .i64 0, .int .i64 0, .int .i64 0, .slice none 0 0] 33)).alloc (.cells #[.int .i64 op, .int .i64 w0, .int .i64 0, .int .i64 0, .int .i64 0, .int .i64 imm, .slice none 0 0] 33)).heap[w.heap.size + 1]? = some (.cells #[.int .i64 op, .int .i64 w0, .int .i64 0, .int .i64 0, .int .i64 0, .int .i64 imm, .slice none 0 0] 33 (0, 0)) := heap_two2 _ _ _
  have hr2 : ((w.alloc (.cells #[.int .i64 0, .int .i64 0, .int .i64 0, .int .i64 0, .int .i64 0, .int .i64 0, .slice none 0 0] 33)).alloc (.cells #[.int .i64 op, .int .i64 w0, .int .i64 0, .int .i64 0, .int .i64 0, .int .i64 imm, .slice none 0 0] 33)).heap[w.heap.size]? = some (.cells #[.int .i64 0, .int .i64 0, .int .i64 0, .int .i64 0, .int .i64 0, .int .i64 0, .slice none 0 0] 33 (0, 0)) := (Below.heap_alloc _ _ _ (by simp)).trans (heap_alloc_last _ _)
  obtain ⟨w3, hcp, HC3, b3⟩ := run_copyG (g := w.heap.size + 1 + 1) (cl := q) (hv.keep (agree_of_below b2 lo)) (by simp)
  have hz2 : ((w.alloc (.cells #[.int .i64 0, .int .i64 0, .int .i64 0, .int .i64 0, .int .i64 0, .int .i64 0, .slice none 0 0] 33)).alloc (.cells #[.int .i64 op, .int .i64 w0, .int .i64 0, .int .i64 0, .int .i64 0, .int .i64 imm, .slice none 0 0] 33)).heap.size = w.heap.size + 2 := by simp
  rw [hz2] at b3
  have hi3 := (b3.block (w.heap.size + 1) (by omega)).trans hi2
  have hr3 := (b3.block w.heap.size (by omega)).trans hr2
  have HB3 : Hid (Below w.heap.size w w3) := b2.trans (b3.mono (by omega))
  have MK : Hid (mkD op w0 imm l = ⟨op, w0, l.getD 0 0, l.getD 1 0, l.getD 2 0, imm, []⟩) := by show _ = _; unfold mkD; rw [if_neg ho]
  have HGV : Hid (Gv w 1 (errV a)) := hgv
  have HV : Hid (IntsAt w lo u l) := hv
  clear b2 b3 hi2 hr2 hz2 hv ho hgv
  go_enter Tryz.func67, Tryz.ntmps67
  go_wp2_with fail
  clear hcp
  have f0 : w3.cell? ⟨w.heap.size + 1 + 1, 0, none⟩ = some (.int .i64 (l.getD 0 0)) := (cell_of_heap HC3.out).trans rfl
  have f1 : w3.cell? ⟨w.heap.size + 1 + 1, 1, none⟩ = some (.int .i64 (l.getD 1 0)) := (cell_of_heap HC3.out).trans rfl
  have f2 : w3.cell? ⟨w.heap.size + 1 + 1, 2, none⟩ = some (.int .i64 (l.getD 2 0)) := (cell_of_heap HC3.out).trans rfl
  have i0 : w3.cell? ⟨w.heap.size + 1, 0, none⟩ = some (.int .i64 op) := (cell_of_heap hi3).trans rfl
  have i1 : w3.cell? ⟨w.heap.size + 1, 1, none⟩ = some (.int .i64 w0) := (cell_of_heap hi3).trans rfl
  have i2 : w3.cell? ⟨w.heap.size + 1, 2, none⟩ = some (.int .i64 0) := (cell_of_heap hi3).trans rfl
  have i3 : w3.cell? ⟨w.heap.size + 1, 3, none⟩ = some (.int .i64 0) := (cell_of_heap hi3).trans rfl
  have i4 : w3.cell? ⟨w.heap.size + 1, 4, none⟩ = some (.int .i64 0) := (cell_of_heap hi3).trans rfl
  have i5 : w3.cell? ⟨w.heap.size + 1, 5, none⟩ = some (.int .i64 imm) := (cell_of_heap hi3).trans rfl
  have i6 : w3.cell? ⟨w.heap.size + 1, 6, none⟩ = some (.slice none 0 0) := (cell_of_heap hi3).trans rfl
  have fi : ∀ o, w3.frozen? ⟨w.heap.size + 1, o, none⟩ = false := fun o => froz_of_heap hi3
  generalize hx0 : l.getD 0 0 = x0 at *
  have HX0 : Hid (l.getD 0 0 = x0) := hx0
  clear hx0
  generalize hx1 : l.getD 1 0 = x1 at *
  have HX1 : Hid (l.getD 1 0 = x1) := hx1
  clear hx1
  generalize hx2 : l.getD 2 0 = x2 at *
  have HX2 : Hid (l.getD 2 0 = x2) := hx2
  clear hx2
  go_region
  have hi4 : (((w3.setCell ⟨w.heap.size + 1, 2, none⟩ (.int .i64 x0)).setCell ⟨w.heap.size + 1, 3, none⟩ (.int .i64 x1)).setCell ⟨w.heap.size + 1, 4, none⟩ (.int .i64 x2)).drew.heap[w.heap.size + 1]? = some (.cells #[.int .i64 op, .int .i64 w0, .int .i64 x0, .int .i64 x1, .int .i64 x2, .int .i64 imm, .slice none 0 0] 33 (0, 0)) := by
    have k := heap_set (o := 4) (v := .int .i64 x2) (heap_set (o := 3) (v := .int .i64 x1) (heap_set (o := 2) (v := .int .i64 x0) hi3))
    rw [drew_heap]
    simpa using k
  have hr4 : (((w3.setCell ⟨w.heap.size + 1, 2, none⟩ (.int .i64 x0)).setCell ⟨w.heap.size + 1, 3, none⟩ (.int .i64 x1)).setCell ⟨w.heap.size + 1, 4, none⟩ (.int .i64 x2)).drew.heap[w.heap.size]? = some (.cells #[.int .i64 0, .int .i64 0, .int .i64 0, .int .i64 0, .int .i64 0, .int .i64 0, .slice none 0 0] 33 (0, 0)) :=
    (Below.heap_setCell _ _ _ _ (by show w.heap.size ≠ w.heap.size + 1; omega)).trans ((Below.heap_setCell _ _ _ _ (by show w.heap.size ≠ w.heap.size + 1; omega)).trans ((Below.heap_setCell _ _ _ _ (by show w.heap.size ≠ w.heap.size + 1; omega)).trans hr3))
  have HB4 : Hid (Below w.heap.size w (((w3.setCell ⟨w.heap.size + 1, 2, none⟩ (.int .i64 x0)).setCell ⟨w.heap.size + 1, 3, none⟩ (.int .i64 x1)).setCell ⟨w.heap.size + 1, 4, none⟩ (.int .i64 x2)).drew) := (((HB3.out.setCell (by dsimp only; omega) _).setCell (by dsimp only; omega) _).setCell (by dsimp only; omega) _).drew
  clear hi3 hr3 HC3 HB3 f0 f1 f2 i0 i1 i2 i3 i4 i5 i6 fi HB2
  generalize (((w3.setCell ⟨w.heap.size + 1, 2, none⟩ (.int .i64 x0)).setCell ⟨w.heap.size + 1, 3, none⟩ (.int .i64 x1)).setCell ⟨w.heap.size + 1, 4, none⟩ (.int .i64 x2)).drew = W4 at *
  have j0 : W4.cell? ⟨w.heap.size + 1, 0, none⟩ = some (.int .i64 op) := (cell_of_heap hi4).trans rfl
  have j1 : W4.cell? ⟨w.heap.size + 1, 1, none⟩ = some (.int .i64 w0) := (cell_of_heap hi4).trans rfl
  have j2 : W4.cell? ⟨w.heap.size + 1, 2, none⟩ = some (.int .i64 x0) := (cell_of_heap hi4).trans rfl
  have j3 : W4.cell? ⟨w.heap.size + 1, 3, none⟩ = some (.int .i64 x1) := (cell_of_heap hi4).trans rfl
  have j4 : W4.cell? ⟨w.heap.size + 1, 4, none⟩ = some (.int .i64 x2) := (cell_of_heap hi4).trans rfl
  have j5 : W4.cell? ⟨w.heap.size + 1, 5, none⟩ = some (.int .i64 imm) := (cell_of_heap hi4).trans rfl
  have j6 : W4.cell? ⟨w.heap.size + 1, 6, none⟩ = some (.slice none 0 0) := (cell_of_heap hi4).trans rfl
  have P := operI 0 ⟨op, w0, x0, x1, x2, imm, []⟩ none 0 W4 (by simp) ints_nilR
  have hMl := opsD_len ⟨op, w0, x0, x1, x2, imm, []⟩ (by simp)
  generalize hM : opsD ⟨op, w0, x0, x1, x2, imm, []⟩ = M at P hMl
  have HMe : Hid (opsD (mkD op w0 imm l) = M) := by show _ = _; rw [MK.out]; exact hM
  clear hM MK
  go_wp2_with fail
  refine P.mono ?_
  rintro e w5 ⟨v5, q5, rfl, o5, b5⟩
  have HB5 : Hid (Below w.heap.size w w5) := HB4.out.trans (b5.mono HB4.out.size)
  have E := equalB _ lo v5 u q5 q M l w5 o5.ints (HV.out.keep (agree_of_below HB5.out lo)) hMl hl
  have hi5 := (b5.block _ (Array.getElem?_eq_some_iff.1 hi4).1).trans hi4
  have hr5 := (b5.block _ (Array.getElem?_eq_some_iff.1 hr4).1).trans hr4
  clear P o5 b5 hi4 hr4 j0 j1 j2 j3 j4 j5 j6
  go_wp2_with fail
  refine E.mono ?_
  rintro e w6 ⟨rfl, b6⟩
  have HB6 : Hid (Below w.heap.size w w6) := HB5.out.trans (b6.mono HB5.out.size)
  have hi6 := (b6.block _ (Array.getElem?_eq_some_iff.1 hi5).1).trans hi5
  have hr6 := (b6.block _ (Array.getElem?_eq_some_iff.1 hr5).1).trans hr5
  clear E b6 hi5 hr5
  by_cases hML : M = l
  · have HYes : Hid (opsD (mkD op w0 imm l) = l) := HMe.out.trans hML
    rw [decide_eq_true hML]
    clear hML
    go_wp2_with fail
    refine (wantY w6).mono ?_
    rintro e w7 ⟨rfl, hw7⟩
    rw [hw7]
    clear hw7
    have j0 : w6.cell? ⟨w.heap.size + 1, 0, none⟩ = some (.int .i64 op) := (cell_of_heap hi6).trans rfl
    have j1 : w6.cell? ⟨w.heap.size + 1, 1, none⟩ = some (.int .i64 w0) := (cell_of_heap hi6).trans rfl
    have j2 : w6.cell? ⟨w.heap.size + 1, 2, none⟩ = some (.int .i64 x0) := (cell_of_heap hi6).trans rfl
    have j3 : w6.cell? ⟨w.heap.size + 1, 3, none⟩ = some (.int .i64 x1) := (cell_of_heap hi6).trans rfl
    have j4 : w6.cell? ⟨w.heap.size + 1, 4, none⟩ = some (.int .i64 x2) := (cell_of_heap hi6).trans rfl
    have j5 : w6.cell? ⟨w.heap.size + 1, 5, none⟩ = some (.int .i64 imm) := (cell_of_heap hi6).trans rfl
    have j6 : w6.cell? ⟨w.heap.size + 1, 6, none⟩ = some (.slice none 0 0) := (cell_of_heap hi6).trans rfl
    have r0 : w6.cell? ⟨w.heap.size, 0, none⟩ = some (.int .i64 0) := (cell_of_heap hr6).trans rfl
    have r1 : w6.cell? ⟨w.heap.size, 1, none⟩ = some (.int .i64 0) := (cell_of_heap hr6).trans rfl
    have r2 : w6.cell? ⟨w.heap.size, 2, none⟩ = some (.int .i64 0) := (cell_of_heap hr6).trans rfl
    have r3 : w6.cell? ⟨w.heap.size, 3, none⟩ = some (.int .i64 0) := (cell_of_heap hr6).trans rfl
    have r4 : w6.cell? ⟨w.heap.size, 4, none⟩ = some (.int .i64 0) := (cell_of_heap hr6).trans rfl
    have r5 : w6.cell? ⟨w.heap.size, 5, none⟩ = some (.int .i64 0) := (cell_of_heap hr6).trans rfl
    have r6 : w6.cell? ⟨w.heap.size, 6, none⟩ = some (.slice none 0 0) := (cell_of_heap hr6).trans rfl
    have rf : ∀ o, w6.frozen? ⟨w.heap.size, o, none⟩ = false := fun o => froz_of_heap hr6
    go_wp2_with fail
    have hr := (heap_set (o := 6) (v := .slice none 0 0) (heap_set (o := 5) (v := .int .i64 imm) (heap_set (o := 4) (v := .int .i64 x2) (heap_set (o := 3) (v := .int .i64 x1) (heap_set (o := 2) (v := .int .i64 x0) (heap_set (o := 1) (v := .int .i64 w0) (heap_set (o := 0) (v := .int .i64 op) hr6)))))))
    refine bodyPost_ret (v := .agg #[.int .i64 op, .int .i64 w0, .int .i64 x0, .int .i64 x1, .int .i64 x2, .int .i64 imm, .slice none 0 0]) ((results_cell_row Tryz.results67 _ _ w.heap.size 33 _ (0, 0) _ rfl hr Tryz.underlying33 rfl (by kernel_rfl)).trans (by rfl)) rfl ⟨.inl ⟨HYes.out, by rw [HX0.out, HX1.out, HX2.out]⟩, ?_⟩
    exact (by repeat (first | refine Below.setCell ?_ (by dsimp only; omega) _ | exact HB6.out))
  · have HNo : Hid (¬ opsD (mkD op w0 imm l) = l) := by show ¬ _; rw [HMe.out]; exact hML
    rw [decide_eq_false hML]
    clear hML
    have WN := wantN a w6 (HGV.out.keep HB6.out)
    go_wp2_with fail
    refine WN.mono ?_
    rintro e w7 ⟨rfl, hw7⟩
    rw [hw7]
    clear hw7
    go_wp2_with fail
    exact ⟨rfl, .inr ⟨HNo.out, rfl⟩, HB6.out⟩
end Go.Proofs.YtclagbdomfgodaaGreatDoor
namespace Go.Proofs.YtclagbdomfgodaaGreatDoor
open Go.RowKit
set_option linter.unusedVariables false
set_option linter.unusedSimpArgs false

def InstNew (w : World) (base : Nat) (r : InstD) (e : Ending) : Prop := ∃ (ru : Option Addr) (rq : Nat), e = .returned (.agg #[.int .i64 r.op, .int .i64 r.w, .int .i64 r.a, .int .i64 r.b, .int .i64 r.c, .int .i64 r.imm, .slice ru r.args.length rq]) ∧ Row w base (.slice ru r.args.length rq) r.args
structure OkR (r : InstD) : Prop where
  back : mkD r.op r.w r.imm (opsD r) = r
  three : r.op = 26 ∨ (opsD r).length ≤ 3
  args : r.args.length ≤ 1000
  ops : (opsD r).length ≤ 1000
  rng : ∀ x ∈ opsD r, 0 ≤ x ∧ x ≤ 100000
theorem ok_inst {i : InstD} {ids : Int} (hids : ids ≤ 100000) (h : instB i ids 3 = true) : OkR i := by
  unfold instB at h
  simp only [Bool.and_eq_true] at h
  obtain ⟨⟨⟨_, _⟩, hf⟩, hall⟩ := h
  have hr : ∀ x ∈ opsD i, 0 ≤ x ∧ x ≤ 100000 := by
    intro x hx
    have := List.all_eq_true.1 hall x hx
    simp [belowB] at this
    omega
  unfold fB at hf
  by_cases ho : i.op = 26
  · rw [if_pos ho] at hf
    simp only [Bool.and_eq_true, decide_eq_true_eq, beq_iff_eq] at hf
    obtain ⟨⟨⟨hl, ha⟩, hb⟩, hc⟩ := hf
    have e : opsD i = i.args := by simp [opsD, opB, ho]
    refine ⟨?_, Or.inl ho, by omega, by rw [e]; omega, hr⟩
    rw [e]; unfold mkD; rw [if_pos ho]
    rcases i with ⟨op, w, a, b, c, imm, args⟩
    dsimp only at ha hb hc ⊢
    rw [ha, hb, hc]
  · rw [if_neg ho] at hf
    simp only [Bool.and_eq_true, Bool.or_eq_true, decide_eq_true_eq, beq_iff_eq] at hf
    obtain ⟨⟨⟨hl, ha⟩, hb⟩, hc⟩ := hf
    have hargs : i.args = [] := List.length_eq_zero_iff.1 hl
    have hle : (opsD i).length ≤ 3 ∧ mkD i.op i.w i.imm (opsD i) = i := by
      unfold mkD
      rw [if_neg ho]
      rcases i with ⟨op, w, a, b, c, imm, args⟩
      dsimp only at ha hb hc hargs ho ⊢
      subst hargs
      unfold opsD at *
      dsimp only at *
      split at ha <;> rename_i h1
      · simp [h1] at hb hc ⊢; exact hc.symm
      · split at ha <;> rename_i h2
        · simp [h1, h2] at hb hc ⊢; exact ⟨hb.symm, hc.symm⟩
        · split at ha <;> rename_i h3
          · rw [if_neg h1, if_neg h2, if_pos h3]; simp
          · simp [h1, h2, h3, ho] at ha hb hc ⊢; exact ⟨ha.symm, hb.symm, hc.symm⟩
    exact ⟨hle.2, Or.inr hle.1, by rw [hargs]; simp, by omega, hr⟩
/-- An instruction of its op, its width, its number and its operands: none where these are not just its own. -/
def finN (op x m : Int) (l : List Int) : Option InstD := if op = 26 ∨ opsD (mkD op x m l) = l then some (mkD op x m l) else none
def ofNums (op : Int) : List Int → Option InstD
  | [] => none
  | x :: r => if immB op = true then (match r with
    | [] => none
    | m :: r' => finN op x m r') else finN op x 0 r
theorem fin_ops {op x m : Int} {l : List Int} {i : InstD} (h : finN op x m l = some i) : i = mkD op x m l ∧ opsD i = l := by
  unfold finN at h
  split at h
  · rename_i hc
    cases h
    refine ⟨rfl, ?_⟩
    rcases hc with hc | hc
    · unfold mkD; rw [if_pos hc]; simp [opsD, opB, hc]
    · exact hc
  · cases h
theorem mk_fields (op x m : Int) (l : List Int) : (mkD op x m l).op = op ∧ (mkD op x m l).w = x ∧ (mkD op x m l).imm = m := by unfold mkD; split <;> exact ⟨rfl, rfl, rfl⟩
theorem nums_inst {op : Int} {nums : List Int} {i : InstD} (h : ofNums op nums = some i) : i.op = op ∧ instN i = nums := by
  unfold ofNums at h
  split at h
  · cases h
  · rename_i x r
    split at h
    · rename_i him
      split at h
      · cases h
      · rename_i m r'
        obtain ⟨h1, h2⟩ := fin_ops h
        obtain ⟨f1, f2, f3⟩ := mk_fields op x m r'
        rw [← h1] at f1 f2 f3
        refine ⟨f1, ?_⟩
        unfold instN
        rw [f1, if_pos him, f2, f3, h2]
        rfl
    · rename_i him
      obtain ⟨h1, h2⟩ := fin_ops h
      obtain ⟨f1, f2, f3⟩ := mk_fields op x 0 r
      rw [← h1] at f1 f2 f3
      refine ⟨f1, ?_⟩
      unfold instN
      rw [f1, if_neg him, f2, h2]
      rfl
theorem inst_nums {i : InstD} (h : instB i 60 3 = true) : ofNums i.op (instN i) = some i := by
  have ok := ok_inst (ids := 60) (by omega) h
  have fin : ∀ m, i.imm = m → finN i.op i.w m (opsD i) = some i := fun m hm => by
    unfold finN
    rw [← hm, ok.back]
    rw [if_pos (.inr rfl)]
  unfold instN ofNums
  by_cases him : immB i.op = true
  · rw [if_pos him]
    simp only [List.cons_append, List.nil_append]
    rw [if_pos him]
    exact fin _ rfl
  · rw [if_neg him]
    simp only [List.cons_append, List.nil_append]
    rw [if_neg him]
    refine fin 0 ?_
    simp only [instB, Bool.and_eq_true] at h
    have hi := h.1.1.2
    unfold iB at hi
    have h21 : ¬ i.op = 21 := fun e => him (by simp [immB, e])
    have h26 : ¬ i.op = 26 := fun e => him (by simp [immB, e])
    rw [if_neg h21, if_neg h26] at hi
    simpa using hi
/-- What is read of a text, by its pieces. -/
theorem read_iff {s : ByteArray} {b0 : ByteArray} {ws : List ByteArray} {nums : List Int} (hp : pieces s = b0 :: ws) (hn : NumsIs ws nums) (i : InstD) : ReadOk s i ↔ (ofNums (opNum b0) nums = some i ∧ instB i 60 3 = true) := by
  constructor
  · intro h
    obtain ⟨h1, h2⟩ := read_nums h hp
    have hF := instB_inF h.1
    have e : nums = instN i := hn.one h2
    have ho : opNum b0 = i.op := by
      rw [h1]
      have := opNum_word (k := i.op.toNat) (by have := hF.op1; omega) (by have := hF.op27; omega)
      rw [this]
      have := hF.op1
      omega
    rw [ho, e]
    exact ⟨inst_nums h.1, h.1⟩
  · rintro ⟨h1, h2⟩
    obtain ⟨e1, e2⟩ := nums_inst h1
    have hF := instB_inF h2
    refine read_back hp ?_ (by rw [e2]; exact hn) h2
    rcases opNum_some b0 with h0 | ⟨j, hj, h3, h4⟩
    · have := hF.op1; omega
    · rw [e1, h3]
      exact h4.symm
theorem read_none {s : ByteArray} (h : ∀ w0 ws, pieces s = w0 :: ws → ¬ ∃ nums, NumsIs ws nums) : ¬ ∃ i, ReadOk s i := fun ⟨i, hi⟩ =>
  h _ _ (read_pieces hi) ⟨instN i, nums_is (instN_sm (instB_inF hi.1))⟩
theorem read_one {s : ByteArray} {i j : InstD} (h : ReadOk s i) (k : ReadOk s j) : i = j := by
  have hp := read_pieces h
  obtain ⟨_, hn⟩ := read_nums h hp
  have h1 := ((read_iff hp hn i).1 h).1
  have h2 := ((read_iff hp hn j).1 k).1
  rw [h1] at h2
  cases h2
  rfl
end Go.Proofs.YtclagbdomfgodaaGreatDoor
namespace Go.Proofs.YtclagbdomfgodaaGreatDoor
open Go.RowKit
set_option linter.unusedVariables false
set_option linter.unusedSimpArgs false

structure Ls (w W : World) : Prop where
  r : At W (w.heap.size + 1) #[.int .i64 0, .int .i64 0, .int .i64 0, .int .i64 0, .int .i64 0, .int .i64 0, .slice none 0 0] 33
  below : Below w.heap.size w W
  size : w.heap.size + 3 ≤ W.heap.size
theorem Ls.keep {w W W2 : World} (h : Ls w W) (k : Below W.heap.size W W2) : Ls w W2 := ⟨h.r.below k, h.below.trans (k.mono h.below.size), Nat.le_trans h.size k.size⟩
theorem Ls.only {w W W2 : World} (h : Ls w W) (k : OnlyR (w.heap.size + 2) W W2) : Ls w W2 := ⟨(k.block _ h.r.lt (by omega)).trans h.r, h.below.trans (k.down (by omega) h.below.size), Nat.le_trans h.size k.size⟩
theorem row_set7 {w : World} {R base : Nat} {v v0 v1 v2 v3 v4 v5 v6 : Value} {l : List Int} (h : Row w base v l) (hR : R < base) : Row (((((((w.setCell ⟨R, 0, none⟩ v0).setCell ⟨R, 1, none⟩ v1).setCell ⟨R, 2, none⟩ v2).setCell ⟨R, 3, none⟩ v3).setCell ⟨R, 4, none⟩ v4).setCell ⟨R, 5, none⟩ v5).setCell ⟨R, 6, none⟩ v6) base v l :=
  row_setX (row_setX (row_setX (row_setX (row_setX (row_setX (row_setX h hR) hR) hR) hR) hR) hR) hR
/-- What is told of an instruction that is wanted. -/
def InstToldR (o : Option InstD) (a : Addr) (base : Nat) (w : World) (e : Ending) : Prop := (∃ i, o = some i ∧ InstNew w base i e) ∨ (o = none ∧ e = .panicked [{ v := errV a, recovered := false }])
set_option maxHeartbeats 8000000 in
set_option maxRecDepth 100000 in
theorem instOfLineI (a : Addr) (lo : Nat) (b0 : ByteArray) (u : Option Addr) (c : Nat) (nums : List Int) (w : World) (hr : Row w lo (.slice u nums.length c) nums) (hl : nums.length ≤ 1048576) (hO : OpsAt w) (hv : Gv w 1 (errV a)) :
    Calls Tryz.prog 38 #[.agg #[.string b0, .slice u nums.length c]] w fun e w' => InstToldR (ofNums (opNum b0) nums) a w.heap.size w' e ∧ Below w.heap.size w w' := by
  have B1 : Below w.heap.size w ((w.alloc (.cells #[.string b0, .slice u nums.length c] 64)).alloc (.cells #[.int .i64 0, .int .i64 0, .int .i64 0, .int .i64 0, .int .i64 0, .int .i64 0, .slice none 0 0] 33)) := ((Below.refl _ _).alloc (Nat.le_refl _) _).alloc (by simp) _
  have e1 : ((w.alloc (.cells #[.string b0, .slice u nums.length c] 64)).alloc (.cells #[.int .i64 0, .int .i64 0, .int .i64 0, .int .i64 0, .int .i64 0, .int .i64 0, .slice none 0 0] 33)).heap.size = w.heap.size + 2 := by simp
  have A0 : At ((w.alloc (.cells #[.string b0, .slice u nums.length c] 64)).alloc (.cells #[.int .i64 0, .int .i64 0, .int .i64 0, .int .i64 0, .int .i64 0, .int .i64 0, .slice none 0 0] 33)) w.heap.size #[.string b0, .slice u nums.length c] 64 := (At.new _ _ _).below ((Below.refl _ _).alloc (Nat.le_refl _) _)
  have A1 : At ((w.alloc (.cells #[.string b0, .slice u nums.length c] 64)).alloc (.cells #[.int .i64 0, .int .i64 0, .int .i64 0, .int .i64 0, .int .i64 0, .int .i64 0, .slice none 0 0] 33)) (w.heap.size + 1) #[.int .i64 0, .int .i64 0, .int .i64 0, .int .i64 0, .int .i64 0, .int .i64 0, .slice none 0 0] 33 := by
    have h := At.new (w.alloc (.cells #[.string b0, .slice u nums.length c] 64)) #[.int .i64 0, .int .i64 0, .int .i64 0, .int .i64 0, .int .i64 0, .int .i64 0, .slice none 0 0] 33
    have e : (w.alloc (.cells #[.string b0, .slice u nums.length c] 64)).heap.size = w.heap.size + 1 := by simp
    rw [e] at h
    exact h
  have OP := opOfI b0 _ (hO.keep B1)
  have HGV : Hid (Gv w 1 (errV a)) := hv
  have HR : Hid (Row w lo (.slice u nums.length c) nums) := hr
  obtain ⟨op, hop⟩ : ∃ op, opNum b0 = op := ⟨_, rfl⟩
  rw [hop] at OP
  rw [hop]
  clear hO hv hr hop
  go_enter Tryz.func38, Tryz.ntmps38
  go_wp2_with fail
  generalize ((w.alloc (.cells #[.string b0, .slice u nums.length c] 64)).alloc (.cells #[.int .i64 0, .int .i64 0, .int .i64 0, .int .i64 0, .int .i64 0, .int .i64 0, .slice none 0 0] 33)) = W1 at B1 e1 A0 A1 OP ⊢
  refine OP.mono ?_
  rintro e w1 ⟨rfl, h9⟩
  have h8 := h9.symm
  clear h9
  subst h8
  have y1 : W1.cell? ⟨w.heap.size, 1, none⟩ = some (.slice u nums.length c) := A0.cell 1
  have bx : Below W1.heap.size W1 (W1.alloc (.cells #[.slice u nums.length c] 104)) := (Below.refl _ _).alloc (Nat.le_refl _) _
  have hL : Ls w (W1.alloc (.cells #[.slice u nums.length c] 104)) := ⟨A1.below bx, B1.trans (bx.mono B1.size), by simp [e1]⟩
  have hRw : RwAt (W1.alloc (.cells #[.slice u nums.length c] 104)) (w.heap.size + 2) nums := by
    have hA : At (W1.alloc (.cells #[.slice u nums.length c] 104)) (w.heap.size + 2) #[.slice u nums.length c] 104 := by rw [← e1]; exact At.new _ _ _
    rcases HR.out.2 with ⟨hv, hn⟩ | ⟨g, cap, cur, hv, _, hg, hnc, hcm, hcs, htk⟩
    · have hn0 : nums = [] := List.length_eq_zero_iff.1 hn
      subst hn0
      simp only [Value.slice.injEq, List.length_nil, true_and] at hv
      obtain ⟨rfl, rfl⟩ := hv
      exact .inl ⟨rfl, hA⟩
    · simp only [Value.slice.injEq, true_and] at hv
      obtain ⟨rfl, rfl⟩ := hv
      have hgl : g < w.heap.size := (Array.getElem?_eq_some_iff.1 hg).1
      refine .inr ⟨g, 0, c, hA, hnc, by unfold maxLen at hcm; omega, by omega, by have := hL.below.size; omega, fun i hi => ?_⟩
      refine (cell_block (hL.below.block g hgl)).trans ?_
      rw [Nat.zero_add, cell_of_heap hg]
      have e : (cur.toList.take (nums.length * 1))[i]? = (nums.map (Value.int .i64))[i]? := by rw [htk]
      rw [List.getElem?_take, if_pos (by omega)] at e
      simp [hi] at e
      simpa [List.getD, hi] using e
  have HL : Hid (Ls w (W1.alloc (.cells #[.slice u nums.length c] 104))) := hL
  have HRw : Hid (RwAt (W1.alloc (.cells #[.slice u nums.length c] 104)) (w.heap.size + 2) nums) := hRw
  clear hL hRw OP A0 A1 B1 bx
  go_wp2_with fail
  generalize (W1.alloc (.cells #[.slice u nums.length c] 104)) = W2 at HL HRw ⊢
  clear y1 e1
  cases nums with
  | nil =>
    refine (nextN a _ _ HRw.out (HGV.out.keep HL.out.below)).mono ?_
    rintro e w9 ⟨rfl, h9⟩
    have h8 := h9.symm
    clear h9
    subst h8
    go_wp2_with fail
    exact ⟨rfl, .inr ⟨rfl, rfl⟩, HL.out.below⟩
  | cons x r =>
    have hlr0 : r.length < 1048576 := by simp at hl; omega
    refine (nextY _ x r _ HRw.out hlr0).mono ?_
    rintro e w3 ⟨rfl, hRw3, ho3⟩
    have HL3 : Hid (Ls w w3) := HL.out.only ho3
    have HRw3 : Hid (RwAt w3 (w.heap.size + 2) r) := hRw3
    clear hRw3 ho3 HL HRw HR
    cases him : immB op with
    | true =>
      cases r with
      | nil =>
        have HNo : Hid (ofNums op [x] = none) := by show _ = _; simp [ofNums, him]
        have P := immN a _ op w3 him HRw3.out (HGV.out.keep HL3.out.below)
        have HB3 : Hid (Below w.heap.size w w3) := HL3.out.below
        clear him
        go_wp2_with fail
        refine P.mono ?_
        rintro e w9 ⟨rfl, h9⟩
        have h8 := h9.symm
        clear h9
        subst h8
        go_wp2_with fail
        exact ⟨rfl, .inr ⟨HNo.out, rfl⟩, HB3.out⟩
      | cons m r2 =>
        have HOF : Hid (ofNums op (x :: m :: r2) = finN op x m r2) := by show _ = _; simp [ofNums, him]
        have hlr1 : r2.length < 1048576 := by simp at hlr0; omega
        have hlr : r2.length ≤ 1048576 := by omega
        have P := immY _ op m r2 w3 him HRw3.out hlr1
        clear him
        go_wp2_with fail
        refine P.mono ?_
        rintro e w4 ⟨rfl, hRw4, ho4⟩
        have HL4 : Hid (Ls w w4) := HL3.out.only ho4
        have HRw4 : Hid (RwAt w4 (w.heap.size + 2) r2) := hRw4
        clear hRw4 ho4 P HL3 HRw3
        go_wp2_with fail
        refine (restI (w.heap.size + 2) r2 w4 HRw4.out hlr).mono ?_
        rintro e w5 ⟨v5, rfl, hR5, ho5⟩
        obtain ⟨u5, c5, rfl⟩ := hR5.slice
        have HL5 : Hid (Ls w w5) := HL4.out.only ho5
        have HR5 : Hid (Row w5 w4.heap.size _ r2) := hR5
        have hW5 : w.heap.size + 3 ≤ w4.heap.size := HL4.out.size
        clear hR5 ho5 HRw4
        by_cases h26 : op = 26
        · subst h26
          have HSo : Hid (_ = some (mkD 26 x m r2)) := HOF.out.trans (by unfold finN; rw [if_pos (.inl rfl)])
          have P := instOf26 x m u5 c5 r2 w5
          go_wp2_with fail
          refine P.mono ?_
          rintro e w6 ⟨rfl, b6⟩
          have HL6 : Hid (Ls w w6) := HL5.out.keep b6
          have HR6 : Hid (Row w6 w4.heap.size _ r2) := Row.keep HR5.out b6
          clear P b6 HL5 HR5
          have z0 : w6.cell? ⟨w.heap.size + 1, 0, none⟩ = some (.int .i64 0) := HL6.out.r.cell 0
          have z1 : w6.cell? ⟨w.heap.size + 1, 1, none⟩ = some (.int .i64 0) := HL6.out.r.cell 1
          have z2 : w6.cell? ⟨w.heap.size + 1, 2, none⟩ = some (.int .i64 0) := HL6.out.r.cell 2
          have z3 : w6.cell? ⟨w.heap.size + 1, 3, none⟩ = some (.int .i64 0) := HL6.out.r.cell 3
          have z4 : w6.cell? ⟨w.heap.size + 1, 4, none⟩ = some (.int .i64 0) := HL6.out.r.cell 4
          have z5 : w6.cell? ⟨w.heap.size + 1, 5, none⟩ = some (.int .i64 0) := HL6.out.r.cell 5
          have z6 : w6.cell? ⟨w.heap.size + 1, 6, none⟩ = some (.slice none 0 0) := HL6.out.r.cell 6
          have zf : ∀ o, w6.frozen? ⟨w.heap.size + 1, o, none⟩ = false := fun o => froz_of_heap HL6.out.r
          have hsz := HL6.out.size
          go_wp2_with fail
          have hrr := (heap_set (o := 6) (v := .slice u5 r2.length c5) (heap_set (o := 5) (v := .int .i64 m) (heap_set (o := 4) (v := .int .i64 0) (heap_set (o := 3) (v := .int .i64 0) (heap_set (o := 2) (v := .int .i64 0) (heap_set (o := 1) (v := .int .i64 x) (heap_set (o := 0) (v := .int .i64 26) HL6.out.r)))))))
          refine bodyPost_ret (v := .agg #[.int .i64 26, .int .i64 x, .int .i64 0, .int .i64 0, .int .i64 0, .int .i64 m, .slice u5 r2.length c5]) ((results_cell_row Tryz.results38 _ _ (w.heap.size + 1) 33 _ (0, 0) _ rfl hrr Tryz.underlying33 rfl (by kernel_rfl)).trans (by rfl)) rfl ⟨.inl ⟨_, HSo.out, ?_⟩, ?_⟩
          · exact ⟨u5, c5, rfl, (row_set7 HR6.out (by omega)).low (by omega)⟩
          · exact (by repeat (first | refine Below.setCell ?_ (by dsimp only; omega) _ | exact HL6.out.below))
        · have P := instOfG op x m w4.heap.size u5 c5 r2 w5 a h26 hlr (by obtain ⟨q1, q2, q3, q4⟩ := HR5.out.ints (by omega); cases q3; exact q4) (HGV.out.keep HL5.out.below)
          go_wp2_with fail
          refine P.mono ?_
          rintro e w6 ⟨hc, b6⟩
          have HL6 : Hid (Ls w w6) := HL5.out.keep b6
          clear P b6 HL5 HR5
          rcases hc with ⟨hc, rfl⟩ | ⟨hc, rfl⟩
          · have HSo : Hid (_ = some (mkD op x m r2)) := HOF.out.trans (by unfold finN; rw [if_pos (.inr hc)])
            have HMk : Hid (mkD op x m r2 = ⟨op, x, r2.getD 0 0, r2.getD 1 0, r2.getD 2 0, m, []⟩) := by show _ = _; unfold mkD; rw [if_neg h26]
            clear hc h26
            generalize r2.getD 0 0 = f0 at HMk ⊢
            generalize r2.getD 1 0 = f1 at HMk ⊢
            generalize r2.getD 2 0 = f2 at HMk ⊢
            have z0 : w6.cell? ⟨w.heap.size + 1, 0, none⟩ = some (.int .i64 0) := HL6.out.r.cell 0
            have z1 : w6.cell? ⟨w.heap.size + 1, 1, none⟩ = some (.int .i64 0) := HL6.out.r.cell 1
            have z2 : w6.cell? ⟨w.heap.size + 1, 2, none⟩ = some (.int .i64 0) := HL6.out.r.cell 2
            have z3 : w6.cell? ⟨w.heap.size + 1, 3, none⟩ = some (.int .i64 0) := HL6.out.r.cell 3
            have z4 : w6.cell? ⟨w.heap.size + 1, 4, none⟩ = some (.int .i64 0) := HL6.out.r.cell 4
            have z5 : w6.cell? ⟨w.heap.size + 1, 5, none⟩ = some (.int .i64 0) := HL6.out.r.cell 5
            have z6 : w6.cell? ⟨w.heap.size + 1, 6, none⟩ = some (.slice none 0 0) := HL6.out.r.cell 6
            have zf : ∀ o, w6.frozen? ⟨w.heap.size + 1, o, none⟩ = false := fun o => froz_of_heap HL6.out.r
            have hsz := HL6.out.size
            go_wp2_with fail
            have hrr := (heap_set (o := 6) (v := .slice none 0 0) (heap_set (o := 5) (v := .int .i64 m) (heap_set (o := 4) (v := .int .i64 f2) (heap_set (o := 3) (v := .int .i64 f1) (heap_set (o := 2) (v := .int .i64 f0) (heap_set (o := 1) (v := .int .i64 x) (heap_set (o := 0) (v := .int .i64 op) HL6.out.r)))))))
            refine bodyPost_ret (v := .agg #[.int .i64 op, .int .i64 x, .int .i64 f0, .int .i64 f1, .int .i64 f2, .int .i64 m, .slice none 0 0]) ((results_cell_row Tryz.results38 _ _ (w.heap.size + 1) 33 _ (0, 0) _ rfl hrr Tryz.underlying33 rfl (by kernel_rfl)).trans (by rfl)) rfl ⟨.inl ⟨_, HSo.out, ?_⟩, ?_⟩
            · rw [HMk.out]
              exact ⟨none, 0, rfl, Row.nil _ _⟩
            · exact (by repeat (first | refine Below.setCell ?_ (by dsimp only; omega) _ | exact HL6.out.below))
          · have HNo : Hid (_ = none) := HOF.out.trans (by unfold finN; rw [if_neg (by rintro (k | k); exact h26 k; exact hc k)])
            have HB6 : Hid (Below w.heap.size w w6) := HL6.out.below
            clear hc h26
            go_wp2_with fail
            exact ⟨rfl, .inr ⟨HNo.out, rfl⟩, HB6.out⟩
    | false =>
      have HOF : Hid (ofNums op (x :: r) = finN op x 0 r) := by show _ = _; simp [ofNums, him]
      have hlr : r.length ≤ 1048576 := by omega
      have P := immZ (w.heap.size + 2) op w3 him
      clear him
      go_wp2_with fail
      refine P.mono ?_
      rintro e w9 ⟨rfl, h9⟩
      have h8 := h9.symm
      clear h9
      subst h8
      clear P
      go_wp2_with fail
      refine (restI (w.heap.size + 2) r w3 HRw3.out hlr).mono ?_
      rintro e w5 ⟨v5, rfl, hR5, ho5⟩
      obtain ⟨u5, c5, rfl⟩ := hR5.slice
      have HL5 : Hid (Ls w w5) := HL3.out.only ho5
      have HR5 : Hid (Row w5 w3.heap.size _ r) := hR5
      have hW5 : w.heap.size + 3 ≤ w3.heap.size := HL3.out.size
      clear hR5 ho5 HRw3
      by_cases h26 : op = 26
      · subst h26
        have HSo : Hid (_ = some (mkD 26 x 0 r)) := HOF.out.trans (by unfold finN; rw [if_pos (.inl rfl)])
        have P := instOf26 x 0 u5 c5 r w5
        go_wp2_with fail
        refine P.mono ?_
        rintro e w6 ⟨rfl, b6⟩
        have HL6 : Hid (Ls w w6) := HL5.out.keep b6
        have HR6 : Hid (Row w6 w3.heap.size _ r) := Row.keep HR5.out b6
        clear P b6 HL5 HR5
        have z0 : w6.cell? ⟨w.heap.size + 1, 0, none⟩ = some (.int .i64 0) := HL6.out.r.cell 0
        have z1 : w6.cell? ⟨w.heap.size + 1, 1, none⟩ = some (.int .i64 0) := HL6.out.r.cell 1
        have z2 : w6.cell? ⟨w.heap.size + 1, 2, none⟩ = some (.int .i64 0) := HL6.out.r.cell 2
        have z3 : w6.cell? ⟨w.heap.size + 1, 3, none⟩ = some (.int .i64 0) := HL6.out.r.cell 3
        have z4 : w6.cell? ⟨w.heap.size + 1, 4, none⟩ = some (.int .i64 0) := HL6.out.r.cell 4
        have z5 : w6.cell? ⟨w.heap.size + 1, 5, none⟩ = some (.int .i64 0) := HL6.out.r.cell 5
        have z6 : w6.cell? ⟨w.heap.size + 1, 6, none⟩ = some (.slice none 0 0) := HL6.out.r.cell 6
        have zf : ∀ o, w6.frozen? ⟨w.heap.size + 1, o, none⟩ = false := fun o => froz_of_heap HL6.out.r
        have hsz := HL6.out.size
        go_wp2_with fail
        have hrr := (heap_set (o := 6) (v := .slice u5 r.length c5) (heap_set (o := 5) (v := .int .i64 0) (heap_set (o := 4) (v := .int .i64 0) (heap_set (o := 3) (v := .int .i64 0) (heap_set (o := 2) (v := .int .i64 0) (heap_set (o := 1) (v := .int .i64 x) (heap_set (o := 0) (v := .int .i64 26) HL6.out.r)))))))
        refine bodyPost_ret (v := .agg #[.int .i64 26, .int .i64 x, .int .i64 0, .int .i64 0, .int .i64 0, .int .i64 0, .slice u5 r.length c5]) ((results_cell_row Tryz.results38 _ _ (w.heap.size + 1) 33 _ (0, 0) _ rfl hrr Tryz.underlying33 rfl (by kernel_rfl)).trans (by rfl)) rfl ⟨.inl ⟨_, HSo.out, ?_⟩, ?_⟩
        · exact ⟨u5, c5, rfl, (row_set7 HR6.out (by omega)).low (by omega)⟩
        · exact (by repeat (first | refine Below.setCell ?_ (by dsimp only; omega) _ | exact HL6.out.below))
      · have P := instOfG op x 0 w3.heap.size u5 c5 r w5 a h26 hlr (by obtain ⟨q1, q2, q3, q4⟩ := HR5.out.ints (by omega); cases q3; exact q4) (HGV.out.keep HL5.out.below)
        go_wp2_with fail
        refine P.mono ?_
        rintro e w6 ⟨hc, b6⟩
        have HL6 : Hid (Ls w w6) := HL5.out.keep b6
        clear P b6 HL5 HR5
        rcases hc with ⟨hc, rfl⟩ | ⟨hc, rfl⟩
        · have HSo : Hid (_ = some (mkD op x 0 r)) := HOF.out.trans (by unfold finN; rw [if_pos (.inr hc)])
          have HMk : Hid (mkD op x 0 r = ⟨op, x, r.getD 0 0, r.getD 1 0, r.getD 2 0, 0, []⟩) := by show _ = _; unfold mkD; rw [if_neg h26]
          clear hc h26
          generalize r.getD 0 0 = f0 at HMk ⊢
          generalize r.getD 1 0 = f1 at HMk ⊢
          generalize r.getD 2 0 = f2 at HMk ⊢
          have z0 : w6.cell? ⟨w.heap.size + 1, 0, none⟩ = some (.int .i64 0) := HL6.out.r.cell 0
          have z1 : w6.cell? ⟨w.heap.size + 1, 1, none⟩ = some (.int .i64 0) := HL6.out.r.cell 1
          have z2 : w6.cell? ⟨w.heap.size + 1, 2, none⟩ = some (.int .i64 0) := HL6.out.r.cell 2
          have z3 : w6.cell? ⟨w.heap.size + 1, 3, none⟩ = some (.int .i64 0) := HL6.out.r.cell 3
          have z4 : w6.cell? ⟨w.heap.size + 1, 4, none⟩ = some (.int .i64 0) := HL6.out.r.cell 4
          have z5 : w6.cell? ⟨w.heap.size + 1, 5, none⟩ = some (.int .i64 0) := HL6.out.r.cell 5
          have z6 : w6.cell? ⟨w.heap.size + 1, 6, none⟩ = some (.slice none 0 0) := HL6.out.r.cell 6
          have zf : ∀ o, w6.frozen? ⟨w.heap.size + 1, o, none⟩ = false := fun o => froz_of_heap HL6.out.r
          have hsz := HL6.out.size
          go_wp2_with fail
          have hrr := (heap_set (o := 6) (v := .slice none 0 0) (heap_set (o := 5) (v := .int .i64 0) (heap_set (o := 4) (v := .int .i64 f2) (heap_set (o := 3) (v := .int .i64 f1) (heap_set (o := 2) (v := .int .i64 f0) (heap_set (o := 1) (v := .int .i64 x) (heap_set (o := 0) (v := .int .i64 op) HL6.out.r)))))))
          refine bodyPost_ret (v := .agg #[.int .i64 op, .int .i64 x, .int .i64 f0, .int .i64 f1, .int .i64 f2, .int .i64 0, .slice none 0 0]) ((results_cell_row Tryz.results38 _ _ (w.heap.size + 1) 33 _ (0, 0) _ rfl hrr Tryz.underlying33 rfl (by kernel_rfl)).trans (by rfl)) rfl ⟨.inl ⟨_, HSo.out, ?_⟩, ?_⟩
          · rw [HMk.out]
            exact ⟨none, 0, rfl, Row.nil _ _⟩
          · exact (by repeat (first | refine Below.setCell ?_ (by dsimp only; omega) _ | exact HL6.out.below))
        · have HNo : Hid (_ = none) := HOF.out.trans (by unfold finN; rw [if_neg (by rintro (k | k); exact h26 k; exact hc k)])
          have HB6 : Hid (Below w.heap.size w w6) := HL6.out.below
          clear hc h26
          go_wp2_with fail
          exact ⟨rfl, .inr ⟨HNo.out, rfl⟩, HB6.out⟩
end Go.Proofs.YtclagbdomfgodaaGreatDoor
