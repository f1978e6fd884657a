/- The model's graphs: the contracts of l3Succs, l3There, l3Reach, l3Dom. -/
import Derived.Test.YtiflkkkggidhbaaPutQ
import Derived.Test.YtiflkkkggidhbaaGrg
import Derived.Test.YtiflkkkggidhbaaCntW
namespace Go.Proofs.Ytiflkkkggidhbaa
open Go.RowKit

theorem in3S (n lo hi : Int) (w : World) : Calls Try.prog 50 #[.int .i64 n, .int .i64 lo, .int .i64 hi] w fun e w' => e = .returned (.bool (decide (lo ≤ n) && decide (n ≤ hi))) ∧ w' = w := by
  by_cases h : lo ≤ n
  · go_enter Try.func50, Try.ntmps50
    go_wp2_with fail
    go_ret
    exact ⟨by simp [h], rfl⟩
  · go_enter Try.func50, Try.ntmps50
    go_wp2_with fail
    go_ret
    exact ⟨congrArg (fun b => Ending.returned (Value.bool b)) (by rw [decide_eq_false (by omega)]; rfl), rfl⟩
theorem in3S_t (n lo hi : Int) (w : World) (h : lo ≤ n ∧ n ≤ hi) : Calls Try.prog 50 #[.int .i64 n, .int .i64 lo, .int .i64 hi] w fun e w' => e = .returned (.bool true) ∧ w' = w :=
  (in3S n lo hi w).mono fun e w' h' => ⟨h'.1.trans (by rw [← Bool.decide_and, decide_eq_true h]), h'.2⟩
theorem in3S_f (n lo hi : Int) (w : World) (h : ¬ (lo ≤ n ∧ n ≤ hi)) : Calls Try.prog 50 #[.int .i64 n, .int .i64 lo, .int .i64 hi] w fun e w' => e = .returned (.bool false) ∧ w' = w :=
  (in3S n lo hi w).mono fun e w' h' => ⟨h'.1.trans (by rw [← Bool.decide_and, decide_eq_false h]), h'.2⟩
theorem ints_lit3 {w : World} {o o2 : Obj} {l : List Int} {cs : Array Value} (hm : l.length ≤ 1000) (hc : ∀ i, i < l.length → cs[i]? = some (.int .i64 (l.getD i 0))) : IntsAt (((w.alloc o).alloc o2).alloc (.cells cs 2)) w.heap.size (some ⟨w.heap.size + 1 + 1, 0, none⟩) l := by
  refine ⟨by omega, .inr ⟨w.heap.size + 1 + 1, 0, rfl, by omega, by simp, fun i hi => ?_⟩⟩
  have h := heap_alloc_last ((w.alloc o).alloc o2) (.cells cs 2)
  have hz : ((w.alloc o).alloc o2).heap.size = w.heap.size + 1 + 1 := by simp
  rw [hz] at h
  rw [Nat.zero_add, cell_of_heap h]; exact hc i hi
theorem below3 (w : World) (o o2 o3 : Obj) : Below w.heap.size w (((w.alloc o).alloc o2).alloc o3) := (((Below.refl _ _).alloc (Nat.le_refl _) _).alloc (by simp) _).alloc (by simp; omega) _
set_option maxRecDepth 100000 in
set_option maxHeartbeats 2000000 in
theorem succsS (lo : Nat) (l : List BlockD) (u0 : Option Addr) (n0 c0 : Nat) (r : Int) (u2 : Option Addr) (c2 : Nat) (k : Nat) (w : World) (k2 : BlocksAt w lo u2 l) (hk : k < l.length) :
    Calls Try.prog 39 #[.agg #[.slice u0 n0 c0, .int .i64 r, .slice u2 l.length c2], .int .i64 k] w fun e w' => (∃ g c, e = .returned (.slice (some ⟨g, 0, none⟩) (tgtD (termAt l k)).length c) ∧ IntsAt w' w.heap.size (some ⟨g, 0, none⟩) (tgtD (termAt l k))) ∧ Below w.heap.size w w' := by
  rcases k2.2 with hn | ⟨b, off, rfl, hlo, hb, hcell⟩
  · simp [hn] at hk
  obtain ⟨_, _, g2, g3, g4, g5⟩ := hcell k hk
  have ET : termAt l k = (l.getD k block0).term := rfl
  rw [ET]
  generalize (l.getD k block0).term = t at g2 g3 g4 g5
  have e2 : w.cell? ⟨b, off + k * 6 + 2, none⟩ = some (.int .i64 t.kind) := g2
  have e3 : w.cell? ⟨b, off + k * 6 + 3, none⟩ = some (.int .i64 t.a) := g3
  have e4 : w.cell? ⟨b, off + k * 6 + 4, none⟩ = some (.int .i64 t.x) := g4
  have e5 : w.cell? ⟨b, off + k * 6 + 5, none⟩ = some (.int .i64 t.y) := g5
  clear hcell g2 g3 g4 g5 ET k2
  by_cases h2 : t.kind = 2
  · have E : tgtD t = [t.x] := by rw [tgtD, if_pos h2]
    rw [E]; clear E
    go_enter Try.func39, Try.ntmps39
    go_wp2_with fail
    go_ret
    exact ⟨⟨_, _, rfl, ints_lit3 (by simp) (one_ints t.x)⟩, below3 _ _ _ _⟩
  by_cases h3 : t.kind = 3
  · have E : tgtD t = [t.x, t.y] := by rw [tgtD, if_neg h2, if_pos h3]
    rw [E]; clear E
    go_enter Try.func39, Try.ntmps39
    go_wp2_with fail
    go_ret
    exact ⟨⟨_, _, rfl, ints_lit3 (by simp) (two_ints t.x t.y)⟩, below3 _ _ _ _⟩
  · have E : tgtD t = [] := by rw [tgtD, if_neg h2, if_neg h3]
    rw [E]; clear E
    go_enter Try.func39, Try.ntmps39
    go_wp2_with fail
    go_ret
    exact ⟨⟨_, _, rfl, ⟨by simp, .inl rfl⟩⟩, below3 _ _ _ _⟩
set_option maxRecDepth 100000 in
set_option maxHeartbeats 4000000 in
theorem thereS (lo : Nat) (d : FuncD) (u0 : Option Addr) (c0 : Nat) (u2 : Option Addr) (c2 : Nat) (b : Int) (w : World) (hs : SmFunc d) (k2 : BlocksAt w lo u2 d.blocks) :
    Calls Try.prog 38 #[.agg #[.slice u0 d.params.length c0, .int .i64 d.ret, .slice u2 d.blocks.length c2], .int .i64 b] w fun e w' => (∃ v, e = .returned (.bool v) ∧ (v = true ↔ RightL d.blocks ∧ 0 ≤ b ∧ b < d.blocks.length)) ∧ Below w.heap.size w w' := by
  have hbl := hs.2.1
  clear hs
  go_enter Try.func38, Try.ntmps38
  go_wp2_with fail
  go_loopw [6] (fun i wr => ∃ k : Nat, k ≤ d.blocks.length ∧ i = .int .i64 k ∧ (∀ j, j < k → InT d.blocks j) ∧ Below (w.heap.size + 1) (w.alloc (.cells #[.slice u0 d.params.length c0, .int .i64 d.ret, .slice u2 d.blocks.length c2] 27)) wr) (fun i _ => d.blocks.length - (intOf i).toNat)
  case atStart => exact ⟨0, by omega, rfl, fun j hj => by omega, Below.refl _ _⟩
  case round =>
    obtain ⟨k, hk, rfl, hin, hB⟩ := hrel
    obtain ⟨b0, b1, b2⟩ := box3 hB
    have hW := below_box hB
    have HIN : Hid (∀ j, j < k → InT d.blocks j) := hin
    have HB : Hid (Below (w.heap.size + 1) (w.alloc (.cells #[.slice u0 d.params.length c0, .int .i64 d.ret, .slice u2 d.blocks.length c2] 27)) wr) := hB
    have HW : Hid (Below w.heap.size w wr) := hW
    have HK : Hid (BlocksAt w lo u2 d.blocks) := k2
    clear hin hB hW
    by_cases hlt : k < d.blocks.length
    · go_wp2_with (go_at_call 39; refine (succsS lo d.blocks _ _ _ _ _ _ k _ (HK.out.keep (agree_of_below HW.out _)) hlt).mono ?_; rintro e w3 ⟨⟨g, c3, rfl, hu3⟩, hb3⟩; have HU : Hid (IntsAt w3 wr.heap.size (some ⟨g, 0, none⟩) (tgtD (termAt d.blocks k))) := hu3; have HB3 : Hid (Below (w.heap.size + 1) (w.alloc (.cells #[.slice u0 d.params.length c0, .int .i64 d.ret, .slice u2 d.blocks.length c2] 27)) w3) := box_next HB.out hb3; clear hu3 hb3)
      have htl := tgt_len (termAt d.blocks k)
      have ETT : Hid (InT d.blocks k = ∀ x ∈ tgtD (termAt d.blocks k), 0 ≤ x ∧ x < d.blocks.length) := rfl
      generalize tgtD (termAt d.blocks k) = t at HU htl ETT ⊢
      go_loopw [8] (fun i wr => ∃ q : Nat, q ≤ t.length ∧ i = .int .i64 q ∧ (∀ j, j < q → 0 ≤ t.getD j 0 ∧ t.getD j 0 < d.blocks.length) ∧ Below w3.heap.size w3 wr) (fun i _ => t.length - (intOf i).toNat)
      case atStart => exact ⟨0, by omega, rfl, fun j hj => by omega, Below.refl _ _⟩
      case round =>
        obtain ⟨q, hq, rfl, hdn, hBq⟩ := hrel
        have HDN : Hid (∀ j, j < q → 0 ≤ t.getD j 0 ∧ t.getD j 0 < d.blocks.length) := hdn
        have HBq : Hid (Below w3.heap.size w3 wr) := hBq
        clear hdn hBq b0 b1 b2
        by_cases hql : q < t.length
        · have hb' : g < w3.heap.size := by
            rcases HU.out.2 with h | ⟨_, _, h, _, h2, _⟩
            · rw [h] at hql; simp at hql
            · cases h; exact h2
          have e6 : wr.cell? ⟨g, q, none⟩ = some (.int .i64 (t.getD q 0)) := by
            have := ints_cells HU.out q hql
            rw [Nat.zero_add] at this
            exact (cell_block (HBq.out.block g hb')).trans this
          generalize hzz : t.getD q 0 = z at e6
          have HZ : Hid (t.getD q 0 = z) := hzz
          clear hzz
          by_cases hz : 0 ≤ z ∧ z ≤ (d.blocks.length : Int) - 1
          · go_wp2_with (go_at_call 50; refine (in3S_t _ _ _ _ hz).mono ?_; rintro e w4 ⟨rfl, rfl⟩)
            go_roundw
            case rel =>
              refine ⟨q + 1, by omega, by go_num, fun j hj => ?_, HBq.out⟩
              by_cases hjq : j = q
              · subst hjq; rw [HZ.out]; omega
              · exact HDN.out j (by omega)
            case measure => simp [intOf]; omega
          · go_wp2_with (go_at_call 50; refine (in3S_f _ _ _ _ hz).mono ?_; rintro e w4 ⟨rfl, rfl⟩)
            go_ret
            refine ⟨⟨false, rfl, by simp; intro h; exfalso; apply hz; have h2 := h.2.2 k hlt; rw [ETT.out] at h2; have := h2 z (by rw [← HZ.out]; exact getD_mem 0 _ q hql); omega⟩, below_box (box_next HB3.out HBq.out)⟩
        · have hqe : q = t.length := by omega
          subst hqe
          go_wp2_with fail
          go_roundw
          case rel =>
            refine ⟨k + 1, by omega, by go_num, fun j hj => ?_, box_next HB3.out HBq.out⟩
            by_cases hjk : j = k
            · subst hjk
              rw [ETT.out]
              intro v hv
              obtain ⟨i, hi, rfl⟩ := List.getElem_of_mem hv
              have := HDN.out i hi
              simpa only [List.getD, List.getElem?_eq_getElem hi, Option.getD_some] using this
            · exact HIN.out j (by omega)
          case measure => simp [intOf]; omega
    · have hke : k = d.blocks.length := by omega
      subst hke
      by_cases hb : 0 ≤ b ∧ b ≤ (d.blocks.length : Int) - 1
      · go_wp2_with (go_at_call 50; refine (in3S_t _ _ _ _ hb).mono ?_; rintro e w4 ⟨rfl, rfl⟩)
        go_ret
        refine ⟨⟨_, rfl, ?_⟩, HW.out⟩
        rw [decide_eq_true_eq]
        exact ⟨fun h => ⟨⟨by omega, by omega, HIN.out⟩, by omega, by omega⟩, fun h => by have := h.1.2.1; omega⟩
      · go_wp2_with (go_at_call 50; refine (in3S_f _ _ _ _ hb).mono ?_; rintro e w4 ⟨rfl, rfl⟩)
        go_ret
        refine ⟨⟨_, rfl, ?_⟩, HW.out⟩
        exact ⟨fun h => (by cases h), fun h => (by exfalso; apply hb; omega)⟩
end Go.Proofs.Ytiflkkkggidhbaa
