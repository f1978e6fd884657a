/- The places of nodes: the contract of placesOf. -/
import Derived.Test.YtolaghondjfhdabGreatDoorGrgQ
import Derived.Test.YtolaghondjfhdabGreatDoorCntQ
namespace Go.Proofs.YtolaghondjfhdabGreatDoor
open Go.RowKit

set_option maxRecDepth 100000 in
set_option maxHeartbeats 4000000 in
theorem placesI (lo N n : Nat) (S : Nat → List Nat) (u : Option Addr) (c : Nat) (l : List Nat) (w : World) (hp : PtrsAt w lo N u l) (hG : Graph w N n S) (hl : ∀ x ∈ l, x < n) (hll : l.length ≤ 1000) :
    Calls Tryz.prog 66 #[.slice u l.length c] w fun e w' => ∃ v, e = .returned v ∧ w'.ownsRow w.heap.size 2 1 v l.length ((ints l).map (Value.int .i64)) ∧ Below w.heap.size w w' := by
  obtain ⟨i0, hi, hz0, hz1, hz2⟩ := info_parts infoI
  have HI : Hid (Tryz.prog.info? 2 = some i0) := hi
  have HZ0 : Hid (i0.zero = some (Value.int .i64 0)) := hz0
  have HZ1 : Hid (i0.size = 1) := hz1
  have HZ2 : Hid (i0.bytes = 8) := hz2
  have HG : Hid (Graph w N n S) := hG
  have HL : Hid (∀ x ∈ l, x < n) := hl
  have hsz := hG.size
  clear hi hz0 hz1 hz2 hG hl
  go_enter Tryz.func66, Tryz.ntmps66
  go_wp2_with fail
  go_loopw [3, 8] (fun v i wr => ∃ k : Nat, k ≤ l.length ∧ i = .int .i64 k ∧ wr.ownsRow w.heap.size 2 1 v k ((ints (l.take k)).map (Value.int .i64)) ∧ Below w.heap.size w wr) (fun _ i _ => l.length - (intOf i).toNat)
  case atStart => exact ⟨0, by omega, rfl, ⟨rfl, .inl ⟨rfl, rfl⟩⟩, Below.refl _ _⟩
  case round =>
    obtain ⟨k, hk, rfl, ho, hB⟩ := hrel
    obtain ⟨ta, tc, rfl⟩ := own_slice ho
    have HB : Hid (Below w.heap.size w wr) := hB
    by_cases hlt : k < l.length
    · rcases hp with hn | ⟨g, rfl, _, hg2, hgc⟩
      · simp [hn] at hlt
      have e1 : wr.cell? ⟨g, k, none⟩ = some (.pointer (some ⟨N + 1 + l.getD k 0, 0, none⟩)) := (cell_block (hB.block g hg2)).trans (hgc k hlt)
      have hx := HL.out _ (getD_mem 0 l k hlt)
      have HT : Hid ((ints (l.take (k + 1))).map (Value.int .i64) = (ints (l.take k)).map (Value.int .i64) ++ [.int .i64 ((l.getD k 0 : Nat) : Int)]) := (by
        show _ = _
        have e : l.getD k 0 = l[k] := by simp [List.getD, hlt]
        rw [List.take_succ_eq_append_getElem hlt, e]; unfold ints; rw [List.map_append, List.map_append]; rfl)
      generalize l.getD k 0 = x at e1 hx HT
      obtain ⟨a1, c1, a2, c2, hna, _⟩ := (HG.out.keep (agree_of_below hB N)).node x hx
      have e2 : wr.cell? ⟨N + 1 + x, 0, none⟩ = some (.int .i64 x) := (cell_of_heap hna).trans rfl
      have HO : Hid ((wr.alloc (.cells #[.int .i64 (x : Int)] 2)).ownsRow w.heap.size 2 1 (.slice ta k tc) k ((ints (l.take k)).map (Value.int .i64))) := ownsRow_block ho fun _ _ h => Below.heap_alloc _ _ _ h
      have hz : w.heap.size ≤ wr.heap.size := hB.size
      clear hna ho hB hgc
      go_wp2_with (at_builtin; refine wpList_append_own _ rfl _ _ 22 rfl w.heap.size 2 i0 (.int .i64 0) 1 8 Tryz.underlying22 HI.out HZ0.out HZ1.out HZ2.out rfl (by decide) (.slice ta k tc) k ((ints (l.take k)).map (Value.int .i64)) rfl (by exact HO.out) ⟨wr.heap.size, 0, none⟩ 1 1 [.int .i64 (x : Int)] rfl (by simp) (by exact lit_cell) (by simp [Value.oneCell']) (by unfold maxLen; omega) (by omega) (by simp; omega) ?_; intro v3 w3 ho3 hg3 _; have HO3 : Hid _ := ho3; have HB3 : Hid (Below w.heap.size w w3) := (HB.out.alloc hz _).grown hg3 (by simp; omega) (fun q hq => (own_ge HO.out hq).1); clear ho3 hg3)
      go_roundw
      case rel => exact ⟨k + 1, by omega, by go_num, by rw [HT.out]; exact HO3.out, HB3.out⟩
      case measure => simp [intOf]; omega
    · have HKE : Hid (k = l.length) := (by show _ = _; omega)
      have HO : Hid _ := ho
      clear ho hB
      go_wp2_with fail
      go_ret
      refine ⟨_, rfl, ?_, HB.out⟩
      have h := HO.out
      have hke := HKE.out
      subst hke
      rw [List.take_length] at h
      exact h
end Go.Proofs.YtolaghondjfhdabGreatDoor
namespace Go.Proofs.YtolaghondjfhdabGreatDoor
open Go.RowKit

theorem in3S (n lo hi : Int) (w : World) : Calls Tryz.prog 48 #[.int .i64 n, .int .i64 lo, .int .i64 hi] w fun e w' => e = .returned (.bool (decide (lo ≤ n) && decide (n ≤ hi))) ∧ w' = w := by
  by_cases h : lo ≤ n
  · go_enter Tryz.func48, Tryz.ntmps48
    go_wp2_with fail
    go_ret
    exact ⟨by simp [h], rfl⟩
  · go_enter Tryz.func48, Tryz.ntmps48
    go_wp2_with fail
    go_ret
    exact ⟨congrArg (fun b => Ending.returned (Value.bool b)) (by rw [decide_eq_false (by omega)]; rfl), rfl⟩
theorem in3S_t (n lo hi : Int) (w : World) (h : lo ≤ n ∧ n ≤ hi) : Calls Tryz.prog 48 #[.int .i64 n, .int .i64 lo, .int .i64 hi] w fun e w' => e = .returned (.bool true) ∧ w' = w :=
  (in3S n lo hi w).mono fun e w' h' => ⟨h'.1.trans (by rw [← Bool.decide_and, decide_eq_true h]), h'.2⟩
theorem in3S_f (n lo hi : Int) (w : World) (h : ¬ (lo ≤ n ∧ n ≤ hi)) : Calls Tryz.prog 48 #[.int .i64 n, .int .i64 lo, .int .i64 hi] w fun e w' => e = .returned (.bool false) ∧ w' = w :=
  (in3S n lo hi w).mono fun e w' h' => ⟨h'.1.trans (by rw [← Bool.decide_and, decide_eq_false h]), h'.2⟩
theorem ints_lit3 {w : World} {o o2 : Obj} {l : List Int} {cs : Array Value} (hm : l.length ≤ 1000) (hc : ∀ i, i < l.length → cs[i]? = some (.int .i64 (l.getD i 0))) : IntsAt (((w.alloc o).alloc o2).alloc (.cells cs 2)) w.heap.size (some ⟨w.heap.size + 1 + 1, 0, none⟩) l := by
  refine ⟨by omega, .inr ⟨w.heap.size + 1 + 1, 0, rfl, by omega, by simp, fun i hi => ?_⟩⟩
  have h := heap_alloc_last ((w.alloc o).alloc o2) (.cells cs 2)
  have hz : ((w.alloc o).alloc o2).heap.size = w.heap.size + 1 + 1 := by simp
  rw [hz] at h
  rw [Nat.zero_add, cell_of_heap h]; exact hc i hi
theorem below3 (w : World) (o o2 o3 : Obj) : Below w.heap.size w (((w.alloc o).alloc o2).alloc o3) := (((Below.refl _ _).alloc (Nat.le_refl _) _).alloc (by simp) _).alloc (by simp; omega) _
set_option maxRecDepth 100000 in
set_option maxHeartbeats 2000000 in
theorem succsS (lo : Nat) (l : List BlockD) (u0 : Option Addr) (n0 c0 : Nat) (r : Int) (u2 : Option Addr) (c2 : Nat) (k : Nat) (w : World) (k2 : BlocksAt w lo u2 l) (hk : k < l.length) :
    Calls Tryz.prog 79 #[.agg #[.slice u0 n0 c0, .int .i64 r, .slice u2 l.length c2], .int .i64 k] w fun e w' => (∃ g c, e = .returned (.slice (some ⟨g, 0, none⟩) (tgtD (termAt l k)).length c) ∧ IntsAt w' w.heap.size (some ⟨g, 0, none⟩) (tgtD (termAt l k))) ∧ Below w.heap.size w w' := by
  rcases k2.2 with hn | ⟨b, off, rfl, hlo, hb, hcell⟩
  · simp [hn] at hk
  obtain ⟨_, _, g2, g3, g4, g5⟩ := hcell k hk
  have ET : termAt l k = (l.getD k block0).term := rfl
  rw [ET]
  generalize (l.getD k block0).term = t at g2 g3 g4 g5
  have e2 : w.cell? ⟨b, off + k * 6 + 2, none⟩ = some (.int .i64 t.kind) := g2
  have e3 : w.cell? ⟨b, off + k * 6 + 3, none⟩ = some (.int .i64 t.a) := g3
  have e4 : w.cell? ⟨b, off + k * 6 + 4, none⟩ = some (.int .i64 t.x) := g4
  have e5 : w.cell? ⟨b, off + k * 6 + 5, none⟩ = some (.int .i64 t.y) := g5
  clear hcell g2 g3 g4 g5 ET k2
  by_cases h2 : t.kind = 2
  · have E : tgtD t = [t.x] := by rw [tgtD, if_pos h2]
    rw [E]; clear E
    go_enter Tryz.func79, Tryz.ntmps79
    go_wp2_with fail
    go_ret
    exact ⟨⟨_, _, rfl, ints_lit3 (by simp) (one_ints t.x)⟩, below3 _ _ _ _⟩
  by_cases h3 : t.kind = 3
  · have E : tgtD t = [t.x, t.y] := by rw [tgtD, if_neg h2, if_pos h3]
    rw [E]; clear E
    go_enter Tryz.func79, Tryz.ntmps79
    go_wp2_with fail
    go_ret
    exact ⟨⟨_, _, rfl, ints_lit3 (by simp) (two_ints t.x t.y)⟩, below3 _ _ _ _⟩
  · have E : tgtD t = [] := by rw [tgtD, if_neg h2, if_neg h3]
    rw [E]; clear E
    go_enter Tryz.func79, Tryz.ntmps79
    go_wp2_with fail
    go_ret
    exact ⟨⟨_, _, rfl, ⟨by simp, .inl rfl⟩⟩, below3 _ _ _ _⟩
end Go.Proofs.YtolaghondjfhdabGreatDoor
namespace Go.Proofs.YtolaghondjfhdabGreatDoor
open Go.RowKit

def InB (l : List BlockD) (b : Int) : Prop := RightL l ∧ 0 ≤ b ∧ b < l.length
def SuccR (l : List BlockD) (b : Int) (r : List Int) : Prop := (InB l b → r = tgtD (termAt l b.toNat)) ∧ (¬ InB l b → r = [])
def PredR (l : List BlockD) (b : Int) (r : List Int) : Prop := (InB l b → r = ints (predN (succN l) l.length b.toNat)) ∧ (¬ InB l b → r = [])
theorem ints_succ {l : List BlockD} {x : Nat} (hR : RightL l) (hx : x < l.length) : ints (succN l x) = tgtD (termAt l x) := by
  unfold ints succN
  rw [List.map_map]
  have h := hR.2.2 x hx
  unfold InT at h
  generalize tgtD (termAt l x) = t at h
  induction t with
  | nil => rfl
  | cons y r ih =>
    rw [List.map_cons, ih fun z hz => h z (List.mem_cons_of_mem _ hz)]
    have := h y (List.mem_cons_self ..)
    congr 1
    show ((y.toNat : Nat) : Int) = y
    omega
theorem pred_lt {S : Nat → List Nat} {n x : Nat} : ∀ y ∈ predN S n x, y < n := fun y hy => by
  unfold predN at hy
  exact List.mem_range.1 (List.mem_filter.1 hy).1
theorem pred_len {S : Nat → List Nat} {n x : Nat} : (predN S n x).length ≤ n := by
  unfold predN
  have h := List.length_filter_le (fun i => (S i).contains x) (List.range n)
  simpa using h
theorem own_lowS {w : World} {lo lo' : Nat} {t : TypeId} {z : Nat} {v : Value} {n : Nat} {xs : List Value} (h : w.ownsRow lo t z v n xs) (k : lo' ≤ lo) : w.ownsRow lo' t z v n xs := by
  refine ⟨h.1, ?_⟩
  rcases h.2 with h2 | ⟨g, cap, cur, hv, hb, r⟩
  · exact .inl h2
  · exact .inr ⟨g, cap, cur, hv, Nat.le_trans k hb, r⟩
end Go.Proofs.YtolaghondjfhdabGreatDoor
namespace Go.Proofs.YtolaghondjfhdabGreatDoor
open Go.RowKit

theorem pred_step (S : Nat → List Nat) (k x : Nat) : predN S (k + 1) x = predN S k x ++ (if (S k).contains x then [k] else []) := by
  unfold predN
  rw [List.range_succ, List.filter_append]
  congr 1
  simp only [List.filter_cons, List.filter_nil]
theorem mem_succ {l : List BlockD} (hR : RightL l) {k x : Nat} (hk : k < l.length) : (x : Int) ∈ tgtD (termAt l k) ↔ (succN l k).contains x = true := by
  rw [← ints_succ hR hk]
  unfold ints
  simp
  constructor
  · rintro ⟨a, ha, e⟩
    have e2 : a = x := by omega
    subst e2; exact ha
  · intro h; exact ⟨x, h, rfl⟩
set_option maxHeartbeats 4000000 in
theorem l3predsS (lo : Nat) (d : FuncD) (u0 : Option Addr) (c0 : Nat) (u2 : Option Addr) (c2 : Nat) (x : Nat) (w : World) (hR : RightL d.blocks) (k2 : BlocksAt w lo u2 d.blocks) :
    Calls Tryz.prog 51 #[.agg #[.slice u0 d.params.length c0, .int .i64 d.ret, .slice u2 d.blocks.length c2], .int .i64 x] w fun e w' => ∃ v, e = .returned v ∧ w'.ownsRow w.heap.size 2 1 v (predN (succN d.blocks) d.blocks.length x).length ((ints (predN (succN d.blocks) d.blocks.length x)).map (Value.int .i64)) ∧ Below w.heap.size w w' := by
  obtain ⟨i0, hi, hz0, hz1, hz2⟩ := info_parts infoI
  have HI : Hid (Tryz.prog.info? 2 = some i0) := hi
  have HZ0 : Hid (i0.zero = some (Value.int .i64 0)) := hz0
  have HZ1 : Hid (i0.size = 1) := hz1
  have HZ2 : Hid (i0.bytes = 8) := hz2
  clear hi hz0 hz1 hz2
  have HK : Hid (BlocksAt w lo u2 d.blocks) := k2
  have HR : Hid (RightL d.blocks) := hR
  have hr2 := hR.2.1
  clear k2 hR
  go_enter Tryz.func51, Tryz.ntmps51
  go_wp2_with fail
  go_loopw [5, 6] (fun st i wr => ∃ k : Nat, k ≤ d.blocks.length ∧ i = .int .i64 k ∧ Hid (wr.ownsRow (w.heap.size + 1) 2 1 st (predN (succN d.blocks) k x).length ((ints (predN (succN d.blocks) k x)).map (Value.int .i64))) ∧ Hid (Below (w.heap.size + 1) (w.alloc (.cells #[.slice u0 d.params.length c0, .int .i64 d.ret, .slice u2 d.blocks.length c2] 30)) wr)) (fun _ i _ => d.blocks.length - (intOf i).toNat)
  case atStart =>
    refine ⟨0, by omega, rfl, ?_, (Below.refl _ _).alloc (by simp) _⟩
    have h := World.ownsRow_lit (e := 2) (size := 1) (base := w.heap.size + 1) (w.alloc (.cells #[.slice u0 d.params.length c0, .int .i64 d.ret, .slice u2 d.blocks.length c2] 30)) #[] 0 (by simp) (by decide) (by simp)
    have hz : (w.alloc (.cells #[.slice u0 d.params.length c0, .int .i64 d.ret, .slice u2 d.blocks.length c2] 30)).heap.size = w.heap.size + 1 := by simp
    rw [hz] at h
    exact h
  case round =>
    obtain ⟨k, hk, rfl, HO, HB⟩ := hrel
    obtain ⟨ta, tc, rfl⟩ := own_slice HO.out
    obtain ⟨b1, b2, b3⟩ := box3 HB.out
    have hz : w.heap.size + 1 ≤ wr.heap.size := by have := HB.out.size; simpa using this
    by_cases hlt : k < d.blocks.length
    · have hpl := pred_len (S := succN d.blocks) (n := k) (x := x)
      by_cases hm : (succN d.blocks k).contains x = true
      · have HM : Hid (decide ((x : Int) ∈ tgtD (termAt d.blocks k)) = true) := (by show _ = _; rw [decide_eq_true_iff]; exact (mem_succ HR.out hlt).2 hm)
        have HT : Hid (predN (succN d.blocks) (k + 1) x = predN (succN d.blocks) k x ++ [k]) := (by show _ = _; rw [pred_step, if_pos hm])
        clear hm
        go_wp2_with (first | (go_at_call 79; refine (succsS lo d.blocks _ _ _ _ _ _ k _ (HK.out.keep (agree_of_below (below_box HB.out) _)) hlt).mono ?_; rintro e w1 ⟨⟨g, c, rfl, hi⟩, hb1⟩; have HI1 : Hid (IntsAt w1 wr.heap.size (some ⟨g, 0, none⟩) (tgtD (termAt d.blocks k))) := hi; have HB1 : Hid (Below (w.heap.size + 1) (w.alloc (.cells #[.slice u0 d.params.length c0, .int .i64 d.ret, .slice u2 d.blocks.length c2] 30)) w1) := box_next HB.out hb1; have HO1 : Hid (w1.ownsRow (w.heap.size + 1) 2 1 (.slice ta (predN (succN d.blocks) k x).length tc) (predN (succN d.blocks) k x).length ((ints (predN (succN d.blocks) k x)).map (Value.int .i64))) := ownsRow_block HO.out (fun _ _ h => hb1.block _ h); clear hi hb1) | (go_at_call 33; refine (hasS _ _ _ _ _ _ (by have := tgt_len (termAt d.blocks k); omega) HI1.out).mono ?_; rintro e w2 ⟨rfl, hb2⟩; rw [HM.out]; have HB2 : Hid (Below (w.heap.size + 1) (w.alloc (.cells #[.slice u0 d.params.length c0, .int .i64 d.ret, .slice u2 d.blocks.length c2] 30)) w2) := box_next HB1.out hb2; have HO2 : Hid (w2.ownsRow (w.heap.size + 1) 2 1 (.slice ta (predN (succN d.blocks) k x).length tc) (predN (succN d.blocks) k x).length ((ints (predN (succN d.blocks) k x)).map (Value.int .i64))) := ownsRow_block HO1.out (fun _ _ h => hb2.block _ h); have hz2 : w.heap.size + 1 ≤ w2.heap.size := (by have := HB2.out.size; simpa using this); clear hb2) | (at_builtin; refine wpList_append_own _ rfl _ _ 22 rfl (w.heap.size + 1) 2 i0 (.int .i64 0) 1 8 Tryz.underlying22 HI.out HZ0.out HZ1.out HZ2.out rfl (by decide) (.slice ta (predN (succN d.blocks) k x).length tc) (predN (succN d.blocks) k x).length ((ints (predN (succN d.blocks) k x)).map (Value.int .i64)) rfl (by exact HO2.out.alloc _) ⟨w2.heap.size, 0, none⟩ 1 1 [.int .i64 (k : Int)] rfl (by simp) (by exact lit_cell) (by simp [Value.oneCell']) (by unfold maxLen; omega) (by omega) (by simp; omega) ?_; intro v3 w3 ho3 hg3 hn3; have HO3 : Hid _ := ho3; have HB3 : Hid (Below (w.heap.size + 1) (w.alloc (.cells #[.slice u0 d.params.length c0, .int .i64 d.ret, .slice u2 d.blocks.length c2] 30)) w3) := (HB2.out.alloc (by simpa using hz2) _).grown hg3 (by simp; omega) (fun q hq => (own_ge HO.out hq).1); have HG3 : Hid _ := hg3; clear ho3 hg3 hn3))
        go_roundw
        case rel =>
          refine ⟨k + 1, by omega, by go_num, ?_, HB3.out⟩
          rw [HT.out, List.length_append, show (ints (predN (succN d.blocks) k x ++ [k])).map (Value.int .i64) = (ints (predN (succN d.blocks) k x)).map (Value.int .i64) ++ [.int .i64 (k : Int)] by simp [ints]]
          exact HO3.out
        case measure => simp [intOf]; omega
      · have hmf : (succN d.blocks k).contains x = false := by simpa using hm
        have HM : Hid (decide ((x : Int) ∈ tgtD (termAt d.blocks k)) = false) := (by show _ = _; rw [decide_eq_false_iff_not]; exact fun h => hm ((mem_succ HR.out hlt).1 h))
        have HT : Hid (predN (succN d.blocks) (k + 1) x = predN (succN d.blocks) k x) := (by show _ = _; rw [pred_step, if_neg hm]; simp)
        clear hm hmf
        go_wp2_with (first | (go_at_call 79; refine (succsS lo d.blocks _ _ _ _ _ _ k _ (HK.out.keep (agree_of_below (below_box HB.out) _)) hlt).mono ?_; rintro e w1 ⟨⟨g, c, rfl, hi⟩, hb1⟩; have HI1 : Hid (IntsAt w1 wr.heap.size (some ⟨g, 0, none⟩) (tgtD (termAt d.blocks k))) := hi; have HB1 : Hid (Below (w.heap.size + 1) (w.alloc (.cells #[.slice u0 d.params.length c0, .int .i64 d.ret, .slice u2 d.blocks.length c2] 30)) w1) := box_next HB.out hb1; have HO1 : Hid (w1.ownsRow (w.heap.size + 1) 2 1 (.slice ta (predN (succN d.blocks) k x).length tc) (predN (succN d.blocks) k x).length ((ints (predN (succN d.blocks) k x)).map (Value.int .i64))) := ownsRow_block HO.out (fun _ _ h => hb1.block _ h); clear hi hb1) | (go_at_call 33; refine (hasS _ _ _ _ _ _ (by have := tgt_len (termAt d.blocks k); omega) HI1.out).mono ?_; rintro e w2 ⟨rfl, hb2⟩; rw [HM.out]; have HB2 : Hid (Below (w.heap.size + 1) (w.alloc (.cells #[.slice u0 d.params.length c0, .int .i64 d.ret, .slice u2 d.blocks.length c2] 30)) w2) := box_next HB1.out hb2; have HO2 : Hid (w2.ownsRow (w.heap.size + 1) 2 1 (.slice ta (predN (succN d.blocks) k x).length tc) (predN (succN d.blocks) k x).length ((ints (predN (succN d.blocks) k x)).map (Value.int .i64))) := ownsRow_block HO1.out (fun _ _ h => hb2.block _ h); have hz2 : w.heap.size + 1 ≤ w2.heap.size := (by have := HB2.out.size; simpa using this); clear hb2))
        go_roundw
        case rel => exact ⟨k + 1, by omega, by go_num, by rw [HT.out]; exact HO2.out, HB2.out⟩
        case measure => simp [intOf]; omega
    · have hke : k = d.blocks.length := by omega
      subst hke
      go_wp2_with fail
      go_ret
      exact ⟨_, rfl, own_lowS HO.out (by omega), below_box HB.out⟩
theorem SuccR_some (l : List BlockD) (b : Int) : ∃ r, SuccR l b r ∧ r.length ≤ 1048576 := by
  by_cases h : InB l b
  · exact ⟨_, ⟨fun _ => rfl, fun k => absurd h k⟩, by have := tgt_len (termAt l b.toNat); omega⟩
  · exact ⟨[], ⟨fun k => absurd k h, fun _ => rfl⟩, by simp⟩
theorem PredR_some (l : List BlockD) (b : Int) : ∃ r, PredR l b r ∧ r.length ≤ 1048576 := by
  by_cases h : InB l b
  · exact ⟨_, ⟨fun _ => rfl, fun k => absurd h k⟩, by rw [ints_len]; have := pred_len (S := succN l) (n := l.length) (x := b.toNat); have := h.1.2.1; omega⟩
  · exact ⟨[], ⟨fun k => absurd k h, fun _ => rfl⟩, by simp⟩
theorem ints_own {w : World} {base : Nat} {v : Value} {l : List Int} {n : Nat} (hn : n = l.length) (hm : l.length ≤ 1048576) (h : w.ownsRow base 2 1 v n (l.map (Value.int .i64))) : ∃ u c, v = .slice u l.length c ∧ OwnAt w base u l := by
  subst hn; exact own_of_row hm h
end Go.Proofs.YtolaghondjfhdabGreatDoor
