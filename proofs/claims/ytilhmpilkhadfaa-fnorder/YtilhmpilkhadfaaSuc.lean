/- Those that a block leads to, and those that lead to it: the contracts of SuccsOf and PredsOf. -/
import Derived.Test.YtilhmpilkhadfaaGrp
import Derived.Test.YtilhmpilkhadfaaMd3
import Derived.Test.YtilhmpilkhadfaaCntW
import Derived.Test.YtilhmpilkhadfaaOwn
namespace Go.Proofs.Ytilhmpilkhadfaa
open Go.RowKit

def InB (l : List BlockD) (b : Int) : Prop := RightL l ∧ 0 ≤ b ∧ b < l.length
def SuccR (l : List BlockD) (b : Int) (r : List Int) : Prop := (InB l b → r = tgtD (termAt l b.toNat)) ∧ (¬ InB l b → r = [])
def PredR (l : List BlockD) (b : Int) (r : List Int) : Prop := (InB l b → r = ints (predN (succN l) l.length b.toNat)) ∧ (¬ InB l b → r = [])
theorem ints_succ {l : List BlockD} {x : Nat} (hR : RightL l) (hx : x < l.length) : ints (succN l x) = tgtD (termAt l x) := by
  unfold ints succN
  rw [List.map_map]
  have h := hR.2.2 x hx
  unfold InT at h
  generalize tgtD (termAt l x) = t at h
  induction t with
  | nil => rfl
  | cons y r ih =>
    rw [List.map_cons, ih fun z hz => h z (List.mem_cons_of_mem _ hz)]
    have := h y (List.mem_cons_self ..)
    congr 1
    show ((y.toNat : Nat) : Int) = y
    omega
theorem pred_lt {S : Nat → List Nat} {n x : Nat} : ∀ y ∈ predN S n x, y < n := fun y hy => by
  unfold predN at hy
  exact List.mem_range.1 (List.mem_filter.1 hy).1
theorem pred_len {S : Nat → List Nat} {n x : Nat} : (predN S n x).length ≤ n := by
  unfold predN
  have h := List.length_filter_le (fun i => (S i).contains x) (List.range n)
  simpa using h
theorem own_low {w : World} {lo lo' : Nat} {t : TypeId} {z : Nat} {v : Value} {n : Nat} {xs : List Value} (h : w.ownsRow lo t z v n xs) (k : lo' ≤ lo) : w.ownsRow lo' t z v n xs := by
  refine ⟨h.1, ?_⟩
  rcases h.2 with h2 | ⟨g, cap, cur, hv, hb, r⟩
  · exact .inl h2
  · exact .inr ⟨g, cap, cur, hv, Nat.le_trans k hb, r⟩
set_option maxHeartbeats 4000000 in
theorem succsI (lo : Nat) (d : FuncD) (u0 : Option Addr) (c0 : Nat) (u2 : Option Addr) (c2 : Nat) (b : Int) (r : List Int) (w : World) (hs : SmFunc d) (k2 : BlocksAt w lo u2 d.blocks) (hr : SuccR d.blocks b r) :
    Calls Try.prog 15 #[.agg #[.slice u0 d.params.length c0, .int .i64 d.ret, .slice u2 d.blocks.length c2], .int .i64 b] w fun e w' => ∃ v, e = .returned v ∧ w'.ownsRow w.heap.size 2 1 v r.length (r.map (Value.int .i64)) ∧ Below w.heap.size w w' := by
  have HSM : Hid (SmFunc d) := hs
  have HK : Hid (BlocksAt w lo u2 d.blocks) := k2
  have hbl : d.blocks.length ≤ 1048576 := hs.2.1
  clear hs k2
  by_cases hR : RightL d.blocks
  · have HR : Hid (RightL d.blocks) := hR
    have hr1 := hR.1
    have hr2 := hR.2.1
    have HS : Hid (∀ a, ∀ s ∈ succN d.blocks a, s < d.blocks.length) := right_lt hR
    by_cases hB : 0 ≤ b ∧ b < d.blocks.length
    · obtain ⟨x, rfl⟩ : ∃ x : Nat, b = x := ⟨b.toNat, by omega⟩
      have hx : x < d.blocks.length := by omega
      have HE : Hid (r = ints (succN d.blocks x)) := (hr.1 ⟨hR, hB⟩).trans (ints_succ hR hx).symm
      clear hR hr hB
      go_enter Try.func15, Try.ntmps15
      go_wp2_with (first | (go_at_call 41; refine (graphI lo d _ _ _ _ _ HSM.out (HK.out.keep (agree_alloc _ _ _))).mono ?_; rintro e w1 ⟨hb1, h1⟩; obtain ⟨N, hN, rfl, hG⟩ := (h1.resolve_left (fun h => h.1 HR.out)).2; have e1 := hG.head x hx; obtain ⟨a1, q1, a2, q2, hnode, hp1, hp2⟩ := hG.node x hx; have e2 : w1.cell? ⟨N + 1 + x, 1, none⟩ = some (.slice a1 (succN d.blocks x).length q1) := (cell_of_heap hnode).trans rfl; have e3 : w1.cell? ⟨N + 1 + x, 2, none⟩ = some (.slice a2 (predN (succN d.blocks) d.blocks.length x).length q2) := (cell_of_heap hnode).trans rfl; unfold ptrV at e1; have HP : Hid (PtrsAt w1 N N a1 (succN d.blocks x)) := hp1; have HG : Hid (Graph w1 N d.blocks.length (succN d.blocks)) := hG; have HX1 : Hid (Below w.heap.size w w1) := ((Below.refl _ _).alloc (Nat.le_refl _) _).trans (hb1.mono (by simp)); clear hb1 h1 hG hN hnode hp1 hp2) | (go_at_call 45; refine (belowI_t _ _ _ (by omega) (by omega)).mono ?_; rintro e w2 ⟨rfl, rfl⟩) | (go_at_call 39; refine (placesI N N d.blocks.length (succN d.blocks) _ _ (succN d.blocks x) _ HP.out HG.out (HS.out x) (by have := succ_len d.blocks x; omega)).mono ?_; rintro e w3 ⟨v3, rfl, ho3, hb3⟩; have HO3 : Hid _ := ho3; have HX3 : Hid (Below w.heap.size w w3) := HX1.out.trans (hb3.mono HX1.out.size); have hz3 : w.heap.size ≤ w2.heap.size := HX1.out.size; clear ho3 hb3))
      go_ret
      refine ⟨_, rfl, ?_, HX3.out⟩
      rw [HE.out, show (ints (succN d.blocks x)).length = (succN d.blocks x).length by simp [ints]]
      exact own_low HO3.out hz3
    · have HE : Hid (r = []) := hr.2 (fun h => hB h.2)
      clear hR hr
      go_enter Try.func15, Try.ntmps15
      go_wp2_with (first | (go_at_call 41; refine (graphI lo d _ _ _ _ _ HSM.out (HK.out.keep (agree_alloc _ _ _))).mono ?_; rintro e w1 ⟨hb1, h1⟩; obtain ⟨N, hN, rfl, hG⟩ := (h1.resolve_left (fun h => h.1 HR.out)).2; have HX1 : Hid (Below w.heap.size w w1) := ((Below.refl _ _).alloc (Nat.le_refl _) _).trans (hb1.mono (by simp)); clear hb1 h1 hG hN) | (go_at_call 45; refine (belowI_f _ _ _ (by omega)).mono ?_; rintro e w2 ⟨rfl, rfl⟩))
      go_ret
      refine ⟨_, rfl, ?_, HX1.out⟩
      rw [HE.out]
      exact World.ownsRow_nil _ _ _ _
  · have HR : Hid (¬ RightL d.blocks) := hR
    have HE : Hid (r = []) := hr.2 (fun h => hR h.1)
    clear hR hr
    go_enter Try.func15, Try.ntmps15
    go_wp2_with (first | (go_at_call 41; refine (graphI lo d _ _ _ _ _ HSM.out (HK.out.keep (agree_alloc _ _ _))).mono ?_; rintro e w1 ⟨hb1, h1⟩; obtain ⟨_, rfl⟩ := h1.resolve_right (fun h => HR.out h.1); have HX1 : Hid (Below w.heap.size w w1) := ((Below.refl _ _).alloc (Nat.le_refl _) _).trans (hb1.mono (by simp)); clear hb1 h1) | (go_at_call 45; refine (belowI_f _ _ _ (by omega)).mono ?_; rintro e w2 ⟨rfl, rfl⟩))
    go_ret
    refine ⟨_, rfl, ?_, HX1.out⟩
    rw [HE.out]
    exact World.ownsRow_nil _ _ _ _
set_option maxHeartbeats 4000000 in
theorem predsI (lo : Nat) (d : FuncD) (u0 : Option Addr) (c0 : Nat) (u2 : Option Addr) (c2 : Nat) (b : Int) (r : List Int) (w : World) (hs : SmFunc d) (k2 : BlocksAt w lo u2 d.blocks) (hr : PredR d.blocks b r) :
    Calls Try.prog 16 #[.agg #[.slice u0 d.params.length c0, .int .i64 d.ret, .slice u2 d.blocks.length c2], .int .i64 b] w fun e w' => ∃ v, e = .returned v ∧ w'.ownsRow w.heap.size 2 1 v r.length (r.map (Value.int .i64)) ∧ Below w.heap.size w w' := by
  have HSM : Hid (SmFunc d) := hs
  have HK : Hid (BlocksAt w lo u2 d.blocks) := k2
  have hbl : d.blocks.length ≤ 1048576 := hs.2.1
  clear hs k2
  by_cases hR : RightL d.blocks
  · have HR : Hid (RightL d.blocks) := hR
    have hr1 := hR.1
    have hr2 := hR.2.1
    have HS : Hid (∀ a, ∀ s ∈ succN d.blocks a, s < d.blocks.length) := right_lt hR
    by_cases hB : 0 ≤ b ∧ b < d.blocks.length
    · obtain ⟨x, rfl⟩ : ∃ x : Nat, b = x := ⟨b.toNat, by omega⟩
      have hx : x < d.blocks.length := by omega
      have HE : Hid (r = ints (predN (succN d.blocks) d.blocks.length x)) := (hr.1 ⟨hR, hB⟩).trans rfl
      clear hR hr hB
      go_enter Try.func16, Try.ntmps16
      go_wp2_with (first | (go_at_call 41; refine (graphI lo d _ _ _ _ _ HSM.out (HK.out.keep (agree_alloc _ _ _))).mono ?_; rintro e w1 ⟨hb1, h1⟩; obtain ⟨N, hN, rfl, hG⟩ := (h1.resolve_left (fun h => h.1 HR.out)).2; have e1 := hG.head x hx; obtain ⟨a1, q1, a2, q2, hnode, hp1, hp2⟩ := hG.node x hx; have e2 : w1.cell? ⟨N + 1 + x, 1, none⟩ = some (.slice a1 (succN d.blocks x).length q1) := (cell_of_heap hnode).trans rfl; have e3 : w1.cell? ⟨N + 1 + x, 2, none⟩ = some (.slice a2 (predN (succN d.blocks) d.blocks.length x).length q2) := (cell_of_heap hnode).trans rfl; unfold ptrV at e1; have HP : Hid (PtrsAt w1 N N a2 (predN (succN d.blocks) d.blocks.length x)) := hp2; have HG : Hid (Graph w1 N d.blocks.length (succN d.blocks)) := hG; have HX1 : Hid (Below w.heap.size w w1) := ((Below.refl _ _).alloc (Nat.le_refl _) _).trans (hb1.mono (by simp)); clear hb1 h1 hG hN hnode hp1 hp2) | (go_at_call 45; refine (belowI_t _ _ _ (by omega) (by omega)).mono ?_; rintro e w2 ⟨rfl, rfl⟩) | (go_at_call 39; refine (placesI N N d.blocks.length (succN d.blocks) _ _ (predN (succN d.blocks) d.blocks.length x) _ HP.out HG.out pred_lt (by have := pred_len (S := succN d.blocks) (n := d.blocks.length) (x := x); omega)).mono ?_; rintro e w3 ⟨v3, rfl, ho3, hb3⟩; have HO3 : Hid _ := ho3; have HX3 : Hid (Below w.heap.size w w3) := HX1.out.trans (hb3.mono HX1.out.size); have hz3 : w.heap.size ≤ w2.heap.size := HX1.out.size; clear ho3 hb3))
      go_ret
      refine ⟨_, rfl, ?_, HX3.out⟩
      rw [HE.out, show (ints (predN (succN d.blocks) d.blocks.length x)).length = (predN (succN d.blocks) d.blocks.length x).length by simp [ints]]
      exact own_low HO3.out hz3
    · have HE : Hid (r = []) := hr.2 (fun h => hB h.2)
      clear hR hr
      go_enter Try.func16, Try.ntmps16
      go_wp2_with (first | (go_at_call 41; refine (graphI lo d _ _ _ _ _ HSM.out (HK.out.keep (agree_alloc _ _ _))).mono ?_; rintro e w1 ⟨hb1, h1⟩; obtain ⟨N, hN, rfl, hG⟩ := (h1.resolve_left (fun h => h.1 HR.out)).2; have HX1 : Hid (Below w.heap.size w w1) := ((Below.refl _ _).alloc (Nat.le_refl _) _).trans (hb1.mono (by simp)); clear hb1 h1 hG hN) | (go_at_call 45; refine (belowI_f _ _ _ (by omega)).mono ?_; rintro e w2 ⟨rfl, rfl⟩))
      go_ret
      refine ⟨_, rfl, ?_, HX1.out⟩
      rw [HE.out]
      exact World.ownsRow_nil _ _ _ _
  · have HR : Hid (¬ RightL d.blocks) := hR
    have HE : Hid (r = []) := hr.2 (fun h => hR h.1)
    clear hR hr
    go_enter Try.func16, Try.ntmps16
    go_wp2_with (first | (go_at_call 41; refine (graphI lo d _ _ _ _ _ HSM.out (HK.out.keep (agree_alloc _ _ _))).mono ?_; rintro e w1 ⟨hb1, h1⟩; obtain ⟨_, rfl⟩ := h1.resolve_right (fun h => HR.out h.1); have HX1 : Hid (Below w.heap.size w w1) := ((Below.refl _ _).alloc (Nat.le_refl _) _).trans (hb1.mono (by simp)); clear hb1 h1) | (go_at_call 45; refine (belowI_f _ _ _ (by omega)).mono ?_; rintro e w2 ⟨rfl, rfl⟩))
    go_ret
    refine ⟨_, rfl, ?_, HX1.out⟩
    rw [HE.out]
    exact World.ownsRow_nil _ _ _ _
end Go.Proofs.Ytilhmpilkhadfaa
