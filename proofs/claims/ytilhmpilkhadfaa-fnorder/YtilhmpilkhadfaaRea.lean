/- What is reached: the contracts of Reached, the program's and the model's. -/
import Derived.Test.YtilhmpilkhadfaaGrp
import Derived.Test.YtilhmpilkhadfaaMd3r
import Derived.Test.YtilhmpilkhadfaaSrt2
import Derived.Test.YtilhmpilkhadfaaLsm
namespace Go.Proofs.Ytilhmpilkhadfaa
open Go.RowKit

def ReachR (l : List BlockD) (r : List Int) : Prop := (RightL l → ∃ O : List Nat, r = ints O ∧ (∀ x, x ∈ O ↔ Rch (succN l) none x) ∧ O.Pairwise (· < ·) ∧ O.length ≤ 10) ∧ (¬ RightL l → r = [])
theorem rise_unique : ∀ (a b : List Int), a.Pairwise (· < ·) → b.Pairwise (· < ·) → (∀ x, x ∈ a ↔ x ∈ b) → a = b
  | [], [], _, _, _ => rfl
  | [], y :: b, _, _, h => by have := (h y).2 (List.mem_cons_self ..); cases this
  | x :: a, [], _, _, h => by have := (h x).1 (List.mem_cons_self ..); cases this
  | x :: a, y :: b, ha, hb, h => by
    rw [List.pairwise_cons] at ha hb
    have e : x = y := by
      have h1 := (h x).1 (List.mem_cons_self ..)
      have h2 := (h y).2 (List.mem_cons_self ..)
      rcases List.mem_cons.1 h1 with h1 | h1
      · exact h1
      · rcases List.mem_cons.1 h2 with h2 | h2
        · exact h2.symm
        · have h3 := hb.1 x h1
          have h4 := ha.1 y h2
          omega
    subst e
    rw [rise_unique a b ha.2 hb.2 fun z => ?_]
    constructor
    · intro hz
      rcases List.mem_cons.1 ((h z).1 (List.mem_cons_of_mem _ hz)) with h1 | h1
      · have := ha.1 z hz; omega
      · exact h1
    · intro hz
      rcases List.mem_cons.1 ((h z).2 (List.mem_cons_of_mem _ hz)) with h1 | h1
      · have := hb.1 z hz; omega
      · exact h1
theorem ints_mem {O : List Nat} {z : Int} : z ∈ ints O ↔ ∃ x ∈ O, z = (x : Int) := by
  unfold ints
  rw [List.mem_map]
  constructor
  · rintro ⟨x, h, rfl⟩; exact ⟨x, h, rfl⟩
  · rintro ⟨x, h, rfl⟩; exact ⟨x, h, rfl⟩
theorem ints_rise {O : List Nat} (h : O.Pairwise (· < ·)) : (ints O).Pairwise (· < ·) := by
  unfold ints
  rw [List.pairwise_map]
  exact h.imp fun h => by omega
theorem ints_once {O : List Nat} (h : O.Nodup) : (ints O).Nodup := by
  unfold ints List.Nodup
  rw [List.pairwise_map]
  exact List.Pairwise.imp (fun h => by omega) h
theorem sorted_rise {l : List Int} (h : Sorted l) (hn : l.Nodup) : l.Pairwise (· < ·) := by
  rw [List.pairwise_iff_getElem]
  intro i j hi hj hij
  have h1 := h i j hij hj
  have h2 := List.pairwise_iff_getElem.1 hn i j hi hj hij
  simp only [List.getD, List.getElem?_eq_getElem hi, List.getElem?_eq_getElem hj, Option.getD_some] at h1
  omega
/-- What is sorted of what was told is what is reached, rising. -/
theorem reach_sorted {l : List BlockD} {r l' : List Int} (hR : RightL l) (hr : ReachR l r) (hp : l'.Perm (ints (post (succN l) none l.length))) (hs : Sorted l') : l' = r := by
  obtain ⟨O, rfl, hm, ho, _⟩ := hr.1 hR
  have ht := post_told (succN l) none l.length (by have := hR.1; omega) (right_lt hR)
  refine rise_unique _ _ (sorted_rise hs (hp.nodup_iff.2 (ints_once ht.once))) (ints_rise ho) fun z => ?_
  rw [hp.mem_iff, ints_mem, ints_mem]
  constructor
  · rintro ⟨x, hx, e⟩; exact ⟨x, (hm x).2 ((ht.mem x).1 hx), e⟩
  · rintro ⟨x, hx, e⟩; exact ⟨x, (ht.mem x).2 ((hm x).1 hx), e⟩
theorem nodup_len (n : Nat) (l : List Nat) (hn : l.Nodup) (hl : ∀ x ∈ l, x < n) : l.length ≤ n := by
  have h : l.length ≤ (List.range n).length := hn.length_le_of_subset fun x hx => List.mem_range.2 (hl x hx)
  simpa using h
theorem graph_none (w : World) (h : 1 ≤ w.heap.size) : Graph w 0 0 (fun _ => []) := ⟨fun i hi => by omega, fun i hi => by omega, by omega⟩
set_option maxHeartbeats 4000000 in
theorem reachI (lo : Nat) (d : FuncD) (u0 : Option Addr) (c0 : Nat) (u2 : Option Addr) (c2 : Nat) (r : List Int) (w : World) (hs : SmFunc d) (k2 : BlocksAt w lo u2 d.blocks) (hr : ReachR d.blocks r) :
    Calls Try.prog 11 #[.agg #[.slice u0 d.params.length c0, .int .i64 d.ret, .slice u2 d.blocks.length c2]] w fun e w' => ∃ u c, e = .returned (.slice u r.length c) ∧ OI w' w.heap.size u r ∧ Below w.heap.size w w' := by
  have HSM : Hid (SmFunc d) := hs
  have HK : Hid (BlocksAt w lo u2 d.blocks) := k2
  have hbl : d.blocks.length ≤ 1048576 := hs.2.1
  clear hs k2
  by_cases hR : RightL d.blocks
  · have HR : Hid (RightL d.blocks) := hR
    have hr1 := hR.1
    have hr2 := hR.2.1
    have HS : Hid (∀ a, ∀ s ∈ succN d.blocks a, s < d.blocks.length) := right_lt hR
    have HT : Hid (Told (succN d.blocks) none d.blocks.length (post (succN d.blocks) none d.blocks.length)) := post_told _ _ _ (by omega) (right_lt hR)
    have hpl : (post (succN d.blocks) none d.blocks.length).length ≤ 10 := Nat.le_trans (nodup_len _ _ HT.out.once HT.out.low) hr2
    have HRR : Hid (ReachR d.blocks r) := hr
    clear hR hr
    go_enter Try.func11, Try.ntmps11
    go_wp2_with (first | (go_at_call 41; refine (graphI lo d _ _ _ _ _ HSM.out (HK.out.keep (agree_alloc _ _ _))).mono ?_; rintro e w1 ⟨hb1, h1⟩; obtain ⟨N, hN, rfl, hG⟩ := (h1.resolve_left (fun h => h.1 HR.out)).2; have HG : Hid (Graph w1 N d.blocks.length (succN d.blocks)) := hG; have HX1 : Hid (Below w.heap.size w w1) := ((Below.refl _ _).alloc (Nat.le_refl _) _).trans (hb1.mono (by simp)); clear hb1 h1 hG hN) | (go_at_call 40; refine (toldI N d.blocks.length (succN d.blocks) none _ HG.out (by omega) hr2 HS.out (fun q => by have := succ_len d.blocks q; omega) (fun a h => by cases h)).mono ?_; rintro e w2 ⟨ut, ct, rfl, hp2, hb2⟩; have HP2 : Hid _ := hp2; have HG2 : Hid (Graph w2 N d.blocks.length (succN d.blocks)) := HG.out.keep (agree_of_below hb2 _); have HX2 : Hid (Below w.heap.size w w2) := HX1.out.trans (hb2.mono HX1.out.size); clear hp2 hb2) | (go_at_call 39; refine (placesI _ N d.blocks.length (succN d.blocks) _ _ _ _ HP2.out HG2.out HT.out.low (by omega)).mono ?_; rintro e w3 ⟨v3, rfl, ho3, hb3⟩; rw [← ints_len] at ho3; obtain ⟨u3, c3, rfl, g3⟩ := row_own (by rw [ints_len]; omega) ho3; have HO3 : Hid _ := g3; have HX3 : Hid (Below w.heap.size w w3) := HX2.out.trans (hb3.mono HX2.out.size); have hz : w.heap.size ≤ w2.heap.size := HX2.out.size; clear ho3 hb3 g3) | (go_at_call 42; refine (sortI _ _ _ _ _ (by rw [ints_len]; omega) HO3.out).mono ?_; rintro e w4 ⟨rfl, l', hp, hso, g4, g, hg, ho4⟩; have he : l' = r := reach_sorted HR.out HRR.out hp hso; subst he; have HO4 : Hid _ := g4; have HX4 : Hid (Below w.heap.size w w4) := below_only HX3.out ho4 (by omega); have HLE : Hid (l'.length = (ints (post (succN d.blocks) none d.blocks.length)).length) := hp.length_eq; clear hp hso g4 ho4))
    go_ret
    rw [HLE.out]
    exact ⟨_, _, rfl, OI.low HO4.out hz, HX4.out⟩
  · have HR : Hid (¬ RightL d.blocks) := hR
    have HE : Hid (r = []) := hr.2 hR
    clear hR hr
    go_enter Try.func11, Try.ntmps11
    go_wp2_with (first | (go_at_call 41; refine (graphI lo d _ _ _ _ _ HSM.out (HK.out.keep (agree_alloc _ _ _))).mono ?_; rintro e w1 ⟨hb1, h1⟩; obtain ⟨_, rfl⟩ := h1.resolve_right (fun h => HR.out h.1); have HX1 : Hid (Below w.heap.size w w1) := ((Below.refl _ _).alloc (Nat.le_refl _) _).trans (hb1.mono (by simp)); have hz1 : 1 ≤ w1.heap.size := (by have := hb1.size; simp at this; omega); clear hb1 h1) | (go_at_call 40; refine (told_nilI none _).mono ?_; rintro e w2 ⟨rfl, hb2⟩; have HX2 : Hid (Below w.heap.size w w2) := HX1.out.trans (hb2.mono HX1.out.size); have hz2 : 1 ≤ w2.heap.size := Nat.le_trans hz1 hb2.size; clear hb2) | (go_at_call 39; refine (placesI 0 0 0 (fun _ => []) none 0 [] _ (.inl rfl) (graph_none _ hz2) (fun x hx => by cases hx) (by simp)).mono ?_; rintro e w3 ⟨v3, rfl, ho3, hb3⟩; obtain ⟨u3, c3, rfl, g3⟩ := row_own (l := []) (by simp) ho3; have HO3 : Hid (OI w3 w2.heap.size u3 []) := g3; have HX3 : Hid (Below w.heap.size w w3) := HX2.out.trans (hb3.mono HX2.out.size); have hz : w.heap.size ≤ w2.heap.size := HX2.out.size; clear ho3 hb3 g3) | (go_at_call 42; refine (sortI _ _ _ [] _ (by simp) HO3.out).mono ?_; rintro e w4 ⟨rfl, l', hp, hso, g4, g, hg, ho4⟩; have he : l' = [] := hp.eq_nil; subst he; have HO4 : Hid (OI w4 w2.heap.size u3 []) := g4; have HX4 : Hid (Below w.heap.size w w4) := below_only HX3.out ho4 (by omega); clear hp hso g4 ho4))
    go_ret
    rw [HE.out]
    exact ⟨_, _, rfl, OI.low HO4.out hz, HX4.out⟩
theorem ins_mem' (l : List Nat) (n x : Nat) : x ∈ insN l n ↔ x ∈ l ∨ x = n := by
  induction l with
  | nil => simp [insN]
  | cons y r ih =>
    unfold insN
    split
    · rw [List.mem_cons, ih, List.mem_cons]
      constructor
      · rintro (h | h | h)
        · exact .inl (.inl h)
        · exact .inl (.inr h)
        · exact .inr h
      · rintro ((h | h) | h)
        · exact .inl h
        · exact .inr (.inl h)
        · exact .inr (.inr h)
    · split
      · rename_i h1 h2
        subst h2
        rw [List.mem_cons]
        constructor
        · intro h; exact .inl h
        · rintro (h | h)
          · exact h
          · exact .inl h
      · rw [List.mem_cons]
        constructor
        · rintro (h | h)
          · exact .inr h
          · exact .inl h
        · rintro (h | h)
          · exact .inr h
          · exact .inl h
theorem ins_rise' (l : List Nat) (n : Nat) (h : l.Pairwise (· < ·)) : (insN l n).Pairwise (· < ·) := by
  induction l with
  | nil => simp [insN]
  | cons y r ih =>
    rw [List.pairwise_cons] at h
    unfold insN
    split
    · rw [List.pairwise_cons]
      refine ⟨fun z hz => ?_, ih h.2⟩
      rcases (ins_mem' r n z).1 hz with hz | hz
      · exact h.1 z hz
      · omega
    · split
      · rw [List.pairwise_cons]; exact h
      · rw [List.pairwise_cons]
        refine ⟨fun z hz => ?_, List.pairwise_cons.2 h⟩
        rcases List.mem_cons.1 hz with hz | hz
        · omega
        · have := h.1 z hz; omega
theorem rise_of (l : List Nat) : ∃ O : List Nat, (∀ x, x ∈ O ↔ x ∈ l) ∧ O.Pairwise (· < ·) := by
  induction l with
  | nil => exact ⟨[], fun _ => Iff.rfl, List.Pairwise.nil⟩
  | cons y r ih =>
    obtain ⟨O, h1, h2⟩ := ih
    refine ⟨insN O y, fun x => ?_, ins_rise' O y h2⟩
    rw [ins_mem', h1, List.mem_cons]
    exact Or.comm
theorem ReachR_some (l : List BlockD) : ∃ r, ReachR l r ∧ r.length ≤ 1048576 := by
  by_cases hR : RightL l
  · have ht := post_told (succN l) none l.length (by have := hR.1; omega) (right_lt hR)
    obtain ⟨O, h1, h2⟩ := rise_of (post (succN l) none l.length)
    have hl : O.length ≤ l.length := nodup_len _ _ (h2.imp fun h => Nat.ne_of_lt h) fun x hx => ht.low x ((h1 x).1 hx)
    have h10 := hR.2.1
    exact ⟨ints O, ⟨fun _ => ⟨O, rfl, fun x => (h1 x).trans (ht.mem x), h2, by omega⟩, fun h => absurd hR h⟩, by rw [ints_len]; omega⟩
  · exact ⟨[], ⟨fun h => absurd h hR, fun _ => rfl⟩, by simp⟩
set_option maxHeartbeats 2000000 in
theorem reachF (lo : Nat) (d : FuncD) (u0 : Option Addr) (c0 : Nat) (u2 : Option Addr) (c2 : Nat) (r : List Int) (w : World) (hs : SmFunc d) (k2 : BlocksAt w lo u2 d.blocks) (hr : ReachR d.blocks r) :
    Calls Try.prog 13 #[.agg #[.slice u0 d.params.length c0, .int .i64 d.ret, .slice u2 d.blocks.length c2]] w fun e w' => ∃ u c, e = .returned (.slice u r.length c) ∧ IntsAt w' w.heap.size u r ∧ Below w.heap.size w w' := by
  have HSM : Hid (SmFunc d) := hs
  have HK : Hid (BlocksAt w lo u2 d.blocks) := k2
  have hbl : d.blocks.length ≤ 1048576 := hs.2.1
  clear hs k2
  by_cases hR : RightL d.blocks
  · have HR : Hid (RightL d.blocks) := hR
    have HB : Hid (RightL d.blocks ∧ (0 : Int) ≤ 0 ∧ (0 : Int) < d.blocks.length) := ⟨hR, by omega, by have := hR.1; omega⟩
    have HRR : Hid (ReachR d.blocks r) := hr
    clear hR hr
    go_enter Try.func13, Try.ntmps13
    go_wp2_with (first | (go_at_call 43; refine (thereS lo d _ _ _ _ _ _ HSM.out (HK.out.keep (agree_alloc _ _ _))).mono ?_; rintro e w1 ⟨⟨v, rfl, hv⟩, hb1⟩; have hvt : v = true := (hv.2 HB.out); subst hvt; have hx1 := box_first hb1; obtain ⟨p1, p2, p3⟩ := box3 hx1; have HB1 : Hid (Below w.heap.size w w1) := below_box hx1; clear hv hb1 hx1) | (go_at_call 44; refine (reachS lo d _ _ _ _ none _ HR.out (HK.out.keep (agree_of_below HB1.out _))).mono ?_; rintro e w2 ⟨⟨O, b, off, c, rfl, hi, hm, hp, hl⟩, hb2⟩; have he : ints O = r := (by obtain ⟨O2, e2, hm2, hp2, _⟩ := HRR.out.1 HR.out; rw [e2]; exact rise_unique _ _ (ints_rise hp) (ints_rise hp2) (fun z => by rw [ints_mem, ints_mem]; exact ⟨fun ⟨x, h, e⟩ => ⟨x, (hm2 x).2 ((hm x).1 h), e⟩, fun ⟨x, h, e⟩ => ⟨x, (hm x).2 ((hm2 x).1 h), e⟩⟩)); have HE : Hid (ints O = r) := he; have HI2 : Hid _ := hi; have HB2 : Hid (Below w.heap.size w w2) := HB1.out.trans (hb2.mono HB1.out.size); have hz : w.heap.size ≤ w1.heap.size := HB1.out.size; clear hi hb2 hm hp he))
    go_ret
    rw [← HE.out, ints_len]
    exact ⟨_, _, rfl, IntsAt.low HI2.out hz, HB2.out⟩
  · have HB : Hid (¬ (RightL d.blocks ∧ (0 : Int) ≤ 0 ∧ (0 : Int) < d.blocks.length)) := fun h => hR h.1
    have HE : Hid (r = []) := hr.2 hR
    clear hR hr
    go_enter Try.func13, Try.ntmps13
    go_wp2_with (first | (go_at_call 43; refine (thereS lo d _ _ _ _ _ _ HSM.out (HK.out.keep (agree_alloc _ _ _))).mono ?_; rintro e w1 ⟨⟨v, rfl, hv⟩, hb1⟩; have hvt : v = false := (by cases hq : v with | false => rfl | true => exact absurd (hv.1 hq) HB.out); subst hvt; have HB1 : Hid (Below w.heap.size w w1) := below_box (box_first hb1); clear hv hb1))
    go_ret
    rw [HE.out]
    exact ⟨_, _, rfl, ⟨by simp, .inl rfl⟩, HB1.out.alloc HB1.out.size _⟩
end Go.Proofs.Ytilhmpilkhadfaa
