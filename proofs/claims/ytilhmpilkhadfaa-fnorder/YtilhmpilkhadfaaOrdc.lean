/- The order over drawn graphs: what the law FnOrder wants. -/
import Derived.Test.YtilhmpilkhadfaaRev
import Derived.Test.YtilhmpilkhadfaaPos
import Derived.Test.YtilhmpilkhadfaaReaD
namespace Go.Proofs.Ytilhmpilkhadfaa
open Go.RowKit

theorem row_cap {w : World} {base : Nat} {v : Value} {l : List Int} (hm : l.length ≤ 1048576) (h : w.ownsRow base 2 1 v l.length (l.map (Value.int .i64))) : ∃ u c, v = .slice u l.length c ∧ l.length ≤ c ∧ OI w base u l := by
  obtain ⟨u, c, hv, ho⟩ := row_own hm h
  refine ⟨u, c, hv, ?_, ho⟩
  rcases h.2 with ⟨hv2, hn⟩ | ⟨g, cap, cur, hv2, hb, hg, hnc, _, hcs, htk⟩
  · rw [hn]; omega
  · rw [hv] at hv2; cases hv2; exact hnc
set_option maxHeartbeats 4000000 in
theorem orderC (lo : Nat) (d : FuncD) (u0 : Option Addr) (c0 : Nat) (u2 : Option Addr) (c2 : Nat) (r : List Int) (w : World) (hs : SmFunc d) (k2 : BlocksAt w lo u2 d.blocks) (hr : OrdR d.blocks r) :
    Calls Try.prog 26 #[.agg #[.slice u0 d.params.length c0, .int .i64 d.ret, .slice u2 d.blocks.length c2]] w fun e w' => ∃ u c, e = .returned (.slice u r.length c) ∧ r.length ≤ c ∧ OI w' w.heap.size u r ∧ Below w.heap.size w w' := by
  have HSM : Hid (SmFunc d) := hs
  have HK : Hid (BlocksAt w lo u2 d.blocks) := k2
  have hbl : d.blocks.length ≤ 1048576 := hs.2.1
  clear hs k2
  by_cases hR : RightL d.blocks
  · have HR : Hid (RightL d.blocks) := hR
    have hr1 := hR.1
    have hr2 := hR.2.1
    have HS : Hid (∀ a, ∀ s ∈ succN d.blocks a, s < d.blocks.length) := right_lt hR
    have HT : Hid (Told (succN d.blocks) none d.blocks.length (post (succN d.blocks) none d.blocks.length)) := post_told _ _ _ (by omega) (right_lt hR)
    have hpl : (post (succN d.blocks) none d.blocks.length).length ≤ 10 := Nat.le_trans (nodup_len _ _ HT.out.once HT.out.low) hr2
    have HRR : Hid (r = (ints (post (succN d.blocks) none d.blocks.length)).reverse) := hr.1 hR
    clear hR hr
    go_enter Try.func26, Try.ntmps26
    go_wp2_with (first | (go_at_call 41; refine (graphI lo d _ _ _ _ _ HSM.out (HK.out.keep (agree_alloc _ _ _))).mono ?_; rintro e w1 ⟨hb1, h1⟩; obtain ⟨N, hN, rfl, hG⟩ := (h1.resolve_left (fun h => h.1 HR.out)).2; have HG : Hid (Graph w1 N d.blocks.length (succN d.blocks)) := hG; have HX1 : Hid (Below w.heap.size w w1) := ((Below.refl _ _).alloc (Nat.le_refl _) _).trans (hb1.mono (by simp)); clear hb1 h1 hG hN) | (go_at_call 40; refine (toldI N d.blocks.length (succN d.blocks) none _ HG.out (by omega) hr2 HS.out (fun q => by have := succ_len d.blocks q; omega) (fun a h => by cases h)).mono ?_; rintro e w2 ⟨ut, ct, rfl, hp2, hb2⟩; have HP2 : Hid _ := hp2; have HG2 : Hid (Graph w2 N d.blocks.length (succN d.blocks)) := HG.out.keep (agree_of_below hb2 _); have HX2 : Hid (Below w.heap.size w w2) := HX1.out.trans (hb2.mono HX1.out.size); clear hp2 hb2) | (go_at_call 39; refine (placesI _ N d.blocks.length (succN d.blocks) _ _ _ _ HP2.out HG2.out HT.out.low (by omega)).mono ?_; rintro e w3 ⟨v3, rfl, ho3, hb3⟩; rw [← ints_len] at ho3; obtain ⟨u3, c3, rfl, hc3, g3⟩ := row_cap (by rw [ints_len]; omega) ho3; have HC3 : Hid _ := hc3; clear hc3; have HO3 : Hid _ := g3; have HX3 : Hid (Below w.heap.size w w3) := HX2.out.trans (hb3.mono HX2.out.size); have hz : w.heap.size ≤ w2.heap.size := HX2.out.size; clear ho3 hb3 g3) | (go_at_call 50; refine (revI _ _ _ _ _ (by rw [ints_len]; omega) HO3.out).mono ?_; rintro e w4 ⟨rfl, g4, g, hg, ho4⟩; have HO4 : Hid _ := g4; have HX4 : Hid (Below w.heap.size w w4) := below_only HX3.out ho4 (by omega); clear g4 ho4))
    go_ret
    rw [HRR.out, List.length_reverse]
    exact ⟨_, _, rfl, HC3.out, OI.low HO4.out hz, HX4.out⟩
  · have HR : Hid (¬ RightL d.blocks) := hR
    have HE : Hid (r = []) := hr.2 hR
    clear hR hr
    go_enter Try.func26, Try.ntmps26
    go_wp2_with (first | (go_at_call 41; refine (graphI lo d _ _ _ _ _ HSM.out (HK.out.keep (agree_alloc _ _ _))).mono ?_; rintro e w1 ⟨hb1, h1⟩; obtain ⟨_, rfl⟩ := h1.resolve_right (fun h => HR.out h.1); have HX1 : Hid (Below w.heap.size w w1) := ((Below.refl _ _).alloc (Nat.le_refl _) _).trans (hb1.mono (by simp)); have hz1 : 1 ≤ w1.heap.size := (by have := hb1.size; simp at this; omega); clear hb1 h1) | (go_at_call 40; refine (told_nilI none _).mono ?_; rintro e w2 ⟨rfl, hb2⟩; have HX2 : Hid (Below w.heap.size w w2) := HX1.out.trans (hb2.mono HX1.out.size); have hz2 : 1 ≤ w2.heap.size := Nat.le_trans hz1 hb2.size; clear hb2) | (go_at_call 39; refine (placesI 0 0 0 (fun _ => []) none 0 [] _ (.inl rfl) (graph_none _ hz2) (fun x hx => by cases hx) (by simp)).mono ?_; rintro e w3 ⟨v3, rfl, ho3, hb3⟩; obtain ⟨u3, c3, rfl, g3⟩ := row_own (l := []) (by simp) ho3; have HO3 : Hid (OI w3 w2.heap.size u3 []) := g3; have HX3 : Hid (Below w.heap.size w w3) := HX2.out.trans (hb3.mono HX2.out.size); have hz : w.heap.size ≤ w2.heap.size := HX2.out.size; clear ho3 hb3 g3) | (go_at_call 50; refine (revI _ _ _ [] _ (by simp) HO3.out).mono ?_; rintro e w4 ⟨rfl, g4, g, hg, ho4⟩; have HO4 : Hid (OI w4 w2.heap.size u3 []) := g4; have HX4 : Hid (Below w.heap.size w w4) := below_only HX3.out ho4 (by omega); clear g4 ho4))
    go_ret
    rw [HE.out]
    exact ⟨_, _, rfl, by simp, OI.low HO4.out hz, HX4.out⟩
theorem nodup_cut {x : Nat} : ∀ (t1 s1 t2 s2 : List Nat), t1 ++ x :: t2 = s1 ++ x :: s2 → (t1 ++ x :: t2).Nodup → t2 = s2 := by
  intro t1
  induction t1 with
  | nil =>
    intro s1 t2 s2 e hn
    cases s1 with
    | nil => simpa using e
    | cons y s1 =>
      simp at e
      obtain ⟨rfl, e⟩ := e
      subst e
      simp at hn
  | cons y t1 ih =>
    intro s1 t2 s2 e hn
    cases s1 with
    | nil =>
      simp at e
      obtain ⟨rfl, e⟩ := e
      simp at hn
    | cons z s1 =>
      simp only [List.cons_append, List.cons.injEq] at e
      exact ih s1 t2 s2 e.2 (List.nodup_cons.1 hn).2
/-- What stands at a place of the order, and what ahead of it. -/
theorem ord_at {l : List BlockD} {r : List Int} (hr : OrdR l r) {i : Nat} (hi : i < r.length) : RightL l ∧ ∃ (x : Nat) (t1 t2 : List Nat), r.getD i 0 = x ∧ x < l.length ∧ post (succN l) none l.length = t1 ++ x :: t2 ∧ r.take i = ints t2.reverse ∧ t2.length = i ∧ Told (succN l) none l.length (post (succN l) none l.length) := by
  by_cases hR : RightL l
  · have ht := post_told (succN l) none l.length (by have := hR.1; omega) (right_lt hR)
    have he := hr.1 hR
    obtain ⟨O, hO⟩ : ∃ O, post (succN l) none l.length = O := ⟨_, rfl⟩
    rw [hO] at he ht ⊢
    have hrv : r = ints O.reverse := by rw [he]; simp [ints]
    have hiR : i < O.reverse.length := by rw [hrv, ints_len] at hi; exact hi
    have hs : O.reverse = O.reverse.take i ++ O.reverse.getD i 0 :: O.reverse.drop (i + 1) := by
      rw [← drop_get 0 O.reverse i hiR, List.take_append_drop]
    have hO2 : O = (O.reverse.drop (i + 1)).reverse ++ O.reverse.getD i 0 :: (O.reverse.take i).reverse := by
      have h := congrArg List.reverse hs
      rw [List.reverse_reverse, List.reverse_append, List.reverse_cons, List.append_assoc] at h
      exact h
    refine ⟨hR, O.reverse.getD i 0, _, _, ?_, ?_, hO2, ?_, ?_, ht⟩
    · rw [hrv, ints_getD]
    · exact ht.low _ (List.mem_reverse.1 (getD_mem 0 _ i hiR))
    · rw [List.reverse_reverse, hrv]; simp [ints, List.map_take]
    · rw [List.length_reverse, List.length_take]; omega
  · rw [hr.2 hR] at hi; simp at hi
theorem ord_once {l : List BlockD} {r : List Int} (hr : OrdR l r) {i : Nat} (hi : i < r.length) : r.getD i 0 ∉ r.take i := by
  obtain ⟨hR, x, t1, t2, e, hx, hO, ht, hl, hT⟩ := ord_at hr hi
  rw [e, ht]
  intro h
  obtain ⟨y, hy, hyx⟩ := ints_mem.1 h
  have hxy : y = x := by omega
  subst hxy
  have hn := hT.once
  rw [hO, List.nodup_append] at hn
  exact (List.nodup_cons.1 hn.2.1).1 (List.mem_reverse.1 hy)
theorem ord_first {l : List BlockD} {r : List Int} (hr : OrdR l r) (hi : 0 < r.length) : r.getD 0 0 = 0 := by
  obtain ⟨hR, x, t1, t2, e, hx, hO, ht, hl, hT⟩ := ord_at hr hi
  have ht2 : t2 = [] := List.length_eq_zero_iff.1 hl
  subst ht2
  rw [e]
  rcases hT.ahead x (by rw [hO]; simp) with h0 | ⟨z, s1, s2, ee, hz, _⟩
  · omega
  · have hn := hT.once
    have h2 := nodup_cut t1 s1 [] s2 (hO.symm.trans ee) (by rw [← hO]; exact hn)
    subst h2
    cases hz
theorem ord_pred {l : List BlockD} {r ps : List Int} (hr : OrdR l r) {i : Nat} (hi : i < r.length) (hs : PredR l (r.getD i 0) ps) : i = 0 ∨ ∃ y ∈ ps, y ∈ r.take i := by
  by_cases h0 : i = 0
  · exact .inl h0
  · refine .inr ?_
    have hf := ord_first hr (by omega)
    have ho := ord_once hr hi
    have h0r : (0 : Int) ∈ r.take i := by
      have h := getD_mem 0 (r.take i) 0 (by rw [List.length_take]; omega)
      rw [show (r.take i).getD 0 0 = r.getD 0 0 by simp [List.getD, show 0 < i by omega], hf] at h
      exact h
    obtain ⟨hR, x, t1, t2, e, hx, hO, ht, hl, hT⟩ := ord_at hr hi
    rw [e] at hs ho
    rcases hT.ahead x (by rw [hO]; simp) with hx0 | ⟨z, s1, s2, ee, hz, hxz⟩
    · subst hx0; exact absurd h0r ho
    · have h2 := nodup_cut t1 s1 t2 s2 (hO.symm.trans ee) (by rw [← hO]; exact hT.once)
      subst h2
      have hzm : z ∈ post (succN l) none l.length := by rw [hO]; exact List.mem_append_right _ (List.mem_cons_of_mem _ hz)
      refine ⟨z, ?_, by rw [ht]; exact ints_mem.2 ⟨z, List.mem_reverse.2 hz, rfl⟩⟩
      rw [hs.1 ⟨hR, by omega, by omega⟩]
      refine ints_mem.2 ⟨z, ?_, rfl⟩
      unfold predN
      exact List.mem_filter.2 ⟨List.mem_range.2 (hT.low z hzm), by simpa using hxz⟩
theorem ord_idom {l : List BlockD} {r : List Int} {z : Int} (hr : OrdR l r) {i : Nat} (hi : i < r.length) (hz : IdomF l (r.getD i 0) z) (h0 : 0 ≤ z) : z ∈ r.take i := by
  obtain ⟨hR, x, t1, t2, e, hx, hO, ht, hl, hT⟩ := ord_at hr hi
  rw [e] at hz
  rcases hz with ⟨_, hn⟩ | ⟨_, rfl⟩
  · rcases hn with ⟨rfl, _⟩ | ⟨y, rfl, hy, hyx, hd, _⟩
    · omega
    · rw [ht]
      refine ints_mem.2 ⟨y, List.mem_reverse.2 ?_, rfl⟩
      simp only [Int.toNat_natCast] at hyx hd
      have hym := (hT.mem y).2 hd.reached
      rw [hO] at hym
      rcases List.mem_append.1 hym with h | h
      · exact absurd (hT.behind (x :: t2) t1 hO h x (List.mem_cons_self ..)) hd.2
      · rcases List.mem_cons.1 h with h | h
        · exact absurd h hyx
        · exact h
  · omega
theorem ord_reach {l : List BlockD} {r q : List Int} (hr : OrdR l r) (hi : 0 < r.length) (hq : ReachR l q) : (∀ x ∈ q, x ∈ r) ∧ q.length = r.length := by
  obtain ⟨hR, _⟩ := ord_at hr hi
  have hT := post_told (succN l) none l.length (by have := hR.1; omega) (right_lt hR)
  have he := hr.1 hR
  obtain ⟨O, rfl, hm, ho, _⟩ := hq.1 hR
  have hn : O.Nodup := ho.imp fun h => Nat.ne_of_lt h
  have hp : O.Perm (post (succN l) none l.length) := (List.perm_ext_iff_of_nodup hn hT.once).2 fun y => (hm y).trans (hT.mem y).symm
  refine ⟨fun x hx => ?_, by rw [he, List.length_reverse, ints_len, ints_len]; exact hp.length_eq⟩
  obtain ⟨y, hy, rfl⟩ := ints_mem.1 hx
  rw [he, List.mem_reverse]
  exact ints_mem.2 ⟨y, hp.mem_iff.1 hy, rfl⟩
theorem ints_take {w : World} {lo : Nat} {a : Option Addr} {l : List Int} (h : IntsAt w lo a l) (i : Nat) : IntsAt w lo a (l.take i) := by
  refine ⟨by rw [List.length_take]; have := h.1; omega, ?_⟩
  rcases h.2 with h | ⟨b, off, ha, hl, hlt, hc⟩
  · rw [h]; exact .inl (by simp)
  · refine .inr ⟨b, off, ha, hl, hlt, fun k hk => ?_⟩
    rw [List.length_take] at hk
    rw [hc k (by omega)]
    simp [List.getD, show k < i by omega]
theorem orderT (lo : Nat) (ts : List TermD) (u : Option Addr) (c : Nat) (r : List Int) (w : World) (hl : ts.length ≤ 7) (hb : BlocksAt w lo u (bare ts)) (hr : OrdR (bare ts) r) :
    Calls Try.prog 26 #[.agg #[.slice none 0 0, .int .i64 8, .slice u ts.length c]] w fun e w' => ∃ u c, e = .returned (.slice u r.length c) ∧ r.length ≤ c ∧ OI w' w.heap.size u r ∧ Below w.heap.size w w' := by
  have h := orderC lo (bareF ts) none 0 u c r w (sm_bareF hl) hb hr
  rw [show (bareF ts).blocks.length = ts.length from bare_len ts] at h
  exact h
theorem orderM (lo : Nat) (ts : List TermD) (u : Option Addr) (c : Nat) (r : List Int) (w : World) (hl : ts.length ≤ 7) (hb : BlocksAt w lo u (bare ts)) (hr : OrdR (bare ts) r) :
    Calls Try.prog 27 #[.agg #[.slice none 0 0, .int .i64 8, .slice u ts.length c]] w fun e w' => ∃ u c, e = .returned (.slice u r.length c) ∧ IntsAt w' w.heap.size u r ∧ Below w.heap.size w w' := by
  have h := orderF lo (bareF ts) none 0 u c r w (sm_bareF hl) hb hr
  rw [show (bareF ts).blocks.length = ts.length from bare_len ts] at h
  exact h
end Go.Proofs.Ytilhmpilkhadfaa
