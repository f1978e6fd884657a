/- The contracts of what makes a graph: isBelow, targetsOf, leadTo. -/
import Derived.Test.YtiflkkkggidhbaaGrl
import Derived.LaidEqlPtr
namespace Go.Proofs.Ytiflkkkggidhbaa
open Go.RowKit

theorem belowI (n c : Int) (w : World) : Calls Try.prog 36 #[.int .i64 n, .int .i64 c] w fun e w' => e = .returned (.bool (decide (0 ≤ n) && decide (n < c))) ∧ w' = w := by
  by_cases h : 0 ≤ n
  · go_enter Try.func36, Try.ntmps36
    go_wp2_with fail
    go_ret
    exact ⟨by simp [h], rfl⟩
  · go_enter Try.func36, Try.ntmps36
    go_wp2_with fail
    go_ret
    exact ⟨congrArg (fun b => Ending.returned (Value.bool b)) (by rw [decide_eq_false (by omega)]; rfl), rfl⟩
def tgtD (t : TermD) : List Int := if t.kind = 2 then [t.x] else if t.kind = 3 then [t.x, t.y] else []
theorem ints_lit {w : World} {o : Obj} {l v : List Int} {cs : Array Value} (e : v = l) (hm : l.length ≤ 1000) (hc : ∀ i, i < l.length → cs[i]? = some (.int .i64 (l.getD i 0))) : IntsAt ((w.alloc o).alloc (.cells cs 2)) w.heap.size (some ⟨w.heap.size + 1, 0, none⟩) v := by
  subst e
  refine ⟨by omega, .inr ⟨w.heap.size + 1, 0, rfl, by omega, by simp, fun i hi => ?_⟩⟩
  have h := heap_alloc_last (w.alloc o) (.cells cs 2)
  have hz : (w.alloc o).heap.size = w.heap.size + 1 := by simp
  rw [hz] at h
  rw [Nat.zero_add, cell_of_heap h]; exact hc i hi
theorem two_ints (a b : Int) : ∀ i, i < [a, b].length → (#[Value.int .i64 a, Value.int .i64 b] : Array Value)[i]? = some (.int .i64 ([a, b].getD i 0)) := by
  intro i hi
  match i, hi with
  | 0, _ => rfl
  | 1, _ => rfl
theorem one_ints (a : Int) : ∀ i, i < [a].length → (#[Value.int .i64 a] : Array Value)[i]? = some (.int .i64 ([a].getD i 0)) := by
  intro i hi
  match i, hi with
  | 0, _ => rfl
set_option maxHeartbeats 1000000 in
theorem targetsI (t : TermD) (w : World) : Calls Try.prog 54 #[.agg #[.int .i64 t.kind, .int .i64 t.a, .int .i64 t.x, .int .i64 t.y]] w fun e w' => ∃ u c, e = .returned (.slice u (tgtD t).length c) ∧ IntsAt w' w.heap.size u (tgtD t) ∧ Below w.heap.size w w' := by
  by_cases h2 : t.kind = 2
  · have E : tgtD t = [t.x] := by rw [tgtD, if_pos h2]
    rw [E]; clear E
    go_enter Try.func54, Try.ntmps54
    go_wp2_with fail
    go_ret
    exact ⟨_, _, rfl, ints_lit rfl (by simp) (one_ints t.x), ((Below.refl _ _).alloc (Nat.le_refl _) _).alloc (by simp) _⟩
  by_cases h3 : t.kind = 3
  · have E : tgtD t = [t.x, t.y] := by rw [tgtD, if_neg h2, if_pos h3]
    rw [E]; clear E
    go_enter Try.func54, Try.ntmps54
    go_wp2_with fail
    go_ret
    exact ⟨_, _, rfl, ints_lit rfl (by simp) (two_ints t.x t.y), ((Below.refl _ _).alloc (Nat.le_refl _) _).alloc (by simp) _⟩
  · have E : tgtD t = [] := by rw [tgtD, if_neg h2, if_neg h3]
    rw [E]; clear E
    go_enter Try.func54, Try.ntmps54
    go_wp2_with fail
    go_ret
    exact ⟨_, _, rfl, ⟨by simp, .inl rfl⟩, (Below.refl _ _).alloc (Nat.le_refl _) _⟩
theorem infoPg : (Try.prog.info? 64).map (fun i => (i.zero, i.size, i.bytes)) = some (some (.pointer none), 1, 8) := by kernel_rfl
theorem infoNg : (Try.prog.info? 63).map (fun i => (i.zero, i.size, i.bytes)) = some (some (.agg #[.int .i64 0, .slice none 0 0, .slice none 0 0]), 3, 56) := by kernel_rfl
/-- Two pointers to nodes are one if their blocks are. -/
theorem ptr_eql (W : World) (N n a b : Nat) (h : ∀ i, i < n → ∃ cs, W.heap[N + 1 + i]? = some (.cells cs 63 (0, 0))) (ha : a < n) (hb : b < n) :
    (binOp .eql 64 (.pointer (some ⟨N + 1 + a, 0, none⟩)) (.pointer (some ⟨N + 1 + b, 0, none⟩))).run Try.prog W = .ok (.bool (decide (a = b))) W := by
  obtain ⟨j, hj, _, hj1, _⟩ := info_parts infoNg
  by_cases e : a = b
  · subst e
    simp [run_eql_ptr_same W _ Try.underlying64 hj]
  · obtain ⟨ca, h1⟩ := h a ha
    obtain ⟨cb, h2⟩ := h b hb
    rw [run_eql_ptr_other W (a := ⟨N + 1 + a, 0, none⟩) (b := ⟨N + 1 + b, 0, none⟩) Try.underlying64 hj (by omega) (by simp) h1 h2]; simp [e]
theorem lit_cell {w : World} {v : Value} {t : TypeId} : ∀ j u, [v][j]? = some u → (w.alloc (.cells #[v] t)).cell? ((⟨w.heap.size, 0, none⟩ : Addr).add j) = some u := by
  intro j u hj
  match j, hj with
  | 0, hj => rw [Addr.add_lit, cell_of_heap (heap_alloc_last _ _)]; simpa using hj
theorem lit_cell_at {w : World} {v : Value} {t : TypeId} {s : Nat} (h : w.heap.size = s) : ∀ j u, [v][j]? = some u → (w.alloc (.cells #[v] t)).cell? ((⟨s, 0, none⟩ : Addr).add j) = some u := by
  subst h; exact lit_cell
theorem own_slice {w : World} {b : Nat} {e : TypeId} {z : Nat} {v : Value} {n : Nat} {xs : List Value} (h : w.ownsRow b e z v n xs) : ∃ a c, v = .slice a n c := by
  rcases h.2 with ⟨rfl, rfl⟩ | ⟨g, cap, cur, rfl, _⟩
  · exact ⟨_, _, rfl⟩
  · exact ⟨_, _, rfl⟩
theorem push_gen {w w1 : World} {N n : Nat} {X : Option Nat} {R : Nat → Value} {L : Nat → List Nat} (h0 : Build w N n X R L) (o : Obj) (i k : Nat) (hi : i < n) (hk : k < 2) (v1 : Value) (x : Nat)
    (ho : w1.ownsRow (N + 1 + n) 64 1 v1 ((L (2 * i + k)).length + 1) ((L (2 * i + k)).map (ptrV N) ++ [ptrV N x])) (hg : (w.alloc o).grownBy w1 (R (2 * i + k)).ownBlock)
    (hs : v1.ownBlock = (R (2 * i + k)).ownBlock ∨ ∃ g, v1.ownBlock = some g ∧ (w.alloc o).heap.size ≤ g) :
    w1.cell? ⟨N + 1 + i, 1 + k, none⟩ = some (R (2 * i + k)) ∧ w1.frozen? ⟨N + 1 + i, 1 + k, none⟩ = false ∧ Build (w1.setCell ⟨N + 1 + i, 1 + k, none⟩ v1) N n X (updG R (2 * i + k) v1) (updG L (2 * i + k) (L (2 * i + k) ++ [x])) ∧ Below N w (w1.setCell ⟨N + 1 + i, 1 + k, none⟩ v1) ∧ ∀ g, X = some g → (w1.setCell ⟨N + 1 + i, 1 + k, none⟩ v1).heap[g]? = w.heap[g]? := by
  have hA := h0.keep (agree_alloc w o N)
  have hsz := h0.size
  have hn : w1.heap[N + 1 + i]? = some (.cells #[.int .i64 i, R (2 * i), R (2 * i + 1)] 63 (0, 0)) := (hg.block (N + 1 + i) (by have := hA.size; omega) fun e => by
    have := (own_ge (hA.row (2 * i + k) (by omega)) e.symm).1; omega).trans (hA.node i hi)
  obtain ⟨p1, p2⟩ := push_else hA i k hi hk v1 hg
  refine ⟨?_, froz_of_heap hn, hA.push i k hi hk v1 x ho hg hs, ((Below.refl N w).alloc (by omega) o).trans p1, fun g hX => (p2 g hX).trans (Below.heap_alloc w o g (h0.far g hX).2.1)⟩
  rw [cell_of_heap hn]
  match k, hk with
  | 0, _ => rfl
  | 1, _ => rfl
theorem lead_other {w : World} {N n : Nat} {X : Option Nat} {R : Nat → Value} {L : Nat → List Nat} {b x : Nat} {v1 : Value} {l : List Nat} (h : Build w N n X (updG R (2 * b) v1) (updG L (2 * b) l)) (hx : x < n) (o : Obj) :
    w.cell? ⟨N + 1 + x, 2, none⟩ = some (R (2 * x + 1)) ∧ (w.alloc o).ownsRow (N + 1 + n) 64 1 (R (2 * x + 1)) (L (2 * x + 1)).length ((L (2 * x + 1)).map (ptrV N)) := by
  constructor
  · rw [cell_of_heap (h.node x hx), upd_other _ _ (show 2 * x + 1 ≠ 2 * b by omega)]; rfl
  · have hr := (h.keep (agree_alloc w o N)).row (2 * x + 1) (by omega)
    rwa [upd_other _ _ (by omega), upd_other _ _ (by omega)] at hr
theorem lead_cell {w : World} {N n : Nat} {X : Option Nat} {R : Nat → Value} {L : Nat → List Nat} {b x g m q l : Nat} {v1 : Value} {l' : List Nat} (h : Build w N n X (updG R (2 * b) v1) (updG L (2 * b) l')) (hx : x < n)
    (hv : R (2 * x + 1) = .slice (some ⟨g, 0, none⟩) (m + 1) q) (hm : (L (2 * x + 1)).length = m + 1) (hl : (L (2 * x + 1)).getLast? = some l) : w.cell? ⟨g, m, none⟩ = some (.pointer (some ⟨N + 1 + l, 0, none⟩)) := by
  have hr := h.row (2 * x + 1) (by omega)
  rw [upd_other _ _ (by omega), upd_other _ _ (by omega)] at hr
  obtain ⟨a, c, e, p⟩ := own_read hr
  rw [hv] at e
  rcases p with p | ⟨g', p1, _, _, p2⟩
  · rw [p] at hm; simp at hm
  · rw [p1] at e
    simp only [Value.slice.injEq, Option.some.injEq, Addr.mk.injEq] at e
    obtain rfl := e.1.1
    have h2 := p2 m (by omega)
    have e2 : (L (2 * x + 1)).getD m 0 = l := by
      rw [List.getLast?_eq_getElem?, hm] at hl
      simp only [Nat.add_sub_cancel] at hl
      simp [List.getD, hl]
    rw [e2] at h2
    exact h2
set_option maxRecDepth 100000 in
set_option maxHeartbeats 4000000 in
theorem leadI (N n : Nat) (X : Option Nat) (R : Nat → Value) (L : Nat → List Nat) (b x : Nat) (w : World) (hb : b < n) (hx : x < n) (hB : Build w N n X R L) (hl : ∀ r, (L r).length ≤ 1000) (hin : ∀ r, ∀ y ∈ L r, y < n) :
    Calls Try.prog 55 #[ptrV N b, ptrV N x] w fun e w' => e = .returned (.tuple #[]) ∧ (∃ R', Build w' N n X R' (leadL b x L)) ∧ Below N w w' ∧ ∀ g, X = some g → w'.heap[g]? = w.heap[g]? := by
  obtain ⟨i0, hi, hz0, hz1, hz2⟩ := info_parts infoPg
  have HI : Hid (Try.prog.info? 64 = some i0) := hi
  have HZ0 : Hid (i0.zero = some (Value.pointer none)) := hz0
  have HZ1 : Hid (i0.size = 1) := hz1
  have HZ2 : Hid (i0.bytes = 8) := hz2
  clear hi hz0 hz1 hz2
  have hsz := hB.size
  have c1 : w.cell? ⟨N + 1 + b, 1, none⟩ = some (R (2 * b)) := by rw [cell_of_heap (hB.node b hb)]; rfl
  have hl1 := hl (2 * b)
  have hl2 := hl (2 * x + 1)
  have hA := hB.keep (agree_alloc w (.cells #[ptrV N x] 64) N)
  have A1 : Hid ((w.alloc (.cells #[ptrV N x] 64)).ownsRow (N + 1 + n) 64 1 (R (2 * b)) (L (2 * b)).length ((L (2 * b)).map (ptrV N))) := hA.row (2 * b) (by omega)
  have HB : Hid (Build w N n X R L) := hB
  have hzA : Hid (N + 1 + n ≤ (w.alloc (.cells #[ptrV N x] 64)).heap.size) := hA.size
  obtain ⟨a2, q2, hv2, hp2⟩ := own_read (hB.row (2 * x + 1) (by omega))
  have HV : Hid (R (2 * x + 1) = .slice a2 (L (2 * x + 1)).length q2) := hv2
  clear hA hB hv2
  unfold ptrV
  have HIN : Hid (∀ r, ∀ y ∈ L r, y < n) := hin
  clear hin
  rcases hc : (L (2 * x + 1)).getLast? with _ | l
  · have HC : Hid ((L (2 * x + 1)).getLast? = none) := hc
    have hnil : (L (2 * x + 1)) = [] := by simpa using hc
    have HV0 : Hid (R (2 * x + 1) = .slice a2 0 q2) := (by show _ = _; rw [HV.out, hnil]; rfl)
    clear hnil hc HV hp2
    go_enter Try.func55, Try.ntmps55
    go_wp2_with (first | (at_builtin; refine wpList_append_sep _ rfl _ _ 58 rfl (N + 1 + n) 64 i0 (.pointer none) 1 8 Try.underlying58 HI.out HZ0.out HZ1.out HZ2.out rfl (by decide) (R (2 * b)) (L (2 * b)).length ((L (2 * b)).map (ptrV N)) rfl (by exact A1.out) ⟨w.heap.size, 0, none⟩ 1 1 [ptrV N x] rfl (by simp) (by exact lit_cell) (by simp [Value.oneCell', ptrV]) (by decide) (by unfold maxLen; omega) (by omega) (by exact hzA.out) ?_; intro v1 w1 ho1 hg1 hs1; obtain ⟨u1, k1, hu1⟩ := own_slice ho1; subst hu1; obtain ⟨e1, f1, hP1, hb1, hf1⟩ := push_gen HB.out _ b 0 hb (by decide) _ x (by exact ho1) (by exact hg1) (by exact hs1); have e2 : w1.cell? ⟨N + 1 + b, 1, none⟩ = some (R (2 * b)) := (by exact e1); have f2 : w1.frozen? ⟨N + 1 + b, 1, none⟩ = false := (by exact f1); have HP1 : Hid (Build (w1.setCell ⟨N + 1 + b, 1, none⟩ (.slice u1 ((L (2 * b)).length + 1) k1)) N n X (updG R (2 * b) (.slice u1 ((L (2 * b)).length + 1) k1)) (updG L (2 * b) (L (2 * b) ++ [x]))) := (by exact hP1); have HB1 : Hid (Below N w (w1.setCell ⟨N + 1 + b, 1, none⟩ (.slice u1 ((L (2 * b)).length + 1) k1))) := (by exact hb1); have HF1 : Hid (∀ g, X = some g → (w1.setCell ⟨N + 1 + b, 1, none⟩ (.slice u1 ((L (2 * b)).length + 1) k1)).heap[g]? = w.heap[g]?) := (by exact hf1); have c2 : (w1.setCell ⟨N + 1 + b, 1, none⟩ (.slice u1 ((L (2 * b)).length + 1) k1)).cell? ⟨N + 1 + x, 2, none⟩ = some (.slice a2 0 q2) := (by rw [← HV0.out]; exact (lead_other HP1.out hx (.cells #[] 0)).1); have A2 : Hid (((w1.setCell ⟨N + 1 + b, 1, none⟩ (.slice u1 ((L (2 * b)).length + 1) k1)).alloc (.cells #[ptrV N b] 64)).ownsRow (N + 1 + n) 64 1 (.slice a2 0 q2) (L (2 * x + 1)).length ((L (2 * x + 1)).map (ptrV N))) := (by have h := (lead_other HP1.out hx (.cells #[ptrV N b] 64)).2; rw [HV0.out] at h; exact h);  clear ho1 hg1 hs1 e1 f1 hP1 hb1 hf1 A1 hzA) | (at_builtin; refine wpList_append_sep _ rfl _ _ 58 rfl (N + 1 + n) 64 i0 (.pointer none) 1 8 Try.underlying58 HI.out HZ0.out HZ1.out HZ2.out rfl (by decide) (.slice a2 0 q2) (L (2 * x + 1)).length ((L (2 * x + 1)).map (ptrV N)) rfl (by exact A2.out) ⟨w1.heap.size, 0, none⟩ 1 1 [ptrV N b] rfl (by simp) (by exact lit_cell_at (by simp [World.setCell])) (by simp [Value.oneCell', ptrV]) (by decide) (by unfold maxLen; omega) (by omega) (by exact Nat.le_trans HP1.out.size (by simp)) ?_; intro v3 w3 ho3 hg3 hs3; obtain ⟨u3, k3, hu3⟩ := own_slice ho3; subst hu3; obtain ⟨e3, f3, hP3, hb3, hf3⟩ := push_gen HP1.out _ x 1 hx (by decide) _ b (by rw [upd_other _ _ (by omega)]; exact ho3) (by rw [upd_other _ _ (by omega), HV0.out]; exact hg3) (by rw [upd_other _ _ (by omega), HV0.out]; exact hs3); have e4 : w3.cell? ⟨N + 1 + x, 2, none⟩ = some (.slice a2 0 q2) := (by rw [← HV0.out]; refine Eq.trans (by exact e3) ?_; rw [upd_other _ _ (by omega)]); have f4 : w3.frozen? ⟨N + 1 + x, 2, none⟩ = false := (by exact f3); have HP3 : Hid _ := hP3; have HB3 : Hid _ := hb3; have HF3 : Hid _ := hf3; clear ho3 hg3 hs3 e3 f3 hP3 hb3 hf3 A2))
    go_end0
    refine ⟨rfl, ?_, HB1.out.trans HB3.out, fun g hg => (HF3.out g hg).trans (HF1.out g hg)⟩
    have h := HP3.out
    rw [upd_other L _ (show 2 * x + 1 ≠ 2 * b by omega)] at h
    rw [leadL, if_neg (by rw [HC.out]; simp)]
    exact ⟨_, h⟩
  · have HC : Hid ((L (2 * x + 1)).getLast? = some l) := hc
    obtain ⟨m, hm⟩ : ∃ m, (L (2 * x + 1)).length = m + 1 := by
      cases hq : L (2 * x + 1) with
      | nil => rw [hq] at hc; simp at hc
      | cons y r => exact ⟨r.length, by simp⟩
    obtain ⟨g2, rfl⟩ : ∃ g2, a2 = some ⟨g2, 0, none⟩ := by
      rcases hp2 with p | ⟨g, p, _⟩
      · rw [p] at hm; simp at hm
      · exact ⟨g, p⟩
    have HV0 : Hid (R (2 * x + 1) = .slice (some ⟨g2, 0, none⟩) (m + 1) q2) := (by show _ = _; rw [HV.out, hm])
    have HM : Hid ((L (2 * x + 1)).length = m + 1) := hm
    have hmb : m < 1000 := by omega
    have hln : l < n := HIN.out _ l (List.mem_of_getLast? HC.out)
    clear hc HV hp2
    by_cases hlb : l = b
    · subst hlb
      clear hm
      go_enter Try.func55, Try.ntmps55
      go_wp2_with (first | (at_builtin; refine wpList_append_sep _ rfl _ _ 58 rfl (N + 1 + n) 64 i0 (.pointer none) 1 8 Try.underlying58 HI.out HZ0.out HZ1.out HZ2.out rfl (by decide) (R (2 * l)) (L (2 * l)).length ((L (2 * l)).map (ptrV N)) rfl (by exact A1.out) ⟨w.heap.size, 0, none⟩ 1 1 [ptrV N x] rfl (by simp) (by exact lit_cell) (by simp [Value.oneCell', ptrV]) (by decide) (by unfold maxLen; omega) (by omega) (by exact hzA.out) ?_; intro v1 w1 ho1 hg1 hs1; obtain ⟨u1, k1, hu1⟩ := own_slice ho1; subst hu1; obtain ⟨e1, f1, hP1, hb1, hf1⟩ := push_gen HB.out _ l 0 hb (by decide) _ x (by exact ho1) (by exact hg1) (by exact hs1); have e2 : w1.cell? ⟨N + 1 + l, 1, none⟩ = some (R (2 * l)) := (by exact e1); have f2 : w1.frozen? ⟨N + 1 + l, 1, none⟩ = false := (by exact f1); have HP1 : Hid (Build (w1.setCell ⟨N + 1 + l, 1, none⟩ (.slice u1 ((L (2 * l)).length + 1) k1)) N n X (updG R (2 * l) (.slice u1 ((L (2 * l)).length + 1) k1)) (updG L (2 * l) (L (2 * l) ++ [x]))) := (by exact hP1); have HB1 : Hid (Below N w (w1.setCell ⟨N + 1 + l, 1, none⟩ (.slice u1 ((L (2 * l)).length + 1) k1))) := (by exact hb1); have HF1 : Hid (∀ g, X = some g → (w1.setCell ⟨N + 1 + l, 1, none⟩ (.slice u1 ((L (2 * l)).length + 1) k1)).heap[g]? = w.heap[g]?) := (by exact hf1); have c2 : (w1.setCell ⟨N + 1 + l, 1, none⟩ (.slice u1 ((L (2 * l)).length + 1) k1)).cell? ⟨N + 1 + x, 2, none⟩ = some (.slice (some ⟨g2, 0, none⟩) (m + 1) q2) := (by rw [← HV0.out]; exact (lead_other HP1.out hx (.cells #[] 0)).1); have A2 : Hid (((w1.setCell ⟨N + 1 + l, 1, none⟩ (.slice u1 ((L (2 * l)).length + 1) k1)).alloc (.cells #[ptrV N l] 64)).ownsRow (N + 1 + n) 64 1 (.slice (some ⟨g2, 0, none⟩) (m + 1) q2) (L (2 * x + 1)).length ((L (2 * x + 1)).map (ptrV N))) := (by have h := (lead_other HP1.out hx (.cells #[ptrV N l] 64)).2; rw [HV0.out] at h; exact h); have c3 := lead_cell HP1.out hx HV0.out HM.out HC.out; have c4 := ptr_eql _ N n l l (fun i hi => ⟨_, HP1.out.node i hi⟩) hln hb; rw [decide_eq_true rfl] at c4; clear ho1 hg1 hs1 e1 f1 hP1 hb1 hf1 A1 hzA))
      refine bodyPost_ret (results_none rfl _ _ _) rfl ?_
      refine ⟨rfl, ?_, HB1.out, HF1.out⟩
      rw [leadL, if_pos HC.out]
      exact ⟨_, HP1.out⟩
    · clear hm
      go_enter Try.func55, Try.ntmps55
      go_wp2_with (first | (at_builtin; refine wpList_append_sep _ rfl _ _ 58 rfl (N + 1 + n) 64 i0 (.pointer none) 1 8 Try.underlying58 HI.out HZ0.out HZ1.out HZ2.out rfl (by decide) (R (2 * b)) (L (2 * b)).length ((L (2 * b)).map (ptrV N)) rfl (by exact A1.out) ⟨w.heap.size, 0, none⟩ 1 1 [ptrV N x] rfl (by simp) (by exact lit_cell) (by simp [Value.oneCell', ptrV]) (by decide) (by unfold maxLen; omega) (by omega) (by exact hzA.out) ?_; intro v1 w1 ho1 hg1 hs1; obtain ⟨u1, k1, hu1⟩ := own_slice ho1; subst hu1; obtain ⟨e1, f1, hP1, hb1, hf1⟩ := push_gen HB.out _ b 0 hb (by decide) _ x (by exact ho1) (by exact hg1) (by exact hs1); have e2 : w1.cell? ⟨N + 1 + b, 1, none⟩ = some (R (2 * b)) := (by exact e1); have f2 : w1.frozen? ⟨N + 1 + b, 1, none⟩ = false := (by exact f1); have HP1 : Hid (Build (w1.setCell ⟨N + 1 + b, 1, none⟩ (.slice u1 ((L (2 * b)).length + 1) k1)) N n X (updG R (2 * b) (.slice u1 ((L (2 * b)).length + 1) k1)) (updG L (2 * b) (L (2 * b) ++ [x]))) := (by exact hP1); have HB1 : Hid (Below N w (w1.setCell ⟨N + 1 + b, 1, none⟩ (.slice u1 ((L (2 * b)).length + 1) k1))) := (by exact hb1); have HF1 : Hid (∀ g, X = some g → (w1.setCell ⟨N + 1 + b, 1, none⟩ (.slice u1 ((L (2 * b)).length + 1) k1)).heap[g]? = w.heap[g]?) := (by exact hf1); have c2 : (w1.setCell ⟨N + 1 + b, 1, none⟩ (.slice u1 ((L (2 * b)).length + 1) k1)).cell? ⟨N + 1 + x, 2, none⟩ = some (.slice (some ⟨g2, 0, none⟩) (m + 1) q2) := (by rw [← HV0.out]; exact (lead_other HP1.out hx (.cells #[] 0)).1); have A2 : Hid (((w1.setCell ⟨N + 1 + b, 1, none⟩ (.slice u1 ((L (2 * b)).length + 1) k1)).alloc (.cells #[ptrV N b] 64)).ownsRow (N + 1 + n) 64 1 (.slice (some ⟨g2, 0, none⟩) (m + 1) q2) (L (2 * x + 1)).length ((L (2 * x + 1)).map (ptrV N))) := (by have h := (lead_other HP1.out hx (.cells #[ptrV N b] 64)).2; rw [HV0.out] at h; exact h); have c3 := lead_cell HP1.out hx HV0.out HM.out HC.out; have c4 := ptr_eql _ N n l b (fun i hi => ⟨_, HP1.out.node i hi⟩) hln hb; rw [decide_eq_false hlb] at c4; clear ho1 hg1 hs1 e1 f1 hP1 hb1 hf1 A1 hzA) | (at_builtin; refine wpList_append_sep _ rfl _ _ 58 rfl (N + 1 + n) 64 i0 (.pointer none) 1 8 Try.underlying58 HI.out HZ0.out HZ1.out HZ2.out rfl (by decide) (.slice (some ⟨g2, 0, none⟩) (m + 1) q2) (L (2 * x + 1)).length ((L (2 * x + 1)).map (ptrV N)) rfl (by exact A2.out) ⟨w1.heap.size, 0, none⟩ 1 1 [ptrV N b] rfl (by simp) (by exact lit_cell_at (by simp [World.setCell])) (by simp [Value.oneCell', ptrV]) (by decide) (by unfold maxLen; omega) (by omega) (by exact Nat.le_trans HP1.out.size (by simp)) ?_; intro v3 w3 ho3 hg3 hs3; obtain ⟨u3, k3, hu3⟩ := own_slice ho3; subst hu3; obtain ⟨e3, f3, hP3, hb3, hf3⟩ := push_gen HP1.out _ x 1 hx (by decide) _ b (by rw [upd_other _ _ (by omega)]; exact ho3) (by rw [upd_other _ _ (by omega), HV0.out]; exact hg3) (by rw [upd_other _ _ (by omega), HV0.out]; exact hs3); have e4 : w3.cell? ⟨N + 1 + x, 2, none⟩ = some (.slice (some ⟨g2, 0, none⟩) (m + 1) q2) := (by rw [← HV0.out]; refine Eq.trans (by exact e3) ?_; rw [upd_other _ _ (by omega)]); have f4 : w3.frozen? ⟨N + 1 + x, 2, none⟩ = false := (by exact f3); have HP3 : Hid _ := hP3; have HB3 : Hid _ := hb3; have HF3 : Hid _ := hf3; clear ho3 hg3 hs3 e3 f3 hP3 hb3 hf3 A2))
      go_end0
      refine ⟨rfl, ?_, HB1.out.trans HB3.out, fun g hg => (HF3.out g hg).trans (HF1.out g hg)⟩
      have h := HP3.out
      rw [upd_other L _ (show 2 * x + 1 ≠ 2 * b by omega)] at h
      rw [leadL, if_neg (by rw [HC.out]; intro q; cases q; exact hlb rfl)]
      exact ⟨_, h⟩
end Go.Proofs.Ytiflkkkggidhbaa
