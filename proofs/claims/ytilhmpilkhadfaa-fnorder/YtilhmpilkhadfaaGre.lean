/- Who dominates whom: the contract of dominanceOf. -/
import Derived.Test.YtilhmpilkhadfaaGrd
import Derived.Laws.Tables
import Derived.Laws.Rows
namespace Go.Proofs.Ytilhmpilkhadfaa
open Go.RowKit

def dm (S : Nat → List Nat) (n : Nat) (l : List Nat) (k j a b : Nat) : Bool :=
  decide ((a ∈ l.take k ∧ b ∈ l ∧ b ∉ post S (some a) n) ∨ (k < l.length ∧ a = l.getD k 0 ∧ b ∈ l.take j ∧ b ∉ post S (some a) n))
theorem take_more (l : List Nat) (k : Nat) (h : k < l.length) (a : Nat) : a ∈ l.take (k + 1) ↔ a ∈ l.take k ∨ a = l.getD k 0 := by
  have e : l.getD k 0 = l[k] := by simp [List.getD, h]
  rw [List.take_succ_eq_append_getElem h, List.mem_append, List.mem_singleton, e]
theorem dm_start (S : Nat → List Nat) (n : Nat) (l : List Nat) (a b : Nat) : dm S n l 0 0 a b = false := by simp [dm]
theorem dm_next (S : Nat → List Nat) (n : Nat) (l : List Nat) (k a b : Nat) (h : k < l.length) : dm S n l k l.length a b = dm S n l (k + 1) 0 a b := by
  unfold dm
  apply decide_eq_decide.2
  rw [take_more l k h]
  simp only [List.take_length, List.take_zero, List.not_mem_nil, false_and, and_false, or_false]
  constructor
  · rintro (⟨h1, h2⟩ | ⟨_, h1, h2⟩)
    · exact ⟨.inl h1, h2⟩
    · exact ⟨.inr h1, h2⟩
  · rintro ⟨h1 | h1, h2⟩
    · exact .inl ⟨h1, h2⟩
    · exact .inr ⟨h, h1, h2⟩
theorem dm_same (S : Nat → List Nat) (n : Nat) (l : List Nat) (k j : Nat) (hk : k < l.length) (hj : j < l.length) : dm S n l k (j + 1) (l.getD k 0) (l.getD j 0) = !decide (l.getD j 0 ∈ post S (some (l.getD k 0)) n) := by
  unfold dm
  by_cases h : l.getD j 0 ∈ post S (some (l.getD k 0)) n
  · rw [decide_eq_true h]; simp only [h, not_true, and_false, or_false, decide_false, Bool.not_true]
  · rw [decide_eq_false h]
    exact decide_eq_true (.inr ⟨hk, rfl, (take_more l j hj _).2 (.inr rfl), h⟩)
theorem dm_other (S : Nat → List Nat) (n : Nat) (l : List Nat) (k j a b : Nat) (hj : j < l.length) (h : ¬ (a = l.getD k 0 ∧ b = l.getD j 0)) : dm S n l k (j + 1) a b = dm S n l k j a b := by
  unfold dm
  apply decide_eq_decide.2
  rw [take_more l j hj]
  constructor
  · rintro (h1 | ⟨h1, h2, h3 | h3, h4⟩)
    · exact .inl h1
    · exact .inr ⟨h1, h2, h3, h4⟩
    · exact absurd ⟨h2, h3⟩ h
  · rintro (h1 | ⟨h1, h2, h3, h4⟩)
    · exact .inl h1
    · exact .inr ⟨h1, h2, .inl h3, h4⟩
/-- A table of ten times ten flags in block D. -/
def DomAt (w : World) (D : Nat) (F : Nat → Nat → Bool) : Prop := ∃ arr : Array Value, w.heap[D]? = some (.cells arr 65 (0, 0)) ∧ arr.size = 100 ∧ ∀ a b, a < 10 → b < 10 → arr[a * 10 + b]? = some (.bool (F a b))
theorem DomAt.keep {w w' : World} {D : Nat} {F : Nat → Nat → Bool} (h : DomAt w D F) (k : w'.heap[D]? = w.heap[D]?) : DomAt w' D F := by
  obtain ⟨arr, h1, h2⟩ := h
  exact ⟨arr, k.trans h1, h2⟩
theorem DomAt.put {w : World} {D a b : Nat} {F F' : Nat → Nat → Bool} {v : Bool} (h : DomAt w D F) (ha : a < 10) (hb : b < 10) (h1 : F' a b = v) (h2 : ∀ x y, ¬ (x = a ∧ y = b) → F' x y = F x y) : DomAt (w.setCell ⟨D, a * 10 + b, none⟩ (.bool v)) D F' := by
  obtain ⟨arr, g1, g2, g3⟩ := h
  refine ⟨_, heap_set g1, by simpa using g2, fun x y hx hy => ?_⟩
  by_cases e : x = a ∧ y = b
  · obtain ⟨rfl, rfl⟩ := e
    rw [h1, Array.getElem?_setIfInBounds_self_of_lt (by omega)]
  · rw [Array.getElem?_setIfInBounds_ne (by omega), g3 x y hx hy, h2 x y e]
theorem infoD : (Try.prog.info? 65).map (·.size) = some 100 := by kernel_rfl
theorem heap_first (w : World) (o1 o2 : Obj) : ((w.alloc o1).alloc o2).heap[w.heap.size]? = some o1 := (Below.heap_alloc _ _ _ (by simp)).trans (heap_alloc_last _ _)
set_option maxRecDepth 100000 in
theorem hundred (i : Nat) (hi : i < 100) : (#[.bool false, .bool false, .bool false, .bool false, .bool false, .bool false, .bool false, .bool false, .bool false, .bool false, .bool false, .bool false, .bool false, .bool false, .bool false, .bool false, .bool false, .bool false, .bool false, .bool false, .bool false, .bool false, .bool false, .bool false, .bool false, .bool false, .bool false, .bool false, .bool false, .bool false, .bool false, .bool false, .bool false, .bool false, .bool false, .bool false, .bool false, .bool false, .bool false, .bool false, .bool false, .bool false, .bool false, .bool false, .bool false, .bool false, .bool false, .bool false, .bool false, .bool false, .bool false, .bool false, .bool false, .bool false, .bool false, .bool false, .bool false, .bool false, .bool false, .bool false, .bool false, .bool false, .bool false, .bool false, .bool false, .bool false, .bool false, .bool false, .bool false, .bool false, .bool false, .bool false, .bool false, .bool false, .bool false, .bool false, .bool false, .bool false, .bool false, .bool false, .bool false, .bool false, .bool false, .bool false, .bool false, .bool false, .bool false, .bool false, .bool false, .bool false, .bool false, .bool false, .bool false, .bool false, .bool false, .bool false, .bool false, .bool false, .bool false, .bool false] : Array Value)[i]? = some (.bool false) := by
  show (Array.replicate 100 (Value.bool false))[i]? = _
  simp [hi]
set_option maxRecDepth 100000 in
set_option maxHeartbeats 4000000 in
theorem domsI (N n : Nat) (S : Nat → List Nat) (w : World) (hG : Graph w N n S) (h1 : 0 < n) (hn : n ≤ 10) (hS : ∀ a, ∀ s ∈ S a, s < n) (hS2 : ∀ a, (S a).length ≤ 1000) :
    Calls Try.prog 47 #[.slice (some ⟨N, 0, none⟩) n n] w fun e w' => (∃ arr : Array Value, e = .returned (.agg arr) ∧ arr.size = 100 ∧ ∀ a b, a < 10 → b < 10 → arr[a * 10 + b]? = some (.bool (dm S n (post S none n) (post S none n).length 0 a b))) ∧ Below w.heap.size w w' := by
  have HG : Hid (Graph w N n S) := hG
  have HS : Hid (∀ a, ∀ s ∈ S a, s < n) := hS
  have HS2 : Hid (∀ a, (S a).length ≤ 1000) := hS2
  have hsz := hG.size
  clear hG hS hS2
  go_enter Try.func47, Try.ntmps47
  go_wp2_with (go_at_call 40; refine (toldI N n S none _ (HG.out.keep ((agree_alloc _ _ _).trans (agree_alloc _ _ _))) h1 hn HS.out HS2.out (by simp)).mono ?_; rintro e w1 ⟨u, c, rfl, hp, hb⟩; have HD : Hid (DomAt w1 (w.heap.size + 1) (fun _ _ => false)) := ⟨_, (hb.block _ (by simp)).trans (heap_two _ _ _), rfl, fun a b ha hb => hundred _ (by omega)⟩; have HR : Hid (DomAt w1 w.heap.size (fun _ _ => false)) := ⟨_, (hb.block _ (by simp; omega)).trans (heap_first _ _ _), rfl, fun a b ha hb => hundred _ (by omega)⟩; have HP : Hid (PtrsAt w1 (w.heap.size + 2) N u (post S none n)) := hp.low (by simp); have HB : Hid (Below w.heap.size w w1) := (((Below.refl _ _).alloc (Nat.le_refl _) _).alloc (by simp) _).trans (hb.mono (by simp; omega)); clear hp hb)
  have hpt := post_told S none n h1 HS.out
  have HT : Hid (Told S none n (post S none n)) := hpt
  have hlen : (post S none n).length ≤ 1000 := by
    have h := dfs_count S none n HS.out (n + 1) 0 ([], []) 0 h1 (by show 0 + un n [] + 0 ≤ n; rw [un_nil]; omega)
    show (dfs S none (n + 1) 0 ([], [])).2.length ≤ 1000
    omega
  have HLA : Hid (∀ a, a < n → (post S (some a) n).length ≤ 1000) := fun a _ => by
    have h := dfs_count S (some a) n HS.out (n + 1) 0 ([], []) 0 h1 (by show 0 + un n [] + 0 ≤ n; rw [un_nil]; omega)
    show (dfs S (some a) (n + 1) 0 ([], [])).2.length ≤ 1000
    omega
  clear hpt
  generalize hl0 : post S none n = l at HP HT hlen ⊢
  have HL0 : Hid (post S none n = l) := hl0
  clear hl0
  go_loopw [14] (fun i wr => ∃ k : Nat, k ≤ l.length ∧ i = .int .i64 k ∧ DomAt wr (w.heap.size + 1) (dm S n l k 0) ∧ DomAt wr w.heap.size (fun _ _ => false) ∧ PtrsAt wr (w.heap.size + 2) N u l ∧ Below w.heap.size w wr ∧ w.heap.size + 2 ≤ wr.heap.size) (fun i _ => l.length - (intOf i).toNat)
  case atStart =>
    refine ⟨0, by omega, rfl, ?_, HR.out, HP.out, HB.out, ?_⟩
    · have e : dm S n l 0 0 = fun _ _ => false := by funext a b; exact dm_start S n l a b
      rw [e]; exact HD.out
    · obtain ⟨_, h, _⟩ := HD.out
      have := (Array.getElem?_eq_some_iff.1 h).1
      omega
  case round =>
    obtain ⟨k, hk, rfl, hD, hR, hP, hB, hz⟩ := hrel
    clear HD HR HP HB
    have HD : Hid (DomAt wr (w.heap.size + 1) (dm S n l k 0)) := hD
    have HR : Hid (DomAt wr w.heap.size (fun _ _ => false)) := hR
    have HP : Hid (PtrsAt wr (w.heap.size + 2) N u l) := hP
    have HB : Hid (Below w.heap.size w wr) := hB
    by_cases hlt : k < l.length
    · rcases hP with hn0 | ⟨g, rfl, hg1, hg2, hgc⟩
      · simp [hn0] at hlt
      have e1 : wr.cell? ⟨g, k, none⟩ = some (.pointer (some ⟨N + 1 + l.getD k 0, 0, none⟩)) := hgc k hlt
      have HA : Hid (l.getD k 0 < n) := HT.out.low _ (getD_mem 0 l k hlt)
      generalize hae : l.getD k 0 = a at e1 HA
      have HAE : Hid (l.getD k 0 = a) := hae
      clear hgc hD hR hB hae
      go_wp2_with (go_at_call 40; refine (toldI N n S (some a) _ (HG.out.keep (agree_of_below HB.out _)) h1 hn HS.out HS2.out (fun x hx => by cases hx; exact HA.out)).mono ?_; rintro e w3 ⟨u3, c3, rfl, hp3, hb3⟩; have HP3 : Hid (PtrsAt w3 (w.heap.size + 2) N u3 (post S (some a) n)) := hp3.low hz; have HB3 : Hid (Below w.heap.size w w3) := HB.out.trans (hb3.mono (by omega)); have HD3 : Hid (DomAt w3 (w.heap.size + 1) (dm S n l k 0)) := HD.out.keep (hb3.block _ (by omega)); have HR3 : Hid (DomAt w3 w.heap.size (fun _ _ => false)) := HR.out.keep (hb3.block _ (by omega)); have HL3 : Hid (PtrsAt w3 (w.heap.size + 2) N (some ⟨g, 0, none⟩) l) := HP.out.keep (agree_of_below hb3 _); have hz3 : w.heap.size + 2 ≤ w3.heap.size := (by have := hb3.size; omega); clear hp3 hb3)
      have hla := HLA.out a HA.out
      have HT2 : Hid (Told S (some a) n (post S (some a) n)) := post_told S (some a) n h1 HS.out
      generalize hl2 : post S (some a) n = l2 at HP3 hla HT2 ⊢
      have HL2 : Hid (post S (some a) n = l2) := hl2
      clear hl2 HD HR HP HB
      go_loopw [23] (fun i wr => ∃ j : Nat, j ≤ l.length ∧ i = .int .i64 j ∧ DomAt wr (w.heap.size + 1) (dm S n l k j) ∧ DomAt wr w.heap.size (fun _ _ => false) ∧ PtrsAt wr (w.heap.size + 2) N (some ⟨g, 0, none⟩) l ∧ PtrsAt wr (w.heap.size + 2) N u3 l2 ∧ Below w.heap.size w wr ∧ w.heap.size + 2 ≤ wr.heap.size) (fun i _ => l.length - (intOf i).toNat)
      case atStart => exact ⟨0, by omega, rfl, HD3.out, HR3.out, HL3.out, HP3.out, HB3.out, hz3⟩
      case round =>
        obtain ⟨j, hj, rfl, hD, hR, hP, hP2, hB, hz⟩ := hrel
        clear HD3 HR3 HL3 HP3 HB3
        have HD : Hid (DomAt wr (w.heap.size + 1) (dm S n l k j)) := hD
        have HR : Hid (DomAt wr w.heap.size (fun _ _ => false)) := hR
        have HP : Hid (PtrsAt wr (w.heap.size + 2) N (some ⟨g, 0, none⟩) l) := hP
        have HP2 : Hid (PtrsAt wr (w.heap.size + 2) N u3 l2) := hP2
        have HB : Hid (Below w.heap.size w wr) := hB
        by_cases hjt : j < l.length
        · have e2 : wr.cell? ⟨g, j, none⟩ = some (.pointer (some ⟨N + 1 + l.getD j 0, 0, none⟩)) := by
            rcases hP with hn0 | ⟨g', q1, _, _, q2⟩
            · simp [hn0] at hjt
            · cases q1; exact q2 j hjt
          have HBb : Hid (l.getD j 0 < n) := HT.out.low _ (getD_mem 0 l j hjt)
          generalize hbe : l.getD j 0 = b at e2 HBb
          have HBE : Hid (l.getD j 0 = b) := hbe
          have hGr := HG.out.keep (agree_of_below hB N)
          obtain ⟨a1, c1, a2, c2, hna, _⟩ := hGr.node a HA.out
          obtain ⟨b1, d1, b2, d2, hnb, _⟩ := hGr.node b HBb.out
          have e3 : wr.cell? ⟨N + 1 + a, 0, none⟩ = some (.int .i64 a) := (cell_of_heap hna).trans rfl
          have e4 : wr.cell? ⟨N + 1 + b, 0, none⟩ = some (.int .i64 b) := (cell_of_heap hnb).trans rfl
          have HN : Hid (Nodes wr N n) := hGr.nodes
          obtain ⟨arr, ha1, ha2, ha3⟩ := hD
          have ha10 : a < 10 := Nat.lt_of_lt_of_le HA.out hn
          have hb10 : b < 10 := Nat.lt_of_lt_of_le HBb.out hn
          have e5 : wr.cell? ⟨w.heap.size + 1, a * 10 + b, none⟩ = some (.bool (dm S n l k j a b)) := (cell_of_heap ha1).trans (ha3 a b ha10 hb10)
          have f5 : wr.frozen? ⟨w.heap.size + 1, a * 10 + b, none⟩ = false := froz_of_heap ha1
          generalize dm S n l k j a b = old at e5
          have HL : Hid (∀ x ∈ l2, x < n) := HT2.out.low
          clear hGr hna hnb ha1 ha2 ha3 hbe hR hP hP2 hB
          go_wp2_with fail
          go_region_with (first | (go_at_call 72; refine (containsI (w.heap.size + 2) N n u3 c3 l2 b _ (by exact HP2.out) (by exact HN.out) HL.out HBb.out hla).mono ?_; rintro e w4 ⟨rfl, rfl⟩))
          all_goals
            go_wp2_with fail
            go_roundw
            case rel =>
              have q1 : dm S n l k (j + 1) a b = !decide (b ∈ l2) := by
                have h := dm_same S n l k j hlt hjt
                rw [HAE.out, HBE.out, HL2.out] at h; exact h
              have q2 : ∀ x y, ¬ (x = a ∧ y = b) → dm S n l k (j + 1) x y = dm S n l k j x y := fun x y h => dm_other S n l k j x y hjt (by rw [HAE.out, HBE.out]; exact h)
              have q3 := HD.out.put ha10 hb10 q1 q2
              refine ⟨j + 1, by omega, by go_num, by exact q3, HR.out.keep (heap_other (by show w.heap.size ≠ w.heap.size + 1; omega) rfl), HP.out.keep (by exact agree_setCell _ _ _ _ _ (by omega)), HP2.out.keep (by exact agree_setCell _ _ _ _ _ (by omega)), ?_, by simp [World.setCell]; exact hz⟩
              first | exact HB.out.setCell (by show w.heap.size ≤ w.heap.size + 1; omega) _ | exact HB.out.drew.setCell (by show w.heap.size ≤ w.heap.size + 1; omega) _
            case measure => simp [intOf]; omega
        · have hje : j = l.length := by omega
          subst hje
          clear hD hR hP hP2 hB
          go_wp2_with fail
          go_roundw
          case rel =>
            have e : dm S n l k l.length = dm S n l (k + 1) 0 := by funext x y; exact dm_next S n l k x y hlt
            exact ⟨k + 1, by omega, by go_num, e ▸ HD.out, HR.out, HP.out, HB.out, hz⟩
          case measure => simp [intOf]; omega
    · have hke : k = l.length := by omega
      subst hke
      obtain ⟨arr, ha1, ha2, ha3⟩ := HD.out
      obtain ⟨old, ho1, ho2, ho3⟩ := HR.out
      clear hD hR hP hB
      have HA1 : Hid (wr.heap[w.heap.size + 1]? = some (.cells arr 65 (0, 0))) := ha1
      have HO1 : Hid (wr.heap[w.heap.size]? = some (.cells old 65 (0, 0))) := ho1
      have HA3 : Hid (∀ a b, a < 10 → b < 10 → arr[a * 10 + b]? = some (.bool (dm S n l l.length 0 a b))) := ha3
      have hall : arr.all (·.oneCell') = true := by
        rw [Array.all_eq_true]
        intro i hi
        have h := ha3 (i / 10) (i % 10) (by omega) (by omega)
        have e : i / 10 * 10 + i % 10 = i := by omega
        rw [e, Array.getElem?_eq_getElem hi] at h
        simp at h; rw [h]; rfl
      have HALL : Hid (arr.all (·.oneCell') = true) := hall
      clear ha1 ho1 ha3 ho3 hall
      go_wp2_with (first | (refine wpList_load_row rfl 65 _ rfl (w.heap.size + 1) rfl 65 arr (0, 0) _ HA1.out Try.underlying65 rfl (by rw [infoD, ha2]) ?_) | (refine wpList_store_row rfl 65 _ _ rfl w.heap.size arr rfl rfl 65 old HO1.out (by rw [infoD, ha2]) (by omega) HALL.out ?_))
      have hr := setRow_heap wr w.heap.size old arr 65 (0, 0) HO1.out
      refine bodyPost_ret (v := .agg arr) ((results_cell_row Try.results47 _ _ w.heap.size 65 arr (0, 0) _ rfl hr Try.underlying65 rfl (by rw [infoD, ha2])).trans (by rfl)) rfl ?_
      refine ⟨⟨arr, rfl, ha2, by rw [HL0.out]; exact HA3.out⟩, ?_⟩
      refine HB.out.trans ⟨rfl, rfl, rfl, by simp, fun b hb => setRow_other _ _ _ _ (by omega)⟩
end Go.Proofs.Ytilhmpilkhadfaa
