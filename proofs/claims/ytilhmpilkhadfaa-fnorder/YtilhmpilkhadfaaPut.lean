/- A number put where it rises: the contract of the model's l1Put; l1Copy with what it owns. -/
import Derived.Test.YtilhmpilkhadfaaOwn
import Derived.Test.YtilhmpilkhadfaaGrb
namespace Go.Proofs.Ytilhmpilkhadfaa
open Go.RowKit

def ins : List Int → Int → List Int
  | [], n => [n]
  | x :: r, n => if x < n then x :: ins r n else if x = n then x :: r else n :: x :: r
theorem ins_at (n : Int) : ∀ (l : List Int) (k : Nat), k ≤ l.length → (∀ j, j < k → l.getD j 0 < n) → ins l n = l.take k ++ ins (l.drop k) n := by
  intro l
  induction l with
  | nil => intro k hk _; have : k = 0 := by simpa using hk
           subst this; rfl
  | cons x r ih =>
    intro k hk h
    cases k with
    | zero => rfl
    | succ k =>
      have h0 := h 0 (by omega)
      simp [List.getD] at h0
      have := ih k (by simpa using hk) (fun j hj => by have := h (j + 1) (by omega); simpa [List.getD] using this)
      rw [ins, if_pos h0, this]; rfl
theorem ins_same {l : List Int} {n : Int} {k : Nat} (hk : k < l.length) (h : ∀ j, j < k → l.getD j 0 < n) (he : l.getD k 0 = n) : ins l n = l := by
  rw [ins_at n l k (by omega) h, drop_get 0 l k hk, he, ins, if_neg (by omega), if_pos rfl, ← he, ← drop_get 0 l k hk, List.take_append_drop]
theorem ins_new {l : List Int} {n : Int} {k : Nat} (hk : k ≤ l.length) (h : ∀ j, j < k → l.getD j 0 < n) (he : k < l.length → n < l.getD k 0) : ins l n = l.take k ++ n :: l.drop k := by
  rw [ins_at n l k hk h]
  by_cases hk' : k < l.length
  · have := he hk'
    rw [drop_get 0 l k hk', ins, if_neg (by omega), if_neg (by omega)]
  · rw [List.drop_eq_nil_of_le (by omega)]; rfl
theorem ins_len (l : List Int) (n : Int) : (ins l n).length ≤ l.length + 1 := by
  induction l with
  | nil => simp [ins]
  | cons x r ih =>
    unfold ins
    split
    · simp; exact ih
    · split <;> simp
theorem ints_cells {w : World} {lo b off : Nat} {l : List Int} (h : IntsAt w lo (some ⟨b, off, none⟩) l) : ∀ i, i < l.length → w.cell? ⟨b, off + i, none⟩ = some (.int .i64 (l.getD i 0)) := by
  rcases h.2 with h | ⟨b', off', e, _, _, hc⟩
  · intro i hi; rw [h] at hi; simp at hi
  · cases e; exact hc
theorem map_cell {l : List Int} {j : Nat} {u : Value} (h : (l.map (Value.int .i64))[j]? = some u) : j < l.length ∧ u = .int .i64 (l.getD j 0) := by
  have hj : j < l.length := by have := (List.getElem?_eq_some_iff.1 h).1; simpa using this
  refine ⟨hj, ?_⟩
  simp [hj] at h
  rw [← h]; simp [List.getD, hj]
theorem src_cells {w w' : World} {lo b off : Nat} {l : List Int} (h : IntsAt w lo (some ⟨b, off, none⟩) l) (hk : ∀ g, g < w.heap.size → w'.heap[g]? = w.heap[g]?) (k m : Nat) : ∀ j u, (((l.drop k).take m).map (Value.int .i64))[j]? = some u → w'.cell? ((⟨b, off + k, none⟩ : Addr).add j) = some u := by
  intro j u hj
  rcases h.2 with h | ⟨b', off', e, _, hb, hc⟩
  · simp [h] at hj
  · cases e
    obtain ⟨h1, rfl⟩ := map_cell hj
    have h2 : k + j < l.length := by simp at h1; omega
    rw [Addr.add_lit, Nat.add_assoc, cell_block (hk b hb), hc _ h2]
    congr 2
    have h3 : j < m := by simp at h1; omega
    simp [List.getD, h3]
theorem ints_one (l : List Int) : ∀ u ∈ l.map (Value.int .i64), u.oneCell' = true := by
  intro u hu
  obtain ⟨x, _, rfl⟩ := List.mem_map.1 hu
  rfl
theorem own_fin {w : World} {base : Nat} {v : Value} {l : List Int} (hm : l.length ≤ 1048576) (h0 : 0 < l.length) (h : w.ownsRow base 2 1 v l.length (l.map (Value.int .i64))) : ∃ g c, v = .slice (some ⟨g, 0, none⟩) l.length c ∧ l.length ≤ c ∧ base ≤ g ∧ IntsAt w base (some ⟨g, 0, none⟩) l := by
  obtain ⟨u, c, hv, ho⟩ := own_of_row hm h
  rcases h.2 with ⟨_, h2⟩ | ⟨g, cap, cur, hv2, hbg, _, hc, _⟩
  · omega
  · rw [hv] at hv2
    cases hv2
    exact ⟨g, c, hv, hc, hbg, ho.ints⟩
theorem take_drop_all (l : List Int) (k : Nat) : (l.drop k).take (l.length - k) = l.drop k := List.take_of_length_le (by simp)
set_option maxRecDepth 100000 in
set_option maxHeartbeats 2000000 in
theorem putS (lo : Nat) (a : Option Addr) (cap : Nat) (l : List Int) (n : Int) (w : World) (hlo : lo ≤ w.heap.size) (hl : l.length ≤ 1000) (hcap : l.length ≤ cap) (hv : IntsAt w lo a l) (ha : ∃ b off, a = some ⟨b, off, none⟩) :
    Calls Try.prog 70 #[.slice a l.length cap, .int .i64 n] w fun e w' => (∃ b off c, e = .returned (.slice (some ⟨b, off, none⟩) (ins l n).length c) ∧ (ins l n).length ≤ c ∧ ((a = some ⟨b, off, none⟩ ∧ 0 < l.length) ∨ w.heap.size ≤ b) ∧ IntsAt w' lo (some ⟨b, off, none⟩) (ins l n)) ∧ Below w.heap.size w w' := by
  obtain ⟨b, off, rfl⟩ := ha
  have hc := ints_cells hv
  obtain ⟨i0, hi, hz0, hz1, hz2⟩ := info_parts infoI
  have HI : Hid (Try.prog.info? 2 = some i0) := hi
  have HZ0 : Hid (i0.zero = some (Value.int .i64 0)) := hz0
  have HZ1 : Hid (i0.size = 1) := hz1
  have HZ2 : Hid (i0.bytes = 8) := hz2
  have HV : Hid (IntsAt w lo (some ⟨b, off, none⟩) l) := hv
  have HC : Hid (∀ i, i < l.length → w.cell? ⟨b, off + i, none⟩ = some (.int .i64 (l.getD i 0))) := hc
  clear hi hz0 hz1 hz2 hv hc
  go_enter Try.func70, Try.ntmps70
  go_wp2_with fail
  go_loopw [5] (fun i wr => ∃ k : Nat, k ≤ l.length ∧ i = .int .i64 k ∧ (∀ j, j < k → l.getD j 0 < n) ∧ wr = w) (fun i _ => l.length - (intOf i).toNat)
  case atStart => exact ⟨0, by omega, rfl, fun j hj => by omega, rfl⟩
  case round =>
    obtain ⟨k, hk, rfl, hd, rfl⟩ := hrel
    have HD : Hid (∀ j, j < k → l.getD j 0 < n) := hd
    clear hd
    by_cases hgo : k < l.length ∧ l.getD k 0 < n
    · have e0 := HC.out k hgo.1
      have hg1 := hgo.1
      have hg2 := hgo.2
      generalize hxx : l.getD k 0 = x at e0 hg2
      have HX : Hid (l.getD k 0 = x) := hxx
      clear hxx hgo
      go_wp2_with fail
      go_roundw
      case rel =>
        refine ⟨k + 1, by omega, by go_num, fun j hj => ?_, by trivial⟩
        by_cases hjk : j = k
        · subst hjk; rw [HX.out]; exact hg2
        · exact HD.out j (by omega)
      case measure => simp [intOf]; omega
    · by_cases hlt : k < l.length
      · have e0 := HC.out k hlt
        have hge : n ≤ l.getD k 0 := by
          have : ¬ l.getD k 0 < n := fun h => hgo ⟨hlt, h⟩
          omega
        generalize hxx : l.getD k 0 = x at e0 hge
        have HX : Hid (l.getD k 0 = x) := hxx
        clear hxx hgo
        by_cases hxn : x = n
        · have HN : Hid (x = n) := hxn
          go_wp2_with fail
          go_ret
          rw [ins_same hlt HD.out (by rw [HX.out, HN.out])]
          exact ⟨⟨b, off, cap, rfl, hcap, .inl ⟨rfl, by omega⟩, HV.out⟩, Below.refl _ _⟩
        · go_wp2_with (first | (at_builtin; refine wpList_append_own _ rfl _ _ 24 rfl wr.heap.size 2 i0 (.int .i64 0) 1 8 Try.underlying24 HI.out HZ0.out HZ1.out HZ2.out rfl (by decide) (.slice (some ⟨wr.heap.size, 0, none⟩) 0 0) 0 [] rfl (World.ownsRow_lit wr #[] 0 (Nat.le_refl _) (by decide) (by simp)) ⟨b, off, none⟩ k cap ((l.take k).map (Value.int .i64)) rfl (by simp; omega) (by have h := src_cells HV.out (w' := wr.alloc (.cells #[] 2)) (fun g hg => Below.heap_alloc _ _ _ hg) 0 k; simpa using h) (by first | exact ints_one _ | simp [Value.oneCell']) (by unfold maxLen; omega) (by omega) (by simp) ?_; intro v1 w1 ho1 hg1 _; simp only [Nat.zero_add, List.nil_append] at ho1; obtain ⟨u1, k1, hu1⟩ := own_slice ho1; subst hu1; have HB1 : Hid (Below wr.heap.size wr w1) := ((Below.refl _ _).alloc (Nat.le_refl _) _).grown hg1 (by simp) (fun q hq => by have hq' : some wr.heap.size = some q := hq; simp at hq'; omega); have HO1 : Hid ((w1.alloc (.cells #[.int .i64 n] 2)).ownsRow wr.heap.size 2 1 (.slice u1 k k1) k ((l.take k).map (Value.int .i64))) := ownsRow_block ho1 (fun _ _ hg => Below.heap_alloc _ _ _ hg); have HG1 : Hid (∀ q, (Value.slice u1 k k1).ownBlock = some q → wr.heap.size ≤ q) := (fun q hq => (own_ge ho1 hq).1); have hz1 : wr.heap.size ≤ w1.heap.size := HB1.out.size; clear ho1 hg1) | (at_builtin; refine wpList_append_own _ rfl _ _ 24 rfl wr.heap.size 2 i0 (.int .i64 0) 1 8 Try.underlying24 HI.out HZ0.out HZ1.out HZ2.out rfl (by decide) (.slice u1 k k1) k ((l.take k).map (Value.int .i64)) rfl (by exact HO1.out) ⟨w1.heap.size, 0, none⟩ 1 1 [.int .i64 n] rfl (by simp) (by exact lit_cell) (by first | exact ints_one _ | simp [Value.oneCell']) (by unfold maxLen; omega) (by omega) (by simp; omega) ?_; intro v2 w2 ho2 hg2 _; obtain ⟨u2, k2, hu2⟩ := own_slice ho2; subst hu2; have HB2 : Hid (Below wr.heap.size wr w2) := (HB1.out.alloc HB1.out.size _).grown hg2 (by simp; omega) HG1.out; have HO2 : Hid (w2.ownsRow wr.heap.size 2 1 (.slice u2 (k + 1) k2) (k + 1) ((l.take k).map (Value.int .i64) ++ [.int .i64 n])) := ho2; have HG2 : Hid (∀ q, (Value.slice u2 (k + 1) k2).ownBlock = some q → wr.heap.size ≤ q) := (fun q hq => (own_ge ho2 hq).1); have hz2 : wr.heap.size ≤ w2.heap.size := HB2.out.size; clear ho2 hg2) | (at_builtin; refine wpList_append_own _ rfl _ _ 24 rfl wr.heap.size 2 i0 (.int .i64 0) 1 8 Try.underlying24 HI.out HZ0.out HZ1.out HZ2.out rfl (by decide) (.slice u2 (k + 1) k2) (k + 1) ((l.take k).map (Value.int .i64) ++ [.int .i64 n]) rfl (by exact HO2.out) ⟨b, off + k, none⟩ (l.length - k) (cap - k) ((l.drop k).map (Value.int .i64)) rfl (by simp) (by have h := src_cells HV.out (w' := w2) HB2.out.block k (l.length - k); rw [take_drop_all] at h; exact h) (by first | exact ints_one _ | simp [Value.oneCell']) (by unfold maxLen; omega) (by omega) (by exact hz2) ?_; intro v3 w3 ho3 hg3 _; have HB3 : Hid (Below wr.heap.size wr w3) := HB2.out.grown hg3 HB2.out.size HG2.out; have HO3 : Hid _ := ho3; clear ho3 hg3))
          have hins := ins_new (n := n) (k := k) hk HD.out (fun _ => by rw [HX.out]; omega)
          have h3 := HO3.out
          have he : (l.take k).map (Value.int .i64) ++ [.int .i64 n] ++ (l.drop k).map (Value.int .i64) = (ins l n).map (Value.int .i64) := by rw [hins]; simp
          have hle : k + 1 + (l.length - k) = (ins l n).length := by rw [hins]; simp; omega
          rw [he, hle] at h3
          obtain ⟨g, c, rfl, hgc, hgl, hin⟩ := own_fin (by omega) (by omega) h3
          go_ret
          exact ⟨⟨g, 0, c, rfl, hgc, .inr hgl, hin.low hlo⟩, HB3.out⟩
      · have HKE : Hid (k = l.length) := (by show _ = _; omega)
        clear hgo
        by_cases hck : k < cap
        · go_wp2_with (first | (at_builtin; refine wpList_append_own _ rfl _ _ 24 rfl wr.heap.size 2 i0 (.int .i64 0) 1 8 Try.underlying24 HI.out HZ0.out HZ1.out HZ2.out rfl (by decide) (.slice (some ⟨wr.heap.size, 0, none⟩) 0 0) 0 [] rfl (World.ownsRow_lit wr #[] 0 (Nat.le_refl _) (by decide) (by simp)) ⟨b, off, none⟩ k cap ((l.take k).map (Value.int .i64)) rfl (by simp; omega) (by have h := src_cells HV.out (w' := wr.alloc (.cells #[] 2)) (fun g hg => Below.heap_alloc _ _ _ hg) 0 k; simpa using h) (by first | exact ints_one _ | simp [Value.oneCell']) (by unfold maxLen; omega) (by omega) (by simp) ?_; intro v1 w1 ho1 hg1 _; simp only [Nat.zero_add, List.nil_append] at ho1; obtain ⟨u1, k1, hu1⟩ := own_slice ho1; subst hu1; have HB1 : Hid (Below wr.heap.size wr w1) := ((Below.refl _ _).alloc (Nat.le_refl _) _).grown hg1 (by simp) (fun q hq => by have hq' : some wr.heap.size = some q := hq; simp at hq'; omega); have HO1 : Hid ((w1.alloc (.cells #[.int .i64 n] 2)).ownsRow wr.heap.size 2 1 (.slice u1 k k1) k ((l.take k).map (Value.int .i64))) := ownsRow_block ho1 (fun _ _ hg => Below.heap_alloc _ _ _ hg); have HG1 : Hid (∀ q, (Value.slice u1 k k1).ownBlock = some q → wr.heap.size ≤ q) := (fun q hq => (own_ge ho1 hq).1); have hz1 : wr.heap.size ≤ w1.heap.size := HB1.out.size; clear ho1 hg1) | (at_builtin; refine wpList_append_own _ rfl _ _ 24 rfl wr.heap.size 2 i0 (.int .i64 0) 1 8 Try.underlying24 HI.out HZ0.out HZ1.out HZ2.out rfl (by decide) (.slice u1 k k1) k ((l.take k).map (Value.int .i64)) rfl (by exact HO1.out) ⟨w1.heap.size, 0, none⟩ 1 1 [.int .i64 n] rfl (by simp) (by exact lit_cell) (by first | exact ints_one _ | simp [Value.oneCell']) (by unfold maxLen; omega) (by omega) (by simp; omega) ?_; intro v2 w2 ho2 hg2 _; obtain ⟨u2, k2, hu2⟩ := own_slice ho2; subst hu2; have HB2 : Hid (Below wr.heap.size wr w2) := (HB1.out.alloc HB1.out.size _).grown hg2 (by simp; omega) HG1.out; have HO2 : Hid (w2.ownsRow wr.heap.size 2 1 (.slice u2 (k + 1) k2) (k + 1) ((l.take k).map (Value.int .i64) ++ [.int .i64 n])) := ho2; have HG2 : Hid (∀ q, (Value.slice u2 (k + 1) k2).ownBlock = some q → wr.heap.size ≤ q) := (fun q hq => (own_ge ho2 hq).1); have hz2 : wr.heap.size ≤ w2.heap.size := HB2.out.size; clear ho2 hg2) | (at_builtin; refine wpList_append_own _ rfl _ _ 24 rfl wr.heap.size 2 i0 (.int .i64 0) 1 8 Try.underlying24 HI.out HZ0.out HZ1.out HZ2.out rfl (by decide) (.slice u2 (k + 1) k2) (k + 1) ((l.take k).map (Value.int .i64) ++ [.int .i64 n]) rfl (by exact HO2.out) ⟨b, off + k, none⟩ (l.length - k) (cap - k) ((l.drop k).map (Value.int .i64)) rfl (by simp) (by have h := src_cells HV.out (w' := w2) HB2.out.block k (l.length - k); rw [take_drop_all] at h; exact h) (by first | exact ints_one _ | simp [Value.oneCell']) (by unfold maxLen; omega) (by omega) (by exact hz2) ?_; intro v3 w3 ho3 hg3 _; have HB3 : Hid (Below wr.heap.size wr w3) := HB2.out.grown hg3 HB2.out.size HG2.out; have HO3 : Hid _ := ho3; clear ho3 hg3))
          have hke := HKE.out
          have hins := ins_new (n := n) (k := k) hk HD.out (fun h => by omega)
          have h3 := HO3.out
          have he : (l.take k).map (Value.int .i64) ++ [.int .i64 n] ++ (l.drop k).map (Value.int .i64) = (ins l n).map (Value.int .i64) := by rw [hins]; simp
          have hle : k + 1 + (l.length - k) = (ins l n).length := by rw [hins]; simp; omega
          rw [he, hle] at h3
          obtain ⟨g, c, rfl, hgc, hgl, hin⟩ := own_fin (by omega) (by omega) h3
          go_ret
          exact ⟨⟨g, 0, c, rfl, hgc, .inr hgl, hin.low hlo⟩, HB3.out⟩
        · go_wp2_with (first | (at_builtin; refine wpList_append_own _ rfl _ _ 24 rfl wr.heap.size 2 i0 (.int .i64 0) 1 8 Try.underlying24 HI.out HZ0.out HZ1.out HZ2.out rfl (by decide) (.slice (some ⟨wr.heap.size, 0, none⟩) 0 0) 0 [] rfl (World.ownsRow_lit wr #[] 0 (Nat.le_refl _) (by decide) (by simp)) ⟨b, off, none⟩ k cap ((l.take k).map (Value.int .i64)) rfl (by simp; omega) (by have h := src_cells HV.out (w' := wr.alloc (.cells #[] 2)) (fun g hg => Below.heap_alloc _ _ _ hg) 0 k; simpa using h) (by first | exact ints_one _ | simp [Value.oneCell']) (by unfold maxLen; omega) (by omega) (by simp) ?_; intro v1 w1 ho1 hg1 _; simp only [Nat.zero_add, List.nil_append] at ho1; obtain ⟨u1, k1, hu1⟩ := own_slice ho1; subst hu1; have HB1 : Hid (Below wr.heap.size wr w1) := ((Below.refl _ _).alloc (Nat.le_refl _) _).grown hg1 (by simp) (fun q hq => by have hq' : some wr.heap.size = some q := hq; simp at hq'; omega); have HO1 : Hid ((w1.alloc (.cells #[.int .i64 n] 2)).ownsRow wr.heap.size 2 1 (.slice u1 k k1) k ((l.take k).map (Value.int .i64))) := ownsRow_block ho1 (fun _ _ hg => Below.heap_alloc _ _ _ hg); have HG1 : Hid (∀ q, (Value.slice u1 k k1).ownBlock = some q → wr.heap.size ≤ q) := (fun q hq => (own_ge ho1 hq).1); have hz1 : wr.heap.size ≤ w1.heap.size := HB1.out.size; clear ho1 hg1) | (at_builtin; refine wpList_append_own _ rfl _ _ 24 rfl wr.heap.size 2 i0 (.int .i64 0) 1 8 Try.underlying24 HI.out HZ0.out HZ1.out HZ2.out rfl (by decide) (.slice u1 k k1) k ((l.take k).map (Value.int .i64)) rfl (by exact HO1.out) ⟨w1.heap.size, 0, none⟩ 1 1 [.int .i64 n] rfl (by simp) (by exact lit_cell) (by first | exact ints_one _ | simp [Value.oneCell']) (by unfold maxLen; omega) (by omega) (by simp; omega) ?_; intro v2 w2 ho2 hg2 _; obtain ⟨u2, k2, hu2⟩ := own_slice ho2; subst hu2; have HB2 : Hid (Below wr.heap.size wr w2) := (HB1.out.alloc HB1.out.size _).grown hg2 (by simp; omega) HG1.out; have HO2 : Hid (w2.ownsRow wr.heap.size 2 1 (.slice u2 (k + 1) k2) (k + 1) ((l.take k).map (Value.int .i64) ++ [.int .i64 n])) := ho2; have HG2 : Hid (∀ q, (Value.slice u2 (k + 1) k2).ownBlock = some q → wr.heap.size ≤ q) := (fun q hq => (own_ge ho2 hq).1); have hz2 : wr.heap.size ≤ w2.heap.size := HB2.out.size; clear ho2 hg2) | (at_builtin; refine wpList_append_own _ rfl _ _ 24 rfl wr.heap.size 2 i0 (.int .i64 0) 1 8 Try.underlying24 HI.out HZ0.out HZ1.out HZ2.out rfl (by decide) (.slice u2 (k + 1) k2) (k + 1) ((l.take k).map (Value.int .i64) ++ [.int .i64 n]) rfl (by exact HO2.out) _ (l.length - k) _ [] rfl (by simp; omega) (by simp) (by simp) (by unfold maxLen; omega) (by omega) (by exact hz2) ?_; intro v3 w3 ho3 hg3 _; have HB3 : Hid (Below wr.heap.size wr w3) := HB2.out.grown hg3 HB2.out.size HG2.out; have HO3 : Hid _ := ho3; clear ho3 hg3))
          have hke := HKE.out
          have hins := ins_new (n := n) (k := k) hk HD.out (fun h => by omega)
          have h3 := HO3.out
          have he : (l.take k).map (Value.int .i64) ++ [.int .i64 n] ++ [] = (ins l n).map (Value.int .i64) := by rw [hins, hke]; simp
          have hle : k + 1 + (l.length - k) = (ins l n).length := by rw [hins]; simp; omega
          rw [he, hle] at h3
          obtain ⟨g, c, rfl, hgc, hgl, hin⟩ := own_fin (by omega) (by omega) h3
          go_ret
          exact ⟨⟨g, 0, c, rfl, hgc, .inr hgl, hin.low hlo⟩, HB3.out⟩
set_option maxHeartbeats 1000000 in
theorem copyR (lo : Nat) (a : Option Addr) (cap : Nat) (l : List Int) (w : World) (hl : l.length ≤ 1048576) (hv : IntsAt w lo a l) (ha : a ≠ none) :
    Calls Try.prog 68 #[.slice a l.length cap] w fun e w' => ∃ v, e = .returned v ∧ w'.ownsRow w.heap.size 2 1 v l.length (l.map (Value.int .i64)) ∧ Below w.heap.size w w' := by
  obtain ⟨i0, hi, hz0, hz1, hz2⟩ := info_parts infoI
  rcases a with _ | ad
  · exact absurd rfl ha
  · have hcell : ∀ j u, (l.map (Value.int .i64))[j]? = some u → (w.alloc (.cells #[] 2)).cell? (ad.add j) = some u := by
      intro j u hj
      rcases hv.2 with h | ⟨b, off, h, _, hb, hc⟩
      · simp [h] at hj
      · simp at h
        subst h
        obtain ⟨hjl, rfl⟩ := map_cell hj
        rw [Addr.add_lit, cell_block (Below.heap_alloc w _ b hb), hc j hjl]
    go_enter Try.func68, Try.ntmps68
    go_wp2_with (at_builtin; refine wpList_append_own _ rfl _ _ 24 rfl w.heap.size 2 i0 (.int .i64 0) 1 8 Try.underlying24 hi hz0 hz1 hz2 rfl (by decide) _ 0 [] rfl (World.ownsRow_lit w #[] 0 (Nat.le_refl _) (by decide) (by simp)) ad l.length cap (l.map (Value.int .i64)) rfl (by simp) hcell (by simp [Value.oneCell']) (by unfold maxLen; omega) (by omega) (by simp) ?_; intro v' w1 hown hgrow _)
    simp only [Nat.zero_add, List.nil_append] at hown
    go_ret
    exact ⟨_, rfl, hown, ((Below.refl _ _).alloc (Nat.le_refl _) _).grown hgrow (by simp) (fun k hk => by have hk' : some w.heap.size = some k := hk; simp at hk'; omega)⟩
end Go.Proofs.Ytilhmpilkhadfaa
