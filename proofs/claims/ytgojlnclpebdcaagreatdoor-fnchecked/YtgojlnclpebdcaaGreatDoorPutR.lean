import Derived.Test.YtgojlnclpebdcaaGreatDoorGrgR
import Derived.Test.YtgojlnclpebdcaaGreatDoorGraR
import Derived.Test.YtgojlnclpebdcaaGreatDoorTypR
import Derived.Test.YtgojlnclpebdcaaGreatDoorMemR
namespace Go.Proofs.YtgojlnclpebdcaaGreatDoor
open Go.RowKit
def ins : List Int → Int → List Int
 | [], n => [n]
 | x :: r, n => if x < n then x :: ins r n else if x = n then x :: r else n :: x :: r
theorem ins_at (n : Int) : ∀ (l : List Int) (k : Nat), k ≤ l.length → (∀ j, j < k → l.getD j 0 < n) → ins l n = l.take k ++ ins (l.drop k) n := by
 intro l
 induction l with
 | nil =>
  intro k hk _
  have : k = 0 := by simpa using hk
  subst this; rfl
 | cons x r ih =>
  intro k hk h
  cases k with
  | zero => rfl
  | succ k =>
   have h0 := h 0 (by omega)
   simp [List.getD] at h0
   have := ih k (by simpa using hk) (fun j hj => by have := h (j + 1) (by omega); simpa [List.getD] using this)
   rw [ins, if_pos h0, this]; rfl
theorem ins_same {l : List Int} {n : Int} {k : Nat} (hk : k < l.length) (h : ∀ j, j < k → l.getD j 0 < n) (he : l.getD k 0 = n) : ins l n = l := by
 rw [ins_at n l k (by omega) h, drop_get 0 l k hk, he, ins, if_neg (by omega), if_pos rfl, ← he, ← drop_get 0 l k hk, List.take_append_drop]
theorem ins_new {l : List Int} {n : Int} {k : Nat} (hk : k ≤ l.length) (h : ∀ j, j < k → l.getD j 0 < n) (he : k < l.length → n < l.getD k 0) : ins l n = l.take k ++ n :: l.drop k := by
 rw [ins_at n l k hk h]
 by_cases hk' : k < l.length
 ·have := he hk'
  rw [drop_get 0 l k hk', ins, if_neg (by omega), if_neg (by omega)]
 ·rw [List.drop_eq_nil_of_le (by omega)]; rfl
theorem ints_cells {w : World} {lo b off : Nat} {l : List Int} (h : IntsAt w lo (some ⟨b, off, none⟩) l) : ∀ i, i < l.length → w.cell? ⟨b, off + i, none⟩ = some (.int .i64 (l.getD i 0)) := by
 rcases h.2 with h | ⟨b', off', e, _, _, hc⟩
 ·intro i hi; rw [h] at hi; simp at hi
 ·cases e; exact hc
theorem map_cell {l : List Int} {j : Nat} {u : Value} (h : (l.map (Value.int .i64))[j]? = some u) : j < l.length ∧ u = .int .i64 (l.getD j 0) := by
 have hj : j < l.length := by have := (List.getElem?_eq_some_iff.1 h).1; simpa using this
 refine ⟨hj, ?_⟩
 simp [hj] at h
 rw [← h]; simp [List.getD, hj]
theorem src_cells {w w' : World} {lo b off : Nat} {l : List Int} (h : IntsAt w lo (some ⟨b, off, none⟩) l) (hk : ∀ g, g < w.heap.size → w'.heap[g]? = w.heap[g]?) (k m : Nat) : ∀ j u, (((l.drop k).take m).map (Value.int .i64))[j]? = some u → w'.cell? ((⟨b, off + k, none⟩ : Addr).add j) = some u := by
 intro j u hj
 rcases h.2 with h | ⟨b', off', e, _, hb, hc⟩
 ·simp [h] at hj
 ·cases e
  obtain ⟨h1, rfl⟩ := map_cell hj
  have h2 : k + j < l.length := by simp at h1; omega
  rw [Addr.add_lit, Nat.add_assoc, cell_block (hk b hb), hc _ h2]
  congr 2
  have h3 : j < m := by simp at h1; omega
  simp [List.getD, h3]
theorem ints_one (l : List Int) : ∀ u ∈ l.map (Value.int .i64), u.oneCell' = true := by
 intro u hu
 obtain ⟨x, _, rfl⟩ := List.mem_map.1 hu
 rfl
theorem own_fin {w : World} {base : Nat} {v : Value} {l : List Int} (hm : l.length ≤ 1048576) (h0 : 0 < l.length) (h : w.ownsRow base 2 1 v l.length (l.map (Value.int .i64))) : ∃ g c, v = .slice (some ⟨g, 0, none⟩) l.length c ∧ l.length ≤ c ∧ base ≤ g ∧ IntsAt w base (some ⟨g, 0, none⟩) l := by
 obtain ⟨u, c, hv, ho⟩ := own_of_row hm h
 rcases h.2 with ⟨_, h2⟩ | ⟨g, cap, cur, hv2, hbg, _, hc, _⟩
 ·omega
 ·rw [hv] at hv2
  cases hv2
  exact ⟨g, c, hv, hc, hbg, ho.ints⟩
theorem take_drop_all (l : List Int) (k : Nat) : (l.drop k).take (l.length - k) = l.drop k := List.take_of_length_le (by simp)
set_option maxRecDepth 100000 in
set_option maxHeartbeats 2000000 in
theorem putS (lo : Nat) (a : Option Addr) (cap : Nat) (l : List Int) (n : Int) (w : World) (hlo : lo ≤ w.heap.size) (hl : l.length ≤ 1000) (hcap : l.length ≤ cap) (hv : IntsAt w lo a l) (ha : ∃ b off, a = some ⟨b, off, none⟩) :
  Calls Tryz.prog 132 #[.slice a l.length cap, .int .i64 n] w fun e w' => (∃ b off c, e = .returned (.slice (some ⟨b, off, none⟩) (ins l n).length c) ∧ (ins l n).length ≤ c ∧ ((a = some ⟨b, off, none⟩ ∧ 0 < l.length) ∨ w.heap.size ≤ b) ∧ IntsAt w' lo (some ⟨b, off, none⟩) (ins l n)) ∧ Below w.heap.size w w' := by
 obtain ⟨b, off, rfl⟩ := ha
 have hc := ints_cells hv
 obtain ⟨i0, hi, hz0, hz1, hz2⟩ := info_parts infoI
 have HI : Hid (Tryz.prog.info? 2 = some i0) := hi
 have HZ0 : Hid (i0.zero = some (Value.int .i64 0)) := hz0
 have HZ1 : Hid (i0.size = 1) := hz1
 have HZ2 : Hid (i0.bytes = 8) := hz2
 have HV : Hid (IntsAt w lo (some ⟨b, off, none⟩) l) := hv
 have HC : Hid (∀ i, i < l.length → w.cell? ⟨b, off + i, none⟩ = some (.int .i64 (l.getD i 0))) := hc
 clear hi hz0 hz1 hz2 hv hc
 go_enter Tryz.func132, Tryz.ntmps132
 go_wp2_with fail
 go_loopw [5] (fun i wr => ∃ k : Nat, k ≤ l.length ∧ i = .int .i64 k ∧ (∀ j, j < k → l.getD j 0 < n) ∧ wr = w) (fun i _ => l.length - (intOf i).toNat)
 case atStart => exact ⟨0, by omega, rfl, fun j hj => by omega, rfl⟩
 case round =>
  obtain ⟨k, hk, rfl, hd, rfl⟩ := hrel
  have HD : Hid (∀ j, j < k → l.getD j 0 < n) := hd
  clear hd
  by_cases hgo : k < l.length ∧ l.getD k 0 < n
  ·have e0 := HC.out k hgo.1
   have hg1 := hgo.1
   have hg2 := hgo.2
   generalize hxx : l.getD k 0 = x at e0 hg2
   have HX : Hid (l.getD k 0 = x) := hxx
   clear hxx hgo
   go_wp2_with fail
   go_roundw
   case rel =>
    refine ⟨k + 1, by omega, by go_num, fun j hj => ?_, by trivial⟩
    by_cases hjk : j = k
    ·subst hjk; rw [HX.out]; exact hg2
    ·exact HD.out j (by omega)
   case measure => simp [intOf]; omega
  ·by_cases hlt : k < l.length
   ·have e0 := HC.out k hlt
    have hge : n ≤ l.getD k 0 := by
     have : ¬ l.getD k 0 < n := fun h => hgo ⟨hlt, h⟩
     omega
    generalize hxx : l.getD k 0 = x at e0 hge
    have HX : Hid (l.getD k 0 = x) := hxx
    clear hxx hgo
    by_cases hxn : x = n
    ·have HN : Hid (x = n) := hxn
     go_wp2_with fail
     go_ret
     rw [ins_same hlt HD.out (by rw [HX.out, HN.out])]
     exact ⟨⟨b, off, cap, rfl, hcap, .inl ⟨rfl, by omega⟩, HV.out⟩, Below.refl _ _⟩
    ·go_wp2_with (first | (at_builtin; refine wpList_append_own _ rfl _ _ 33 rfl wr.heap.size 2 i0 (.int .i64 0) 1 8 Tryz.underlying33 HI.out HZ0.out HZ1.out HZ2.out rfl (by decide) (.slice (some ⟨wr.heap.size, 0, none⟩) 0 0) 0 [] rfl (World.ownsRow_lit wr #[] 0 (Nat.le_refl _) (by decide) (by simp)) ⟨b, off, none⟩ k cap ((l.take k).map (Value.int .i64)) rfl (by simp; omega) (by have h := src_cells HV.out (w' := wr.alloc (.cells #[] 2)) (fun g hg => Below.heap_alloc _ _ _ hg) 0 k; simpa using h) (by first | exact ints_one _ | simp [Value.oneCell']) (by unfold maxLen; omega) (by omega) (by simp) ?_; intro v1 w1 ho1 hg1 _; simp only [Nat.zero_add, List.nil_append] at ho1; obtain ⟨u1, k1, hu1⟩ := own_slice ho1; subst hu1; have HB1 : Hid (Below wr.heap.size wr w1) := ((Below.refl _ _).alloc (Nat.le_refl _) _).grown hg1 (by simp) (fun q hq => by have hq' : some wr.heap.size = some q := hq; simp at hq'; omega); have HO1 : Hid ((w1.alloc (.cells #[.int .i64 n] 2)).ownsRow wr.heap.size 2 1 (.slice u1 k k1) k ((l.take k).map (Value.int .i64))) := ownsRow_block ho1 (fun _ _ hg => Below.heap_alloc _ _ _ hg); have HG1 : Hid (∀ q, (Value.slice u1 k k1).ownBlock = some q → wr.heap.size ≤ q) := (fun q hq => (own_ge ho1 hq).1); have hz1 : wr.heap.size ≤ w1.heap.size := HB1.out.size; clear ho1 hg1) | (at_builtin; refine wpList_append_own _ rfl _ _ 33 rfl wr.heap.size 2 i0 (.int .i64 0) 1 8 Tryz.underlying33 HI.out HZ0.out HZ1.out HZ2.out rfl (by decide) (.slice u1 k k1) k ((l.take k).map (Value.int .i64)) rfl (by exact HO1.out) ⟨w1.heap.size, 0, none⟩ 1 1 [.int .i64 n] rfl (by simp) (by exact lit_cell) (by first | exact ints_one _ | simp [Value.oneCell']) (by unfold maxLen; omega) (by omega) (by simp; omega) ?_; intro v2 w2 ho2 hg2 _; obtain ⟨u2, k2, hu2⟩ := own_slice ho2; subst hu2; have HB2 : Hid (Below wr.heap.size wr w2) := (HB1.out.alloc HB1.out.size _).grown hg2 (by simp; omega) HG1.out; have HO2 : Hid (w2.ownsRow wr.heap.size 2 1 (.slice u2 (k + 1) k2) (k + 1) ((l.take k).map (Value.int .i64) ++ [.int .i64 n])) := ho2; have HG2 : Hid (∀ q, (Value.slice u2 (k + 1) k2).ownBlock = some q → wr.heap.size ≤ q) := (fun q hq => (own_ge ho2 hq).1); have hz2 : wr.heap.size ≤ w2.heap.size := HB2.out.size; clear ho2 hg2) | (at_builtin; refine wpList_append_own _ rfl _ _ 33 rfl wr.heap.size 2 i0 (.int .i64 0) 1 8 Tryz.underlying33 HI.out HZ0.out HZ1.out HZ2.out rfl (by decide) (.slice u2 (k + 1) k2) (k + 1) ((l.take k).map (Value.int .i64) ++ [.int .i64 n]) rfl (by exact HO2.out) ⟨b, off + k, none⟩ (l.length - k) (cap - k) ((l.drop k).map (Value.int .i64)) rfl (by simp) (by have h := src_cells HV.out (w' := w2) HB2.out.block k (l.length - k); rw [take_drop_all] at h; exact h) (by first | exact ints_one _ | simp [Value.oneCell']) (by unfold maxLen; omega) (by omega) (by exact hz2) ?_; intro v3 w3 ho3 hg3 _; have HB3 : Hid (Below wr.heap.size wr w3) := HB2.out.grown hg3 HB2.out.size HG2.out; have HO3 : Hid _ := ho3; clear ho3 hg3))
     have hins := ins_new (n := n) (k := k) hk HD.out (fun _ => by rw [HX.out]; omega)
     have h3 := HO3.out
     have he : (l.take k).map (Value.int .i64) ++ [.int .i64 n] ++ (l.drop k).map (Value.int .i64) = (ins l n).map (Value.int .i64) := by rw [hins]; simp
     have hle : k + 1 + (l.length - k) = (ins l n).length := by rw [hins]; simp; omega
     rw [he, hle] at h3
     obtain ⟨g, c, rfl, hgc, hgl, hin⟩ := own_fin (by omega) (by omega) h3
     go_ret
     exact ⟨⟨g, 0, c, rfl, hgc, .inr hgl, hin.low hlo⟩, HB3.out⟩
   ·have HKE : Hid (k = l.length) := (by show _ = _; omega)
    clear hgo
    by_cases hck : k < cap
    ·go_wp2_with (first | (at_builtin; refine wpList_append_own _ rfl _ _ 33 rfl wr.heap.size 2 i0 (.int .i64 0) 1 8 Tryz.underlying33 HI.out HZ0.out HZ1.out HZ2.out rfl (by decide) (.slice (some ⟨wr.heap.size, 0, none⟩) 0 0) 0 [] rfl (World.ownsRow_lit wr #[] 0 (Nat.le_refl _) (by decide) (by simp)) ⟨b, off, none⟩ k cap ((l.take k).map (Value.int .i64)) rfl (by simp; omega) (by have h := src_cells HV.out (w' := wr.alloc (.cells #[] 2)) (fun g hg => Below.heap_alloc _ _ _ hg) 0 k; simpa using h) (by first | exact ints_one _ | simp [Value.oneCell']) (by unfold maxLen; omega) (by omega) (by simp) ?_; intro v1 w1 ho1 hg1 _; simp only [Nat.zero_add, List.nil_append] at ho1; obtain ⟨u1, k1, hu1⟩ := own_slice ho1; subst hu1; have HB1 : Hid (Below wr.heap.size wr w1) := ((Below.refl _ _).alloc (Nat.le_refl _) _).grown hg1 (by simp) (fun q hq => by have hq' : some wr.heap.size = some q := hq; simp at hq'; omega); have HO1 : Hid ((w1.alloc (.cells #[.int .i64 n] 2)).ownsRow wr.heap.size 2 1 (.slice u1 k k1) k ((l.take k).map (Value.int .i64))) := ownsRow_block ho1 (fun _ _ hg => Below.heap_alloc _ _ _ hg); have HG1 : Hid (∀ q, (Value.slice u1 k k1).ownBlock = some q → wr.heap.size ≤ q) := (fun q hq => (own_ge ho1 hq).1); have hz1 : wr.heap.size ≤ w1.heap.size := HB1.out.size; clear ho1 hg1) | (at_builtin; refine wpList_append_own _ rfl _ _ 33 rfl wr.heap.size 2 i0 (.int .i64 0) 1 8 Tryz.underlying33 HI.out HZ0.out HZ1.out HZ2.out rfl (by decide) (.slice u1 k k1) k ((l.take k).map (Value.int .i64)) rfl (by exact HO1.out) ⟨w1.heap.size, 0, none⟩ 1 1 [.int .i64 n] rfl (by simp) (by exact lit_cell) (by first | exact ints_one _ | simp [Value.oneCell']) (by unfold maxLen; omega) (by omega) (by simp; omega) ?_; intro v2 w2 ho2 hg2 _; obtain ⟨u2, k2, hu2⟩ := own_slice ho2; subst hu2; have HB2 : Hid (Below wr.heap.size wr w2) := (HB1.out.alloc HB1.out.size _).grown hg2 (by simp; omega) HG1.out; have HO2 : Hid (w2.ownsRow wr.heap.size 2 1 (.slice u2 (k + 1) k2) (k + 1) ((l.take k).map (Value.int .i64) ++ [.int .i64 n])) := ho2; have HG2 : Hid (∀ q, (Value.slice u2 (k + 1) k2).ownBlock = some q → wr.heap.size ≤ q) := (fun q hq => (own_ge ho2 hq).1); have hz2 : wr.heap.size ≤ w2.heap.size := HB2.out.size; clear ho2 hg2) | (at_builtin; refine wpList_append_own _ rfl _ _ 33 rfl wr.heap.size 2 i0 (.int .i64 0) 1 8 Tryz.underlying33 HI.out HZ0.out HZ1.out HZ2.out rfl (by decide) (.slice u2 (k + 1) k2) (k + 1) ((l.take k).map (Value.int .i64) ++ [.int .i64 n]) rfl (by exact HO2.out) ⟨b, off + k, none⟩ (l.length - k) (cap - k) ((l.drop k).map (Value.int .i64)) rfl (by simp) (by have h := src_cells HV.out (w' := w2) HB2.out.block k (l.length - k); rw [take_drop_all] at h; exact h) (by first | exact ints_one _ | simp [Value.oneCell']) (by unfold maxLen; omega) (by omega) (by exact hz2) ?_; intro v3 w3 ho3 hg3 _; have HB3 : Hid (Below wr.heap.size wr w3) := HB2.out.grown hg3 HB2.out.size HG2.out; have HO3 : Hid _ := ho3; clear ho3 hg3))
     have hke := HKE.out
     have hins := ins_new (n := n) (k := k) hk HD.out (fun h => by omega)
     have h3 := HO3.out
     have he : (l.take k).map (Value.int .i64) ++ [.int .i64 n] ++ (l.drop k).map (Value.int .i64) = (ins l n).map (Value.int .i64) := by rw [hins]; simp
     have hle : k + 1 + (l.length - k) = (ins l n).length := by rw [hins]; simp; omega
     rw [he, hle] at h3
     obtain ⟨g, c, rfl, hgc, hgl, hin⟩ := own_fin (by omega) (by omega) h3
     go_ret
     exact ⟨⟨g, 0, c, rfl, hgc, .inr hgl, hin.low hlo⟩, HB3.out⟩
    ·go_wp2_with (first | (at_builtin; refine wpList_append_own _ rfl _ _ 33 rfl wr.heap.size 2 i0 (.int .i64 0) 1 8 Tryz.underlying33 HI.out HZ0.out HZ1.out HZ2.out rfl (by decide) (.slice (some ⟨wr.heap.size, 0, none⟩) 0 0) 0 [] rfl (World.ownsRow_lit wr #[] 0 (Nat.le_refl _) (by decide) (by simp)) ⟨b, off, none⟩ k cap ((l.take k).map (Value.int .i64)) rfl (by simp; omega) (by have h := src_cells HV.out (w' := wr.alloc (.cells #[] 2)) (fun g hg => Below.heap_alloc _ _ _ hg) 0 k; simpa using h) (by first | exact ints_one _ | simp [Value.oneCell']) (by unfold maxLen; omega) (by omega) (by simp) ?_; intro v1 w1 ho1 hg1 _; simp only [Nat.zero_add, List.nil_append] at ho1; obtain ⟨u1, k1, hu1⟩ := own_slice ho1; subst hu1; have HB1 : Hid (Below wr.heap.size wr w1) := ((Below.refl _ _).alloc (Nat.le_refl _) _).grown hg1 (by simp) (fun q hq => by have hq' : some wr.heap.size = some q := hq; simp at hq'; omega); have HO1 : Hid ((w1.alloc (.cells #[.int .i64 n] 2)).ownsRow wr.heap.size 2 1 (.slice u1 k k1) k ((l.take k).map (Value.int .i64))) := ownsRow_block ho1 (fun _ _ hg => Below.heap_alloc _ _ _ hg); have HG1 : Hid (∀ q, (Value.slice u1 k k1).ownBlock = some q → wr.heap.size ≤ q) := (fun q hq => (own_ge ho1 hq).1); have hz1 : wr.heap.size ≤ w1.heap.size := HB1.out.size; clear ho1 hg1) | (at_builtin; refine wpList_append_own _ rfl _ _ 33 rfl wr.heap.size 2 i0 (.int .i64 0) 1 8 Tryz.underlying33 HI.out HZ0.out HZ1.out HZ2.out rfl (by decide) (.slice u1 k k1) k ((l.take k).map (Value.int .i64)) rfl (by exact HO1.out) ⟨w1.heap.size, 0, none⟩ 1 1 [.int .i64 n] rfl (by simp) (by exact lit_cell) (by first | exact ints_one _ | simp [Value.oneCell']) (by unfold maxLen; omega) (by omega) (by simp; omega) ?_; intro v2 w2 ho2 hg2 _; obtain ⟨u2, k2, hu2⟩ := own_slice ho2; subst hu2; have HB2 : Hid (Below wr.heap.size wr w2) := (HB1.out.alloc HB1.out.size _).grown hg2 (by simp; omega) HG1.out; have HO2 : Hid (w2.ownsRow wr.heap.size 2 1 (.slice u2 (k + 1) k2) (k + 1) ((l.take k).map (Value.int .i64) ++ [.int .i64 n])) := ho2; have HG2 : Hid (∀ q, (Value.slice u2 (k + 1) k2).ownBlock = some q → wr.heap.size ≤ q) := (fun q hq => (own_ge ho2 hq).1); have hz2 : wr.heap.size ≤ w2.heap.size := HB2.out.size; clear ho2 hg2) | (at_builtin; refine wpList_append_own _ rfl _ _ 33 rfl wr.heap.size 2 i0 (.int .i64 0) 1 8 Tryz.underlying33 HI.out HZ0.out HZ1.out HZ2.out rfl (by decide) (.slice u2 (k + 1) k2) (k + 1) ((l.take k).map (Value.int .i64) ++ [.int .i64 n]) rfl (by exact HO2.out) _ (l.length - k) _ [] rfl (by simp; omega) (by simp) (by simp) (by unfold maxLen; omega) (by omega) (by exact hz2) ?_; intro v3 w3 ho3 hg3 _; have HB3 : Hid (Below wr.heap.size wr w3) := HB2.out.grown hg3 HB2.out.size HG2.out; have HO3 : Hid _ := ho3; clear ho3 hg3))
     have hke := HKE.out
     have hins := ins_new (n := n) (k := k) hk HD.out (fun h => by omega)
     have h3 := HO3.out
     have he : (l.take k).map (Value.int .i64) ++ [.int .i64 n] ++ [] = (ins l n).map (Value.int .i64) := by rw [hins, hke]; simp
     have hle : k + 1 + (l.length - k) = (ins l n).length := by rw [hins]; simp; omega
     rw [he, hle] at h3
     obtain ⟨g, c, rfl, hgc, hgl, hin⟩ := own_fin (by omega) (by omega) h3
     go_ret
     exact ⟨⟨g, 0, c, rfl, hgc, .inr hgl, hin.low hlo⟩, HB3.out⟩
set_option maxHeartbeats 1000000 in
theorem copyR (lo : Nat) (a : Option Addr) (cap : Nat) (l : List Int) (w : World) (hl : l.length ≤ 1048576) (hv : IntsAt w lo a l) (ha : a ≠ none) :
  Calls Tryz.prog 131 #[.slice a l.length cap] w fun e w' => ∃ v, e = .returned v ∧ w'.ownsRow w.heap.size 2 1 v l.length (l.map (Value.int .i64)) ∧ Below w.heap.size w w' := by
 obtain ⟨i0, hi, hz0, hz1, hz2⟩ := info_parts infoI
 rcases a with _ | ad
 ·exact absurd rfl ha
 ·have hcell : ∀ j u, (l.map (Value.int .i64))[j]? = some u → (w.alloc (.cells #[] 2)).cell? (ad.add j) = some u := by
   intro j u hj
   rcases hv.2 with h | ⟨b, off, h, _, hb, hc⟩
   ·simp [h] at hj
   ·simp at h
    subst h
    obtain ⟨hjl, rfl⟩ := map_cell hj
    rw [Addr.add_lit, cell_block (Below.heap_alloc w _ b hb), hc j hjl]
  go_enter Tryz.func131, Tryz.ntmps131
  go_wp2_with (at_builtin; refine wpList_append_own _ rfl _ _ 33 rfl w.heap.size 2 i0 (.int .i64 0) 1 8 Tryz.underlying33 hi hz0 hz1 hz2 rfl (by decide) _ 0 [] rfl (World.ownsRow_lit w #[] 0 (Nat.le_refl _) (by decide) (by simp)) ad l.length cap (l.map (Value.int .i64)) rfl (by simp) hcell (by simp [Value.oneCell']) (by unfold maxLen; omega) (by omega) (by simp) ?_; intro v' w1 hown hgrow _)
  simp only [Nat.zero_add, List.nil_append] at hown
  go_ret
  exact ⟨_, rfl, hown, ((Below.refl _ _).alloc (Nat.le_refl _) _).grown hgrow (by simp) (fun k hk => by have hk' : some w.heap.size = some k := hk; simp at hk'; omega)⟩
end Go.Proofs.YtgojlnclpebdcaaGreatDoor
namespace Go.Proofs.YtgojlnclpebdcaaGreatDoor
open Go.RowKit
def insN : List Nat → Nat → List Nat
 | [], n => [n]
 | x :: r, n => if x < n then x :: insN r n else if x = n then x :: r else n :: x :: r
def ints (l : List Nat) : List Int := l.map (fun x : Nat => (x : Int))
theorem ints_len (l : List Nat) : (ints l).length = l.length := by simp [ints]
theorem mem_ints (l : List Nat) (x : Nat) : (x : Int) ∈ ints l ↔ x ∈ l := by
 unfold ints
 rw [List.mem_map]
 constructor
 ·rintro ⟨y, hy, e⟩
  have : y = x := by omega
  exact this ▸ hy
 ·intro h; exact ⟨x, h, rfl⟩
theorem ins_ints (l : List Nat) (n : Nat) : ins (ints l) n = ints (insN l n) := by
 induction l with
 | nil => rfl
 | cons x r ih =>
  show ins ((x : Int) :: ints r) n = _
  unfold ins insN
  by_cases h : x < n
  ·rw [if_pos (by omega), if_pos h, ih]; rfl
  ·rw [if_neg (by omega), if_neg h]
   by_cases h2 : x = n
   ·rw [if_pos (by omega), if_pos h2]; rfl
   ·rw [if_neg (by omega), if_neg h2]; rfl
theorem mem_insN (l : List Nat) (n x : Nat) : x ∈ insN l n ↔ x = n ∨ x ∈ l := by
 induction l with
 | nil => simp [insN]
 | cons y r ih =>
  unfold insN
  by_cases h : y < n
  ·rw [if_pos h, List.mem_cons, ih, List.mem_cons]
   constructor
   ·rintro (h | h | h) <;> simp [h]
   ·rintro (h | h | h) <;> simp [h]
  ·rw [if_neg h]
   by_cases h2 : y = n
   ·rw [if_pos h2, h2, List.mem_cons]
    constructor
    ·rintro (h | h) <;> simp [h]
    ·rintro (h | h | h) <;> simp [h]
   ·rw [if_neg h2, List.mem_cons]
theorem len_insN (l : List Nat) (n : Nat) (h : n ∉ l) : (insN l n).length = l.length + 1 := by
 induction l with
 | nil => rfl
 | cons y r ih =>
  simp at h
  have ih := ih h.2
  unfold insN
  split
  ·simp [ih]
  ·rw [if_neg (fun e => h.1 e.symm)]; simp
theorem rise_insN (l : List Nat) (n : Nat) (h : l.Pairwise (· < ·)) : (insN l n).Pairwise (· < ·) := by
 induction l with
 | nil => simp [insN]
 | cons y r ih =>
  rw [List.pairwise_cons] at h
  have ih := ih h.2
  unfold insN
  split
  ·rw [List.pairwise_cons]
   refine ⟨fun a ha => ?_, ih⟩
   rcases (mem_insN r n a).1 ha with rfl | ha
   ·assumption
   ·exact h.1 a ha
  ·split
   ·rw [List.pairwise_cons]; exact h
   ·rw [List.pairwise_cons]
    refine ⟨fun a ha => ?_, List.pairwise_cons.2 h⟩
    rcases List.mem_cons.1 ha with rfl | ha
    ·omega
    ·have := h.1 a ha; omega
structure Bfs (S : Nat → List Nat) (wo : Option Nat) (n : Nat) (W O : List Nat) : Prop where
 low : ∀ x ∈ W, x < n
 olow : ∀ x ∈ O, x < n
 snd : ∀ x ∈ O, Rch S wo x
 wsnd : ∀ x ∈ W, wo ≠ some x → Rch S wo x
 shut : ∀ a ∈ O, ∀ s ∈ S a, wo ≠ some s → s ∈ O ∨ s ∈ W
 first : wo ≠ some 0 → 0 ∈ O ∨ 0 ∈ W
 cnt : O.length + un n O ≤ n
 rise : O.Pairwise (· < ·)
theorem Bfs.start {S : Nat → List Nat} {wo : Option Nat} {n : Nat} (h : 0 < n) : Bfs S wo n [0] [] :=
 ⟨by simpa using h, by simp, by simp, fun x hx hw => by simp at hx; subst hx; exact Rch.zero hw, by simp, by simp, by simp [un_nil], by simp⟩
theorem Bfs.skip {S : Nat → List Nat} {wo : Option Nat} {n b : Nat} {W O : List Nat} (h : Bfs S wo n (b :: W) O) (hb : wo = some b ∨ b ∈ O) : Bfs S wo n W O := by
 refine ⟨fun x hx => h.low x (List.mem_cons_of_mem _ hx), h.olow, h.snd, fun x hx => h.wsnd x (List.mem_cons_of_mem _ hx), fun a ha s hs hw => ?_, fun hw => ?_, h.cnt, h.rise⟩
 ·rcases h.shut a ha s hs hw with h1 | h1
  ·exact .inl h1
  ·rcases List.mem_cons.1 h1 with rfl | h1
   ·exact .inl (hb.resolve_left hw)
   ·exact .inr h1
 ·rcases h.first hw with h1 | h1
  ·exact .inl h1
  ·rcases List.mem_cons.1 h1 with rfl | h1
   ·exact .inl (hb.resolve_left hw)
   ·exact .inr h1
theorem Bfs.go {S : Nat → List Nat} {wo : Option Nat} {n b : Nat} {W O : List Nat} (hS : ∀ a, ∀ s ∈ S a, s < n) (h : Bfs S wo n (b :: W) O) (hw : wo ≠ some b) (hb : b ∉ O) : Bfs S wo n (W ++ S b) (insN O b) := by
 have hr := h.wsnd b (List.mem_cons_self ..) hw
 refine ⟨fun x hx => ?_, fun x hx => ?_, fun x hx => ?_, fun x hx hx' => ?_, fun a ha s hs hs' => ?_, fun h0 => ?_, ?_, rise_insN O b h.rise⟩
 ·rcases List.mem_append.1 hx with hx | hx
  ·exact h.low x (List.mem_cons_of_mem _ hx)
  ·exact hS b x hx
 ·rcases (mem_insN O b x).1 hx with rfl | hx
  ·exact h.low x (List.mem_cons_self ..)
  ·exact h.olow x hx
 ·rcases (mem_insN O b x).1 hx with rfl | hx
  ·exact hr
  ·exact h.snd x hx
 ·rcases List.mem_append.1 hx with hx | hx
  ·exact h.wsnd x (List.mem_cons_of_mem _ hx) hx'
  ·exact hr.step hx hx'
 ·rcases (mem_insN O b a).1 ha with rfl | ha
  ·exact .inr (List.mem_append_right _ hs)
  ·rcases h.shut a ha s hs hs' with h1 | h1
   ·exact .inl ((mem_insN O b s).2 (.inr h1))
   ·rcases List.mem_cons.1 h1 with rfl | h1
    ·exact .inl ((mem_insN O s s).2 (.inl rfl))
    ·exact .inr (List.mem_append_left _ h1)
 ·rcases h.first h0 with h1 | h1
  ·exact .inl ((mem_insN O b 0).2 (.inr h1))
  ·rcases List.mem_cons.1 h1 with rfl | h1
   ·exact .inl ((mem_insN O 0 0).2 (.inl rfl))
   ·exact .inr (List.mem_append_left _ h1)
 ·have h1 := un_cons (h.low b (List.mem_cons_self ..)) hb
  have h2 : un n (insN O b) ≤ un n (b :: O) := un_mono fun x hx => (mem_insN O b x).2 (by simpa using hx)
  have h3 := h.cnt
  rw [len_insN O b hb]; omega
theorem Bfs.un_less {S : Nat → List Nat} {wo : Option Nat} {n b : Nat} {W O : List Nat} (h : Bfs S wo n (b :: W) O) (hb : b ∉ O) : un n (insN O b) < un n O := by
 have h1 := un_cons (h.low b (List.mem_cons_self ..)) hb
 have h2 : un n (insN O b) ≤ un n (b :: O) := un_mono fun x hx => (mem_insN O b x).2 (by simpa using hx)
 omega
theorem Bfs.done {S : Nat → List Nat} {wo : Option Nat} {n : Nat} {O : List Nat} (h : Bfs S wo n [] O) (x : Nat) : x ∈ O ↔ Rch S wo x := by
 refine ⟨h.snd x, fun hx => hx (fun x => x ∈ O) (fun h0 => ?_) fun a ha s hs hw => ?_⟩
 ·exact (h.first h0).resolve_right (by simp)
 ·exact (h.shut a ha s hs hw).resolve_right (by simp)
end Go.Proofs.YtgojlnclpebdcaaGreatDoor
namespace Go.Proofs.YtgojlnclpebdcaaGreatDoor
open Go.RowKit
set_option maxRecDepth 100000 in
set_option maxHeartbeats 4000000 in
theorem placesI (lo N n : Nat) (S : Nat → List Nat) (u : Option Addr) (c : Nat) (l : List Nat) (w : World) (hp : PtrsAt w lo N u l) (hG : Graph w N n S) (hl : ∀ x ∈ l, x < n) (hll : l.length ≤ 1000) :
  Calls Tryz.prog 37 #[.slice u l.length c] w fun e w' => ∃ v, e = .returned v ∧ w'.ownsRow w.heap.size 2 1 v l.length ((ints l).map (Value.int .i64)) ∧ Below w.heap.size w w' := by
 obtain ⟨i0, hi, hz0, hz1, hz2⟩ := info_parts infoI
 have HI : Hid (Tryz.prog.info? 2 = some i0) := hi
 have HZ0 : Hid (i0.zero = some (Value.int .i64 0)) := hz0
 have HZ1 : Hid (i0.size = 1) := hz1
 have HZ2 : Hid (i0.bytes = 8) := hz2
 have HG : Hid (Graph w N n S) := hG
 have HL : Hid (∀ x ∈ l, x < n) := hl
 have hsz := hG.size
 clear hi hz0 hz1 hz2 hG hl
 go_enter Tryz.func37, Tryz.ntmps37
 go_wp2_with fail
 go_loopw [3, 8] (fun v i wr => ∃ k : Nat, k ≤ l.length ∧ i = .int .i64 k ∧ wr.ownsRow w.heap.size 2 1 v k ((ints (l.take k)).map (Value.int .i64)) ∧ Below w.heap.size w wr) (fun _ i _ => l.length - (intOf i).toNat)
 case atStart => exact ⟨0, by omega, rfl, ⟨rfl, .inl ⟨rfl, rfl⟩⟩, Below.refl _ _⟩
 case round =>
  obtain ⟨k, hk, rfl, ho, hB⟩ := hrel
  obtain ⟨ta, tc, rfl⟩ := own_slice ho
  have HB : Hid (Below w.heap.size w wr) := hB
  by_cases hlt : k < l.length
  ·rcases hp with hn | ⟨g, rfl, _, hg2, hgc⟩
   ·simp [hn] at hlt
   have e1 : wr.cell? ⟨g, k, none⟩ = some (.pointer (some ⟨N + 1 + l.getD k 0, 0, none⟩)) := (cell_block (hB.block g hg2)).trans (hgc k hlt)
   have hx := HL.out _ (getD_mem 0 l k hlt)
   have HT : Hid ((ints (l.take (k + 1))).map (Value.int .i64) = (ints (l.take k)).map (Value.int .i64) ++ [.int .i64 ((l.getD k 0 : Nat) : Int)]) := (by
    show _ = _
    have e : l.getD k 0 = l[k] := by simp [List.getD, hlt]
    rw [List.take_succ_eq_append_getElem hlt, e]; unfold ints; rw [List.map_append, List.map_append]; rfl)
   generalize l.getD k 0 = x at e1 hx HT
   obtain ⟨a1, c1, a2, c2, hna, _⟩ := (HG.out.keep (agree_of_below hB N)).node x hx
   have e2 : wr.cell? ⟨N + 1 + x, 0, none⟩ = some (.int .i64 x) := (cell_of_heap hna).trans rfl
   have HO : Hid ((wr.alloc (.cells #[.int .i64 (x : Int)] 2)).ownsRow w.heap.size 2 1 (.slice ta k tc) k ((ints (l.take k)).map (Value.int .i64))) := ownsRow_block ho fun _ _ h => Below.heap_alloc _ _ _ h
   have hz : w.heap.size ≤ wr.heap.size := hB.size
   clear hna ho hB hgc
   go_wp2_with (at_builtin; refine wpList_append_own _ rfl _ _ 33 rfl w.heap.size 2 i0 (.int .i64 0) 1 8 Tryz.underlying33 HI.out HZ0.out HZ1.out HZ2.out rfl (by decide) (.slice ta k tc) k ((ints (l.take k)).map (Value.int .i64)) rfl (by exact HO.out) ⟨wr.heap.size, 0, none⟩ 1 1 [.int .i64 (x : Int)] rfl (by simp) (by exact lit_cell) (by simp [Value.oneCell']) (by unfold maxLen; omega) (by omega) (by simp; omega) ?_; intro v3 w3 ho3 hg3 _; have HO3 : Hid _ := ho3; have HB3 : Hid (Below w.heap.size w w3) := (HB.out.alloc hz _).grown hg3 (by simp; omega) (fun q hq => (own_ge HO.out hq).1); clear ho3 hg3)
   go_roundw
   case rel => exact ⟨k + 1, by omega, by go_num, by rw [HT.out]; exact HO3.out, HB3.out⟩
   case measure => simp [intOf]; omega
  ·have HKE : Hid (k = l.length) := (by show _ = _; omega)
   have HO : Hid _ := ho
   clear ho hB
   go_wp2_with fail
   go_ret
   refine ⟨_, rfl, ?_, HB.out⟩
   have h := HO.out
   have hke := HKE.out
   subst hke
   rw [List.take_length] at h
   exact h
end Go.Proofs.YtgojlnclpebdcaaGreatDoor
namespace Go.Proofs.YtgojlnclpebdcaaGreatDoor
open Go.RowKit
theorem ints_lit3 {w : World} {o o2 : Obj} {l : List Int} {cs : Array Value} (hm : l.length ≤ 1000) (hc : ∀ i, i < l.length → cs[i]? = some (.int .i64 (l.getD i 0))) : IntsAt (((w.alloc o).alloc o2).alloc (.cells cs 2)) w.heap.size (some ⟨w.heap.size + 1 + 1, 0, none⟩) l := by
 refine ⟨by omega, .inr ⟨w.heap.size + 1 + 1, 0, rfl, by omega, by simp, fun i hi => ?_⟩⟩
 have h := heap_alloc_last ((w.alloc o).alloc o2) (.cells cs 2)
 have hz : ((w.alloc o).alloc o2).heap.size = w.heap.size + 1 + 1 := by simp
 rw [hz] at h
 rw [Nat.zero_add, cell_of_heap h]; exact hc i hi
theorem below3 (w : World) (o o2 o3 : Obj) : Below w.heap.size w (((w.alloc o).alloc o2).alloc o3) := (((Below.refl _ _).alloc (Nat.le_refl _) _).alloc (by simp) _).alloc (by simp; omega) _
set_option maxRecDepth 100000 in
set_option maxHeartbeats 2000000 in
theorem succsS (lo : Nat) (l : List BlockD) (u0 : Option Addr) (n0 c0 : Nat) (r : Int) (u2 : Option Addr) (c2 : Nat) (k : Nat) (w : World) (k2 : BlocksAt w lo u2 l) (hk : k < l.length) :
  Calls Tryz.prog 94 #[.agg #[.slice u0 n0 c0, .int .i64 r, .slice u2 l.length c2], .int .i64 k] w fun e w' => (∃ g c, e = .returned (.slice (some ⟨g, 0, none⟩) (tgtD (termAt l k)).length c) ∧ IntsAt w' w.heap.size (some ⟨g, 0, none⟩) (tgtD (termAt l k))) ∧ Below w.heap.size w w' := by
 rcases k2.2 with hn | ⟨b, off, rfl, hlo, hb, hcell⟩
 ·simp [hn] at hk
 obtain ⟨_, _, g2, g3, g4, g5⟩ := hcell k hk
 have ET : termAt l k = (l.getD k block0).term := rfl
 rw [ET]
 generalize (l.getD k block0).term = t at g2 g3 g4 g5
 have e2 : w.cell? ⟨b, off + k * 6 + 2, none⟩ = some (.int .i64 t.kind) := g2
 have e3 : w.cell? ⟨b, off + k * 6 + 3, none⟩ = some (.int .i64 t.a) := g3
 have e4 : w.cell? ⟨b, off + k * 6 + 4, none⟩ = some (.int .i64 t.x) := g4
 have e5 : w.cell? ⟨b, off + k * 6 + 5, none⟩ = some (.int .i64 t.y) := g5
 clear hcell g2 g3 g4 g5 ET k2
 by_cases h2 : t.kind = 2
 ·have E : tgtD t = [t.x] := by rw [tgtD, if_pos h2]
  rw [E]; clear E
  go_enter Tryz.func94, Tryz.ntmps94
  go_wp2_with fail
  go_ret
  exact ⟨⟨_, _, rfl, ints_lit3 (by simp) (one_ints t.x)⟩, below3 _ _ _ _⟩
 by_cases h3 : t.kind = 3
 ·have E : tgtD t = [t.x, t.y] := by rw [tgtD, if_neg h2, if_pos h3]
  rw [E]; clear E
  go_enter Tryz.func94, Tryz.ntmps94
  go_wp2_with fail
  go_ret
  exact ⟨⟨_, _, rfl, ints_lit3 (by simp) (two_ints t.x t.y)⟩, below3 _ _ _ _⟩
 ·have E : tgtD t = [] := by rw [tgtD, if_neg h2, if_neg h3]
  rw [E]; clear E
  go_enter Tryz.func94, Tryz.ntmps94
  go_wp2_with fail
  go_ret
  exact ⟨⟨_, _, rfl, ⟨by simp, .inl rfl⟩⟩, below3 _ _ _ _⟩
end Go.Proofs.YtgojlnclpebdcaaGreatDoor
namespace Go.Proofs.YtgojlnclpebdcaaGreatDoor
open Go.RowKit
def InB (l : List BlockD) (b : Int) : Prop := RightL l ∧ 0 ≤ b ∧ b < l.length
def PredR (l : List BlockD) (b : Int) (r : List Int) : Prop := (InB l b → r = ints (predN (succN l) l.length b.toNat)) ∧ (¬ InB l b → r = [])
theorem ints_succ {l : List BlockD} {x : Nat} (hR : RightL l) (hx : x < l.length) : ints (succN l x) = tgtD (termAt l x) := by
 unfold ints succN
 rw [List.map_map]
 have h := hR.2.2 x hx
 unfold InT at h
 generalize tgtD (termAt l x) = t at h
 induction t with
 | nil => rfl
 | cons y r ih =>
  rw [List.map_cons, ih fun z hz => h z (List.mem_cons_of_mem _ hz)]
  have := h y (List.mem_cons_self ..)
  congr 1
  show ((y.toNat : Nat) : Int) = y
  omega
theorem pred_lt {S : Nat → List Nat} {n x : Nat} : ∀ y ∈ predN S n x, y < n := fun y hy => by
 unfold predN at hy
 exact List.mem_range.1 (List.mem_filter.1 hy).1
theorem pred_len {S : Nat → List Nat} {n x : Nat} : (predN S n x).length ≤ n := by
 unfold predN
 have h := List.length_filter_le (fun i => (S i).contains x) (List.range n)
 simpa using h
theorem own_lowS {w : World} {lo lo' : Nat} {t : TypeId} {z : Nat} {v : Value} {n : Nat} {xs : List Value} (h : w.ownsRow lo t z v n xs) (k : lo' ≤ lo) : w.ownsRow lo' t z v n xs := by
 refine ⟨h.1, ?_⟩
 rcases h.2 with h2 | ⟨g, cap, cur, hv, hb, r⟩
 ·exact .inl h2
 ·exact .inr ⟨g, cap, cur, hv, Nat.le_trans k hb, r⟩
set_option maxHeartbeats 4000000 in
theorem predsI (lo : Nat) (d : FuncD) (u0 : Option Addr) (c0 : Nat) (u2 : Option Addr) (c2 : Nat) (b : Int) (r : List Int) (w : World) (hs : SmFunc d) (k2 : BlocksAt w lo u2 d.blocks) (hr : PredR d.blocks b r) :
  Calls Tryz.prog 14 #[.agg #[.slice u0 d.params.length c0, .int .i64 d.ret, .slice u2 d.blocks.length c2], .int .i64 b] w fun e w' => ∃ v, e = .returned v ∧ w'.ownsRow w.heap.size 2 1 v r.length (r.map (Value.int .i64)) ∧ Below w.heap.size w w' := by
 have HSM : Hid (SmFunc d) := hs
 have HK : Hid (BlocksAt w lo u2 d.blocks) := k2
 have hbl : d.blocks.length ≤ 1048576 := hs.2.1
 clear hs k2
 by_cases hR : RightL d.blocks
 ·have HR : Hid (RightL d.blocks) := hR
  have hr1 := hR.1
  have hr2 := hR.2.1
  have HS : Hid (∀ a, ∀ s ∈ succN d.blocks a, s < d.blocks.length) := right_lt hR
  by_cases hB : 0 ≤ b ∧ b < d.blocks.length
  ·obtain ⟨x, rfl⟩ : ∃ x : Nat, b = x := ⟨b.toNat, by omega⟩
   have hx : x < d.blocks.length := by omega
   have HE : Hid (r = ints (predN (succN d.blocks) d.blocks.length x)) := (hr.1 ⟨hR, hB⟩).trans rfl
   clear hR hr hB
   go_enter Tryz.func14, Tryz.ntmps14
   go_wp2_with (first | (go_at_call 35; refine (graphI lo d _ _ _ _ _ HSM.out (HK.out.keep (agree_alloc _ _ _))).mono ?_; rintro e w1 ⟨hb1, h1⟩; obtain ⟨N, hN, rfl, hG⟩ := (h1.resolve_left (fun h => h.1 HR.out)).2; have e1 := hG.head x hx; obtain ⟨a1, q1, a2, q2, hnode, hp1, hp2⟩ := hG.node x hx; have e2 : w1.cell? ⟨N + 1 + x, 1, none⟩ = some (.slice a1 (succN d.blocks x).length q1) := (cell_of_heap hnode).trans rfl; have e3 : w1.cell? ⟨N + 1 + x, 2, none⟩ = some (.slice a2 (predN (succN d.blocks) d.blocks.length x).length q2) := (cell_of_heap hnode).trans rfl; unfold ptrV at e1; have HP : Hid (PtrsAt w1 N N a2 (predN (succN d.blocks) d.blocks.length x)) := hp2; have HG : Hid (Graph w1 N d.blocks.length (succN d.blocks)) := hG; have HX1 : Hid (Below w.heap.size w w1) := ((Below.refl _ _).alloc (Nat.le_refl _) _).trans (hb1.mono (by simp)); clear hb1 h1 hG hN hnode hp1 hp2) | (go_at_call 36; refine (belowI_t _ _ _ (by omega) (by omega)).mono ?_; rintro e w2 ⟨rfl, rfl⟩) | (go_at_call 37; refine (placesI N N d.blocks.length (succN d.blocks) _ _ (predN (succN d.blocks) d.blocks.length x) _ HP.out HG.out pred_lt (by have := pred_len (S := succN d.blocks) (n := d.blocks.length) (x := x); omega)).mono ?_; rintro e w3 ⟨v3, rfl, ho3, hb3⟩; have HO3 : Hid _ := ho3; have HX3 : Hid (Below w.heap.size w w3) := HX1.out.trans (hb3.mono HX1.out.size); have hz3 : w.heap.size ≤ w2.heap.size := HX1.out.size; clear ho3 hb3))
   go_ret
   refine ⟨_, rfl, ?_, HX3.out⟩
   rw [HE.out, show (ints (predN (succN d.blocks) d.blocks.length x)).length = (predN (succN d.blocks) d.blocks.length x).length by simp [ints]]
   exact own_lowS HO3.out hz3
  ·have HE : Hid (r = []) := hr.2 (fun h => hB h.2)
   clear hR hr
   go_enter Tryz.func14, Tryz.ntmps14
   go_wp2_with (first | (go_at_call 35; refine (graphI lo d _ _ _ _ _ HSM.out (HK.out.keep (agree_alloc _ _ _))).mono ?_; rintro e w1 ⟨hb1, h1⟩; obtain ⟨N, hN, rfl, hG⟩ := (h1.resolve_left (fun h => h.1 HR.out)).2; have HX1 : Hid (Below w.heap.size w w1) := ((Below.refl _ _).alloc (Nat.le_refl _) _).trans (hb1.mono (by simp)); clear hb1 h1 hG hN) | (go_at_call 36; refine (belowI_f _ _ _ (by omega)).mono ?_; rintro e w2 ⟨rfl, rfl⟩))
   go_ret
   refine ⟨_, rfl, ?_, HX1.out⟩
   rw [HE.out]
   exact World.ownsRow_nil _ _ _ _
 ·have HR : Hid (¬ RightL d.blocks) := hR
  have HE : Hid (r = []) := hr.2 (fun h => hR h.1)
  clear hR hr
  go_enter Tryz.func14, Tryz.ntmps14
  go_wp2_with (first | (go_at_call 35; refine (graphI lo d _ _ _ _ _ HSM.out (HK.out.keep (agree_alloc _ _ _))).mono ?_; rintro e w1 ⟨hb1, h1⟩; obtain ⟨_, rfl⟩ := h1.resolve_right (fun h => HR.out h.1); have HX1 : Hid (Below w.heap.size w w1) := ((Below.refl _ _).alloc (Nat.le_refl _) _).trans (hb1.mono (by simp)); clear hb1 h1) | (go_at_call 36; refine (belowI_f _ _ _ (by omega)).mono ?_; rintro e w2 ⟨rfl, rfl⟩))
  go_ret
  refine ⟨_, rfl, ?_, HX1.out⟩
  rw [HE.out]
  exact World.ownsRow_nil _ _ _ _
end Go.Proofs.YtgojlnclpebdcaaGreatDoor
namespace Go.Proofs.YtgojlnclpebdcaaGreatDoor
open Go.RowKit
theorem pred_step (S : Nat → List Nat) (k x : Nat) : predN S (k + 1) x = predN S k x ++ (if (S k).contains x then [k] else []) := by
 unfold predN
 rw [List.range_succ, List.filter_append]
 congr 1
 simp only [List.filter_cons, List.filter_nil]
theorem mem_succ {l : List BlockD} (hR : RightL l) {k x : Nat} (hk : k < l.length) : (x : Int) ∈ tgtD (termAt l k) ↔ (succN l k).contains x = true := by
 rw [← ints_succ hR hk]
 unfold ints
 simp
 constructor
 ·rintro ⟨a, ha, e⟩
  have e2 : a = x := by omega
  subst e2; exact ha
 ·intro h; exact ⟨x, h, rfl⟩
set_option maxHeartbeats 4000000 in
theorem l3predsS (lo : Nat) (d : FuncD) (u0 : Option Addr) (c0 : Nat) (u2 : Option Addr) (c2 : Nat) (x : Nat) (w : World) (hR : RightL d.blocks) (k2 : BlocksAt w lo u2 d.blocks) :
  Calls Tryz.prog 56 #[.agg #[.slice u0 d.params.length c0, .int .i64 d.ret, .slice u2 d.blocks.length c2], .int .i64 x] w fun e w' => ∃ v, e = .returned v ∧ w'.ownsRow w.heap.size 2 1 v (predN (succN d.blocks) d.blocks.length x).length ((ints (predN (succN d.blocks) d.blocks.length x)).map (Value.int .i64)) ∧ Below w.heap.size w w' := by
 obtain ⟨i0, hi, hz0, hz1, hz2⟩ := info_parts infoI
 have HI : Hid (Tryz.prog.info? 2 = some i0) := hi
 have HZ0 : Hid (i0.zero = some (Value.int .i64 0)) := hz0
 have HZ1 : Hid (i0.size = 1) := hz1
 have HZ2 : Hid (i0.bytes = 8) := hz2
 clear hi hz0 hz1 hz2
 have HK : Hid (BlocksAt w lo u2 d.blocks) := k2
 have HR : Hid (RightL d.blocks) := hR
 have hr2 := hR.2.1
 clear k2 hR
 go_enter Tryz.func56, Tryz.ntmps56
 go_wp2_with fail
 go_loopw [5, 6] (fun st i wr => ∃ k : Nat, k ≤ d.blocks.length ∧ i = .int .i64 k ∧ Hid (wr.ownsRow (w.heap.size + 1) 2 1 st (predN (succN d.blocks) k x).length ((ints (predN (succN d.blocks) k x)).map (Value.int .i64))) ∧ Hid (Below (w.heap.size + 1) (w.alloc (.cells #[.slice u0 d.params.length c0, .int .i64 d.ret, .slice u2 d.blocks.length c2] 36)) wr)) (fun _ i _ => d.blocks.length - (intOf i).toNat)
 case atStart =>
  refine ⟨0, by omega, rfl, ?_, (Below.refl _ _).alloc (by simp) _⟩
  have h := World.ownsRow_lit (e := 2) (size := 1) (base := w.heap.size + 1) (w.alloc (.cells #[.slice u0 d.params.length c0, .int .i64 d.ret, .slice u2 d.blocks.length c2] 36)) #[] 0 (by simp) (by decide) (by simp)
  have hz : (w.alloc (.cells #[.slice u0 d.params.length c0, .int .i64 d.ret, .slice u2 d.blocks.length c2] 36)).heap.size = w.heap.size + 1 := by simp
  rw [hz] at h
  exact h
 case round =>
  obtain ⟨k, hk, rfl, HO, HB⟩ := hrel
  obtain ⟨ta, tc, rfl⟩ := own_slice HO.out
  obtain ⟨b1, b2, b3⟩ := box3 HB.out
  have hz : w.heap.size + 1 ≤ wr.heap.size := by have := HB.out.size; simpa using this
  by_cases hlt : k < d.blocks.length
  ·have hpl := pred_len (S := succN d.blocks) (n := k) (x := x)
   by_cases hm : (succN d.blocks k).contains x = true
   ·have HM : Hid (decide ((x : Int) ∈ tgtD (termAt d.blocks k)) = true) := (by show _ = _; rw [decide_eq_true_iff]; exact (mem_succ HR.out hlt).2 hm)
    have HT : Hid (predN (succN d.blocks) (k + 1) x = predN (succN d.blocks) k x ++ [k]) := (by show _ = _; rw [pred_step, if_pos hm])
    clear hm
    go_wp2_with (first | (go_at_call 94; refine (succsS lo d.blocks _ _ _ _ _ _ k _ (HK.out.keep (agree_of_below (below_box HB.out) _)) hlt).mono ?_; rintro e w1 ⟨⟨g, c, rfl, hi⟩, hb1⟩; have HI1 : Hid (IntsAt w1 wr.heap.size (some ⟨g, 0, none⟩) (tgtD (termAt d.blocks k))) := hi; have HB1 : Hid (Below (w.heap.size + 1) (w.alloc (.cells #[.slice u0 d.params.length c0, .int .i64 d.ret, .slice u2 d.blocks.length c2] 36)) w1) := box_next HB.out hb1; have HO1 : Hid (w1.ownsRow (w.heap.size + 1) 2 1 (.slice ta (predN (succN d.blocks) k x).length tc) (predN (succN d.blocks) k x).length ((ints (predN (succN d.blocks) k x)).map (Value.int .i64))) := ownsRow_block HO.out (fun _ _ h => hb1.block _ h); clear hi hb1) | (go_at_call 93; refine (hasS _ _ _ _ _ _ (by have := tgt_len (termAt d.blocks k); omega) HI1.out).mono ?_; rintro e w2 ⟨rfl, hb2⟩; rw [HM.out]; have HB2 : Hid (Below (w.heap.size + 1) (w.alloc (.cells #[.slice u0 d.params.length c0, .int .i64 d.ret, .slice u2 d.blocks.length c2] 36)) w2) := box_next HB1.out hb2; have HO2 : Hid (w2.ownsRow (w.heap.size + 1) 2 1 (.slice ta (predN (succN d.blocks) k x).length tc) (predN (succN d.blocks) k x).length ((ints (predN (succN d.blocks) k x)).map (Value.int .i64))) := ownsRow_block HO1.out (fun _ _ h => hb2.block _ h); have hz2 : w.heap.size + 1 ≤ w2.heap.size := (by have := HB2.out.size; simpa using this); clear hb2) | (at_builtin; refine wpList_append_own _ rfl _ _ 33 rfl (w.heap.size + 1) 2 i0 (.int .i64 0) 1 8 Tryz.underlying33 HI.out HZ0.out HZ1.out HZ2.out rfl (by decide) (.slice ta (predN (succN d.blocks) k x).length tc) (predN (succN d.blocks) k x).length ((ints (predN (succN d.blocks) k x)).map (Value.int .i64)) rfl (by exact HO2.out.alloc _) ⟨w2.heap.size, 0, none⟩ 1 1 [.int .i64 (k : Int)] rfl (by simp) (by exact lit_cell) (by simp [Value.oneCell']) (by unfold maxLen; omega) (by omega) (by simp; omega) ?_; intro v3 w3 ho3 hg3 hn3; have HO3 : Hid _ := ho3; have HB3 : Hid (Below (w.heap.size + 1) (w.alloc (.cells #[.slice u0 d.params.length c0, .int .i64 d.ret, .slice u2 d.blocks.length c2] 36)) w3) := (HB2.out.alloc (by simpa using hz2) _).grown hg3 (by simp; omega) (fun q hq => (own_ge HO.out hq).1); have HG3 : Hid _ := hg3; clear ho3 hg3 hn3))
    go_roundw
    case rel =>
     refine ⟨k + 1, by omega, by go_num, ?_, HB3.out⟩
     rw [HT.out, List.length_append, show (ints (predN (succN d.blocks) k x ++ [k])).map (Value.int .i64) = (ints (predN (succN d.blocks) k x)).map (Value.int .i64) ++ [.int .i64 (k : Int)] by simp [ints]]
     exact HO3.out
    case measure => simp [intOf]; omega
   ·have hmf : (succN d.blocks k).contains x = false := by simpa using hm
    have HM : Hid (decide ((x : Int) ∈ tgtD (termAt d.blocks k)) = false) := (by show _ = _; rw [decide_eq_false_iff_not]; exact fun h => hm ((mem_succ HR.out hlt).1 h))
    have HT : Hid (predN (succN d.blocks) (k + 1) x = predN (succN d.blocks) k x) := (by show _ = _; rw [pred_step, if_neg hm]; simp)
    clear hm hmf
    go_wp2_with (first | (go_at_call 94; refine (succsS lo d.blocks _ _ _ _ _ _ k _ (HK.out.keep (agree_of_below (below_box HB.out) _)) hlt).mono ?_; rintro e w1 ⟨⟨g, c, rfl, hi⟩, hb1⟩; have HI1 : Hid (IntsAt w1 wr.heap.size (some ⟨g, 0, none⟩) (tgtD (termAt d.blocks k))) := hi; have HB1 : Hid (Below (w.heap.size + 1) (w.alloc (.cells #[.slice u0 d.params.length c0, .int .i64 d.ret, .slice u2 d.blocks.length c2] 36)) w1) := box_next HB.out hb1; have HO1 : Hid (w1.ownsRow (w.heap.size + 1) 2 1 (.slice ta (predN (succN d.blocks) k x).length tc) (predN (succN d.blocks) k x).length ((ints (predN (succN d.blocks) k x)).map (Value.int .i64))) := ownsRow_block HO.out (fun _ _ h => hb1.block _ h); clear hi hb1) | (go_at_call 93; refine (hasS _ _ _ _ _ _ (by have := tgt_len (termAt d.blocks k); omega) HI1.out).mono ?_; rintro e w2 ⟨rfl, hb2⟩; rw [HM.out]; have HB2 : Hid (Below (w.heap.size + 1) (w.alloc (.cells #[.slice u0 d.params.length c0, .int .i64 d.ret, .slice u2 d.blocks.length c2] 36)) w2) := box_next HB1.out hb2; have HO2 : Hid (w2.ownsRow (w.heap.size + 1) 2 1 (.slice ta (predN (succN d.blocks) k x).length tc) (predN (succN d.blocks) k x).length ((ints (predN (succN d.blocks) k x)).map (Value.int .i64))) := ownsRow_block HO1.out (fun _ _ h => hb2.block _ h); have hz2 : w.heap.size + 1 ≤ w2.heap.size := (by have := HB2.out.size; simpa using this); clear hb2))
    go_roundw
    case rel => exact ⟨k + 1, by omega, by go_num, by rw [HT.out]; exact HO2.out, HB2.out⟩
    case measure => simp [intOf]; omega
  ·have hke : k = d.blocks.length := by omega
   subst hke
   go_wp2_with fail
   go_ret
   exact ⟨_, rfl, own_lowS HO.out (by omega), below_box HB.out⟩
theorem ints_own {w : World} {base : Nat} {v : Value} {l : List Int} {n : Nat} (hn : n = l.length) (hm : l.length ≤ 1048576) (h : w.ownsRow base 2 1 v n (l.map (Value.int .i64))) : ∃ u c, v = .slice u l.length c ∧ OwnAt w base u l := by
 subst hn; exact own_of_row hm h
end Go.Proofs.YtgojlnclpebdcaaGreatDoor
