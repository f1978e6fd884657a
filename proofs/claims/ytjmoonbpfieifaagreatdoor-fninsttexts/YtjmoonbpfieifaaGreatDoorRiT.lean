/- A text that is hurt now and then. -/
import Derived.Test.YtjmoonbpfieifaaGreatDoorRiA
import Derived.Test.YtjmoonbpfieifaaGreatDoorRdrQ
import Derived.Test.YtjmoonbpfieifaaGreatDoorRowQ
import Derived.Deep.RegionHeld2
namespace Go.Proofs.YtjmoonbpfieifaaGreatDoor
open Go.RowKit
set_option linter.unusedVariables false
set_option linter.unusedSimpArgs false

def HurtEnd (g : Nat) (a0 : Option Addr) (len cap : Nat) (s : ByteArray) (w : World) (e : Ending) (w' : World) : Prop := ∃ t : ByteArray, e = .returned (.string t) ∧ t.size ≤ s.size + 6 ∧ Rd g a0 len cap w' ∧ w.grownBy w' (some g)
theorem pick_str {w w1 : World} {g : Nat} {l : List ByteArray} {n : Int} {t : TypeId} (hg : g < w.heap.size) (k : (w.alloc (.cells (l.map Value.string).toArray t)).grownBy w1 (some g)) (h0 : 0 ≤ n) (h1 : n < l.length) (hz : ∀ x ∈ l, x.size ≤ 6) :
    ∃ z : ByteArray, w1.cell? ⟨w.heap.size, n.toNat, none⟩ = some (.string z) ∧ z.size ≤ 6 := by
  have hb : w1.heap[w.heap.size]? = some (.cells (l.map Value.string).toArray t (0, 0)) := by
    rw [k.block w.heap.size (by simp) (by simp; omega)]
    show (w.heap.push _)[w.heap.size]? = _
    simp
  have hn : n.toNat < l.length := by omega
  refine ⟨l[n.toNat], ?_, hz _ (List.getElem_mem hn)⟩
  rw [cell_of_heap hb]
  simp [hn]
theorem grown_drew {w w1 : World} {r : Option Nat} (k : w.grownBy w1 r) : w.grownBy w1.drew r := ⟨k.os, k.tape, k.output, k.size, k.block⟩
theorem rd_drew {g : Nat} {a0 : Option Addr} {len cap : Nat} {w : World} (h : Rd g a0 len cap w) : Rd g a0 len cap w.drew := h
def hurt6 : List ByteArray := [⟨#[48]⟩, ⟨#[49]⟩, ⟨#[32]⟩, ⟨#[56]⟩, ⟨#[10]⟩, ⟨#[97]⟩]
def hurt3 : List ByteArray := [⟨#[32]⟩, ⟨#[116, 114, 97, 112, 10]⟩, ⟨#[98, 108, 111, 99, 107, 10]⟩]
theorem hurt6_small : ∀ x ∈ hurt6, x.size ≤ 6 := by intro x hx; simp [hurt6] at hx; rcases hx with rfl | rfl | rfl | rfl | rfl | rfl <;> decide
set_option maxHeartbeats 4000000 in
set_option maxRecDepth 100000 in
theorem hurt_any (g : Nat) (a0 : Option Addr) (len cap : Nat) (s : ByteArray) (w : World) (h : Rd g a0 len cap w) (hs : s.size ≤ 1048000) :
    Calls Tryz.prog 28 #[.pointer (some ⟨g, 0, none⟩), .string s] w fun e w' => HurtEnd g a0 len cap s w e w' := by
  go_enter Tryz.func28, Tryz.ntmps28
  go_wp2_with fail
  refine (below_any g a0 len cap 6 w h).mono ?_
  rintro e w1 ⟨n1, rfl, hn0, hn1, hr1, hg1⟩
  have hn6 : n1 < 6 := by omega
  have hgl := hr1.lt
  have HG : Hid (w.grownBy w1 (some g)) := hg1
  have HR : Hid (Rd g a0 len cap w1) := hr1
  clear hg1 hr1 h
  rcases (by omega : n1 = 0 ∨ n1 = 1 ∨ n1 = 2 ∨ n1 = 3 ∨ n1 = 4 ∨ n1 = 5) with rfl | rfl | rfl | rfl | rfl | rfl
  all_goals clear hn0 hn1 hn6
  · go_wp2_with fail
    go_ret
    exact ⟨s, rfl, by omega, HR.out, HG.out⟩
  · go_wp2_with fail
    refine (below_any g a0 len cap _ w1 HR.out).mono ?_
    rintro e w2 ⟨n2, rfl, hm0, hm1, hr2, hg2⟩
    have hm2 : n2 ≤ s.size := by omega
    have HR2 : Hid (Rd g a0 len cap w2) := hr2
    have HG2 : Hid (w.grownBy w2 (some g)) := grown_trans HG.out hg2
    clear hr2 hg2 hm1 HG HR
    go_wp2_with fail
    go_ret
    exact ⟨_, rfl, by rw [ByteArray.size_extract]; omega, HR2.out, HG2.out⟩
  · by_cases hp : 0 < s.size
    · have hpI : (0 : Int) < s.size := by omega
      go_wp2_with fail
      refine (below_any g a0 len cap _ w1 HR.out).mono ?_
      rintro e w2 ⟨n2, rfl, hm0, hm1, hr2, hg2⟩
      have hm2 : n2 < s.size := by omega
      have HR2 : Hid (Rd g a0 len cap w2) := hr2
      have HG2 : Hid (w.grownBy w2 (some g)) := grown_trans HG.out hg2
      have hgl2 := hr2.lt
      have hle2 : n2 ≤ s.size := by omega
      have hwr : IntKind.i64.wrap (n2 + 1) = n2 + 1 := by rw [IntKind.wrap_i64]; omega
      have h1p : 0 ≤ n2 + 1 := by omega
      obtain ⟨A, hA⟩ : ∃ A, s.extract 0 n2.toNat = A := ⟨_, rfl⟩
      obtain ⟨B, hB⟩ : ∃ B, s.extract (n2 + 1).toNat s.size = B := ⟨_, rfl⟩
      have hAB : A.size + B.size + 1 = s.size := by rw [← hA, ← hB, ByteArray.size_extract, ByteArray.size_extract]; omega
      have h1l : n2 + 1 ≤ s.size := by omega
      clear hr2 hg2 hm1 HG HR
      go_wp2_with fail
      refine wp_region_held_drew (S := fun w' => Rd g a0 len cap w' ∧ w.grownBy w' (some g)) (by kernel_rfl) (⟨rd_drew HR2.out, grown_drew HG2.out⟩) (fun hHeld => ?_)
      refine wpAnyH_take (i := 0) (v := ?_) rfl (by kernel_rfl) (by kernel_rfl) (by kernel_rfl) (fun _ _ _ h => h) (Or.inl ⟨by rfl, ?_⟩) hHeld ?_
      rotate_left
      · intro w9 hS9
        go_simp
        try with_reducible rfl
      show wpAnyH _ _ _ _ _ _ _ (Act.put _ (some _) _) _
      simp only [Act.put, List.setIfInBounds_toArray, List.set_cons_zero, List.set_cons_succ]
      refine wpAnyH_take (i := 1) (v := ?_) rfl (by kernel_rfl) (by kernel_rfl) (by kernel_rfl) (fun _ _ _ h => h) (Or.inl ⟨by rfl, ?_⟩) hHeld ?_
      rotate_left
      · intro w9 hS9
        go_simp
        try with_reducible rfl
      show wpAnyH _ _ _ _ _ _ _ (Act.put _ (some _) _) _
      simp only [Act.put, List.setIfInBounds_toArray, List.set_cons_zero, List.set_cons_succ]
      refine wpAnyH_take (i := 2) (v := ?_) rfl (by kernel_rfl) (by kernel_rfl) (by kernel_rfl) (fun _ _ _ h => h) (Or.inl ⟨by rfl, ?_⟩) hHeld ?_
      rotate_left
      · intro w9 hS9
        go_simp
        try with_reducible rfl
      show wpAnyH _ _ _ _ _ _ _ (Act.put _ (some _) _) _
      simp only [Act.put, List.setIfInBounds_toArray, List.set_cons_zero, List.set_cons_succ]
      refine wpAnyH_take (i := 4) (v := ?_) rfl (by kernel_rfl) (by kernel_rfl) (by kernel_rfl) (fun _ _ _ h => h) (Or.inl ⟨by rfl, ?_⟩) hHeld ?_
      rotate_left
      · intro w9 hS9
        go_simp
        try with_reducible rfl
      show wpAnyH _ _ _ _ _ _ _ (Act.put _ (some _) _) _
      simp only [Act.put, List.setIfInBounds_toArray, List.set_cons_zero, List.set_cons_succ]
      refine wpAnyH_take (i := 9) (v := ?_) rfl (by kernel_rfl) (by kernel_rfl) (by kernel_rfl) (fun _ _ _ h => h) (Or.inl ⟨by rfl, ?_⟩) hHeld ?_
      rotate_left
      · intro w9 hS9
        go_simp
        try with_reducible rfl
      show wpAnyH _ _ _ _ _ _ _ (Act.put _ (some _) _) _
      simp only [Act.put, List.setIfInBounds_toArray, List.set_cons_zero, List.set_cons_succ]
      refine wpAnyH_take (i := 10) (v := ?_) rfl (by kernel_rfl) (by kernel_rfl) (by kernel_rfl) (fun _ _ _ h => h) (Or.inl ⟨by rfl, ?_⟩) hHeld ?_
      rotate_left
      · intro w9 hS9
        go_simp
        try with_reducible rfl
      show wpAnyH _ _ _ _ _ _ _ (Act.put _ (some _) _) _
      simp only [Act.put, List.setIfInBounds_toArray, List.set_cons_zero, List.set_cons_succ]
      refine wpAnyH_take (i := 11) (v := ?_) rfl (by kernel_rfl) (by kernel_rfl) (by kernel_rfl) (fun _ _ _ h => h) (Or.inl ⟨by rfl, ?_⟩) hHeld ?_
      rotate_left
      · intro w9 hS9
        go_simp
        try with_reducible rfl
      show wpAnyH _ _ _ _ _ _ _ (Act.put _ (some _) _) _
      simp only [Act.put, List.setIfInBounds_toArray, List.set_cons_zero, List.set_cons_succ]
      refine wpAnyH_take (i := 12) (v := ?_) rfl (by kernel_rfl) (by kernel_rfl) (by kernel_rfl) (fun _ _ _ h => h) (Or.inl ⟨by rfl, ?_⟩) hHeld ?_
      rotate_left
      · intro w9 hS9
        go_simp
        try with_reducible rfl
      show wpAnyH _ _ _ _ _ _ _ (Act.put _ (some _) _) _
      simp only [Act.put, List.setIfInBounds_toArray, List.set_cons_zero, List.set_cons_succ]
      refine wpAnyH_ready (rs := [3, 5]) (by kernel_rfl) (by simp) ?_
      refine AllReadyH.cons rfl (fun K hK => ?_) (AllReadyH.cons rfl (fun K hK => ?_) AllReadyH.nil)
      · go_simp
        go_wp2_with fail
        refine hK.out _ _ ?_ (fun hHeld2 => ?_)
        · exact ⟨hHeld.1.alloc _, grown_trans hHeld.2 (World.grownBy_alloc _ _ _)⟩
        clear hK K
        have hPrev := hHeld
        clear hHeld
        have hHeld := hHeld2
        clear hHeld2
        try simp only [Act.put, List.setIfInBounds_toArray, List.set_cons_zero, List.set_cons_succ]
        refine wpAnyH_ready (rs := [5]) (by kernel_rfl) (by simp) ?_
        refine AllReadyH.cons rfl (fun K hK => ?_) AllReadyH.nil
        go_simp
        go_wp2_with (go_at_call 36; refine (below_any g a0 len cap 6 _ (hPrev.1.alloc _)).mono ?_; rintro e w5 ⟨n5, rfl, p0, p1, hr5, hg5⟩)
        obtain ⟨z, hz, hzs⟩ := pick_str (l := hurt6) hPrev.1.lt hg5 p0 (by show n5 < 6; omega) hurt6_small
        have p2 : n5 < 6 := by omega
        have hz' : w5.cell? ⟨w2.heap.size, n5.toNat, none⟩ = some (.string z) := hz
        have hg6 : w.grownBy w5 (some g) := grown_trans hHeld.2 hg5
        refine hK.out _ _ ?_ (fun hHeld2 => ?_)
        · exact ⟨hr5, hg6⟩
        clear hK K
        have hPrev := hHeld
        clear hHeld
        have hHeld := hHeld2
        clear hHeld2
        try simp only [Act.put, List.setIfInBounds_toArray, List.set_cons_zero, List.set_cons_succ]
        refine wpAnyH_ready (rs := [6]) (by kernel_rfl) (by simp) ?_
        refine AllReadyH.cons rfl (fun K hK => ?_) AllReadyH.nil
        go_simp
        go_wp2_with fail
        refine hK.out _ _ ?_ (fun hHeld2 => ?_)
        · exact hHeld
        clear hK K hHeld
        have hHeld := hHeld2
        clear hHeld2
        try simp only [Act.put, List.setIfInBounds_toArray, List.set_cons_zero, List.set_cons_succ]
        refine wpAnyH_ready (rs := [7]) (by kernel_rfl) (by simp) ?_
        refine AllReadyH.cons rfl (fun K hK => ?_) AllReadyH.nil
        go_simp
        go_wp2_with fail
        refine hK.out _ _ ?_ (fun hHeld2 => ?_)
        · exact hHeld
        clear hK K hHeld
        have hHeld := hHeld2
        clear hHeld2
        try simp only [Act.put, List.setIfInBounds_toArray, List.set_cons_zero, List.set_cons_succ]
        refine wpAnyH_ready (rs := [8]) (by kernel_rfl) (by simp) ?_
        refine AllReadyH.cons rfl (fun K hK => ?_) AllReadyH.nil
        go_simp
        go_wp2_with fail
        refine hK.out _ _ ?_ (fun hHeld2 => ?_)
        · exact hHeld
        clear hK K hHeld
        have hHeld := hHeld2
        clear hHeld2
        try simp only [Act.put, List.setIfInBounds_toArray, List.set_cons_zero, List.set_cons_succ]
        refine wpAnyH_ready (rs := [13]) (by kernel_rfl) (by simp) ?_
        refine AllReadyH.cons rfl (fun K hK => ?_) AllReadyH.nil
        go_simp
        go_wp2_with fail
        refine hK.out _ _ ?_ (fun hHeld2 => ?_)
        · exact hHeld
        clear hK K hHeld
        have hHeld := hHeld2
        clear hHeld2
        try simp only [Act.put, List.setIfInBounds_toArray, List.set_cons_zero, List.set_cons_succ]
        refine wpAnyH_ready (rs := [14]) (by kernel_rfl) (by simp) ?_
        refine AllReadyH.cons rfl (fun K hK => ?_) AllReadyH.nil
        go_simp
        go_wp2_with fail
        refine hK.out _ _ ?_ (fun hHeld2 => ?_)
        · exact hHeld
        clear hK K hHeld
        have hHeld := hHeld2
        clear hHeld2
        try simp only [Act.put, List.setIfInBounds_toArray, List.set_cons_zero, List.set_cons_succ]
        refine wpAnyH_done (by kernel_rfl) ?_ _
        go_wp2_with fail
        go_ret
        exact ⟨_, rfl, by simp only [ByteArray.size_append]; omega, hHeld.1, hHeld.2⟩
      · go_simp
        go_wp2_with (go_at_call 36; refine (below_any g a0 len cap 6 _ hHeld.1).mono ?_; rintro e w5 ⟨n5, rfl, p0, p1, hr5, hg5⟩)
        have p2 : n5 < 6 := by omega
        have hg6 : w.grownBy w5 (some g) := grown_trans hHeld.2 hg5
        refine hK.out _ _ ?_ (fun hHeld2 => ?_)
        · exact ⟨hr5, hg6⟩
        clear hK K
        have hPrev := hHeld
        clear hHeld
        have hHeld := hHeld2
        clear hHeld2
        try simp only [Act.put, List.setIfInBounds_toArray, List.set_cons_zero, List.set_cons_succ]
        refine wpAnyH_ready (rs := [3]) (by kernel_rfl) (by simp) ?_
        refine AllReadyH.cons rfl (fun K hK => ?_) AllReadyH.nil
        go_simp
        go_wp2_with fail
        obtain ⟨z, hz, hzs⟩ := pick_str (t := 9) (l := hurt6) hr5.lt (World.grownBy.refl _ _) p0 (by show n5 < 6; omega) hurt6_small
        refine hK.out _ _ ?_ (fun hHeld2 => ?_)
        · exact ⟨hr5.alloc _, grown_trans hg6 (World.grownBy_alloc _ _ _)⟩
        clear hK K hHeld
        have hHeld := hHeld2
        clear hHeld2
        try simp only [Act.put, List.setIfInBounds_toArray, List.set_cons_zero, List.set_cons_succ]
        have hz' : (w5.alloc (.cells #[.string ⟨#[48]⟩, .string ⟨#[49]⟩, .string ⟨#[32]⟩, .string ⟨#[56]⟩, .string ⟨#[10]⟩, .string ⟨#[97]⟩] 9)).cell? ⟨w5.heap.size, n5.toNat, none⟩ = some (.string z) := hz
        clear hz
        generalize (w5.alloc (.cells #[.string ⟨#[48]⟩, .string ⟨#[49]⟩, .string ⟨#[32]⟩, .string ⟨#[56]⟩, .string ⟨#[10]⟩, .string ⟨#[97]⟩] 9)) = W6 at hz' hHeld ⊢
        refine wpAnyH_ready (rs := [6]) (by kernel_rfl) (by simp) ?_
        refine AllReadyH.cons rfl (fun K hK => ?_) AllReadyH.nil
        go_simp
        go_wp2_with fail
        refine hK.out _ _ ?_ (fun hHeld2 => ?_)
        · exact hHeld
        clear hK K hHeld
        have hHeld := hHeld2
        clear hHeld2
        try simp only [Act.put, List.setIfInBounds_toArray, List.set_cons_zero, List.set_cons_succ]
        refine wpAnyH_ready (rs := [7]) (by kernel_rfl) (by simp) ?_
        refine AllReadyH.cons rfl (fun K hK => ?_) AllReadyH.nil
        go_simp
        go_wp2_with fail
        refine hK.out _ _ ?_ (fun hHeld2 => ?_)
        · exact hHeld
        clear hK K hHeld
        have hHeld := hHeld2
        clear hHeld2
        try simp only [Act.put, List.setIfInBounds_toArray, List.set_cons_zero, List.set_cons_succ]
        refine wpAnyH_ready (rs := [8]) (by kernel_rfl) (by simp) ?_
        refine AllReadyH.cons rfl (fun K hK => ?_) AllReadyH.nil
        go_simp
        go_wp2_with fail
        refine hK.out _ _ ?_ (fun hHeld2 => ?_)
        · exact hHeld
        clear hK K hHeld
        have hHeld := hHeld2
        clear hHeld2
        try simp only [Act.put, List.setIfInBounds_toArray, List.set_cons_zero, List.set_cons_succ]
        refine wpAnyH_ready (rs := [13]) (by kernel_rfl) (by simp) ?_
        refine AllReadyH.cons rfl (fun K hK => ?_) AllReadyH.nil
        go_simp
        go_wp2_with fail
        refine hK.out _ _ ?_ (fun hHeld2 => ?_)
        · exact hHeld
        clear hK K hHeld
        have hHeld := hHeld2
        clear hHeld2
        try simp only [Act.put, List.setIfInBounds_toArray, List.set_cons_zero, List.set_cons_succ]
        refine wpAnyH_ready (rs := [14]) (by kernel_rfl) (by simp) ?_
        refine AllReadyH.cons rfl (fun K hK => ?_) AllReadyH.nil
        go_simp
        go_wp2_with fail
        refine hK.out _ _ ?_ (fun hHeld2 => ?_)
        · exact hHeld
        clear hK K hHeld
        have hHeld := hHeld2
        clear hHeld2
        try simp only [Act.put, List.setIfInBounds_toArray, List.set_cons_zero, List.set_cons_succ]
        refine wpAnyH_done (by kernel_rfl) ?_ _
        go_wp2_with fail
        go_ret
        exact ⟨_, rfl, by simp only [ByteArray.size_append]; omega, hHeld.1, hHeld.2⟩
    · have hpI : ¬ (0 : Int) < s.size := by omega
      go_wp2_with fail
      go_ret
      exact ⟨s, rfl, by omega, HR.out, HG.out⟩
  · go_wp2_with fail
    refine (below_any g a0 len cap 3 _ (HR.out.alloc _)).mono ?_
    rintro e w2 ⟨n2, rfl, hm0, hm1, hr2, hg2⟩
    obtain ⟨z, hz, hzs⟩ := pick_str (l := hurt3) hgl hg2 hm0 (by show n2 < 3; omega) (by intro x hx; simp [hurt3] at hx; rcases hx with rfl | rfl | rfl <;> decide)
    have hm2 : n2 < 3 := by omega
    have HR2 : Hid (Rd g a0 len cap w2) := hr2
    have HG2 : Hid (w.grownBy w2 (some g)) := grown_trans HG.out (grown_trans (World.grownBy_alloc _ _ _) hg2)
    clear hr2 hg2 hm1 HG HR
    go_wp2_with fail
    go_ret
    exact ⟨_, rfl, by rw [ByteArray.size_append]; omega, HR2.out, HG2.out⟩
  · go_wp2_with fail
    go_ret
    exact ⟨s, rfl, by omega, HR.out, HG.out⟩
  · go_wp2_with fail
    go_ret
    exact ⟨s, rfl, by omega, HR.out, HG.out⟩
end Go.Proofs.YtjmoonbpfieifaaGreatDoor
