import Derived.Test.YtojhakjkfkmklaaGreatDoorMkCV
import Derived.Deep.DeepCutAuto
namespace Go.Proofs.YtojhakjkfkmklaaGreatDoor
open Go.RowKit
set_option linter.unusedVariables false
set_option linter.unusedSimpArgs false
def mkv (w : World) : List (Addr × Int) → World
 | [] => w
 | (a, k) :: l => mkv (w.setCell a (.int .i64 k)) l
theorem mkv_int : ∀ (w : World) (A : List (Addr × Int)) {a : Addr}, (∃ z : Int, w.cell? a = some (.int .i64 z)) → ∃ z : Int, (mkv w A).cell? a = some (.int .i64 z)
 | w, [], a, h => h
 | w, (b, k) :: A, a, h => by
  refine mkv_int _ A ?_
  obtain ⟨z, hz⟩ := h
  by_cases e : a = b
  ·subst e
   exact ⟨k, by rw [World.cell?_setCell_same _ _ _ hz]⟩
  ·exact ⟨z, by rw [World.cell?_setCell_other _ _ _ _ (fun h => e h.symm)]; exact hz⟩
theorem mkv_froz : ∀ (w : World) (A : List (Addr × Int)) {a : Addr}, (mkv w A).frozen? a = w.frozen? a
 | w, [], a => rfl
 | w, (b, k) :: A, a => (mkv_froz _ A).trans (World.frozen?_setCell ..)
set_option maxHeartbeats 2000000 in
set_option maxRecDepth 100000 in
theorem markInR (K : List Addr) (g o c : Nat) (hs : List (Option Addr × Nat)) (k : Int) (w : World) (hn : hs.length ≤ 1048576) (ho : OwnR w g o 7 [0, 1, 2, 3, 4, 5] hs.length) (hh : HdrR K w g o 7 6 hs) (hA : ∀ a ∈ strA g 7 [0, 1, 2, 3, 4, 5] o (rowsQ hs), a ∈ K) (hk0 : 0 ≤ k) (hk : k + (strA g 7 [0, 1, 2, 3, 4, 5] o (rowsQ hs)).length ≤ 4611686018427387904) :
  Calls Tryz.prog 108 #[.slice (some ⟨g, o, none⟩) hs.length c, .int .i64 k] w fun e w' => e = .returned (.int .i64 (k + (strA g 7 [0, 1, 2, 3, 4, 5] o (rowsQ hs)).length)) ∧ w' = mkw w (strA g 7 [0, 1, 2, 3, 4, 5] o (rowsQ hs)) k := by
 have HO : Hid (OwnR w g o 7 [0, 1, 2, 3, 4, 5] hs.length) := ho
 have HH : Hid (HdrR K w g o 7 6 hs) := hh
 have HA : Hid (∀ a ∈ strA g 7 [0, 1, 2, 3, 4, 5] o (rowsQ hs), a ∈ K) := hA
 have HK : Hid (k + (strA g 7 [0, 1, 2, 3, 4, 5] o (rowsQ hs)).length ≤ 4611686018427387904) := hk
 clear ho hh hA hk
 go_enter Tryz.func108, Tryz.ntmps108
 go_wp2_with fail
 go_loopw [1, 5] (fun q i wr => ∃ (j m : Nat), j ≤ hs.length ∧ i = .int .i64 j ∧ q = .int .i64 (k + m) ∧ Hid (m = (strA g 7 [0, 1, 2, 3, 4, 5] o (rowsQ (hs.take j))).length) ∧ Hid (wr = mkw w (strA g 7 [0, 1, 2, 3, 4, 5] o (rowsQ (hs.take j))) k)) (fun _ i _ => hs.length - (intOf i).toNat)
 case atStart => exact ⟨0, 0, by omega, rfl, by simp, rfl, rfl⟩
 case round =>
  obtain ⟨j, m, hj, rfl, rfl, HM, HE⟩ := hrel
  by_cases hlt : j < hs.length
  ·have hjI : (j : Int) < (hs.length : Int) := by omega
   obtain ⟨R, hR⟩ := strA_le g 7 [0, 1, 2, 3, 4, 5] o hs j hj
   have hsub : ∀ a ∈ strA g 7 [0, 1, 2, 3, 4, 5] o (rowsQ (hs.take j)), a ∈ K := fun a ha => HA.out a (by rw [hR]; exact List.mem_append_left _ ha)
   have hnx := strA_next g 7 [0, 1, 2, 3, 4, 5] o hs hlt
   obtain ⟨R2, hR2⟩ := strA_le g 7 [0, 1, 2, 3, 4, 5] o hs (j + 1) (by omega)
   have hbd := HK.out
   rw [hR2, hnx] at hbd
   simp only [List.length_append, List.length_map, List.length_cons, List.length_nil] at hbd
   rw [← HM.out] at hbd
   have hown := HO.out.mk (strA g 7 [0, 1, 2, 3, 4, 5] o (rowsQ (hs.take j))) k j hlt
   rw [← HE.out] at hown
   obtain ⟨z0, hz0⟩ : ∃ z : Int, wr.cell? ⟨g, o + j * 7, none⟩ = some (.int .i64 z) := by
    have h := mkv_int wr [] (hown 0 (by simp)).1
    exact h
   have hf0 : wr.frozen? ⟨g, o + j * 7, none⟩ = false := by
    have h := mkv_froz wr [] (a := ⟨g, o + j * 7, none⟩)
    exact h.trans (hown 0 (by simp)).2
   obtain ⟨z1, hz1⟩ : ∃ z : Int, (wr.setCell ⟨g, o + j * 7, none⟩ (.int .i64 (k + m))).cell? ⟨g, o + j * 7 + 1, none⟩ = some (.int .i64 z) := by
    have h := mkv_int wr [((⟨g, o + j * 7, none⟩ : Addr), k + m)] (hown 1 (by simp)).1
    exact h
   have hf1 : (wr.setCell ⟨g, o + j * 7, none⟩ (.int .i64 (k + m))).frozen? ⟨g, o + j * 7 + 1, none⟩ = false := by
    have h := mkv_froz wr [((⟨g, o + j * 7, none⟩ : Addr), k + m)] (a := ⟨g, o + j * 7 + 1, none⟩)
    exact h.trans (hown 1 (by simp)).2
   obtain ⟨z2, hz2⟩ : ∃ z : Int, ((wr.setCell ⟨g, o + j * 7, none⟩ (.int .i64 (k + m))).setCell ⟨g, o + j * 7 + 1, none⟩ (.int .i64 (k + m + 1))).cell? ⟨g, o + j * 7 + 2, none⟩ = some (.int .i64 z) := by
    have h := mkv_int wr [((⟨g, o + j * 7, none⟩ : Addr), k + m), ((⟨g, o + j * 7 + 1, none⟩ : Addr), k + m + 1)] (hown 2 (by simp)).1
    exact h
   have hf2 : ((wr.setCell ⟨g, o + j * 7, none⟩ (.int .i64 (k + m))).setCell ⟨g, o + j * 7 + 1, none⟩ (.int .i64 (k + m + 1))).frozen? ⟨g, o + j * 7 + 2, none⟩ = false := by
    have h := mkv_froz wr [((⟨g, o + j * 7, none⟩ : Addr), k + m), ((⟨g, o + j * 7 + 1, none⟩ : Addr), k + m + 1)] (a := ⟨g, o + j * 7 + 2, none⟩)
    exact h.trans (hown 2 (by simp)).2
   obtain ⟨z3, hz3⟩ : ∃ z : Int, (((wr.setCell ⟨g, o + j * 7, none⟩ (.int .i64 (k + m))).setCell ⟨g, o + j * 7 + 1, none⟩ (.int .i64 (k + m + 1))).setCell ⟨g, o + j * 7 + 2, none⟩ (.int .i64 (k + m + 1 + 1))).cell? ⟨g, o + j * 7 + 3, none⟩ = some (.int .i64 z) := by
    have h := mkv_int wr [((⟨g, o + j * 7, none⟩ : Addr), k + m), ((⟨g, o + j * 7 + 1, none⟩ : Addr), k + m + 1), ((⟨g, o + j * 7 + 2, none⟩ : Addr), k + m + 1 + 1)] (hown 3 (by simp)).1
    exact h
   have hf3 : (((wr.setCell ⟨g, o + j * 7, none⟩ (.int .i64 (k + m))).setCell ⟨g, o + j * 7 + 1, none⟩ (.int .i64 (k + m + 1))).setCell ⟨g, o + j * 7 + 2, none⟩ (.int .i64 (k + m + 1 + 1))).frozen? ⟨g, o + j * 7 + 3, none⟩ = false := by
    have h := mkv_froz wr [((⟨g, o + j * 7, none⟩ : Addr), k + m), ((⟨g, o + j * 7 + 1, none⟩ : Addr), k + m + 1), ((⟨g, o + j * 7 + 2, none⟩ : Addr), k + m + 1 + 1)] (a := ⟨g, o + j * 7 + 3, none⟩)
    exact h.trans (hown 3 (by simp)).2
   obtain ⟨z4, hz4⟩ : ∃ z : Int, ((((wr.setCell ⟨g, o + j * 7, none⟩ (.int .i64 (k + m))).setCell ⟨g, o + j * 7 + 1, none⟩ (.int .i64 (k + m + 1))).setCell ⟨g, o + j * 7 + 2, none⟩ (.int .i64 (k + m + 1 + 1))).setCell ⟨g, o + j * 7 + 3, none⟩ (.int .i64 (k + m + 1 + 1 + 1))).cell? ⟨g, o + j * 7 + 4, none⟩ = some (.int .i64 z) := by
    have h := mkv_int wr [((⟨g, o + j * 7, none⟩ : Addr), k + m), ((⟨g, o + j * 7 + 1, none⟩ : Addr), k + m + 1), ((⟨g, o + j * 7 + 2, none⟩ : Addr), k + m + 1 + 1), ((⟨g, o + j * 7 + 3, none⟩ : Addr), k + m + 1 + 1 + 1)] (hown 4 (by simp)).1
    exact h
   have hf4 : ((((wr.setCell ⟨g, o + j * 7, none⟩ (.int .i64 (k + m))).setCell ⟨g, o + j * 7 + 1, none⟩ (.int .i64 (k + m + 1))).setCell ⟨g, o + j * 7 + 2, none⟩ (.int .i64 (k + m + 1 + 1))).setCell ⟨g, o + j * 7 + 3, none⟩ (.int .i64 (k + m + 1 + 1 + 1))).frozen? ⟨g, o + j * 7 + 4, none⟩ = false := by
    have h := mkv_froz wr [((⟨g, o + j * 7, none⟩ : Addr), k + m), ((⟨g, o + j * 7 + 1, none⟩ : Addr), k + m + 1), ((⟨g, o + j * 7 + 2, none⟩ : Addr), k + m + 1 + 1), ((⟨g, o + j * 7 + 3, none⟩ : Addr), k + m + 1 + 1 + 1)] (a := ⟨g, o + j * 7 + 4, none⟩)
    exact h.trans (hown 4 (by simp)).2
   obtain ⟨z5, hz5⟩ : ∃ z : Int, (((((wr.setCell ⟨g, o + j * 7, none⟩ (.int .i64 (k + m))).setCell ⟨g, o + j * 7 + 1, none⟩ (.int .i64 (k + m + 1))).setCell ⟨g, o + j * 7 + 2, none⟩ (.int .i64 (k + m + 1 + 1))).setCell ⟨g, o + j * 7 + 3, none⟩ (.int .i64 (k + m + 1 + 1 + 1))).setCell ⟨g, o + j * 7 + 4, none⟩ (.int .i64 (k + m + 1 + 1 + 1 + 1))).cell? ⟨g, o + j * 7 + 5, none⟩ = some (.int .i64 z) := by
    have h := mkv_int wr [((⟨g, o + j * 7, none⟩ : Addr), k + m), ((⟨g, o + j * 7 + 1, none⟩ : Addr), k + m + 1), ((⟨g, o + j * 7 + 2, none⟩ : Addr), k + m + 1 + 1), ((⟨g, o + j * 7 + 3, none⟩ : Addr), k + m + 1 + 1 + 1), ((⟨g, o + j * 7 + 4, none⟩ : Addr), k + m + 1 + 1 + 1 + 1)] (hown 5 (by simp)).1
    exact h
   have hf5 : (((((wr.setCell ⟨g, o + j * 7, none⟩ (.int .i64 (k + m))).setCell ⟨g, o + j * 7 + 1, none⟩ (.int .i64 (k + m + 1))).setCell ⟨g, o + j * 7 + 2, none⟩ (.int .i64 (k + m + 1 + 1))).setCell ⟨g, o + j * 7 + 3, none⟩ (.int .i64 (k + m + 1 + 1 + 1))).setCell ⟨g, o + j * 7 + 4, none⟩ (.int .i64 (k + m + 1 + 1 + 1 + 1))).frozen? ⟨g, o + j * 7 + 5, none⟩ = false := by
    have h := mkv_froz wr [((⟨g, o + j * 7, none⟩ : Addr), k + m), ((⟨g, o + j * 7 + 1, none⟩ : Addr), k + m + 1), ((⟨g, o + j * 7 + 2, none⟩ : Addr), k + m + 1 + 1), ((⟨g, o + j * 7 + 3, none⟩ : Addr), k + m + 1 + 1 + 1), ((⟨g, o + j * 7 + 4, none⟩ : Addr), k + m + 1 + 1 + 1 + 1)] (a := ⟨g, o + j * 7 + 5, none⟩)
    exact h.trans (hown 5 (by simp)).2
   have hhd := (HH.out.mk hsub k) j hlt
   rw [← HE.out] at hhd
   obtain ⟨⟨cq, hq⟩, hqK, hqI⟩ := hhd
   obtain ⟨u, n, hun⟩ : ∃ u n, hs.getD j (none, 0) = (u, n) := ⟨_, _, rfl⟩
   rw [hun] at hq hqI hnx hbd
   dsimp only at hq hqI hnx hbd
   have hln := hqI.len
   rw [hln] at hbd
   have hn0 : n ≤ 1048576 := hqI.1
   have e3 : ((((((wr.setCell ⟨g, o + j * 7, none⟩ (.int .i64 (k + m))).setCell ⟨g, o + j * 7 + 1, none⟩ (.int .i64 (k + m + 1))).setCell ⟨g, o + j * 7 + 2, none⟩ (.int .i64 (k + m + 1 + 1))).setCell ⟨g, o + j * 7 + 3, none⟩ (.int .i64 (k + m + 1 + 1 + 1))).setCell ⟨g, o + j * 7 + 4, none⟩ (.int .i64 (k + m + 1 + 1 + 1 + 1))).setCell ⟨g, o + j * 7 + 5, none⟩ (.int .i64 (k + m + 1 + 1 + 1 + 1 + 1))).cell? ⟨g, o + j * 7 + 6, none⟩ = some (.slice u n cq) := by
    rw [World.cell?_setCell_other _ _ _ _ (by intro e; have h9 := congrArg Addr.off e; dsimp only at h9; omega), World.cell?_setCell_other _ _ _ _ (by intro e; have h9 := congrArg Addr.off e; dsimp only at h9; omega), World.cell?_setCell_other _ _ _ _ (by intro e; have h9 := congrArg Addr.off e; dsimp only at h9; omega), World.cell?_setCell_other _ _ _ _ (by intro e; have h9 := congrArg Addr.off e; dsimp only at h9; omega), World.cell?_setCell_other _ _ _ _ (by intro e; have h9 := congrArg Addr.off e; dsimp only at h9; omega), World.cell?_setCell_other _ _ _ _ (by intro e; have h9 := congrArg Addr.off e; dsimp only at h9; omega)]
    exact hq
   have hmk : ((((((wr.setCell ⟨g, o + j * 7, none⟩ (.int .i64 (k + m))).setCell ⟨g, o + j * 7 + 1, none⟩ (.int .i64 (k + m + 1))).setCell ⟨g, o + j * 7 + 2, none⟩ (.int .i64 (k + m + 1 + 1))).setCell ⟨g, o + j * 7 + 3, none⟩ (.int .i64 (k + m + 1 + 1 + 1))).setCell ⟨g, o + j * 7 + 4, none⟩ (.int .i64 (k + m + 1 + 1 + 1 + 1))).setCell ⟨g, o + j * 7 + 5, none⟩ (.int .i64 (k + m + 1 + 1 + 1 + 1 + 1))) = mkw wr [⟨g, o + j * 7, none⟩, ⟨g, o + j * 7 + 1, none⟩, ⟨g, o + j * 7 + 2, none⟩, ⟨g, o + j * 7 + 3, none⟩, ⟨g, o + j * 7 + 4, none⟩, ⟨g, o + j * 7 + 5, none⟩] (k + m) := rfl
   have MI := markIR u cq n (k + m + 1 + 1 + 1 + 1 + 1 + 1) ((((((wr.setCell ⟨g, o + j * 7, none⟩ (.int .i64 (k + m))).setCell ⟨g, o + j * 7 + 1, none⟩ (.int .i64 (k + m + 1))).setCell ⟨g, o + j * 7 + 2, none⟩ (.int .i64 (k + m + 1 + 1))).setCell ⟨g, o + j * 7 + 3, none⟩ (.int .i64 (k + m + 1 + 1 + 1))).setCell ⟨g, o + j * 7 + 4, none⟩ (.int .i64 (k + m + 1 + 1 + 1 + 1))).setCell ⟨g, o + j * 7 + 5, none⟩ (.int .i64 (k + m + 1 + 1 + 1 + 1 + 1))) (by rw [hmk]; exact hqI.mk _ _) (by omega) (by omega)
   have HE2 : Hid (mkw ((((((wr.setCell ⟨g, o + j * 7, none⟩ (.int .i64 (k + m))).setCell ⟨g, o + j * 7 + 1, none⟩ (.int .i64 (k + m + 1))).setCell ⟨g, o + j * 7 + 2, none⟩ (.int .i64 (k + m + 1 + 1))).setCell ⟨g, o + j * 7 + 3, none⟩ (.int .i64 (k + m + 1 + 1 + 1))).setCell ⟨g, o + j * 7 + 4, none⟩ (.int .i64 (k + m + 1 + 1 + 1 + 1))).setCell ⟨g, o + j * 7 + 5, none⟩ (.int .i64 (k + m + 1 + 1 + 1 + 1 + 1))) (rowH u n) (k + m + 1 + 1 + 1 + 1 + 1 + 1) = mkw w (strA g 7 [0, 1, 2, 3, 4, 5] o (rowsQ (hs.take (j + 1)))) k) := by
    show _ = _
    rw [hmk, hnx, mkw_append, mkw_append, ← HE.out, ← HM.out]
    rw [show k + ((m : Nat) : Int) + ((([0, 1, 2, 3, 4, 5] : List Nat).map (fun f => (⟨g, o + j * 7 + f, none⟩ : Addr))).length : Int) = k + m + 1 + 1 + 1 + 1 + 1 + 1 by simp; omega]
    rfl
   have HM2 : Hid (m + 6 + n = (strA g 7 [0, 1, 2, 3, 4, 5] o (rowsQ (hs.take (j + 1)))).length) := by
    show _ = _
    rw [hnx]
    simp only [List.length_append, List.length_map, List.length_cons, List.length_nil, hln, ← HM.out]
    omega
   clear hR hR2 hnx hq hqI hqK hun hsub hown hmk
   go_wp2_with (first | (go_at_call 73; refine MI.mono ?_; rintro e w5 ⟨rfl, h9⟩; have h8 := h9.symm; clear h9))
   go_roundw
   case rel => exact ⟨j + 1, m + 6 + n, by omega, by go_num, by refine congrArg (Value.int .i64) ?_; first | omega | (push_cast; omega), HM2.out, h8.symm.trans HE2.out⟩
   case measure => simp [intOf]; omega
  ·have hke : j = hs.length := by omega
   subst hke
   have hm : m = (strA g 7 [0, 1, 2, 3, 4, 5] o (rowsQ hs)).length := by rw [HM.out, List.take_of_length_le (Nat.le_refl _)]
   have he : wr = mkw w (strA g 7 [0, 1, 2, 3, 4, 5] o (rowsQ hs)) k := by rw [HE.out, List.take_of_length_le (Nat.le_refl _)]
   go_wp2_with fail
   go_ret
   exact ⟨by rw [← hm]; rfl, rfl⟩
end Go.Proofs.YtojhakjkfkmklaaGreatDoor
namespace Go.Proofs.YtojhakjkfkmklaaGreatDoor
open Go.RowKit
set_option linter.unusedVariables false
set_option linter.unusedSimpArgs false
def strO (s : Nat) (F : List Nat) (u : Option Addr) (hs : List (Option Addr × Nat)) : List Addr := match u with
 | some p => strA p.block s F p.off (rowsQ hs)
 | none => []
theorem strO_nil (s : Nat) (F : List Nat) (u : Option Addr) : strO s F u [] = [] := by
 cases u with
 | none => rfl
 | some p => rfl
def StrR (K : List Addr) (w : World) (s f : Nat) (F : List Nat) (u : Option Addr) (hs : List (Option Addr × Nat)) : Prop := hs.length ≤ 1048576 ∧ (hs = [] ∨ ∃ g o, u = some ⟨g, o, none⟩ ∧ OwnR w g o s F hs.length ∧ HdrR K w g o s f hs)
theorem StrR.mk {K : List Addr} {w : World} {s f : Nat} {F : List Nat} {u : Option Addr} {hs : List (Option Addr × Nat)} (h : StrR K w s f F u hs) {A : List Addr} (hA : ∀ a ∈ A, a ∈ K) (k : Int) : StrR K (mkw w A k) s f F u hs := by
 refine ⟨h.1, ?_⟩
 rcases h.2 with h | ⟨g, o, e, h1, h2⟩
 ·exact .inl h
 ·exact .inr ⟨g, o, e, h1.mk A k, h2.mk hA k⟩
set_option maxHeartbeats 1000000 in
theorem markPhO (K : List Addr) (u : Option Addr) (c : Nat) (hs : List (Option Addr × Nat)) (k : Int) (w : World) (h : StrR K w 2 1 [0] u hs) (hA : ∀ a ∈ strO 2 [0] u hs, a ∈ K) (hk0 : 0 ≤ k) (hk : k + (strO 2 [0] u hs).length ≤ 4611686018427387904) :
  Calls Tryz.prog 107 #[.slice u hs.length c, .int .i64 k] w fun e w' => e = .returned (.int .i64 (k + (strO 2 [0] u hs).length)) ∧ w' = mkw w (strO 2 [0] u hs) k := by
 rcases h.2 with e | ⟨g, o, rfl, h1, h2⟩
 ·subst e
  rw [strO_nil]
  go_enter Tryz.func107, Tryz.ntmps107
  go_wp2_with fail
  go_loopw [1, 5] (fun q i wr => i = .int .i64 0 ∧ q = .int .i64 k ∧ Hid (wr = w)) (fun _ _ _ => 0)
  case atStart => exact ⟨rfl, rfl, rfl⟩
  case round =>
   obtain ⟨rfl, rfl, HE⟩ := hrel
   go_wp2_with fail
   go_ret
   exact ⟨by simp, HE.out⟩
 ·exact markPhR K g o c hs k w h.1 h1 h2 hA hk0 hk
set_option maxHeartbeats 1000000 in
theorem markInO (K : List Addr) (u : Option Addr) (c : Nat) (hs : List (Option Addr × Nat)) (k : Int) (w : World) (h : StrR K w 7 6 [0, 1, 2, 3, 4, 5] u hs) (hA : ∀ a ∈ strO 7 [0, 1, 2, 3, 4, 5] u hs, a ∈ K) (hk0 : 0 ≤ k) (hk : k + (strO 7 [0, 1, 2, 3, 4, 5] u hs).length ≤ 4611686018427387904) :
  Calls Tryz.prog 108 #[.slice u hs.length c, .int .i64 k] w fun e w' => e = .returned (.int .i64 (k + (strO 7 [0, 1, 2, 3, 4, 5] u hs).length)) ∧ w' = mkw w (strO 7 [0, 1, 2, 3, 4, 5] u hs) k := by
 rcases h.2 with e | ⟨g, o, rfl, h1, h2⟩
 ·subst e
  rw [strO_nil]
  go_enter Tryz.func108, Tryz.ntmps108
  go_wp2_with fail
  go_loopw [1, 5] (fun q i wr => i = .int .i64 0 ∧ q = .int .i64 k ∧ Hid (wr = w)) (fun _ _ _ => 0)
  case atStart => exact ⟨rfl, rfl, rfl⟩
  case round =>
   obtain ⟨rfl, rfl, HE⟩ := hrel
   go_wp2_with fail
   go_ret
   exact ⟨by simp, HE.out⟩
 ·exact markInR K g o c hs k w h.1 h1 h2 hA hk0 hk
end Go.Proofs.YtojhakjkfkmklaaGreatDoor
