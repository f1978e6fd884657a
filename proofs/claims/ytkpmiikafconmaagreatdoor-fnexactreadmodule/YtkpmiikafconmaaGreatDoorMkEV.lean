import Derived.Test.YtkpmiikafconmaaGreatDoorMrAV
import Derived.Deep.DeepCutAuto
namespace Go.Proofs.YtkpmiikafconmaaGreatDoor
open Go.RowKit
set_option linter.unusedVariables false
set_option linter.unusedSimpArgs false
def mkv (w : World) : List (Addr × Int) → World
 | [] => w
 | (a, k) :: l => mkv (w.setCell a (.int .i64 k)) l
theorem mkv_int : ∀ (w : World) (A : List (Addr × Int)) {a : Addr}, (∃ z : Int, w.cell? a = some (.int .i64 z)) → ∃ z : Int, (mkv w A).cell? a = some (.int .i64 z)
 | w, [], a, h => h
 | w, (b, k) :: A, a, h => by
  refine mkv_int _ A ?_
  obtain ⟨z, hz⟩ := h
  by_cases e : a = b
  ·subst e
   exact ⟨k, by rw [World.cell?_setCell_same _ _ _ hz]⟩
  ·exact ⟨z, by rw [World.cell?_setCell_other _ _ _ _ (fun h => e h.symm)]; exact hz⟩
theorem mkv_froz : ∀ (w : World) (A : List (Addr × Int)) {a : Addr}, (mkv w A).frozen? a = w.frozen? a
 | w, [], a => rfl
 | w, (b, k) :: A, a => (mkv_froz _ A).trans (World.frozen?_setCell ..)
set_option maxHeartbeats 2000000 in
set_option maxRecDepth 100000 in
theorem markInR (K : List Addr) (g o c : Nat) (hs : List (Option Addr × Nat)) (k : Int) (w : World) (hn : hs.length ≤ 1048576) (ho : OwnR w g o 7 [0, 1, 2, 3, 4, 5] hs.length) (hh : HdrR K w g o 7 6 hs) (hA : ∀ a ∈ strA g 7 [0, 1, 2, 3, 4, 5] o (rowsQ hs), a ∈ K) (hk0 : 0 ≤ k) (hk : k + (strA g 7 [0, 1, 2, 3, 4, 5] o (rowsQ hs)).length ≤ 4611686018427387904) :
  Calls Tryz.prog 104 #[.slice (some ⟨g, o, none⟩) hs.length c, .int .i64 k] w fun e w' => e = .returned (.int .i64 (k + (strA g 7 [0, 1, 2, 3, 4, 5] o (rowsQ hs)).length)) ∧ w' = mkw w (strA g 7 [0, 1, 2, 3, 4, 5] o (rowsQ hs)) k := by
 have HO : Hid (OwnR w g o 7 [0, 1, 2, 3, 4, 5] hs.length) := ho
 have HH : Hid (HdrR K w g o 7 6 hs) := hh
 have HA : Hid (∀ a ∈ strA g 7 [0, 1, 2, 3, 4, 5] o (rowsQ hs), a ∈ K) := hA
 have HK : Hid (k + (strA g 7 [0, 1, 2, 3, 4, 5] o (rowsQ hs)).length ≤ 4611686018427387904) := hk
 clear ho hh hA hk
 go_enter Tryz.func104, Tryz.ntmps104
 go_wp2_with fail
 go_loopw [1, 5] (fun q i wr => ∃ (j m : Nat), j ≤ hs.length ∧ i = .int .i64 j ∧ q = .int .i64 (k + m) ∧ Hid (m = (strA g 7 [0, 1, 2, 3, 4, 5] o (rowsQ (hs.take j))).length) ∧ Hid (wr = mkw w (strA g 7 [0, 1, 2, 3, 4, 5] o (rowsQ (hs.take j))) k)) (fun _ i _ => hs.length - (intOf i).toNat)
 case atStart => exact ⟨0, 0, by omega, rfl, by simp, rfl, rfl⟩
 case round =>
  obtain ⟨j, m, hj, rfl, rfl, HM, HE⟩ := hrel
  by_cases hlt : j < hs.length
  ·have hjI : (j : Int) < (hs.length : Int) := by omega
   obtain ⟨R, hR⟩ := strA_le g 7 [0, 1, 2, 3, 4, 5] o hs j hj
   have hsub : ∀ a ∈ strA g 7 [0, 1, 2, 3, 4, 5] o (rowsQ (hs.take j)), a ∈ K := fun a ha => HA.out a (by rw [hR]; exact List.mem_append_left _ ha)
   have hnx := strA_next g 7 [0, 1, 2, 3, 4, 5] o hs hlt
   obtain ⟨R2, hR2⟩ := strA_le g 7 [0, 1, 2, 3, 4, 5] o hs (j + 1) (by omega)
   have hbd := HK.out
   rw [hR2, hnx] at hbd
   simp only [List.length_append, List.length_map, List.length_cons, List.length_nil] at hbd
   rw [← HM.out] at hbd
   have hown := HO.out.mk (strA g 7 [0, 1, 2, 3, 4, 5] o (rowsQ (hs.take j))) k j hlt
   rw [← HE.out] at hown
   obtain ⟨z0, hz0⟩ : ∃ z : Int, wr.cell? ⟨g, o + j * 7, none⟩ = some (.int .i64 z) := by
    have h := mkv_int wr [] (hown 0 (by simp)).1
    exact h
   have hf0 : wr.frozen? ⟨g, o + j * 7, none⟩ = false := by
    have h := mkv_froz wr [] (a := ⟨g, o + j * 7, none⟩)
    exact h.trans (hown 0 (by simp)).2
   obtain ⟨z1, hz1⟩ : ∃ z : Int, (wr.setCell ⟨g, o + j * 7, none⟩ (.int .i64 (k + m))).cell? ⟨g, o + j * 7 + 1, none⟩ = some (.int .i64 z) := by
    have h := mkv_int wr [((⟨g, o + j * 7, none⟩ : Addr), k + m)] (hown 1 (by simp)).1
    exact h
   have hf1 : (wr.setCell ⟨g, o + j * 7, none⟩ (.int .i64 (k + m))).frozen? ⟨g, o + j * 7 + 1, none⟩ = false := by
    have h := mkv_froz wr [((⟨g, o + j * 7, none⟩ : Addr), k + m)] (a := ⟨g, o + j * 7 + 1, none⟩)
    exact h.trans (hown 1 (by simp)).2
   obtain ⟨z2, hz2⟩ : ∃ z : Int, ((wr.setCell ⟨g, o + j * 7, none⟩ (.int .i64 (k + m))).setCell ⟨g, o + j * 7 + 1, none⟩ (.int .i64 (k + m + 1))).cell? ⟨g, o + j * 7 + 2, none⟩ = some (.int .i64 z) := by
    have h := mkv_int wr [((⟨g, o + j * 7, none⟩ : Addr), k + m), ((⟨g, o + j * 7 + 1, none⟩ : Addr), k + m + 1)] (hown 2 (by simp)).1
    exact h
   have hf2 : ((wr.setCell ⟨g, o + j * 7, none⟩ (.int .i64 (k + m))).setCell ⟨g, o + j * 7 + 1, none⟩ (.int .i64 (k + m + 1))).frozen? ⟨g, o + j * 7 + 2, none⟩ = false := by
    have h := mkv_froz wr [((⟨g, o + j * 7, none⟩ : Addr), k + m), ((⟨g, o + j * 7 + 1, none⟩ : Addr), k + m + 1)] (a := ⟨g, o + j * 7 + 2, none⟩)
    exact h.trans (hown 2 (by simp)).2
   obtain ⟨z3, hz3⟩ : ∃ z : Int, (((wr.setCell ⟨g, o + j * 7, none⟩ (.int .i64 (k + m))).setCell ⟨g, o + j * 7 + 1, none⟩ (.int .i64 (k + m + 1))).setCell ⟨g, o + j * 7 + 2, none⟩ (.int .i64 (k + m + 1 + 1))).cell? ⟨g, o + j * 7 + 3, none⟩ = some (.int .i64 z) := by
    have h := mkv_int wr [((⟨g, o + j * 7, none⟩ : Addr), k + m), ((⟨g, o + j * 7 + 1, none⟩ : Addr), k + m + 1), ((⟨g, o + j * 7 + 2, none⟩ : Addr), k + m + 1 + 1)] (hown 3 (by simp)).1
    exact h
   have hf3 : (((wr.setCell ⟨g, o + j * 7, none⟩ (.int .i64 (k + m))).setCell ⟨g, o + j * 7 + 1, none⟩ (.int .i64 (k + m + 1))).setCell ⟨g, o + j * 7 + 2, none⟩ (.int .i64 (k + m + 1 + 1))).frozen? ⟨g, o + j * 7 + 3, none⟩ = false := by
    have h := mkv_froz wr [((⟨g, o + j * 7, none⟩ : Addr), k + m), ((⟨g, o + j * 7 + 1, none⟩ : Addr), k + m + 1), ((⟨g, o + j * 7 + 2, none⟩ : Addr), k + m + 1 + 1)] (a := ⟨g, o + j * 7 + 3, none⟩)
    exact h.trans (hown 3 (by simp)).2
   obtain ⟨z4, hz4⟩ : ∃ z : Int, ((((wr.setCell ⟨g, o + j * 7, none⟩ (.int .i64 (k + m))).setCell ⟨g, o + j * 7 + 1, none⟩ (.int .i64 (k + m + 1))).setCell ⟨g, o + j * 7 + 2, none⟩ (.int .i64 (k + m + 1 + 1))).setCell ⟨g, o + j * 7 + 3, none⟩ (.int .i64 (k + m + 1 + 1 + 1))).cell? ⟨g, o + j * 7 + 4, none⟩ = some (.int .i64 z) := by
    have h := mkv_int wr [((⟨g, o + j * 7, none⟩ : Addr), k + m), ((⟨g, o + j * 7 + 1, none⟩ : Addr), k + m + 1), ((⟨g, o + j * 7 + 2, none⟩ : Addr), k + m + 1 + 1), ((⟨g, o + j * 7 + 3, none⟩ : Addr), k + m + 1 + 1 + 1)] (hown 4 (by simp)).1
    exact h
   have hf4 : ((((wr.setCell ⟨g, o + j * 7, none⟩ (.int .i64 (k + m))).setCell ⟨g, o + j * 7 + 1, none⟩ (.int .i64 (k + m + 1))).setCell ⟨g, o + j * 7 + 2, none⟩ (.int .i64 (k + m + 1 + 1))).setCell ⟨g, o + j * 7 + 3, none⟩ (.int .i64 (k + m + 1 + 1 + 1))).frozen? ⟨g, o + j * 7 + 4, none⟩ = false := by
    have h := mkv_froz wr [((⟨g, o + j * 7, none⟩ : Addr), k + m), ((⟨g, o + j * 7 + 1, none⟩ : Addr), k + m + 1), ((⟨g, o + j * 7 + 2, none⟩ : Addr), k + m + 1 + 1), ((⟨g, o + j * 7 + 3, none⟩ : Addr), k + m + 1 + 1 + 1)] (a := ⟨g, o + j * 7 + 4, none⟩)
    exact h.trans (hown 4 (by simp)).2
   obtain ⟨z5, hz5⟩ : ∃ z : Int, (((((wr.setCell ⟨g, o + j * 7, none⟩ (.int .i64 (k + m))).setCell ⟨g, o + j * 7 + 1, none⟩ (.int .i64 (k + m + 1))).setCell ⟨g, o + j * 7 + 2, none⟩ (.int .i64 (k + m + 1 + 1))).setCell ⟨g, o + j * 7 + 3, none⟩ (.int .i64 (k + m + 1 + 1 + 1))).setCell ⟨g, o + j * 7 + 4, none⟩ (.int .i64 (k + m + 1 + 1 + 1 + 1))).cell? ⟨g, o + j * 7 + 5, none⟩ = some (.int .i64 z) := by
    have h := mkv_int wr [((⟨g, o + j * 7, none⟩ : Addr), k + m), ((⟨g, o + j * 7 + 1, none⟩ : Addr), k + m + 1), ((⟨g, o + j * 7 + 2, none⟩ : Addr), k + m + 1 + 1), ((⟨g, o + j * 7 + 3, none⟩ : Addr), k + m + 1 + 1 + 1), ((⟨g, o + j * 7 + 4, none⟩ : Addr), k + m + 1 + 1 + 1 + 1)] (hown 5 (by simp)).1
    exact h
   have hf5 : (((((wr.setCell ⟨g, o + j * 7, none⟩ (.int .i64 (k + m))).setCell ⟨g, o + j * 7 + 1, none⟩ (.int .i64 (k + m + 1))).setCell ⟨g, o + j * 7 + 2, none⟩ (.int .i64 (k + m + 1 + 1))).setCell ⟨g, o + j * 7 + 3, none⟩ (.int .i64 (k + m + 1 + 1 + 1))).setCell ⟨g, o + j * 7 + 4, none⟩ (.int .i64 (k + m + 1 + 1 + 1 + 1))).frozen? ⟨g, o + j * 7 + 5, none⟩ = false := by
    have h := mkv_froz wr [((⟨g, o + j * 7, none⟩ : Addr), k + m), ((⟨g, o + j * 7 + 1, none⟩ : Addr), k + m + 1), ((⟨g, o + j * 7 + 2, none⟩ : Addr), k + m + 1 + 1), ((⟨g, o + j * 7 + 3, none⟩ : Addr), k + m + 1 + 1 + 1), ((⟨g, o + j * 7 + 4, none⟩ : Addr), k + m + 1 + 1 + 1 + 1)] (a := ⟨g, o + j * 7 + 5, none⟩)
    exact h.trans (hown 5 (by simp)).2
   have hhd := (HH.out.mk hsub k) j hlt
   rw [← HE.out] at hhd
   obtain ⟨⟨cq, hq⟩, hqK, hqI⟩ := hhd
   obtain ⟨u, n, hun⟩ : ∃ u n, hs.getD j (none, 0) = (u, n) := ⟨_, _, rfl⟩
   rw [hun] at hq hqI hnx hbd
   dsimp only at hq hqI hnx hbd
   have hln := hqI.len
   rw [hln] at hbd
   have hn0 : n ≤ 1048576 := hqI.1
   have e3 : ((((((wr.setCell ⟨g, o + j * 7, none⟩ (.int .i64 (k + m))).setCell ⟨g, o + j * 7 + 1, none⟩ (.int .i64 (k + m + 1))).setCell ⟨g, o + j * 7 + 2, none⟩ (.int .i64 (k + m + 1 + 1))).setCell ⟨g, o + j * 7 + 3, none⟩ (.int .i64 (k + m + 1 + 1 + 1))).setCell ⟨g, o + j * 7 + 4, none⟩ (.int .i64 (k + m + 1 + 1 + 1 + 1))).setCell ⟨g, o + j * 7 + 5, none⟩ (.int .i64 (k + m + 1 + 1 + 1 + 1 + 1))).cell? ⟨g, o + j * 7 + 6, none⟩ = some (.slice u n cq) := by
    rw [World.cell?_setCell_other _ _ _ _ (by intro e; have h9 := congrArg Addr.off e; dsimp only at h9; omega), World.cell?_setCell_other _ _ _ _ (by intro e; have h9 := congrArg Addr.off e; dsimp only at h9; omega), World.cell?_setCell_other _ _ _ _ (by intro e; have h9 := congrArg Addr.off e; dsimp only at h9; omega), World.cell?_setCell_other _ _ _ _ (by intro e; have h9 := congrArg Addr.off e; dsimp only at h9; omega), World.cell?_setCell_other _ _ _ _ (by intro e; have h9 := congrArg Addr.off e; dsimp only at h9; omega), World.cell?_setCell_other _ _ _ _ (by intro e; have h9 := congrArg Addr.off e; dsimp only at h9; omega)]
    exact hq
   have hmk : ((((((wr.setCell ⟨g, o + j * 7, none⟩ (.int .i64 (k + m))).setCell ⟨g, o + j * 7 + 1, none⟩ (.int .i64 (k + m + 1))).setCell ⟨g, o + j * 7 + 2, none⟩ (.int .i64 (k + m + 1 + 1))).setCell ⟨g, o + j * 7 + 3, none⟩ (.int .i64 (k + m + 1 + 1 + 1))).setCell ⟨g, o + j * 7 + 4, none⟩ (.int .i64 (k + m + 1 + 1 + 1 + 1))).setCell ⟨g, o + j * 7 + 5, none⟩ (.int .i64 (k + m + 1 + 1 + 1 + 1 + 1))) = mkw wr [⟨g, o + j * 7, none⟩, ⟨g, o + j * 7 + 1, none⟩, ⟨g, o + j * 7 + 2, none⟩, ⟨g, o + j * 7 + 3, none⟩, ⟨g, o + j * 7 + 4, none⟩, ⟨g, o + j * 7 + 5, none⟩] (k + m) := rfl
   have MI := markIR u cq n (k + m + 1 + 1 + 1 + 1 + 1 + 1) ((((((wr.setCell ⟨g, o + j * 7, none⟩ (.int .i64 (k + m))).setCell ⟨g, o + j * 7 + 1, none⟩ (.int .i64 (k + m + 1))).setCell ⟨g, o + j * 7 + 2, none⟩ (.int .i64 (k + m + 1 + 1))).setCell ⟨g, o + j * 7 + 3, none⟩ (.int .i64 (k + m + 1 + 1 + 1))).setCell ⟨g, o + j * 7 + 4, none⟩ (.int .i64 (k + m + 1 + 1 + 1 + 1))).setCell ⟨g, o + j * 7 + 5, none⟩ (.int .i64 (k + m + 1 + 1 + 1 + 1 + 1))) (by rw [hmk]; exact hqI.mk _ _) (by omega) (by omega)
   have HE2 : Hid (mkw ((((((wr.setCell ⟨g, o + j * 7, none⟩ (.int .i64 (k + m))).setCell ⟨g, o + j * 7 + 1, none⟩ (.int .i64 (k + m + 1))).setCell ⟨g, o + j * 7 + 2, none⟩ (.int .i64 (k + m + 1 + 1))).setCell ⟨g, o + j * 7 + 3, none⟩ (.int .i64 (k + m + 1 + 1 + 1))).setCell ⟨g, o + j * 7 + 4, none⟩ (.int .i64 (k + m + 1 + 1 + 1 + 1))).setCell ⟨g, o + j * 7 + 5, none⟩ (.int .i64 (k + m + 1 + 1 + 1 + 1 + 1))) (rowH u n) (k + m + 1 + 1 + 1 + 1 + 1 + 1) = mkw w (strA g 7 [0, 1, 2, 3, 4, 5] o (rowsQ (hs.take (j + 1)))) k) := by
    show _ = _
    rw [hmk, hnx, mkw_append, mkw_append, ← HE.out, ← HM.out]
    rw [show k + ((m : Nat) : Int) + ((([0, 1, 2, 3, 4, 5] : List Nat).map (fun f => (⟨g, o + j * 7 + f, none⟩ : Addr))).length : Int) = k + m + 1 + 1 + 1 + 1 + 1 + 1 by simp; omega]
    rfl
   have HM2 : Hid (m + 6 + n = (strA g 7 [0, 1, 2, 3, 4, 5] o (rowsQ (hs.take (j + 1)))).length) := by
    show _ = _
    rw [hnx]
    simp only [List.length_append, List.length_map, List.length_cons, List.length_nil, hln, ← HM.out]
    omega
   clear hR hR2 hnx hq hqI hqK hun hsub hown hmk
   go_wp2_with (first | (go_at_call 65; refine MI.mono ?_; rintro e w5 ⟨rfl, h9⟩; have h8 := h9.symm; clear h9))
   go_roundw
   case rel => exact ⟨j + 1, m + 6 + n, by omega, by go_num, by refine congrArg (Value.int .i64) ?_; first | omega | (push_cast; omega), HM2.out, h8.symm.trans HE2.out⟩
   case measure => simp [intOf]; omega
  ·have hke : j = hs.length := by omega
   subst hke
   have hm : m = (strA g 7 [0, 1, 2, 3, 4, 5] o (rowsQ hs)).length := by rw [HM.out, List.take_of_length_le (Nat.le_refl _)]
   have he : wr = mkw w (strA g 7 [0, 1, 2, 3, 4, 5] o (rowsQ hs)) k := by rw [HE.out, List.take_of_length_le (Nat.le_refl _)]
   go_wp2_with fail
   go_ret
   exact ⟨by rw [← hm]; rfl, rfl⟩
end Go.Proofs.YtkpmiikafconmaaGreatDoor
namespace Go.Proofs.YtkpmiikafconmaaGreatDoor
open Go.RowKit
set_option linter.unusedVariables false
set_option linter.unusedSimpArgs false
def strO (s : Nat) (F : List Nat) (u : Option Addr) (hs : List (Option Addr × Nat)) : List Addr := match u with
 | some p => strA p.block s F p.off (rowsQ hs)
 | none => []
theorem strO_nil (s : Nat) (F : List Nat) (u : Option Addr) : strO s F u [] = [] := by
 cases u with
 | none => rfl
 | some p => rfl
def StrR (K : List Addr) (w : World) (s f : Nat) (F : List Nat) (u : Option Addr) (hs : List (Option Addr × Nat)) : Prop := hs.length ≤ 1048576 ∧ (hs = [] ∨ ∃ g o, u = some ⟨g, o, none⟩ ∧ OwnR w g o s F hs.length ∧ HdrR K w g o s f hs)
theorem StrR.mk {K : List Addr} {w : World} {s f : Nat} {F : List Nat} {u : Option Addr} {hs : List (Option Addr × Nat)} (h : StrR K w s f F u hs) {A : List Addr} (hA : ∀ a ∈ A, a ∈ K) (k : Int) : StrR K (mkw w A k) s f F u hs := by
 refine ⟨h.1, ?_⟩
 rcases h.2 with h | ⟨g, o, e, h1, h2⟩
 ·exact .inl h
 ·exact .inr ⟨g, o, e, h1.mk A k, h2.mk hA k⟩
set_option maxHeartbeats 1000000 in
theorem markPhO (K : List Addr) (u : Option Addr) (c : Nat) (hs : List (Option Addr × Nat)) (k : Int) (w : World) (h : StrR K w 2 1 [0] u hs) (hA : ∀ a ∈ strO 2 [0] u hs, a ∈ K) (hk0 : 0 ≤ k) (hk : k + (strO 2 [0] u hs).length ≤ 4611686018427387904) :
  Calls Tryz.prog 103 #[.slice u hs.length c, .int .i64 k] w fun e w' => e = .returned (.int .i64 (k + (strO 2 [0] u hs).length)) ∧ w' = mkw w (strO 2 [0] u hs) k := by
 rcases h.2 with e | ⟨g, o, rfl, h1, h2⟩
 ·subst e
  rw [strO_nil]
  go_enter Tryz.func103, Tryz.ntmps103
  go_wp2_with fail
  go_loopw [1, 5] (fun q i wr => i = .int .i64 0 ∧ q = .int .i64 k ∧ Hid (wr = w)) (fun _ _ _ => 0)
  case atStart => exact ⟨rfl, rfl, rfl⟩
  case round =>
   obtain ⟨rfl, rfl, HE⟩ := hrel
   go_wp2_with fail
   go_ret
   exact ⟨by simp, HE.out⟩
 ·exact markPhR K g o c hs k w h.1 h1 h2 hA hk0 hk
set_option maxHeartbeats 1000000 in
theorem markInO (K : List Addr) (u : Option Addr) (c : Nat) (hs : List (Option Addr × Nat)) (k : Int) (w : World) (h : StrR K w 7 6 [0, 1, 2, 3, 4, 5] u hs) (hA : ∀ a ∈ strO 7 [0, 1, 2, 3, 4, 5] u hs, a ∈ K) (hk0 : 0 ≤ k) (hk : k + (strO 7 [0, 1, 2, 3, 4, 5] u hs).length ≤ 4611686018427387904) :
  Calls Tryz.prog 104 #[.slice u hs.length c, .int .i64 k] w fun e w' => e = .returned (.int .i64 (k + (strO 7 [0, 1, 2, 3, 4, 5] u hs).length)) ∧ w' = mkw w (strO 7 [0, 1, 2, 3, 4, 5] u hs) k := by
 rcases h.2 with e | ⟨g, o, rfl, h1, h2⟩
 ·subst e
  rw [strO_nil]
  go_enter Tryz.func104, Tryz.ntmps104
  go_wp2_with fail
  go_loopw [1, 5] (fun q i wr => i = .int .i64 0 ∧ q = .int .i64 k ∧ Hid (wr = w)) (fun _ _ _ => 0)
  case atStart => exact ⟨rfl, rfl, rfl⟩
  case round =>
   obtain ⟨rfl, rfl, HE⟩ := hrel
   go_wp2_with fail
   go_ret
   exact ⟨by simp, HE.out⟩
 ·exact markInR K g o c hs k w h.1 h1 h2 hA hk0 hk
end Go.Proofs.YtkpmiikafconmaaGreatDoor
namespace Go.Proofs.YtkpmiikafconmaaGreatDoor
open Go.RowKit
set_option linter.unusedVariables false
set_option linter.unusedSimpArgs false
abbrev BlkH := (Option Addr × List (Option Addr × Nat)) × (Option Addr × List (Option Addr × Nat))
def blk0 : BlkH := ((none, []), (none, []))
def blkA (b : BlkH) : List Addr := strO 2 [0] b.1.1 b.1.2 ++ strO 7 [0, 1, 2, 3, 4, 5] b.2.1 b.2.2
def blksQ (bs : List BlkH) : List (List Addr × List Addr) := bs.map fun b => (blkA b, [])
def BlkR (K : List Addr) (w : World) (g o : Nat) (bs : List BlkH) : Prop := ∀ i, i < bs.length → (∃ c, w.cell? ⟨g, o + i * 6, none⟩ = some (.slice (bs.getD i blk0).1.1 (bs.getD i blk0).1.2.length c)) ∧ (⟨g, o + i * 6, none⟩ : Addr) ∉ K ∧ (∃ c, w.cell? ⟨g, o + i * 6 + 1, none⟩ = some (.slice (bs.getD i blk0).2.1 (bs.getD i blk0).2.2.length c)) ∧ (⟨g, o + i * 6 + 1, none⟩ : Addr) ∉ K ∧ StrR K w 2 1 [0] (bs.getD i blk0).1.1 (bs.getD i blk0).1.2 ∧ StrR K w 7 6 [0, 1, 2, 3, 4, 5] (bs.getD i blk0).2.1 (bs.getD i blk0).2.2
theorem BlkR.mk {K : List Addr} {w : World} {g o : Nat} {bs : List BlkH} (h : BlkR K w g o bs) {A : List Addr} (hA : ∀ a ∈ A, a ∈ K) (k : Int) : BlkR K (mkw w A k) g o bs := fun i hi => by
 obtain ⟨⟨c, h1⟩, h2, ⟨d, h3⟩, h4, h5, h6⟩ := h i hi
 exact ⟨⟨c, by rw [mkw_out _ _ _ _ (fun e => h2 (hA _ e))]; exact h1⟩, h2, ⟨d, by rw [mkw_out _ _ _ _ (fun e => h4 (hA _ e))]; exact h3⟩, h4, h5.mk hA k, h6.mk hA k⟩
theorem strB_next (g o : Nat) (bs : List BlkH) {j : Nat} (h : j < bs.length) : strA g 6 [2, 3, 4, 5] o (blksQ (bs.take (j + 1))) = strA g 6 [2, 3, 4, 5] o (blksQ (bs.take j)) ++ (blkA (bs.getD j blk0) ++ [2, 3, 4, 5].map (fun f => (⟨g, o + j * 6 + f, none⟩ : Addr))) := by
 rw [take_snocK blk0 h]
 unfold blksQ
 rw [List.map_append, List.map_singleton, strA_snoc]
 simp only [List.append_nil, List.length_map, List.length_take, Nat.min_eq_left (Nat.le_of_lt h)]
theorem strB_le (g o : Nat) (bs : List BlkH) : ∀ j, j ≤ bs.length → ∃ R, strA g 6 [2, 3, 4, 5] o (blksQ bs) = strA g 6 [2, 3, 4, 5] o (blksQ (bs.take j)) ++ R := by
 intro j hj
 suffices H : ∀ d j, j + d = bs.length → ∃ R, strA g 6 [2, 3, 4, 5] o (blksQ bs) = strA g 6 [2, 3, 4, 5] o (blksQ (bs.take j)) ++ R from H (bs.length - j) j (by omega)
 intro d
 induction d with
 | zero => intro j h; exact ⟨[], by rw [List.take_of_length_le (by omega), List.append_nil]⟩
 | succ d ih =>
  intro j h
  obtain ⟨R, hR⟩ := ih (j + 1) (by omega)
  rw [strB_next g o bs (by omega), List.append_assoc] at hR
  exact ⟨_, hR⟩
set_option maxHeartbeats 2000000 in
set_option maxRecDepth 100000 in
theorem markBlR (K : List Addr) (g o c : Nat) (bs : List BlkH) (k : Int) (w : World) (hn : bs.length ≤ 1048576) (ho : OwnR w g o 6 [2, 3, 4, 5] bs.length) (hh : BlkR K w g o bs) (hA : ∀ a ∈ strA g 6 [2, 3, 4, 5] o (blksQ bs), a ∈ K) (hk0 : 0 ≤ k) (hk : k + (strA g 6 [2, 3, 4, 5] o (blksQ bs)).length ≤ 4611686018427387904) :
  Calls Tryz.prog 66 #[.slice (some ⟨g, o, none⟩) bs.length c, .int .i64 k] w fun e w' => e = .returned (.int .i64 (k + (strA g 6 [2, 3, 4, 5] o (blksQ bs)).length)) ∧ w' = mkw w (strA g 6 [2, 3, 4, 5] o (blksQ bs)) k := by
 have HO : Hid (OwnR w g o 6 [2, 3, 4, 5] bs.length) := ho
 have HH : Hid (BlkR K w g o bs) := hh
 have HA : Hid (∀ a ∈ strA g 6 [2, 3, 4, 5] o (blksQ bs), a ∈ K) := hA
 have HK : Hid (k + (strA g 6 [2, 3, 4, 5] o (blksQ bs)).length ≤ 4611686018427387904) := hk
 clear ho hh hA hk
 go_enter Tryz.func66, Tryz.ntmps66
 go_wp2_with fail
 go_loopw [1, 5] (fun q i wr => ∃ (j m : Nat), j ≤ bs.length ∧ i = .int .i64 j ∧ q = .int .i64 (k + m) ∧ Hid (m = (strA g 6 [2, 3, 4, 5] o (blksQ (bs.take j))).length) ∧ Hid (wr = mkw w (strA g 6 [2, 3, 4, 5] o (blksQ (bs.take j))) k)) (fun _ i _ => bs.length - (intOf i).toNat)
 case atStart => exact ⟨0, 0, by omega, rfl, by simp, rfl, rfl⟩
 case round =>
  obtain ⟨j, m, hj, rfl, rfl, HM, HE⟩ := hrel
  by_cases hlt : j < bs.length
  ·have hjI : (j : Int) < (bs.length : Int) := by omega
   obtain ⟨R, hR⟩ := strB_le g o bs j hj
   have hsub : ∀ a ∈ strA g 6 [2, 3, 4, 5] o (blksQ (bs.take j)), a ∈ K := fun a ha => HA.out a (by rw [hR]; exact List.mem_append_left _ ha)
   have hnx := strB_next g o bs hlt
   obtain ⟨R2, hR2⟩ := strB_le g o bs (j + 1) (by omega)
   have hbd := HK.out
   have hall := HA.out
   rw [hR2, hnx] at hbd hall
   have hBO := HO.out.mk (strA g 6 [2, 3, 4, 5] o (blksQ (bs.take j))) k
   have hBH := HH.out.mk hsub k
   rw [← HE.out] at hBO hBH
   obtain ⟨⟨⟨pu, ps⟩, ⟨iu, is⟩⟩, hb⟩ : ∃ b, bs.getD j blk0 = b := ⟨_, rfl⟩
   rw [hb] at hnx hbd hall
   unfold blkA at hnx hbd hall
   dsimp only at hnx hbd hall
   have hA1 : ∀ a ∈ strO 2 [0] pu ps, a ∈ K := fun a ha => hall a (by simp [ha])
   have hA2 : ∀ a ∈ strO 7 [0, 1, 2, 3, 4, 5] iu is, a ∈ K := fun a ha => hall a (by simp [ha])
   simp only [List.length_append, List.length_map, List.length_cons, List.length_nil] at hbd
   rw [← HM.out] at hbd
   obtain ⟨⟨pc, q0⟩, qn0, _, _, hp, _⟩ := hBH j hlt
   rw [hb] at q0 hp
   dsimp only at q0 hp
   have P1 := markPhO K pu pc ps (k + m) wr hp hA1 (by omega) (by omega)
   obtain ⟨lp, hlp⟩ : ∃ n, (strO 2 [0] pu ps).length = n := ⟨_, rfl⟩
   obtain ⟨li, hli⟩ : ∃ n, (strO 7 [0, 1, 2, 3, 4, 5] iu is).length = n := ⟨_, rfl⟩
   rw [hlp] at P1 hbd
   rw [hli] at hbd
   obtain ⟨W1, hW1⟩ : ∃ W, mkw wr (strO 2 [0] pu ps) (k + m) = W := ⟨_, rfl⟩
   rw [hW1] at P1
   have hBH1 := hBH.mk hA1 (k + m) j hlt
   rw [hW1, hb] at hBH1
   obtain ⟨_, _, ⟨ic, q1⟩, qn1, _, hi2⟩ := hBH1
   dsimp only at q1 hi2
   have P2 := markInO K iu ic is (k + m + lp) W1 hi2 hA2 (by omega) (by omega)
   rw [hli] at P2
   obtain ⟨W2, hW2⟩ : ∃ W, mkw W1 (strO 7 [0, 1, 2, 3, 4, 5] iu is) (k + m + lp) = W := ⟨_, rfl⟩
   rw [hW2] at P2
   obtain ⟨m2, hm2⟩ : ∃ n : Nat, k + (n : Int) = k + m + lp + li := ⟨m + lp + li, by omega⟩
   rw [← hm2] at P2
   have hown := ((hBO.mk (strO 2 [0] pu ps) (k + m)).mk (strO 7 [0, 1, 2, 3, 4, 5] iu is) (k + m + lp)) j hlt
   rw [hW1, hW2] at hown
   obtain ⟨z0, hz0⟩ : ∃ z : Int, W2.cell? ⟨g, o + j * 6 + 2, none⟩ = some (.int .i64 z) := by
    have h := mkv_int W2 [] (hown 2 (by simp)).1
    exact h
   have hf0 : W2.frozen? ⟨g, o + j * 6 + 2, none⟩ = false := by
    have h := mkv_froz W2 [] (a := ⟨g, o + j * 6 + 2, none⟩)
    exact h.trans (hown 2 (by simp)).2
   obtain ⟨z1, hz1⟩ : ∃ z : Int, (W2.setCell ⟨g, o + j * 6 + 2, none⟩ (.int .i64 (k + (m2 : Int)))).cell? ⟨g, o + j * 6 + 3, none⟩ = some (.int .i64 z) := by
    have h := mkv_int W2 [((⟨g, o + j * 6 + 2, none⟩ : Addr), k + (m2 : Int))] (hown 3 (by simp)).1
    exact h
   have hf1 : (W2.setCell ⟨g, o + j * 6 + 2, none⟩ (.int .i64 (k + (m2 : Int)))).frozen? ⟨g, o + j * 6 + 3, none⟩ = false := by
    have h := mkv_froz W2 [((⟨g, o + j * 6 + 2, none⟩ : Addr), k + (m2 : Int))] (a := ⟨g, o + j * 6 + 3, none⟩)
    exact h.trans (hown 3 (by simp)).2
   obtain ⟨z2, hz2⟩ : ∃ z : Int, ((W2.setCell ⟨g, o + j * 6 + 2, none⟩ (.int .i64 (k + (m2 : Int)))).setCell ⟨g, o + j * 6 + 3, none⟩ (.int .i64 (k + (m2 : Int) + 1))).cell? ⟨g, o + j * 6 + 4, none⟩ = some (.int .i64 z) := by
    have h := mkv_int W2 [((⟨g, o + j * 6 + 2, none⟩ : Addr), k + (m2 : Int)), ((⟨g, o + j * 6 + 3, none⟩ : Addr), k + (m2 : Int) + 1)] (hown 4 (by simp)).1
    exact h
   have hf2 : ((W2.setCell ⟨g, o + j * 6 + 2, none⟩ (.int .i64 (k + (m2 : Int)))).setCell ⟨g, o + j * 6 + 3, none⟩ (.int .i64 (k + (m2 : Int) + 1))).frozen? ⟨g, o + j * 6 + 4, none⟩ = false := by
    have h := mkv_froz W2 [((⟨g, o + j * 6 + 2, none⟩ : Addr), k + (m2 : Int)), ((⟨g, o + j * 6 + 3, none⟩ : Addr), k + (m2 : Int) + 1)] (a := ⟨g, o + j * 6 + 4, none⟩)
    exact h.trans (hown 4 (by simp)).2
   obtain ⟨z3, hz3⟩ : ∃ z : Int, (((W2.setCell ⟨g, o + j * 6 + 2, none⟩ (.int .i64 (k + (m2 : Int)))).setCell ⟨g, o + j * 6 + 3, none⟩ (.int .i64 (k + (m2 : Int) + 1))).setCell ⟨g, o + j * 6 + 4, none⟩ (.int .i64 (k + (m2 : Int) + 1 + 1))).cell? ⟨g, o + j * 6 + 5, none⟩ = some (.int .i64 z) := by
    have h := mkv_int W2 [((⟨g, o + j * 6 + 2, none⟩ : Addr), k + (m2 : Int)), ((⟨g, o + j * 6 + 3, none⟩ : Addr), k + (m2 : Int) + 1), ((⟨g, o + j * 6 + 4, none⟩ : Addr), k + (m2 : Int) + 1 + 1)] (hown 5 (by simp)).1
    exact h
   have hf3 : (((W2.setCell ⟨g, o + j * 6 + 2, none⟩ (.int .i64 (k + (m2 : Int)))).setCell ⟨g, o + j * 6 + 3, none⟩ (.int .i64 (k + (m2 : Int) + 1))).setCell ⟨g, o + j * 6 + 4, none⟩ (.int .i64 (k + (m2 : Int) + 1 + 1))).frozen? ⟨g, o + j * 6 + 5, none⟩ = false := by
    have h := mkv_froz W2 [((⟨g, o + j * 6 + 2, none⟩ : Addr), k + (m2 : Int)), ((⟨g, o + j * 6 + 3, none⟩ : Addr), k + (m2 : Int) + 1), ((⟨g, o + j * 6 + 4, none⟩ : Addr), k + (m2 : Int) + 1 + 1)] (a := ⟨g, o + j * 6 + 5, none⟩)
    exact h.trans (hown 5 (by simp)).2
   have hW4 : ((((W2.setCell ⟨g, o + j * 6 + 2, none⟩ (.int .i64 (k + (m2 : Int)))).setCell ⟨g, o + j * 6 + 3, none⟩ (.int .i64 (k + (m2 : Int) + 1))).setCell ⟨g, o + j * 6 + 4, none⟩ (.int .i64 (k + (m2 : Int) + 1 + 1))).setCell ⟨g, o + j * 6 + 5, none⟩ (.int .i64 (k + (m2 : Int) + 1 + 1 + 1))) = mkw W2 [⟨g, o + j * 6 + 2, none⟩, ⟨g, o + j * 6 + 3, none⟩, ⟨g, o + j * 6 + 4, none⟩, ⟨g, o + j * 6 + 5, none⟩] (k + (m2 : Int)) := rfl
   have HE2 : Hid (((((W2.setCell ⟨g, o + j * 6 + 2, none⟩ (.int .i64 (k + (m2 : Int)))).setCell ⟨g, o + j * 6 + 3, none⟩ (.int .i64 (k + (m2 : Int) + 1))).setCell ⟨g, o + j * 6 + 4, none⟩ (.int .i64 (k + (m2 : Int) + 1 + 1))).setCell ⟨g, o + j * 6 + 5, none⟩ (.int .i64 (k + (m2 : Int) + 1 + 1 + 1))) = mkw w (strA g 6 [2, 3, 4, 5] o (blksQ (bs.take (j + 1)))) k) := by
    show _ = _
    rw [hW4, hnx, mkw_append, mkw_append, mkw_append, ← HE.out, ← HM.out, hW1, hlp, hW2, List.length_append, hlp, hli, show k + ((m : Nat) : Int) + ((lp + li : Nat) : Int) = k + (m2 : Int) by omega]
    rfl
   have HM2 : Hid (m2 + 4 = (strA g 6 [2, 3, 4, 5] o (blksQ (bs.take (j + 1)))).length) := by
    show _ = _
    rw [hnx]
    simp only [List.length_append, List.length_map, List.length_cons, List.length_nil, hlp, hli, ← HM.out]
    omega
   have hm2b : (m2 : Int) + k ≤ 4611686018427387800 + 200 := by omega
   have hm20 : 0 ≤ k + (m2 : Int) := by omega
   clear hR hR2 hnx hall hBO hBH hp hi2 hA1 hA2 hsub hown hW4 qn0 qn1 hb hW1 hW2 hlp hli hm2
   go_wp2_with (first | (go_at_call 103; refine P1.mono ?_; rintro e w5 ⟨rfl, h9⟩; subst h9) | (go_at_call 104; refine P2.mono ?_; rintro e w6 ⟨rfl, h9⟩; subst h9))
   go_roundw
   case rel => exact ⟨j + 1, m2 + 4, by omega, by go_num, by refine congrArg (Value.int .i64) ?_; first | omega | (push_cast; omega), HM2.out, HE2.out⟩
   case measure => simp [intOf]; omega
  ·have hke : j = bs.length := by omega
   subst hke
   have hm : m = (strA g 6 [2, 3, 4, 5] o (blksQ bs)).length := by rw [HM.out, List.take_of_length_le (Nat.le_refl _)]
   have he : wr = mkw w (strA g 6 [2, 3, 4, 5] o (blksQ bs)) k := by rw [HE.out, List.take_of_length_le (Nat.le_refl _)]
   go_wp2_with fail
   go_ret
   exact ⟨by rw [← hm]; rfl, rfl⟩
end Go.Proofs.YtkpmiikafconmaaGreatDoor
