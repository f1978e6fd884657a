import Derived.Test.YtenbodghkpbghaaDoorMrkQ
import Derived.Test.YtenbodghkpbghaaDoorOwAQ
namespace Go.Proofs.YtenbodghkpbghaaDoor
open Go.RowKit
set_option linter.unusedVariables false
set_option linter.unusedSimpArgs false
abbrev BlkH := (Option Addr × List (Option Addr × Nat)) × (Option Addr × List (Option Addr × Nat))
def blk0 : BlkH := ((none, []), (none, []))
def blkA (b : BlkH) : List Addr := strO 2 [0] b.1.1 b.1.2 ++ strO 7 [0, 1, 2, 3, 4, 5] b.2.1 b.2.2
def blksQ (bs : List BlkH) : List (List Addr × List Addr) := bs.map fun b => (blkA b, [])
def BlkR (K : List Addr) (w : World) (g o : Nat) (bs : List BlkH) : Prop := ∀ i, i < bs.length → (∃ c, w.cell? ⟨g, o + i * 6, none⟩ = some (.slice (bs.getD i blk0).1.1 (bs.getD i blk0).1.2.length c)) ∧ (⟨g, o + i * 6, none⟩ : Addr) ∉ K ∧ (∃ c, w.cell? ⟨g, o + i * 6 + 1, none⟩ = some (.slice (bs.getD i blk0).2.1 (bs.getD i blk0).2.2.length c)) ∧ (⟨g, o + i * 6 + 1, none⟩ : Addr) ∉ K ∧ StrR K w 2 1 [0] (bs.getD i blk0).1.1 (bs.getD i blk0).1.2 ∧ StrR K w 7 6 [0, 1, 2, 3, 4, 5] (bs.getD i blk0).2.1 (bs.getD i blk0).2.2
theorem BlkR.mk {K : List Addr} {w : World} {g o : Nat} {bs : List BlkH} (h : BlkR K w g o bs) {A : List Addr} (hA : ∀ a ∈ A, a ∈ K) (k : Int) : BlkR K (mkw w A k) g o bs := fun i hi => by
 obtain ⟨⟨c, h1⟩, h2, ⟨d, h3⟩, h4, h5, h6⟩ := h i hi
 exact ⟨⟨c, by rw [mkw_out _ _ _ _ (fun e => h2 (hA _ e))]; exact h1⟩, h2, ⟨d, by rw [mkw_out _ _ _ _ (fun e => h4 (hA _ e))]; exact h3⟩, h4, h5.mk hA k, h6.mk hA k⟩
theorem strB_next (g o : Nat) (bs : List BlkH) {j : Nat} (h : j < bs.length) : strA g 6 [2, 3, 4, 5] o (blksQ (bs.take (j + 1))) = strA g 6 [2, 3, 4, 5] o (blksQ (bs.take j)) ++ (blkA (bs.getD j blk0) ++ [2, 3, 4, 5].map (fun f => (⟨g, o + j * 6 + f, none⟩ : Addr))) := by
 rw [take_snocK blk0 h]
 unfold blksQ
 rw [List.map_append, List.map_singleton, strA_snoc]
 simp only [List.append_nil, List.length_map, List.length_take, Nat.min_eq_left (Nat.le_of_lt h)]
theorem strB_le (g o : Nat) (bs : List BlkH) : ∀ j, j ≤ bs.length → ∃ R, strA g 6 [2, 3, 4, 5] o (blksQ bs) = strA g 6 [2, 3, 4, 5] o (blksQ (bs.take j)) ++ R := by
 intro j hj
 suffices H : ∀ d j, j + d = bs.length → ∃ R, strA g 6 [2, 3, 4, 5] o (blksQ bs) = strA g 6 [2, 3, 4, 5] o (blksQ (bs.take j)) ++ R from H (bs.length - j) j (by omega)
 intro d
 induction d with
 | zero => intro j h; exact ⟨[], by rw [List.take_of_length_le (by omega), List.append_nil]⟩
 | succ d ih =>
  intro j h
  obtain ⟨R, hR⟩ := ih (j + 1) (by omega)
  rw [strB_next g o bs (by omega), List.append_assoc] at hR
  exact ⟨_, hR⟩
set_option maxHeartbeats 2000000 in
set_option maxRecDepth 100000 in
theorem markBlR (K : List Addr) (g o c : Nat) (bs : List BlkH) (k : Int) (w : World) (hn : bs.length ≤ 1048576) (ho : OwnR w g o 6 [2, 3, 4, 5] bs.length) (hh : BlkR K w g o bs) (hA : ∀ a ∈ strA g 6 [2, 3, 4, 5] o (blksQ bs), a ∈ K) (hk0 : 0 ≤ k) (hk : k + (strA g 6 [2, 3, 4, 5] o (blksQ bs)).length ≤ 4611686018427387904) :
  Calls Tryd.prog 39 #[.slice (some ⟨g, o, none⟩) bs.length c, .int .i64 k] w fun e w' => e = .returned (.int .i64 (k + (strA g 6 [2, 3, 4, 5] o (blksQ bs)).length)) ∧ w' = mkw w (strA g 6 [2, 3, 4, 5] o (blksQ bs)) k := by
 have HO : Hid (OwnR w g o 6 [2, 3, 4, 5] bs.length) := ho
 have HH : Hid (BlkR K w g o bs) := hh
 have HA : Hid (∀ a ∈ strA g 6 [2, 3, 4, 5] o (blksQ bs), a ∈ K) := hA
 have HK : Hid (k + (strA g 6 [2, 3, 4, 5] o (blksQ bs)).length ≤ 4611686018427387904) := hk
 clear ho hh hA hk
 go_enter Tryd.func39, Tryd.ntmps39
 go_wp2_with fail
 go_loopw [1, 5] (fun q i wr => ∃ (j m : Nat), j ≤ bs.length ∧ i = .int .i64 j ∧ q = .int .i64 (k + m) ∧ Hid (m = (strA g 6 [2, 3, 4, 5] o (blksQ (bs.take j))).length) ∧ Hid (wr = mkw w (strA g 6 [2, 3, 4, 5] o (blksQ (bs.take j))) k)) (fun _ i _ => bs.length - (intOf i).toNat)
 case atStart => exact ⟨0, 0, by omega, rfl, by simp, rfl, rfl⟩
 case round =>
  obtain ⟨j, m, hj, rfl, rfl, HM, HE⟩ := hrel
  by_cases hlt : j < bs.length
  ·have hjI : (j : Int) < (bs.length : Int) := by omega
   obtain ⟨R, hR⟩ := strB_le g o bs j hj
   have hsub : ∀ a ∈ strA g 6 [2, 3, 4, 5] o (blksQ (bs.take j)), a ∈ K := fun a ha => HA.out a (by rw [hR]; exact List.mem_append_left _ ha)
   have hnx := strB_next g o bs hlt
   obtain ⟨R2, hR2⟩ := strB_le g o bs (j + 1) (by omega)
   have hbd := HK.out
   have hall := HA.out
   rw [hR2, hnx] at hbd hall
   have hBO := HO.out.mk (strA g 6 [2, 3, 4, 5] o (blksQ (bs.take j))) k
   have hBH := HH.out.mk hsub k
   rw [← HE.out] at hBO hBH
   obtain ⟨⟨⟨pu, ps⟩, ⟨iu, is⟩⟩, hb⟩ : ∃ b, bs.getD j blk0 = b := ⟨_, rfl⟩
   rw [hb] at hnx hbd hall
   unfold blkA at hnx hbd hall
   dsimp only at hnx hbd hall
   have hA1 : ∀ a ∈ strO 2 [0] pu ps, a ∈ K := fun a ha => hall a (by simp [ha])
   have hA2 : ∀ a ∈ strO 7 [0, 1, 2, 3, 4, 5] iu is, a ∈ K := fun a ha => hall a (by simp [ha])
   simp only [List.length_append, List.length_map, List.length_cons, List.length_nil] at hbd
   rw [← HM.out] at hbd
   obtain ⟨⟨pc, q0⟩, qn0, _, _, hp, _⟩ := hBH j hlt
   rw [hb] at q0 hp
   dsimp only at q0 hp
   have P1 := markPhO K pu pc ps (k + m) wr hp hA1 (by omega) (by omega)
   obtain ⟨lp, hlp⟩ : ∃ n, (strO 2 [0] pu ps).length = n := ⟨_, rfl⟩
   obtain ⟨li, hli⟩ : ∃ n, (strO 7 [0, 1, 2, 3, 4, 5] iu is).length = n := ⟨_, rfl⟩
   rw [hlp] at P1 hbd
   rw [hli] at hbd
   obtain ⟨W1, hW1⟩ : ∃ W, mkw wr (strO 2 [0] pu ps) (k + m) = W := ⟨_, rfl⟩
   rw [hW1] at P1
   have hBH1 := hBH.mk hA1 (k + m) j hlt
   rw [hW1, hb] at hBH1
   obtain ⟨_, _, ⟨ic, q1⟩, qn1, _, hi2⟩ := hBH1
   dsimp only at q1 hi2
   have P2 := markInO K iu ic is (k + m + lp) W1 hi2 hA2 (by omega) (by omega)
   rw [hli] at P2
   obtain ⟨W2, hW2⟩ : ∃ W, mkw W1 (strO 7 [0, 1, 2, 3, 4, 5] iu is) (k + m + lp) = W := ⟨_, rfl⟩
   rw [hW2] at P2
   obtain ⟨m2, hm2⟩ : ∃ n : Nat, k + (n : Int) = k + m + lp + li := ⟨m + lp + li, by omega⟩
   rw [← hm2] at P2
   have hown := ((hBO.mk (strO 2 [0] pu ps) (k + m)).mk (strO 7 [0, 1, 2, 3, 4, 5] iu is) (k + m + lp)) j hlt
   rw [hW1, hW2] at hown
   obtain ⟨z0, hz0⟩ : ∃ z : Int, W2.cell? ⟨g, o + j * 6 + 2, none⟩ = some (.int .i64 z) := by
    have h := mkv_int W2 [] (hown 2 (by simp)).1
    exact h
   have hf0 : W2.frozen? ⟨g, o + j * 6 + 2, none⟩ = false := by
    have h := mkv_froz W2 [] (a := ⟨g, o + j * 6 + 2, none⟩)
    exact h.trans (hown 2 (by simp)).2
   obtain ⟨z1, hz1⟩ : ∃ z : Int, (W2.setCell ⟨g, o + j * 6 + 2, none⟩ (.int .i64 (k + (m2 : Int)))).cell? ⟨g, o + j * 6 + 3, none⟩ = some (.int .i64 z) := by
    have h := mkv_int W2 [((⟨g, o + j * 6 + 2, none⟩ : Addr), k + (m2 : Int))] (hown 3 (by simp)).1
    exact h
   have hf1 : (W2.setCell ⟨g, o + j * 6 + 2, none⟩ (.int .i64 (k + (m2 : Int)))).frozen? ⟨g, o + j * 6 + 3, none⟩ = false := by
    have h := mkv_froz W2 [((⟨g, o + j * 6 + 2, none⟩ : Addr), k + (m2 : Int))] (a := ⟨g, o + j * 6 + 3, none⟩)
    exact h.trans (hown 3 (by simp)).2
   obtain ⟨z2, hz2⟩ : ∃ z : Int, ((W2.setCell ⟨g, o + j * 6 + 2, none⟩ (.int .i64 (k + (m2 : Int)))).setCell ⟨g, o + j * 6 + 3, none⟩ (.int .i64 (k + (m2 : Int) + 1))).cell? ⟨g, o + j * 6 + 4, none⟩ = some (.int .i64 z) := by
    have h := mkv_int W2 [((⟨g, o + j * 6 + 2, none⟩ : Addr), k + (m2 : Int)), ((⟨g, o + j * 6 + 3, none⟩ : Addr), k + (m2 : Int) + 1)] (hown 4 (by simp)).1
    exact h
   have hf2 : ((W2.setCell ⟨g, o + j * 6 + 2, none⟩ (.int .i64 (k + (m2 : Int)))).setCell ⟨g, o + j * 6 + 3, none⟩ (.int .i64 (k + (m2 : Int) + 1))).frozen? ⟨g, o + j * 6 + 4, none⟩ = false := by
    have h := mkv_froz W2 [((⟨g, o + j * 6 + 2, none⟩ : Addr), k + (m2 : Int)), ((⟨g, o + j * 6 + 3, none⟩ : Addr), k + (m2 : Int) + 1)] (a := ⟨g, o + j * 6 + 4, none⟩)
    exact h.trans (hown 4 (by simp)).2
   obtain ⟨z3, hz3⟩ : ∃ z : Int, (((W2.setCell ⟨g, o + j * 6 + 2, none⟩ (.int .i64 (k + (m2 : Int)))).setCell ⟨g, o + j * 6 + 3, none⟩ (.int .i64 (k + (m2 : Int) + 1))).setCell ⟨g, o + j * 6 + 4, none⟩ (.int .i64 (k + (m2 : Int) + 1 + 1))).cell? ⟨g, o + j * 6 + 5, none⟩ = some (.int .i64 z) := by
    have h := mkv_int W2 [((⟨g, o + j * 6 + 2, none⟩ : Addr), k + (m2 : Int)), ((⟨g, o + j * 6 + 3, none⟩ : Addr), k + (m2 : Int) + 1), ((⟨g, o + j * 6 + 4, none⟩ : Addr), k + (m2 : Int) + 1 + 1)] (hown 5 (by simp)).1
    exact h
   have hf3 : (((W2.setCell ⟨g, o + j * 6 + 2, none⟩ (.int .i64 (k + (m2 : Int)))).setCell ⟨g, o + j * 6 + 3, none⟩ (.int .i64 (k + (m2 : Int) + 1))).setCell ⟨g, o + j * 6 + 4, none⟩ (.int .i64 (k + (m2 : Int) + 1 + 1))).frozen? ⟨g, o + j * 6 + 5, none⟩ = false := by
    have h := mkv_froz W2 [((⟨g, o + j * 6 + 2, none⟩ : Addr), k + (m2 : Int)), ((⟨g, o + j * 6 + 3, none⟩ : Addr), k + (m2 : Int) + 1), ((⟨g, o + j * 6 + 4, none⟩ : Addr), k + (m2 : Int) + 1 + 1)] (a := ⟨g, o + j * 6 + 5, none⟩)
    exact h.trans (hown 5 (by simp)).2
   have hW4 : ((((W2.setCell ⟨g, o + j * 6 + 2, none⟩ (.int .i64 (k + (m2 : Int)))).setCell ⟨g, o + j * 6 + 3, none⟩ (.int .i64 (k + (m2 : Int) + 1))).setCell ⟨g, o + j * 6 + 4, none⟩ (.int .i64 (k + (m2 : Int) + 1 + 1))).setCell ⟨g, o + j * 6 + 5, none⟩ (.int .i64 (k + (m2 : Int) + 1 + 1 + 1))) = mkw W2 [⟨g, o + j * 6 + 2, none⟩, ⟨g, o + j * 6 + 3, none⟩, ⟨g, o + j * 6 + 4, none⟩, ⟨g, o + j * 6 + 5, none⟩] (k + (m2 : Int)) := rfl
   have HE2 : Hid (((((W2.setCell ⟨g, o + j * 6 + 2, none⟩ (.int .i64 (k + (m2 : Int)))).setCell ⟨g, o + j * 6 + 3, none⟩ (.int .i64 (k + (m2 : Int) + 1))).setCell ⟨g, o + j * 6 + 4, none⟩ (.int .i64 (k + (m2 : Int) + 1 + 1))).setCell ⟨g, o + j * 6 + 5, none⟩ (.int .i64 (k + (m2 : Int) + 1 + 1 + 1))) = mkw w (strA g 6 [2, 3, 4, 5] o (blksQ (bs.take (j + 1)))) k) := by
    show _ = _
    rw [hW4, hnx, mkw_append, mkw_append, mkw_append, ← HE.out, ← HM.out, hW1, hlp, hW2, List.length_append, hlp, hli, show k + ((m : Nat) : Int) + ((lp + li : Nat) : Int) = k + (m2 : Int) by omega]
    rfl
   have HM2 : Hid (m2 + 4 = (strA g 6 [2, 3, 4, 5] o (blksQ (bs.take (j + 1)))).length) := by
    show _ = _
    rw [hnx]
    simp only [List.length_append, List.length_map, List.length_cons, List.length_nil, hlp, hli, ← HM.out]
    omega
   have hm2b : (m2 : Int) + k ≤ 4611686018427387800 + 200 := by omega
   have hm20 : 0 ≤ k + (m2 : Int) := by omega
   clear hR hR2 hnx hall hBO hBH hp hi2 hA1 hA2 hsub hown hW4 qn0 qn1 hb hW1 hW2 hlp hli hm2
   go_wp2_with (first | (go_at_call 59; refine P1.mono ?_; rintro e w5 ⟨rfl, h9⟩; subst h9) | (go_at_call 60; refine P2.mono ?_; rintro e w6 ⟨rfl, h9⟩; subst h9))
   go_roundw
   case rel => exact ⟨j + 1, m2 + 4, by omega, by go_num, by refine congrArg (Value.int .i64) ?_; first | omega | (push_cast; omega), HM2.out, HE2.out⟩
   case measure => simp [intOf]; omega
  ·have hke : j = bs.length := by omega
   subst hke
   have hm : m = (strA g 6 [2, 3, 4, 5] o (blksQ bs)).length := by rw [HM.out, List.take_of_length_le (Nat.le_refl _)]
   have he : wr = mkw w (strA g 6 [2, 3, 4, 5] o (blksQ bs)) k := by rw [HE.out, List.take_of_length_le (Nat.le_refl _)]
   go_wp2_with fail
   go_ret
   exact ⟨by rw [← hm]; rfl, rfl⟩
end Go.Proofs.YtenbodghkpbghaaDoor
namespace Go.Proofs.YtenbodghkpbghaaDoor
open Go.RowKit
set_option linter.unusedVariables false
set_option linter.unusedSimpArgs false
def strB (u : Option Addr) (bs : List BlkH) : List Addr := match u with
 | some p => strA p.block 6 [2, 3, 4, 5] p.off (blksQ bs)
 | none => []
theorem strB_nil (u : Option Addr) : strB u [] = [] := by
 cases u with
 | none => rfl
 | some p => rfl
def BlsR (K : List Addr) (w : World) (u : Option Addr) (bs : List BlkH) : Prop := bs.length ≤ 1048576 ∧ (bs = [] ∨ ∃ g o, u = some ⟨g, o, none⟩ ∧ OwnR w g o 6 [2, 3, 4, 5] bs.length ∧ BlkR K w g o bs)
theorem BlsR.mk {K : List Addr} {w : World} {u : Option Addr} {bs : List BlkH} (h : BlsR K w u bs) {A : List Addr} (hA : ∀ a ∈ A, a ∈ K) (k : Int) : BlsR K (mkw w A k) u bs := by
 refine ⟨h.1, ?_⟩
 rcases h.2 with h | ⟨g, o, e, h1, h2⟩
 ·exact .inl h
 ·exact .inr ⟨g, o, e, h1.mk A k, h2.mk hA k⟩
set_option maxHeartbeats 1000000 in
theorem markBlO (K : List Addr) (u : Option Addr) (c : Nat) (bs : List BlkH) (k : Int) (w : World) (h : BlsR K w u bs) (hA : ∀ a ∈ strB u bs, a ∈ K) (hk0 : 0 ≤ k) (hk : k + (strB u bs).length ≤ 4611686018427387904) :
  Calls Tryd.prog 39 #[.slice u bs.length c, .int .i64 k] w fun e w' => e = .returned (.int .i64 (k + (strB u bs).length)) ∧ w' = mkw w (strB u bs) k := by
 rcases h.2 with e | ⟨g, o, rfl, h1, h2⟩
 ·subst e
  rw [strB_nil]
  go_enter Tryd.func39, Tryd.ntmps39
  go_wp2_with fail
  go_loopw [1, 5] (fun q i wr => i = .int .i64 0 ∧ q = .int .i64 k ∧ Hid (wr = w)) (fun _ _ _ => 0)
  case atStart => exact ⟨rfl, rfl, rfl⟩
  case round =>
   obtain ⟨rfl, rfl, HE⟩ := hrel
   go_wp2_with fail
   go_ret
   exact ⟨by simp, HE.out⟩
 ·exact markBlR K g o c bs k w h.1 h1 h2 hA hk0 hk
abbrev FunH := (Option Addr × Nat) × (Option Addr × List BlkH)
def fun0H : FunH := ((none, 0), (none, []))
def funsQ (fs : List FunH) : List (List Addr × List Addr) := fs.map fun f => (rowH f.1.1 f.1.2, strB f.2.1 f.2.2)
def FunsR (K : List Addr) (w : World) (g o : Nat) (fs : List FunH) : Prop := ∀ i, i < fs.length → (∃ c, w.cell? ⟨g, o + i * 3, none⟩ = some (.slice (fs.getD i fun0H).1.1 (fs.getD i fun0H).1.2 c)) ∧ (⟨g, o + i * 3, none⟩ : Addr) ∉ K ∧ (∃ c, w.cell? ⟨g, o + i * 3 + 2, none⟩ = some (.slice (fs.getD i fun0H).2.1 (fs.getD i fun0H).2.2.length c)) ∧ (⟨g, o + i * 3 + 2, none⟩ : Addr) ∉ K ∧ IntR w (fs.getD i fun0H).1.1 (fs.getD i fun0H).1.2 ∧ BlsR K w (fs.getD i fun0H).2.1 (fs.getD i fun0H).2.2
theorem FunsR.mk {K : List Addr} {w : World} {g o : Nat} {fs : List FunH} (h : FunsR K w g o fs) {A : List Addr} (hA : ∀ a ∈ A, a ∈ K) (k : Int) : FunsR K (mkw w A k) g o fs := fun i hi => by
 obtain ⟨⟨c, h1⟩, h2, ⟨d, h3⟩, h4, h5, h6⟩ := h i hi
 exact ⟨⟨c, by rw [mkw_out _ _ _ _ (fun e => h2 (hA _ e))]; exact h1⟩, h2, ⟨d, by rw [mkw_out _ _ _ _ (fun e => h4 (hA _ e))]; exact h3⟩, h4, h5.mk A k, h6.mk hA k⟩
end Go.Proofs.YtenbodghkpbghaaDoor
namespace Go.Proofs.YtenbodghkpbghaaDoor
open Go.RowKit
set_option linter.unusedVariables false
set_option linter.unusedSimpArgs false
def Hlds (v : World) (A : List Addr) (k : Int) : Prop := ∀ (i : Nat) (a : Addr), A[i]? = some a → v.cell? a = some (.int .i64 (k + (i : Int)))
theorem Hlds.left {v : World} {A B : List Addr} {k : Int} (h : Hlds v (A ++ B) k) : Hlds v A k := fun i a ha => h i a (by
 have hi := (List.getElem?_eq_some_iff.1 ha).1
 rw [List.getElem?_append_left hi]; exact ha)
theorem Hlds.right {v : World} {A B : List Addr} {k : Int} (h : Hlds v (A ++ B) k) : Hlds v B (k + (A.length : Int)) := fun i a ha => by
 have h1 := h (A.length + i) a (by rw [List.getElem?_append_right (by omega), Nat.add_sub_cancel_left]; exact ha)
 rw [h1]
 refine congrArg (fun x => some (Value.int .i64 x)) ?_
 omega
theorem hlds_mkw {A : List Addr} {k : Int} {w : World} (hn : A.Nodup) (hc : ∀ a ∈ A, ∃ v, w.cell? a = some v) : Hlds (mkw w A k) A k := fun i a ha => by
 obtain ⟨hi, rfl⟩ := List.getElem?_eq_some_iff.1 ha
 exact mkw_at A k w hn hc i hi
set_option maxHeartbeats 1000000 in
theorem heldIR (u : Option Addr) (c n : Nat) (k : Int) (v : World) (h : IntR v u n) (hh : Hlds v (rowH u n) k) (hk0 : 0 ≤ k) (hk : k ≤ 4611686018427387904) :
  Calls Tryd.prog 40 #[.slice u n c, .int .i64 k] v fun e w' => e = .returned (.int .i64 (k + n)) ∧ w' = v := by
 have hn := h.1
 have HV : Hid (n = 0 ∨ ∃ b off, u = some ⟨b, off, none⟩ ∧ ∀ i, i < n → v.cell? ⟨b, off + i, none⟩ = some (.int .i64 (k + i))) := by
  rcases h.2 with h | ⟨b, off, rfl, _⟩
  ·exact .inl h
  ·refine .inr ⟨b, off, rfl, fun i hi => hh i _ ?_⟩
   simp [rowH, rowA, hi]
 clear h hh
 go_enter Tryd.func40, Tryd.ntmps40
 go_wp2_with fail
 go_loop [1, 5] (fun q i => ∃ j : Nat, j ≤ n ∧ i = .int .i64 j ∧ q = .int .i64 (k + j)) (fun _ i => n - (intOf i).toNat)
 case atStart => exact ⟨0, by omega, rfl, by simp⟩
 case round =>
  obtain ⟨j, hj, rfl, rfl⟩ := hrel
  by_cases hlt : j < n
  ·rcases HV.out with h | ⟨b, off, rfl, hc⟩
   ·omega
   have e1 := hc j hlt
   clear hc
   go_wp2_with fail
   exact ⟨⟨j + 1, by omega, by go_num, by refine congrArg (Value.int .i64) ?_; first | omega | (unfold wrap64; omega)⟩, by simp only [intOf]; omega⟩
  ·have hke : j = n := by omega
   subst hke
   go_wp2_with fail
   go_ret
   exact ⟨rfl, rfl⟩
set_option maxHeartbeats 2000000 in
set_option maxRecDepth 100000 in
theorem heldPhR (K : List Addr) (g o c : Nat) (hs : List (Option Addr × Nat)) (k : Int) (v : World) (hn : hs.length ≤ 1048576) (hh : HdrR K v g o 2 1 hs) (hA : Hlds v (strA g 2 [0] o (rowsQ hs)) k) (hk0 : 0 ≤ k) (hk : k + (strA g 2 [0] o (rowsQ hs)).length ≤ 4611686018427387904) :
  Calls Tryd.prog 61 #[.slice (some ⟨g, o, none⟩) hs.length c, .int .i64 k] v fun e w' => e = .returned (.int .i64 (k + (strA g 2 [0] o (rowsQ hs)).length)) ∧ w' = v := by
 have HH : Hid (HdrR K v g o 2 1 hs) := hh
 have HA : Hid (Hlds v (strA g 2 [0] o (rowsQ hs)) k) := hA
 have HK : Hid (k + (strA g 2 [0] o (rowsQ hs)).length ≤ 4611686018427387904) := hk
 clear hh hA hk
 go_enter Tryd.func61, Tryd.ntmps61
 go_wp2_with fail
 go_loop [1, 5] (fun q i => ∃ (j m : Nat), j ≤ hs.length ∧ i = .int .i64 j ∧ q = .int .i64 (k + m) ∧ Hid (m = (strA g 2 [0] o (rowsQ (hs.take j))).length)) (fun _ i => hs.length - (intOf i).toNat)
 case atStart => exact ⟨0, 0, by omega, rfl, by simp, rfl⟩
 case round =>
  obtain ⟨j, m, hj, rfl, rfl, HM⟩ := hrel
  by_cases hlt : j < hs.length
  ·have hjI : (j : Int) < (hs.length : Int) := by omega
   have hnx := strA_next g 2 [0] o hs hlt
   obtain ⟨R2, hR2⟩ := strA_le g 2 [0] o hs (j + 1) (by omega)
   have hbd := HK.out
   have hal := HA.out
   rw [hR2, hnx] at hbd hal
   simp only [List.length_append, List.length_map, List.length_cons, List.length_nil] at hbd
   have h1 := hal.left.right
   rw [← HM.out] at hbd h1
   obtain ⟨⟨cq, hq⟩, hqK, hqI⟩ := HH.out j hlt
   obtain ⟨u, n, hun⟩ : ∃ u n, hs.getD j (none, 0) = (u, n) := ⟨_, _, rfl⟩
   rw [hun] at hq hqI hnx hbd h1
   dsimp only at hq hqI hnx hbd h1
   have hln := hqI.len
   rw [hln] at hbd
   have hn0 : n ≤ 1048576 := hqI.1
   have e1 : v.cell? ⟨g, o + j * 2, none⟩ = some (.int .i64 (k + m)) := by
    have h2 := h1.left 0 ⟨g, o + j * 2 + 0, none⟩ rfl
    simpa using h2
   have h3 := h1.right
   have MI := heldIR u cq n (k + m + 1) v hqI (by simpa using h3) (by omega) (by omega)
   have HM2 : Hid (m + 1 + n = (strA g 2 [0] o (rowsQ (hs.take (j + 1)))).length) := by
    show _ = _
    rw [hnx]
    simp only [List.length_append, List.length_map, List.length_cons, List.length_nil, hln, ← HM.out]
    omega
   have hm1 : ¬ (k + (m : Int) + 1 + (n : Int) < 0) := by omega
   clear hR2 hnx hqI hqK hun h1 h3 hal
   go_wp2_with (first | (go_at_call 40; refine MI.mono ?_; rintro e w5 ⟨rfl, rfl⟩))
   exact ⟨⟨j + 1, m + 1 + n, by omega, by go_num, by refine congrArg (Value.int .i64) ?_; first | omega | (push_cast; omega), HM2.out⟩, by simp only [intOf]; omega⟩
  ·have hke : j = hs.length := by omega
   subst hke
   have hm : m = (strA g 2 [0] o (rowsQ hs)).length := by rw [HM.out, List.take_of_length_le (Nat.le_refl _)]
   go_wp2_with fail
   go_ret
   exact ⟨by rw [← hm]; rfl, rfl⟩
end Go.Proofs.YtenbodghkpbghaaDoor
namespace Go.Proofs.YtenbodghkpbghaaDoor
open Go.RowKit
set_option linter.unusedVariables false
set_option linter.unusedSimpArgs false
set_option maxHeartbeats 2000000 in
set_option maxRecDepth 100000 in
theorem heldInR (K : List Addr) (g o c : Nat) (hs : List (Option Addr × Nat)) (k : Int) (v : World) (hn : hs.length ≤ 1048576) (hh : HdrR K v g o 7 6 hs) (hA : Hlds v (strA g 7 [0, 1, 2, 3, 4, 5] o (rowsQ hs)) k) (hk0 : 0 ≤ k) (hk : k + (strA g 7 [0, 1, 2, 3, 4, 5] o (rowsQ hs)).length ≤ 4611686018427387904) :
  Calls Tryd.prog 62 #[.slice (some ⟨g, o, none⟩) hs.length c, .int .i64 k] v fun e w' => e = .returned (.int .i64 (k + (strA g 7 [0, 1, 2, 3, 4, 5] o (rowsQ hs)).length)) ∧ w' = v := by
 have HH : Hid (HdrR K v g o 7 6 hs) := hh
 have HA : Hid (Hlds v (strA g 7 [0, 1, 2, 3, 4, 5] o (rowsQ hs)) k) := hA
 have HK : Hid (k + (strA g 7 [0, 1, 2, 3, 4, 5] o (rowsQ hs)).length ≤ 4611686018427387904) := hk
 clear hh hA hk
 go_enter Tryd.func62, Tryd.ntmps62
 go_wp2_with fail
 go_loop [1, 5] (fun q i => ∃ (j m : Nat), j ≤ hs.length ∧ i = .int .i64 j ∧ q = .int .i64 (k + m) ∧ Hid (m = (strA g 7 [0, 1, 2, 3, 4, 5] o (rowsQ (hs.take j))).length)) (fun _ i => hs.length - (intOf i).toNat)
 case atStart => exact ⟨0, 0, by omega, rfl, by simp, rfl⟩
 case round =>
  obtain ⟨j, m, hj, rfl, rfl, HM⟩ := hrel
  by_cases hlt : j < hs.length
  ·have hjI : (j : Int) < (hs.length : Int) := by omega
   have hnx := strA_next g 7 [0, 1, 2, 3, 4, 5] o hs hlt
   obtain ⟨R2, hR2⟩ := strA_le g 7 [0, 1, 2, 3, 4, 5] o hs (j + 1) (by omega)
   have hbd := HK.out
   have hal := HA.out
   rw [hR2, hnx] at hbd hal
   simp only [List.length_append, List.length_map, List.length_cons, List.length_nil] at hbd
   have h1 := hal.left.right
   rw [← HM.out] at hbd h1
   obtain ⟨⟨cq, hq⟩, hqK, hqI⟩ := HH.out j hlt
   obtain ⟨u, n, hun⟩ : ∃ u n, hs.getD j (none, 0) = (u, n) := ⟨_, _, rfl⟩
   rw [hun] at hq hqI hnx hbd h1
   dsimp only at hq hqI hnx hbd h1
   have hln := hqI.len
   rw [hln] at hbd
   have hn0 : n ≤ 1048576 := hqI.1
   have e0 : v.cell? ⟨g, o + j * 7, none⟩ = some (.int .i64 (k + m)) := by
    have h2 := h1.left 0 ⟨g, o + j * 7 + 0, none⟩ rfl
    refine h2.trans (congrArg (fun x => some (Value.int .i64 x)) ?_)
    omega
   have e1 : v.cell? ⟨g, o + j * 7 + 1, none⟩ = some (.int .i64 (k + m + 1)) := by
    have h2 := h1.left 1 ⟨g, o + j * 7 + 1, none⟩ rfl
    refine h2.trans (congrArg (fun x => some (Value.int .i64 x)) ?_)
    omega
   have e2 : v.cell? ⟨g, o + j * 7 + 2, none⟩ = some (.int .i64 (k + m + 1 + 1)) := by
    have h2 := h1.left 2 ⟨g, o + j * 7 + 2, none⟩ rfl
    refine h2.trans (congrArg (fun x => some (Value.int .i64 x)) ?_)
    omega
   have e3 : v.cell? ⟨g, o + j * 7 + 3, none⟩ = some (.int .i64 (k + m + 1 + 1 + 1)) := by
    have h2 := h1.left 3 ⟨g, o + j * 7 + 3, none⟩ rfl
    refine h2.trans (congrArg (fun x => some (Value.int .i64 x)) ?_)
    omega
   have e4 : v.cell? ⟨g, o + j * 7 + 4, none⟩ = some (.int .i64 (k + m + 1 + 1 + 1 + 1)) := by
    have h2 := h1.left 4 ⟨g, o + j * 7 + 4, none⟩ rfl
    refine h2.trans (congrArg (fun x => some (Value.int .i64 x)) ?_)
    omega
   have e5 : v.cell? ⟨g, o + j * 7 + 5, none⟩ = some (.int .i64 (k + m + 1 + 1 + 1 + 1 + 1)) := by
    have h2 := h1.left 5 ⟨g, o + j * 7 + 5, none⟩ rfl
    refine h2.trans (congrArg (fun x => some (Value.int .i64 x)) ?_)
    omega
   have h3 := h1.right
   have MI := heldIR u cq n (k + m + 1 + 1 + 1 + 1 + 1 + 1) v hqI (by have h4 := h3; rw [show k + ((m : Nat) : Int) + ((([0, 1, 2, 3, 4, 5] : List Nat).map (fun f => (⟨g, o + j * 7 + f, none⟩ : Addr))).length : Int) = k + m + 1 + 1 + 1 + 1 + 1 + 1 by simp; omega] at h4; exact h4) (by omega) (by omega)
   have HM2 : Hid (m + 6 + n = (strA g 7 [0, 1, 2, 3, 4, 5] o (rowsQ (hs.take (j + 1)))).length) := by
    show _ = _
    rw [hnx]
    simp only [List.length_append, List.length_map, List.length_cons, List.length_nil, hln, ← HM.out]
    omega
   have hm1 : ¬ (k + (m : Int) + 1 + 1 + 1 + 1 + 1 + 1 + (n : Int) < 0) := by omega
   clear hR2 hnx hqI hqK hun h1 h3 hal
   go_wp2_with (first | (go_at_call 40; refine MI.mono ?_; rintro e w5 ⟨rfl, rfl⟩))
   exact ⟨⟨j + 1, m + 6 + n, by omega, by go_num, by refine congrArg (Value.int .i64) ?_; first | omega | (push_cast; omega), HM2.out⟩, by simp only [intOf]; omega⟩
  ·have hke : j = hs.length := by omega
   subst hke
   have hm : m = (strA g 7 [0, 1, 2, 3, 4, 5] o (rowsQ hs)).length := by rw [HM.out, List.take_of_length_le (Nat.le_refl _)]
   go_wp2_with fail
   go_ret
   exact ⟨by rw [← hm]; rfl, rfl⟩
end Go.Proofs.YtenbodghkpbghaaDoor
namespace Go.Proofs.YtenbodghkpbghaaDoor
open Go.RowKit
set_option linter.unusedVariables false
set_option linter.unusedSimpArgs false
set_option maxHeartbeats 1000000 in
theorem heldPhO (K : List Addr) (u : Option Addr) (c : Nat) (hs : List (Option Addr × Nat)) (k : Int) (v : World) (h : StrR K v 2 1 [0] u hs) (hA : Hlds v (strO 2 [0] u hs) k) (hk0 : 0 ≤ k) (hk : k + (strO 2 [0] u hs).length ≤ 4611686018427387904) :
  Calls Tryd.prog 61 #[.slice u hs.length c, .int .i64 k] v fun e w' => e = .returned (.int .i64 (k + (strO 2 [0] u hs).length)) ∧ w' = v := by
 rcases h.2 with e | ⟨g, o, rfl, h1, h2⟩
 ·subst e
  rw [strO_nil]
  go_enter Tryd.func61, Tryd.ntmps61
  go_wp2_with fail
  go_loop [1, 5] (fun q i => i = .int .i64 0 ∧ q = .int .i64 k) (fun _ _ => 0)
  case atStart => exact ⟨rfl, rfl⟩
  case round =>
   obtain ⟨rfl, rfl⟩ := hrel
   go_wp2_with fail
   go_ret
   exact ⟨by simp, rfl⟩
 ·exact heldPhR K g o c hs k v h.1 h2 hA hk0 hk
set_option maxHeartbeats 1000000 in
theorem heldInO (K : List Addr) (u : Option Addr) (c : Nat) (hs : List (Option Addr × Nat)) (k : Int) (v : World) (h : StrR K v 7 6 [0, 1, 2, 3, 4, 5] u hs) (hA : Hlds v (strO 7 [0, 1, 2, 3, 4, 5] u hs) k) (hk0 : 0 ≤ k) (hk : k + (strO 7 [0, 1, 2, 3, 4, 5] u hs).length ≤ 4611686018427387904) :
  Calls Tryd.prog 62 #[.slice u hs.length c, .int .i64 k] v fun e w' => e = .returned (.int .i64 (k + (strO 7 [0, 1, 2, 3, 4, 5] u hs).length)) ∧ w' = v := by
 rcases h.2 with e | ⟨g, o, rfl, h1, h2⟩
 ·subst e
  rw [strO_nil]
  go_enter Tryd.func62, Tryd.ntmps62
  go_wp2_with fail
  go_loop [1, 5] (fun q i => i = .int .i64 0 ∧ q = .int .i64 k) (fun _ _ => 0)
  case atStart => exact ⟨rfl, rfl⟩
  case round =>
   obtain ⟨rfl, rfl⟩ := hrel
   go_wp2_with fail
   go_ret
   exact ⟨by simp, rfl⟩
 ·exact heldInR K g o c hs k v h.1 h2 hA hk0 hk
set_option maxHeartbeats 2000000 in
set_option maxRecDepth 100000 in
theorem heldBlR (K : List Addr) (g o c : Nat) (bs : List BlkH) (k : Int) (v : World) (hn : bs.length ≤ 1048576) (hh : BlkR K v g o bs) (hA : Hlds v (strA g 6 [2, 3, 4, 5] o (blksQ bs)) k) (hk0 : 0 ≤ k) (hk : k + (strA g 6 [2, 3, 4, 5] o (blksQ bs)).length ≤ 4611686018427387904) :
  Calls Tryd.prog 41 #[.slice (some ⟨g, o, none⟩) bs.length c, .int .i64 k] v fun e w' => e = .returned (.int .i64 (k + (strA g 6 [2, 3, 4, 5] o (blksQ bs)).length)) ∧ w' = v := by
 have HH : Hid (BlkR K v g o bs) := hh
 have HA : Hid (Hlds v (strA g 6 [2, 3, 4, 5] o (blksQ bs)) k) := hA
 have HK : Hid (k + (strA g 6 [2, 3, 4, 5] o (blksQ bs)).length ≤ 4611686018427387904) := hk
 clear hh hA hk
 go_enter Tryd.func41, Tryd.ntmps41
 go_wp2_with fail
 go_loop [1, 5] (fun q i => ∃ (j m : Nat), j ≤ bs.length ∧ i = .int .i64 j ∧ q = .int .i64 (k + m) ∧ Hid (m = (strA g 6 [2, 3, 4, 5] o (blksQ (bs.take j))).length)) (fun _ i => bs.length - (intOf i).toNat)
 case atStart => exact ⟨0, 0, by omega, rfl, by simp, rfl⟩
 case round =>
  obtain ⟨j, m, hj, rfl, rfl, HM⟩ := hrel
  by_cases hlt : j < bs.length
  ·have hjI : (j : Int) < (bs.length : Int) := by omega
   have hnx := strB_next g o bs hlt
   obtain ⟨R2, hR2⟩ := strB_le g o bs (j + 1) (by omega)
   have hbd := HK.out
   have hal := HA.out
   rw [hR2, hnx] at hbd hal
   obtain ⟨⟨⟨pu, ps⟩, ⟨iu, is⟩⟩, hb⟩ : ∃ b, bs.getD j blk0 = b := ⟨_, rfl⟩
   rw [hb] at hnx hbd hal
   unfold blkA at hnx hbd hal
   dsimp only at hnx hbd hal
   simp only [List.length_append, List.length_map, List.length_cons, List.length_nil] at hbd
   have h1 := hal.left.right
   rw [← HM.out] at hbd h1
   obtain ⟨⟨pc, q0⟩, qn0, ⟨ic, q1⟩, qn1, hp, hi2⟩ := HH.out j hlt
   rw [hb] at q0 hp q1 hi2
   dsimp only at q0 hp q1 hi2
   have P1 := heldPhO K pu pc ps (k + m) v hp h1.left.left (by omega) (by omega)
   have h2a := h1.left.right
   have h3 := h1.right
   obtain ⟨lp, hlp⟩ : ∃ n, (strO 2 [0] pu ps).length = n := ⟨_, rfl⟩
   obtain ⟨li, hli⟩ : ∃ n, (strO 7 [0, 1, 2, 3, 4, 5] iu is).length = n := ⟨_, rfl⟩
   rw [List.length_append, hlp, hli] at h3
   rw [hlp] at P1 hbd h2a
   rw [hli] at hbd
   have P2 := heldInO K iu ic is (k + m + lp) v hi2 h2a (by omega) (by omega)
   rw [hli] at P2
   obtain ⟨m2, hm2⟩ : ∃ n : Nat, k + (n : Int) = k + m + lp + li := ⟨m + lp + li, by omega⟩
   rw [← hm2] at P2
   rw [show k + ((m : Nat) : Int) + ((lp + li : Nat) : Int) = k + (m2 : Int) by omega] at h3
   have e0 : v.cell? ⟨g, o + j * 6 + 2, none⟩ = some (.int .i64 (k + (m2 : Int))) := by
    have h2 := h3 0 ⟨g, o + j * 6 + 2, none⟩ rfl
    refine h2.trans (congrArg (fun x => some (Value.int .i64 x)) ?_)
    omega
   have e1 : v.cell? ⟨g, o + j * 6 + 3, none⟩ = some (.int .i64 (k + (m2 : Int) + 1)) := by
    have h2 := h3 1 ⟨g, o + j * 6 + 3, none⟩ rfl
    refine h2.trans (congrArg (fun x => some (Value.int .i64 x)) ?_)
    omega
   have e2 : v.cell? ⟨g, o + j * 6 + 4, none⟩ = some (.int .i64 (k + (m2 : Int) + 1 + 1)) := by
    have h2 := h3 2 ⟨g, o + j * 6 + 4, none⟩ rfl
    refine h2.trans (congrArg (fun x => some (Value.int .i64 x)) ?_)
    omega
   have e3 : v.cell? ⟨g, o + j * 6 + 5, none⟩ = some (.int .i64 (k + (m2 : Int) + 1 + 1 + 1)) := by
    have h2 := h3 3 ⟨g, o + j * 6 + 5, none⟩ rfl
    refine h2.trans (congrArg (fun x => some (Value.int .i64 x)) ?_)
    omega
   have HM2 : Hid (m2 + 4 = (strA g 6 [2, 3, 4, 5] o (blksQ (bs.take (j + 1)))).length) := by
    show _ = _
    rw [hnx]
    simp only [List.length_append, List.length_map, List.length_cons, List.length_nil, hlp, hli, ← HM.out]
    omega
   have hm2b : (m2 : Int) + k ≤ 4611686018427387904 := by omega
   have hm20 : 0 ≤ k + (m2 : Int) := by omega
   have hn1 : ¬ (k + (m : Int) + (lp : Int) < 0) := by omega
   have hn2 : ¬ (k + (m2 : Int) < 0) := by omega
   clear hR2 hnx hal h1 h2a h3 hp hi2 qn0 qn1 hb hlp hli hm2
   go_wp2_with (first | (go_at_call 61; refine P1.mono ?_; rintro e w5 ⟨rfl, rfl⟩) | (go_at_call 62; refine P2.mono ?_; rintro e w6 ⟨rfl, rfl⟩))
   exact ⟨⟨j + 1, m2 + 4, by omega, by go_num, by refine congrArg (Value.int .i64) ?_; first | omega | (push_cast; omega), HM2.out⟩, by simp only [intOf]; omega⟩
  ·have hke : j = bs.length := by omega
   subst hke
   have hm : m = (strA g 6 [2, 3, 4, 5] o (blksQ bs)).length := by rw [HM.out, List.take_of_length_le (Nat.le_refl _)]
   go_wp2_with fail
   go_ret
   exact ⟨by rw [← hm]; rfl, rfl⟩
end Go.Proofs.YtenbodghkpbghaaDoor
namespace Go.Proofs.YtenbodghkpbghaaDoor
open Go.RowKit
set_option linter.unusedVariables false
set_option linter.unusedSimpArgs false
set_option maxHeartbeats 1000000 in
theorem heldBlO (K : List Addr) (u : Option Addr) (c : Nat) (bs : List BlkH) (k : Int) (v : World) (h : BlsR K v u bs) (hA : Hlds v (strB u bs) k) (hk0 : 0 ≤ k) (hk : k + (strB u bs).length ≤ 4611686018427387904) :
  Calls Tryd.prog 41 #[.slice u bs.length c, .int .i64 k] v fun e w' => e = .returned (.int .i64 (k + (strB u bs).length)) ∧ w' = v := by
 rcases h.2 with e | ⟨g, o, rfl, h1, h2⟩
 ·subst e
  rw [strB_nil]
  go_enter Tryd.func41, Tryd.ntmps41
  go_wp2_with fail
  go_loop [1, 5] (fun q i => i = .int .i64 0 ∧ q = .int .i64 k) (fun _ _ => 0)
  case atStart => exact ⟨rfl, rfl⟩
  case round =>
   obtain ⟨rfl, rfl⟩ := hrel
   go_wp2_with fail
   go_ret
   exact ⟨by simp, rfl⟩
 ·exact heldBlR K g o c bs k v h.1 h2 hA hk0 hk
end Go.Proofs.YtenbodghkpbghaaDoor
namespace Go.Proofs.YtenbodghkpbghaaDoor
open Go.RowKit
set_option linter.unusedVariables false
set_option linter.unusedSimpArgs false
def strF (u : Option Addr) (fs : List FunH) : List Addr := match u with
 | some p => strA p.block 3 [1] p.off (funsQ fs)
 | none => []
theorem strF_nil (u : Option Addr) : strF u [] = [] := by
 cases u with
 | none => rfl
 | some p => rfl
def FusR (K : List Addr) (w : World) (u : Option Addr) (fs : List FunH) : Prop := fs.length ≤ 1048576 ∧ (fs = [] ∨ ∃ g o, u = some ⟨g, o, none⟩ ∧ OwnR w g o 3 [1] fs.length ∧ FunsR K w g o fs)
theorem FusR.mk {K : List Addr} {w : World} {u : Option Addr} {fs : List FunH} (h : FusR K w u fs) {A : List Addr} (hA : ∀ a ∈ A, a ∈ K) (k : Int) : FusR K (mkw w A k) u fs := by
 refine ⟨h.1, ?_⟩
 rcases h.2 with h | ⟨g, o, e, h1, h2⟩
 ·exact .inl h
 ·exact .inr ⟨g, o, e, h1.mk A k, h2.mk hA k⟩
end Go.Proofs.YtenbodghkpbghaaDoor
namespace Go.Proofs.YtenbodghkpbghaaDoor
open Go.RowKit
set_option linter.unusedVariables false
set_option linter.unusedSimpArgs false
def PhE.h (e : PhE) : Option Addr × Nat := (e.2.1, e.1.ins.length)
def InE.h (e : InE) : Option Addr × Nat := (e.2.1, e.1.args.length)
def BkE.h (b : BkE) : BlkH := ((b.pu, b.ps.map PhE.h), (b.iu, b.is.map InE.h))
def FnE.h (f : FnE) : FunH := ((f.pu, f.pars.length), (f.bu, f.bs.map BkE.h))
def InA (w : World) (lo hi k : Nat) (A : List Addr) : Prop := ∀ a ∈ A, lo ≤ a.block ∧ a.block < hi ∧ (∃ (cur : Array Value) (T : TypeId), w.heap[a.block]? = some (.cells cur T (0, 0)) ∧ lvT T < k) ∧ ∃ z : Int, w.cell? a = some (.int .i64 z)
theorem InA.wide {w : World} {lo hi k lo' hi' k' : Nat} {A : List Addr} (h : InA w lo hi k A) (h1 : lo' ≤ lo) (h2 : hi ≤ hi') (h3 : k ≤ k') : InA w lo' hi' k' A := fun a ha => by
 obtain ⟨k1, k2, ⟨cur, T, k3, k4⟩, k5⟩ := h a ha
 exact ⟨by omega, by omega, ⟨cur, T, k3, by omega⟩, k5⟩
theorem InA.nil {w : World} {lo hi k : Nat} : InA w lo hi k [] := fun a ha => by cases ha
theorem InA.append {w : World} {lo hi k : Nat} {A B : List Addr} (h : InA w lo hi k A) (h2 : InA w lo hi k B) : InA w lo hi k (A ++ B) := fun a ha => by
 rcases List.mem_append.1 ha with h' | h'
 ·exact h a h'
 ·exact h2 a h'
theorem InA.apart {w : World} {lo m m' hi k k' : Nat} {A B : List Addr} (h : InA w lo m k A) (h2 : InA w m' hi k' B) (hm : m ≤ m') (hA : A.Nodup) (hB : B.Nodup) : (A ++ B).Nodup :=
 apart_of_blocks (fun a ha b hb e => by have := (h a ha).2.1; have := (h2 b hb).1; omega) hA hB
theorem OwnI.inA {w : World} {lo hi : Nat} {u : Option Addr} {l : List Int} (h : OwnI w lo hi u l) : InA w lo hi 1 (rowH u l.length) := by
 rcases h.2 with h | ⟨g, cur, rfl, h1, h2, h3, h4⟩
 ·subst h
  rw [show ([] : List Int).length = 0 from rfl, rowH_zero]
  exact InA.nil
 ·intro a ha
  obtain ⟨i, hi, rfl⟩ := List.mem_map.1 (show a ∈ rowA g 0 l.length 1 from ha)
  have hi' : i < l.length := by simpa using hi
  refine ⟨h1, h2, ⟨cur, _, h3, by decide⟩, l.getD i 0, ?_⟩
  rw [cell_of_heap h3, Nat.zero_add, Nat.mul_one]
  exact h4 i hi'
theorem OwnI.intR {w : World} {lo hi : Nat} {u : Option Addr} {l : List Int} (h : OwnI w lo hi u l) : IntR w u l.length := by
 refine ⟨h.1, ?_⟩
 rcases h.2 with h | ⟨g, cur, rfl, h1, h2, h3, h4⟩
 ·exact .inl (by rw [h]; rfl)
 ·exact .inr ⟨g, 0, rfl, fun i hi => ⟨⟨_, by rw [cell_of_heap h3, Nat.zero_add]; exact h4 i hi⟩, froz_of_heap h3⟩⟩
theorem sub_inA {α : Type} {O : World → Nat → Nat → α → Prop} {w : World} {k : Nat} {q : α → List Addr × List Addr} (hq : ∀ lo hi e, O w lo hi e → InA w lo hi k ((q e).1 ++ (q e).2)) : ∀ {es : List α} {lo hi : Nat}, Sub O w lo hi es → InA w lo hi k (subA (es.map q))
 | [], _, _, _ => InA.nil
 | e :: es, lo, hi, ⟨a, m, h1, h2, h3, h4⟩ => by
  have h5 := hq _ _ _ h3
  have h6 := sub_inA hq h4
  have hle := h4.le
  show InA w lo hi k ((q e).1 ++ ((q e).2 ++ subA (es.map q)))
  rw [← List.append_assoc]
  exact (h5.wide h1 hle (Nat.le_refl _)).append (h6.wide (Nat.le_trans h1 h2) (Nat.le_refl _) (Nat.le_refl _))
theorem sub_nodup {α : Type} {O : World → Nat → Nat → α → Prop} {w : World} {k : Nat} {q : α → List Addr × List Addr} (hq : ∀ lo hi e, O w lo hi e → InA w lo hi k ((q e).1 ++ (q e).2)) (hn : ∀ lo hi e, O w lo hi e → ((q e).1 ++ (q e).2).Nodup) : ∀ {es : List α} {lo hi : Nat}, Sub O w lo hi es → (subA (es.map q)).Nodup
 | [], _, _, _ => List.nodup_nil
 | e :: es, lo, hi, ⟨a, m, h1, h2, h3, h4⟩ => by
  show ((q e).1 ++ ((q e).2 ++ subA (es.map q))).Nodup
  rw [← List.append_assoc]
  exact (hq _ _ _ h3).apart (sub_inA hq h4) (Nat.le_refl _) (hn _ _ _ h3) (sub_nodup hq hn h4)
theorem row_inA {α : Type} {T : TypeId} {s : Nat} {w : World} {lo hi k : Nat} {F : List Nat} {q : α → List Addr × List Addr} {g : Nat} {cur : Array Value} {es : List α} (hg : w.heap[g]? = some (.cells cur T (0, 0))) (h1 : lo ≤ g) (h2 : g < hi) (hT : lvT T < k) (hk : InA w lo hi k (subA (es.map q)))
  (hF : ∀ i e, es[i]? = some e → ∀ f ∈ F, ∃ z : Int, cur[i * s + f]? = some (.int .i64 z)) : InA w lo hi k (strA g s F 0 (es.map q)) := by
 suffices H : ∀ (es : List α) (n : Nat), InA w lo hi k (subA (es.map q)) → (∀ i e, es[i]? = some e → ∀ f ∈ F, ∃ z : Int, cur[(n + i) * s + f]? = some (.int .i64 z)) → InA w lo hi k (strA g s F (n * s) (es.map q)) by
  have := H es 0 hk (fun i e he f hf => by rw [Nat.zero_add]; exact hF i e he f hf)
  rwa [Nat.zero_mul] at this
 intro es
 induction es with
 | nil => intro n _ _; exact InA.nil
 | cons e es ih =>
  intro n hs hc
  have hs' : InA w lo hi k ((q e).1 ++ ((q e).2 ++ subA (es.map q))) := hs
  show InA w lo hi k ((q e).1 ++ (F.map (fun f => (⟨g, n * s + f, none⟩ : Addr)) ++ ((q e).2 ++ strA g s F (n * s + s) (es.map q))))
  have ih' := ih (n + 1) (fun a ha => hs' a (List.mem_append_right _ (List.mem_append_right _ ha))) (fun i x hx f hf => by
   have := hc (i + 1) x (by simpa using hx) f hf
   rwa [show n + (i + 1) = n + 1 + i by omega] at this)
  rw [Nat.succ_mul] at ih'
  refine InA.append (fun a ha => hs' a (List.mem_append_left _ ha)) (InA.append (fun a ha => ?_) (InA.append (fun a ha => hs' a (List.mem_append_right _ (List.mem_append_left _ ha))) ih'))
  obtain ⟨f, hf, rfl⟩ := List.mem_map.1 ha
  refine ⟨h1, h2, ⟨cur, T, hg, hT⟩, ?_⟩
  obtain ⟨z, hz⟩ := hc 0 e rfl f hf
  refine ⟨z, ?_⟩
  rw [cell_of_heap hg]
  simpa using hz
theorem row_nodup {α : Type} {T : TypeId} {s : Nat} {w : World} {lo hi k : Nat} {F : List Nat} {q : α → List Addr × List Addr} {g : Nat} {cur : Array Value} {es : List α} (hg : w.heap[g]? = some (.cells cur T (0, 0))) (hT : k ≤ lvT T) (hk : InA w lo hi k (subA (es.map q))) (hn : (subA (es.map q)).Nodup) (hF : F.Nodup) (hs : ∀ f ∈ F, f < s) : (strA g s F 0 (es.map q)).Nodup :=
 strA_nodup hF hs _ _ hn fun a ha e => by
  obtain ⟨_, _, ⟨cur2, T2, h3, h4⟩, _⟩ := hk a ha
  rw [e, hg] at h3
  cases h3
  omega
end Go.Proofs.YtenbodghkpbghaaDoor
namespace Go.Proofs.YtenbodghkpbghaaDoor
open Go.RowKit
set_option linter.unusedVariables false
set_option linter.unusedSimpArgs false
theorem Sub.each {α : Type} {O : World → Nat → Nat → α → Prop} {w : World} : ∀ {es : List α} {lo hi : Nat}, Sub O w lo hi es → ∀ e ∈ es, ∃ a m, lo ≤ a ∧ O w a m e
 | [], _, _, _, e, he => by cases he
 | x :: es, lo, hi, ⟨a, m, h1, h2, h3, h4⟩, e, he => by
  rcases List.mem_cons.1 he with rfl | he
  ·exact ⟨a, m, h1, h3⟩
  ·obtain ⟨a', m', k1, k2⟩ := h4.each e he
   exact ⟨a', m', by omega, k2⟩
def KI (w : World) (K : List Addr) : Prop := ∀ a ∈ K, ∃ z : Int, w.cell? a = some (.int .i64 z)
theorem KI.slice {w : World} {K : List Addr} (h : KI w K) {a : Addr} {u : Option Addr} {n c : Nat} (ha : w.cell? a = some (.slice u n c)) : a ∉ K := fun hk => by
 obtain ⟨z, hz⟩ := h a hk
 rw [ha] at hz
 cases hz
theorem InA.ki {w : World} {lo hi k : Nat} {A : List Addr} (h : InA w lo hi k A) : KI w A := fun a ha => (h a ha).2.2.2
theorem map_get {α β : Type} (f : α → β) (z : β) {l : List α} {i : Nat} {e : α} (h : l[i]? = some e) : (l.map f).getD i z = f e := by simp [List.getD, h]
theorem strR_of {α : Type} {T : TypeId} {s f : Nat} {F : List Nat} {C : α → List Value} {O : World → Nat → Nat → α → Prop} {w : World} {lo hi : Nat} {u : Option Addr} {es : List α} {K : List Addr} (hd : α → Option Addr × Nat) (h : OwnL T s C O w lo hi u es) (hK : KI w K) (hf : f < s) (hF : ∀ x ∈ F, x < s)
  (h1 : ∀ e, ∃ c, (C e)[f]? = some (.slice (hd e).1 (hd e).2 c)) (h2 : ∀ e, ∀ x ∈ F, ∃ z : Int, (C e)[x]? = some (.int .i64 z)) (h3 : ∀ a m e, O w a m e → IntR w (hd e).1 (hd e).2) : StrR K w s f F u (es.map hd) := by
 refine ⟨by rw [List.length_map]; exact h.1, ?_⟩
 rcases h.2.1 with e | ⟨g, cur, rfl, _, _, hg, hc⟩
 ·exact .inl (by rw [e]; rfl)
 ·refine .inr ⟨g, 0, rfl, fun i hi x hx => ?_, fun i hi => ?_⟩
  ·rw [List.length_map] at hi
   obtain ⟨e, he⟩ : ∃ e, es[i]? = some e := ⟨es[i], List.getElem?_eq_getElem hi⟩
   obtain ⟨z, hz⟩ := h2 e x hx
   refine ⟨⟨z, ?_⟩, froz_of_heap hg⟩
   rw [cell_of_heap hg, Nat.zero_add, hc i e he x (hF x hx)]
   exact hz
  ·rw [List.length_map] at hi
   obtain ⟨e, he⟩ : ∃ e, es[i]? = some e := ⟨es[i], List.getElem?_eq_getElem hi⟩
   obtain ⟨c, hz⟩ := h1 e
   rw [map_get hd (none, 0) he]
   have hcell : w.cell? ⟨g, 0 + i * s + f, none⟩ = some (.slice (hd e).1 (hd e).2 c) := by
    rw [cell_of_heap hg, Nat.zero_add, hc i e he f hf]
    exact hz
   obtain ⟨a, m, _, ho⟩ := h.2.2.each e (List.mem_of_getElem? he)
   exact ⟨⟨c, hcell⟩, hK.slice hcell, h3 _ _ _ ho⟩
theorem phsQ (es : List PhE) : rowsQ (es.map PhE.h) = es.map fun e => ([], rowH e.2.1 e.1.ins.length) := by simp [rowsQ, PhE.h]
theorem insQ (es : List InE) : rowsQ (es.map InE.h) = es.map fun e => ([], rowH e.2.1 e.1.args.length) := by simp [rowsQ, InE.h]
theorem OwnPhs.inA {w : World} {lo hi : Nat} {u : Option Addr} {es : List PhE} (h : OwnPhs w lo hi u es) : InA w lo hi 2 (strO 2 [0] u (es.map PhE.h)) ∧ (strO 2 [0] u (es.map PhE.h)).Nodup := by
 have hq : ∀ lo hi (e : PhE), OwnPhE w lo hi e → InA w lo hi 1 (([] : List Addr) ++ rowH e.2.1 e.1.ins.length) := fun lo hi e he => OwnI.inA he
 rcases h.2.1 with rfl | ⟨g, cur, rfl, h1, h2, hg, hc⟩
 ·rw [List.map_nil, strO_nil]; exact ⟨InA.nil, List.nodup_nil⟩
 ·show InA w lo hi 2 (strA g 2 [0] 0 (rowsQ (es.map PhE.h))) ∧ (strA g 2 [0] 0 (rowsQ (es.map PhE.h))).Nodup
  rw [phsQ]
  have hs := sub_inA (q := fun e : PhE => (([] : List Addr), rowH e.2.1 e.1.ins.length)) hq h.2.2
  refine ⟨row_inA hg h1 h2 (by decide) (hs.wide (Nat.le_refl _) (Nat.le_refl _) (by decide)) fun i e he f hf => ?_, row_nodup hg (by decide) hs (sub_nodup (q := fun e => (([] : List Addr), rowH e.2.1 _)) hq (fun lo hi e he => rowH_nodup _ _) h.2.2) (by decide) (by decide)⟩
  obtain rfl := List.mem_singleton.1 hf
  exact ⟨e.1.w, hc i e he 0 (by decide)⟩
theorem OwnIns.inA {w : World} {lo hi : Nat} {u : Option Addr} {es : List InE} (h : OwnIns w lo hi u es) : InA w lo hi 3 (strO 7 [0, 1, 2, 3, 4, 5] u (es.map InE.h)) ∧ (strO 7 [0, 1, 2, 3, 4, 5] u (es.map InE.h)).Nodup := by
 have hq : ∀ lo hi (e : InE), OwnInE w lo hi e → InA w lo hi 1 (([] : List Addr) ++ rowH e.2.1 e.1.args.length) := fun lo hi e he => OwnI.inA he
 rcases h.2.1 with rfl | ⟨g, cur, rfl, h1, h2, hg, hc⟩
 ·rw [List.map_nil, strO_nil]; exact ⟨InA.nil, List.nodup_nil⟩
 ·show InA w lo hi 3 (strA g 7 [0, 1, 2, 3, 4, 5] 0 (rowsQ (es.map InE.h))) ∧ (strA g 7 [0, 1, 2, 3, 4, 5] 0 (rowsQ (es.map InE.h))).Nodup
  rw [insQ]
  have hs := sub_inA (q := fun e : InE => (([] : List Addr), rowH e.2.1 e.1.args.length)) hq h.2.2
  refine ⟨row_inA hg h1 h2 (by decide) (hs.wide (Nat.le_refl _) (Nat.le_refl _) (by decide)) fun i e he f hf => ?_, row_nodup hg (by decide) hs (sub_nodup (q := fun e => (([] : List Addr), rowH e.2.1 _)) hq (fun lo hi e he => rowH_nodup _ _) h.2.2) (by decide) (by decide)⟩
  have hc' := hc i e he
  simp only [List.mem_cons, List.not_mem_nil, or_false] at hf
  rcases hf with rfl | rfl | rfl | rfl | rfl | rfl
  ·exact ⟨_, hc' 0 (by decide)⟩
  ·exact ⟨_, hc' 1 (by decide)⟩
  ·exact ⟨_, hc' 2 (by decide)⟩
  ·exact ⟨_, hc' 3 (by decide)⟩
  ·exact ⟨_, hc' 4 (by decide)⟩
  ·exact ⟨_, hc' 5 (by decide)⟩
theorem OwnPhs.strR {w : World} {lo hi : Nat} {u : Option Addr} {es : List PhE} {K : List Addr} (h : OwnPhs w lo hi u es) (hK : KI w K) : StrR K w 2 1 [0] u (es.map PhE.h) :=
 strR_of PhE.h h hK (by decide) (by decide) (fun e => ⟨e.2.2, rfl⟩) (fun e x hx => by obtain rfl := List.mem_singleton.1 hx; exact ⟨e.1.w, rfl⟩) fun a m e he => OwnI.intR he
theorem OwnIns.strR {w : World} {lo hi : Nat} {u : Option Addr} {es : List InE} {K : List Addr} (h : OwnIns w lo hi u es) (hK : KI w K) : StrR K w 7 6 [0, 1, 2, 3, 4, 5] u (es.map InE.h) :=
 strR_of InE.h h hK (by decide) (by decide) (fun e => ⟨e.2.2, rfl⟩) (fun e x hx => by
  simp only [List.mem_cons, List.not_mem_nil, or_false] at hx
  rcases hx with rfl | rfl | rfl | rfl | rfl | rfl
  all_goals exact ⟨_, rfl⟩) fun a m e he => OwnI.intR he
theorem OwnBk.inA {w : World} {lo hi : Nat} {b : BkE} (h : OwnBk w lo hi b) : InA w lo hi 3 (blkA b.h) ∧ (blkA b.h).Nodup := by
 obtain ⟨m, h1, h2, h3, h4⟩ := h
 obtain ⟨a1, a2⟩ := h3.inA
 obtain ⟨b1, b2⟩ := h4.inA
 exact ⟨(a1.wide (Nat.le_refl _) h2 (by decide)).append (b1.wide h1 (Nat.le_refl _) (Nat.le_refl _)), a1.apart b1 (Nat.le_refl _) a2 b2⟩
theorem bksQ (es : List BkE) : blksQ (es.map BkE.h) = es.map fun b => (blkA b.h, []) := by simp [blksQ]
theorem OwnBks.inA {w : World} {lo hi : Nat} {u : Option Addr} {es : List BkE} (h : OwnBks w lo hi u es) : InA w lo hi 4 (strB u (es.map BkE.h)) ∧ (strB u (es.map BkE.h)).Nodup := by
 have hq : ∀ lo hi (e : BkE), OwnBk w lo hi e → InA w lo hi 3 (blkA e.h ++ ([] : List Addr)) := fun lo hi e he => by rw [List.append_nil]; exact he.inA.1
 rcases h.2.1 with rfl | ⟨g, cur, rfl, h1, h2, hg, hc⟩
 ·rw [List.map_nil, strB_nil]; exact ⟨InA.nil, List.nodup_nil⟩
 ·show InA w lo hi 4 (strA g 6 [2, 3, 4, 5] 0 (blksQ (es.map BkE.h))) ∧ (strA g 6 [2, 3, 4, 5] 0 (blksQ (es.map BkE.h))).Nodup
  rw [bksQ]
  have hs := sub_inA (q := fun b : BkE => (blkA b.h, ([] : List Addr))) hq h.2.2
  refine ⟨row_inA hg h1 h2 (by decide) (hs.wide (Nat.le_refl _) (Nat.le_refl _) (by decide)) fun i e he f hf => ?_, row_nodup hg (by decide) hs (sub_nodup (q := fun b : BkE => (blkA b.h, ([] : List Addr))) hq (fun lo hi e he => by rw [List.append_nil]; exact he.inA.2) h.2.2) (by decide) (by decide)⟩
  have hc' := hc i e he
  simp only [List.mem_cons, List.not_mem_nil, or_false] at hf
  rcases hf with rfl | rfl | rfl | rfl
  ·exact ⟨_, hc' 2 (by decide)⟩
  ·exact ⟨_, hc' 3 (by decide)⟩
  ·exact ⟨_, hc' 4 (by decide)⟩
  ·exact ⟨_, hc' 5 (by decide)⟩
theorem OwnBks.blsR {w : World} {lo hi : Nat} {u : Option Addr} {es : List BkE} {K : List Addr} (h : OwnBks w lo hi u es) (hK : KI w K) : BlsR K w u (es.map BkE.h) := by
 refine ⟨by rw [List.length_map]; exact h.1, ?_⟩
 rcases h.2.1 with e | ⟨g, cur, rfl, _, _, hg, hc⟩
 ·exact .inl (by rw [e]; rfl)
 ·refine .inr ⟨g, 0, rfl, fun i hi x hx => ?_, fun i hi => ?_⟩
  ·rw [List.length_map] at hi
   obtain ⟨e, he⟩ : ∃ e, es[i]? = some e := ⟨es[i], List.getElem?_eq_getElem hi⟩
   have hc' := hc i e he
   refine ⟨?_, froz_of_heap hg⟩
   simp only [List.mem_cons, List.not_mem_nil, or_false] at hx
   rcases hx with rfl | rfl | rfl | rfl
   all_goals rw [cell_of_heap hg, Nat.zero_add, hc' _ (by decide)]; exact ⟨_, rfl⟩
  ·rw [List.length_map] at hi
   obtain ⟨e, he⟩ : ∃ e, es[i]? = some e := ⟨es[i], List.getElem?_eq_getElem hi⟩
   have hc' := hc i e he
   obtain ⟨a, m, _, m', h1, h2, h3, h4⟩ := h.2.2.each e (List.mem_of_getElem? he)
   rw [map_get BkE.h blk0 he]
   have c0 : w.cell? ⟨g, 0 + i * 6, none⟩ = some (.slice e.pu e.ps.length e.pc) := by
    rw [cell_of_heap hg, Nat.zero_add]; exact hc' 0 (by decide)
   have c1 : w.cell? ⟨g, 0 + i * 6 + 1, none⟩ = some (.slice e.iu e.is.length e.ic) := by
    rw [cell_of_heap hg, Nat.zero_add]; exact hc' 1 (by decide)
   refine ⟨⟨e.pc, ?_⟩, hK.slice c0, ⟨e.ic, ?_⟩, hK.slice c1, h3.strR hK, h4.strR hK⟩
   ·rw [c0]; simp [BkE.h]
   ·rw [c1]; simp [BkE.h]
theorem OwnFn.inA {w : World} {lo hi : Nat} {f : FnE} (h : OwnFn w lo hi f) : InA w lo hi 4 (rowH f.pu f.pars.length ++ strB f.bu (f.bs.map BkE.h)) ∧ (rowH f.pu f.pars.length ++ strB f.bu (f.bs.map BkE.h)).Nodup := by
 obtain ⟨m, h1, h2, h3, h4⟩ := h
 obtain ⟨b1, b2⟩ := h4.inA
 exact ⟨(h3.inA.wide (Nat.le_refl _) h2 (by decide)).append (b1.wide h1 (Nat.le_refl _) (Nat.le_refl _)), h3.inA.apart b1 (Nat.le_refl _) (rowH_nodup _ _) b2⟩
theorem fnsQ (es : List FnE) : funsQ (es.map FnE.h) = es.map fun f => (rowH f.pu f.pars.length, strB f.bu (f.bs.map BkE.h)) := by simp [funsQ, FnE.h]
theorem OwnFns.inA {w : World} {lo hi : Nat} {u : Option Addr} {es : List FnE} (h : OwnFns w lo hi u es) : InA w lo hi 5 (strF u (es.map FnE.h)) ∧ (strF u (es.map FnE.h)).Nodup := by
 rcases h.2.1 with rfl | ⟨g, cur, rfl, h1, h2, hg, hc⟩
 ·rw [List.map_nil, strF_nil]; exact ⟨InA.nil, List.nodup_nil⟩
 ·show InA w lo hi 5 (strA g 3 [1] 0 (funsQ (es.map FnE.h))) ∧ (strA g 3 [1] 0 (funsQ (es.map FnE.h))).Nodup
  rw [fnsQ]
  have hs := sub_inA (k := 4) (q := fun f : FnE => (rowH f.pu f.pars.length, strB f.bu (f.bs.map BkE.h))) (fun lo hi e he => he.inA.1) h.2.2
  refine ⟨row_inA hg h1 h2 (by decide) (hs.wide (Nat.le_refl _) (Nat.le_refl _) (by decide)) fun i e he f hf => ?_, row_nodup hg (by decide) hs (sub_nodup (k := 4) (fun lo hi e he => he.inA.1) (fun lo hi e he => he.inA.2) h.2.2) (by decide) (by decide)⟩
  obtain rfl := List.mem_singleton.1 hf
  exact ⟨_, hc i e he 1 (by decide)⟩
theorem OwnPhs.at_ {w : World} {lo hi : Nat} {u : Option Addr} {es : List PhE} (h : OwnPhs w lo hi u es) : PhisAt w lo u (es.map (·.1)) := by
 refine ⟨by rw [List.length_map]; have := h.1; omega, ?_⟩
 rcases h.2.1 with e | ⟨g, cur, rfl, h1, _, hg, hc⟩
 ·exact .inl (by rw [e]; rfl)
 ·refine .inr ⟨g, 0, rfl, h1, (Array.getElem?_eq_some_iff.1 hg).1, fun i hi => ?_⟩
  rw [List.length_map] at hi
  obtain ⟨e, he⟩ : ∃ e, es[i]? = some e := ⟨es[i], List.getElem?_eq_getElem hi⟩
  have hc' := hc i e he
  obtain ⟨a, m, k1, ho⟩ := h.2.2.each e (List.mem_of_getElem? he)
  rw [map_get (·.1) phi0 he]
  refine ⟨by rw [cell_of_heap hg, Nat.zero_add]; exact hc' 0 (by decide), e.2.1, e.2.2, by rw [cell_of_heap hg, Nat.zero_add]; exact hc' 1 (by decide), (OwnI.ints ho).low k1⟩
theorem OwnIns.at_ {w : World} {lo hi : Nat} {u : Option Addr} {es : List InE} (h : OwnIns w lo hi u es) : InstsAt w lo u (es.map (·.1)) := by
 refine ⟨by rw [List.length_map]; have := h.1; omega, ?_⟩
 rcases h.2.1 with e | ⟨g, cur, rfl, h1, _, hg, hc⟩
 ·exact .inl (by rw [e]; rfl)
 ·refine .inr ⟨g, 0, rfl, h1, (Array.getElem?_eq_some_iff.1 hg).1, fun i hi => ?_⟩
  rw [List.length_map] at hi
  obtain ⟨e, he⟩ : ∃ e, es[i]? = some e := ⟨es[i], List.getElem?_eq_getElem hi⟩
  have hc' := hc i e he
  obtain ⟨a, m, k1, ho⟩ := h.2.2.each e (List.mem_of_getElem? he)
  rw [map_get (·.1) inst0 he]
  have key : ∀ j, j < 7 → w.cell? ⟨g, 0 + i * 7 + j, none⟩ = (inC e)[j]? := fun j hj => by rw [cell_of_heap hg, Nat.zero_add]; exact hc' j hj
  exact ⟨key 0 (by decide), key 1 (by decide), key 2 (by decide), key 3 (by decide), key 4 (by decide), key 5 (by decide), e.2.1, e.2.2, key 6 (by decide), (OwnI.ints ho).low k1⟩
theorem OwnBks.at_ {w : World} {lo hi : Nat} {u : Option Addr} {es : List BkE} (h : OwnBks w lo hi u es) : BlocksAt w lo u (es.map BkE.d) := by
 refine ⟨by rw [List.length_map]; have := h.1; omega, ?_⟩
 rcases h.2.1 with e | ⟨g, cur, rfl, h1, _, hg, hc⟩
 ·exact .inl (by rw [e]; rfl)
 ·refine .inr ⟨g, 0, rfl, h1, (Array.getElem?_eq_some_iff.1 hg).1, fun i hi => ?_⟩
  rw [List.length_map] at hi
  obtain ⟨e, he⟩ : ∃ e, es[i]? = some e := ⟨es[i], List.getElem?_eq_getElem hi⟩
  have hc' := hc i e he
  obtain ⟨a, m, k1, m', g1, g2, g3, g4⟩ := h.2.2.each e (List.mem_of_getElem? he)
  rw [map_get BkE.d block0 he]
  have key : ∀ j, j < 6 → w.cell? ⟨g, 0 + i * 6 + j, none⟩ = (bkC e)[j]? := fun j hj => by rw [cell_of_heap hg, Nat.zero_add]; exact hc' j hj
  have l1 : (e.ps.map (·.1)).length = e.ps.length := List.length_map ..
  have l2 : (e.is.map (·.1)).length = e.is.length := List.length_map ..
  refine ⟨⟨e.pu, e.pc, ?_, (OwnPhs.at_ g3).low k1⟩, ⟨e.iu, e.ic, ?_, (OwnIns.at_ g4).low (by omega)⟩, key 2 (by decide), key 3 (by decide), key 4 (by decide), key 5 (by decide)⟩
  ·show _ = some (Value.slice e.pu (e.ps.map (·.1)).length e.pc)
   rw [l1]; exact key 0 (by decide)
  ·show _ = some (Value.slice e.iu (e.is.map (·.1)).length e.ic)
   rw [l2]; exact key 1 (by decide)
theorem OwnFns.at_ {w : World} {lo hi : Nat} {u : Option Addr} {es : List FnE} (h : OwnFns w lo hi u es) : FuncsAt w lo u (es.map FnE.d) := by
 refine ⟨by rw [List.length_map]; have := h.1; omega, ?_⟩
 rcases h.2.1 with e | ⟨g, cur, rfl, h1, _, hg, hc⟩
 ·exact .inl (by rw [e]; rfl)
 ·refine .inr ⟨g, 0, rfl, h1, (Array.getElem?_eq_some_iff.1 hg).1, fun i hi => ?_⟩
  rw [List.length_map] at hi
  obtain ⟨e, he⟩ : ∃ e, es[i]? = some e := ⟨es[i], List.getElem?_eq_getElem hi⟩
  have hc' := hc i e he
  obtain ⟨a, m, k1, m', g1, g2, g3, g4⟩ := h.2.2.each e (List.mem_of_getElem? he)
  rw [map_get FnE.d func0 he]
  have key : ∀ j, j < 3 → w.cell? ⟨g, 0 + i * 3 + j, none⟩ = (fnC e)[j]? := fun j hj => by rw [cell_of_heap hg, Nat.zero_add]; exact hc' j hj
  have l1 : (e.bs.map BkE.d).length = e.bs.length := List.length_map ..
  refine ⟨⟨e.pu, e.pc, key 0 (by decide), (OwnI.ints g3).low k1⟩, key 1 (by decide), e.bu, e.bc, ?_, (OwnBks.at_ g4).low (by omega)⟩
  show _ = some (Value.slice e.bu (e.bs.map BkE.d).length e.bc)
  rw [l1]; exact key 2 (by decide)
end Go.Proofs.YtenbodghkpbghaaDoor
