import Derived.Test.YtkpmiikafconmaaGreatDoorMkEV
namespace Go.Proofs.YtkpmiikafconmaaGreatDoor
open Go.RowKit
set_option linter.unusedVariables false
set_option linter.unusedSimpArgs false
def strB (u : Option Addr) (bs : List BlkH) : List Addr := match u with
 | some p => strA p.block 6 [2, 3, 4, 5] p.off (blksQ bs)
 | none => []
theorem strB_nil (u : Option Addr) : strB u [] = [] := by
 cases u with
 | none => rfl
 | some p => rfl
def BlsR (K : List Addr) (w : World) (u : Option Addr) (bs : List BlkH) : Prop := bs.length ≤ 1048576 ∧ (bs = [] ∨ ∃ g o, u = some ⟨g, o, none⟩ ∧ OwnR w g o 6 [2, 3, 4, 5] bs.length ∧ BlkR K w g o bs)
theorem BlsR.mk {K : List Addr} {w : World} {u : Option Addr} {bs : List BlkH} (h : BlsR K w u bs) {A : List Addr} (hA : ∀ a ∈ A, a ∈ K) (k : Int) : BlsR K (mkw w A k) u bs := by
 refine ⟨h.1, ?_⟩
 rcases h.2 with h | ⟨g, o, e, h1, h2⟩
 ·exact .inl h
 ·exact .inr ⟨g, o, e, h1.mk A k, h2.mk hA k⟩
set_option maxHeartbeats 1000000 in
theorem markBlO (K : List Addr) (u : Option Addr) (c : Nat) (bs : List BlkH) (k : Int) (w : World) (h : BlsR K w u bs) (hA : ∀ a ∈ strB u bs, a ∈ K) (hk0 : 0 ≤ k) (hk : k + (strB u bs).length ≤ 4611686018427387904) :
  Calls Tryz.prog 66 #[.slice u bs.length c, .int .i64 k] w fun e w' => e = .returned (.int .i64 (k + (strB u bs).length)) ∧ w' = mkw w (strB u bs) k := by
 rcases h.2 with e | ⟨g, o, rfl, h1, h2⟩
 ·subst e
  rw [strB_nil]
  go_enter Tryz.func66, Tryz.ntmps66
  go_wp2_with fail
  go_loopw [1, 5] (fun q i wr => i = .int .i64 0 ∧ q = .int .i64 k ∧ Hid (wr = w)) (fun _ _ _ => 0)
  case atStart => exact ⟨rfl, rfl, rfl⟩
  case round =>
   obtain ⟨rfl, rfl, HE⟩ := hrel
   go_wp2_with fail
   go_ret
   exact ⟨by simp, HE.out⟩
 ·exact markBlR K g o c bs k w h.1 h1 h2 hA hk0 hk
abbrev FunH := (Option Addr × Nat) × (Option Addr × List BlkH)
def fun0H : FunH := ((none, 0), (none, []))
def funsQ (fs : List FunH) : List (List Addr × List Addr) := fs.map fun f => (rowH f.1.1 f.1.2, strB f.2.1 f.2.2)
def FunsR (K : List Addr) (w : World) (g o : Nat) (fs : List FunH) : Prop := ∀ i, i < fs.length → (∃ c, w.cell? ⟨g, o + i * 3, none⟩ = some (.slice (fs.getD i fun0H).1.1 (fs.getD i fun0H).1.2 c)) ∧ (⟨g, o + i * 3, none⟩ : Addr) ∉ K ∧ (∃ c, w.cell? ⟨g, o + i * 3 + 2, none⟩ = some (.slice (fs.getD i fun0H).2.1 (fs.getD i fun0H).2.2.length c)) ∧ (⟨g, o + i * 3 + 2, none⟩ : Addr) ∉ K ∧ IntR w (fs.getD i fun0H).1.1 (fs.getD i fun0H).1.2 ∧ BlsR K w (fs.getD i fun0H).2.1 (fs.getD i fun0H).2.2
theorem FunsR.mk {K : List Addr} {w : World} {g o : Nat} {fs : List FunH} (h : FunsR K w g o fs) {A : List Addr} (hA : ∀ a ∈ A, a ∈ K) (k : Int) : FunsR K (mkw w A k) g o fs := fun i hi => by
 obtain ⟨⟨c, h1⟩, h2, ⟨d, h3⟩, h4, h5, h6⟩ := h i hi
 exact ⟨⟨c, by rw [mkw_out _ _ _ _ (fun e => h2 (hA _ e))]; exact h1⟩, h2, ⟨d, by rw [mkw_out _ _ _ _ (fun e => h4 (hA _ e))]; exact h3⟩, h4, h5.mk A k, h6.mk hA k⟩
theorem strF_next (g o : Nat) (fs : List FunH) {j : Nat} (h : j < fs.length) : strA g 3 [1] o (funsQ (fs.take (j + 1))) = strA g 3 [1] o (funsQ (fs.take j)) ++ (rowH (fs.getD j fun0H).1.1 (fs.getD j fun0H).1.2 ++ ([(⟨g, o + j * 3 + 1, none⟩ : Addr)] ++ strB (fs.getD j fun0H).2.1 (fs.getD j fun0H).2.2)) := by
 rw [take_snocK fun0H h]
 unfold funsQ
 rw [List.map_append, List.map_singleton, strA_snoc]
 simp only [List.length_map, List.length_take, Nat.min_eq_left (Nat.le_of_lt h), List.map_cons, List.map_nil]
theorem strF_le (g o : Nat) (fs : List FunH) : ∀ j, j ≤ fs.length → ∃ R, strA g 3 [1] o (funsQ fs) = strA g 3 [1] o (funsQ (fs.take j)) ++ R := by
 intro j hj
 suffices H : ∀ d j, j + d = fs.length → ∃ R, strA g 3 [1] o (funsQ fs) = strA g 3 [1] o (funsQ (fs.take j)) ++ R from H (fs.length - j) j (by omega)
 intro d
 induction d with
 | zero => intro j h; exact ⟨[], by rw [List.take_of_length_le (by omega), List.append_nil]⟩
 | succ d ih =>
  intro j h
  obtain ⟨R, hR⟩ := ih (j + 1) (by omega)
  rw [strF_next g o fs (by omega), List.append_assoc] at hR
  exact ⟨_, hR⟩
set_option maxHeartbeats 2000000 in
set_option maxRecDepth 100000 in
theorem markFuR (K : List Addr) (g o c : Nat) (fs : List FunH) (k : Int) (w : World) (hn : fs.length ≤ 1048576) (ho : OwnR w g o 3 [1] fs.length) (hh : FunsR K w g o fs) (hA : ∀ a ∈ strA g 3 [1] o (funsQ fs), a ∈ K) (hk0 : 0 ≤ k) (hk : k + (strA g 3 [1] o (funsQ fs)).length ≤ 4611686018427387904) :
  Calls Tryz.prog 35 #[.slice (some ⟨g, o, none⟩) fs.length c, .int .i64 k] w fun e w' => e = .returned (.int .i64 (k + (strA g 3 [1] o (funsQ fs)).length)) ∧ w' = mkw w (strA g 3 [1] o (funsQ fs)) k := by
 have HO : Hid (OwnR w g o 3 [1] fs.length) := ho
 have HH : Hid (FunsR K w g o fs) := hh
 have HA : Hid (∀ a ∈ strA g 3 [1] o (funsQ fs), a ∈ K) := hA
 have HK : Hid (k + (strA g 3 [1] o (funsQ fs)).length ≤ 4611686018427387904) := hk
 clear ho hh hA hk
 go_enter Tryz.func35, Tryz.ntmps35
 go_wp2_with fail
 go_loopw [1, 5] (fun q i wr => ∃ (j m : Nat), j ≤ fs.length ∧ i = .int .i64 j ∧ q = .int .i64 (k + m) ∧ Hid (m = (strA g 3 [1] o (funsQ (fs.take j))).length) ∧ Hid (wr = mkw w (strA g 3 [1] o (funsQ (fs.take j))) k)) (fun _ i _ => fs.length - (intOf i).toNat)
 case atStart => exact ⟨0, 0, by omega, rfl, by simp, rfl, rfl⟩
 case round =>
  obtain ⟨j, m, hj, rfl, rfl, HM, HE⟩ := hrel
  by_cases hlt : j < fs.length
  ·have hjI : (j : Int) < (fs.length : Int) := by omega
   obtain ⟨R, hR⟩ := strF_le g o fs j hj
   have hsub : ∀ a ∈ strA g 3 [1] o (funsQ (fs.take j)), a ∈ K := fun a ha => HA.out a (by rw [hR]; exact List.mem_append_left _ ha)
   have hnx := strF_next g o fs hlt
   obtain ⟨R2, hR2⟩ := strF_le g o fs (j + 1) (by omega)
   have hbd := HK.out
   have hall := HA.out
   rw [hR2, hnx] at hbd hall
   have hBO := HO.out.mk (strA g 3 [1] o (funsQ (fs.take j))) k
   have hBH := HH.out.mk hsub k
   rw [← HE.out] at hBO hBH
   obtain ⟨⟨⟨pu, pn⟩, ⟨bu, bs⟩⟩, hb⟩ : ∃ b, fs.getD j fun0H = b := ⟨_, rfl⟩
   rw [hb] at hnx hbd hall
   dsimp only at hnx hbd hall
   have hA1 : ∀ a ∈ rowH pu pn, a ∈ K := fun a ha => hall a (by simp [ha])
   have hA0 : ∀ a ∈ [(⟨g, o + j * 3 + 1, none⟩ : Addr)], a ∈ K := fun a ha => hall a (by simp at ha; simp [ha])
   have hA2 : ∀ a ∈ strB bu bs, a ∈ K := fun a ha => hall a (by simp [ha])
   simp only [List.length_append, List.length_map, List.length_cons, List.length_nil] at hbd
   rw [← HM.out] at hbd
   obtain ⟨⟨pc, q0⟩, qn0, _, _, hp, _⟩ := hBH j hlt
   rw [hb] at q0 hp
   dsimp only at q0 hp
   have hlp := hp.len
   rw [hlp] at hbd
   obtain ⟨lb, hlb⟩ : ∃ n, (strB bu bs).length = n := ⟨_, rfl⟩
   rw [hlb] at hbd
   have P1 := markIR pu pc pn (k + m) wr hp (by omega) (by omega)
   obtain ⟨W1, hW1⟩ : ∃ W, mkw wr (rowH pu pn) (k + m) = W := ⟨_, rfl⟩
   rw [hW1] at P1
   obtain ⟨m1, hm1⟩ : ∃ n : Nat, k + (n : Int) = k + m + pn := ⟨m + pn, by omega⟩
   rw [← hm1] at P1
   have hown := (hBO.mk (rowH pu pn) (k + m)) j hlt 1 (by simp)
   rw [hW1] at hown
   obtain ⟨⟨z, hz⟩, hzf⟩ := hown
   have hBH2 := ((hBH.mk hA1 (k + m)).mk hA0 (k + (m1 : Int))) j hlt
   rw [hW1, hb, mkw_one] at hBH2
   obtain ⟨_, _, ⟨bc, q2⟩, qn2, _, hb2⟩ := hBH2
   dsimp only at q2 hb2
   have P2 := markBlO K bu bc bs (k + (m1 : Int) + 1) (W1.setCell ⟨g, o + j * 3 + 1, none⟩ (.int .i64 (k + (m1 : Int)))) hb2 hA2 (by omega) (by omega)
   rw [hlb] at P2
   obtain ⟨W2, hW2⟩ : ∃ W, mkw (W1.setCell ⟨g, o + j * 3 + 1, none⟩ (.int .i64 (k + (m1 : Int)))) (strB bu bs) (k + (m1 : Int) + 1) = W := ⟨_, rfl⟩
   rw [hW2] at P2
   have HE2 : Hid (W2 = mkw w (strA g 3 [1] o (funsQ (fs.take (j + 1)))) k) := by
    show _ = _
    rw [hnx, mkw_append, mkw_append, mkw_append, ← HE.out, ← HM.out, hW1, hlp, ← hm1, mkw_one, ← hW2]
    rfl
   have HM2 : Hid (m1 + 1 + lb = (strA g 3 [1] o (funsQ (fs.take (j + 1)))).length) := by
    show _ = _
    rw [hnx]
    simp only [List.length_append, List.length_cons, List.length_nil, hlp, hlb, ← HM.out]
    omega
   have hpn := hp.1
   have hm1b : k + (m1 : Int) + 1 + (lb : Int) ≤ 4611686018427387904 := by omega
   have hm10 : 0 ≤ k + (m1 : Int) := by omega
   clear hR hR2 hnx hall hBO hBH hp hb2 hA1 hA2 hA0 hsub qn0 qn2 hb hW1 hW2 hlp hlb hm1
   go_wp2_with (first | (go_at_call 65; refine P1.mono ?_; rintro e w5 ⟨rfl, h9⟩; subst h9) | (go_at_call 66; refine P2.mono ?_; rintro e w6 ⟨rfl, h9⟩; subst h9))
   go_roundw
   case rel => exact ⟨j + 1, m1 + 1 + lb, by omega, by go_num, by refine congrArg (Value.int .i64) ?_; first | omega | (push_cast; omega), HM2.out, HE2.out⟩
   case measure => simp [intOf]; omega
  ·have hke : j = fs.length := by omega
   subst hke
   have hm : m = (strA g 3 [1] o (funsQ fs)).length := by rw [HM.out, List.take_of_length_le (Nat.le_refl _)]
   have he : wr = mkw w (strA g 3 [1] o (funsQ fs)) k := by rw [HE.out, List.take_of_length_le (Nat.le_refl _)]
   go_wp2_with fail
   go_ret
   exact ⟨by rw [← hm]; rfl, rfl⟩
end Go.Proofs.YtkpmiikafconmaaGreatDoor
namespace Go.Proofs.YtkpmiikafconmaaGreatDoor
open Go.RowKit
set_option linter.unusedVariables false
set_option linter.unusedSimpArgs false
def Hlds (v : World) (A : List Addr) (k : Int) : Prop := ∀ (i : Nat) (a : Addr), A[i]? = some a → v.cell? a = some (.int .i64 (k + (i : Int)))
theorem Hlds.left {v : World} {A B : List Addr} {k : Int} (h : Hlds v (A ++ B) k) : Hlds v A k := fun i a ha => h i a (by
 have hi := (List.getElem?_eq_some_iff.1 ha).1
 rw [List.getElem?_append_left hi]; exact ha)
theorem Hlds.right {v : World} {A B : List Addr} {k : Int} (h : Hlds v (A ++ B) k) : Hlds v B (k + (A.length : Int)) := fun i a ha => by
 have h1 := h (A.length + i) a (by rw [List.getElem?_append_right (by omega), Nat.add_sub_cancel_left]; exact ha)
 rw [h1]
 refine congrArg (fun x => some (Value.int .i64 x)) ?_
 omega
theorem hlds_mkw {A : List Addr} {k : Int} {w : World} (hn : A.Nodup) (hc : ∀ a ∈ A, ∃ v, w.cell? a = some v) : Hlds (mkw w A k) A k := fun i a ha => by
 obtain ⟨hi, rfl⟩ := List.getElem?_eq_some_iff.1 ha
 exact mkw_at A k w hn hc i hi
set_option maxHeartbeats 1000000 in
theorem heldIR (u : Option Addr) (c n : Nat) (k : Int) (v : World) (h : IntR v u n) (hh : Hlds v (rowH u n) k) (hk0 : 0 ≤ k) (hk : k ≤ 4611686018427387904) :
  Calls Tryz.prog 67 #[.slice u n c, .int .i64 k] v fun e w' => e = .returned (.int .i64 (k + n)) ∧ w' = v := by
 have hn := h.1
 have HV : Hid (n = 0 ∨ ∃ b off, u = some ⟨b, off, none⟩ ∧ ∀ i, i < n → v.cell? ⟨b, off + i, none⟩ = some (.int .i64 (k + i))) := by
  rcases h.2 with h | ⟨b, off, rfl, _⟩
  ·exact .inl h
  ·refine .inr ⟨b, off, rfl, fun i hi => hh i _ ?_⟩
   simp [rowH, rowA, hi]
 clear h hh
 go_enter Tryz.func67, Tryz.ntmps67
 go_wp2_with fail
 go_loop [1, 5] (fun q i => ∃ j : Nat, j ≤ n ∧ i = .int .i64 j ∧ q = .int .i64 (k + j)) (fun _ i => n - (intOf i).toNat)
 case atStart => exact ⟨0, by omega, rfl, by simp⟩
 case round =>
  obtain ⟨j, hj, rfl, rfl⟩ := hrel
  by_cases hlt : j < n
  ·rcases HV.out with h | ⟨b, off, rfl, hc⟩
   ·omega
   have e1 := hc j hlt
   clear hc
   go_wp2_with fail
   exact ⟨⟨j + 1, by omega, by go_num, by refine congrArg (Value.int .i64) ?_; first | omega | (unfold wrap64; omega)⟩, by simp only [intOf]; omega⟩
  ·have hke : j = n := by omega
   subst hke
   go_wp2_with fail
   go_ret
   exact ⟨rfl, rfl⟩
set_option maxHeartbeats 2000000 in
set_option maxRecDepth 100000 in
theorem heldPhR (K : List Addr) (g o c : Nat) (hs : List (Option Addr × Nat)) (k : Int) (v : World) (hn : hs.length ≤ 1048576) (hh : HdrR K v g o 2 1 hs) (hA : Hlds v (strA g 2 [0] o (rowsQ hs)) k) (hk0 : 0 ≤ k) (hk : k + (strA g 2 [0] o (rowsQ hs)).length ≤ 4611686018427387904) :
  Calls Tryz.prog 105 #[.slice (some ⟨g, o, none⟩) hs.length c, .int .i64 k] v fun e w' => e = .returned (.int .i64 (k + (strA g 2 [0] o (rowsQ hs)).length)) ∧ w' = v := by
 have HH : Hid (HdrR K v g o 2 1 hs) := hh
 have HA : Hid (Hlds v (strA g 2 [0] o (rowsQ hs)) k) := hA
 have HK : Hid (k + (strA g 2 [0] o (rowsQ hs)).length ≤ 4611686018427387904) := hk
 clear hh hA hk
 go_enter Tryz.func105, Tryz.ntmps105
 go_wp2_with fail
 go_loop [1, 5] (fun q i => ∃ (j m : Nat), j ≤ hs.length ∧ i = .int .i64 j ∧ q = .int .i64 (k + m) ∧ Hid (m = (strA g 2 [0] o (rowsQ (hs.take j))).length)) (fun _ i => hs.length - (intOf i).toNat)
 case atStart => exact ⟨0, 0, by omega, rfl, by simp, rfl⟩
 case round =>
  obtain ⟨j, m, hj, rfl, rfl, HM⟩ := hrel
  by_cases hlt : j < hs.length
  ·have hjI : (j : Int) < (hs.length : Int) := by omega
   have hnx := strA_next g 2 [0] o hs hlt
   obtain ⟨R2, hR2⟩ := strA_le g 2 [0] o hs (j + 1) (by omega)
   have hbd := HK.out
   have hal := HA.out
   rw [hR2, hnx] at hbd hal
   simp only [List.length_append, List.length_map, List.length_cons, List.length_nil] at hbd
   have h1 := hal.left.right
   rw [← HM.out] at hbd h1
   obtain ⟨⟨cq, hq⟩, hqK, hqI⟩ := HH.out j hlt
   obtain ⟨u, n, hun⟩ : ∃ u n, hs.getD j (none, 0) = (u, n) := ⟨_, _, rfl⟩
   rw [hun] at hq hqI hnx hbd h1
   dsimp only at hq hqI hnx hbd h1
   have hln := hqI.len
   rw [hln] at hbd
   have hn0 : n ≤ 1048576 := hqI.1
   have e1 : v.cell? ⟨g, o + j * 2, none⟩ = some (.int .i64 (k + m)) := by
    have h2 := h1.left 0 ⟨g, o + j * 2 + 0, none⟩ rfl
    simpa using h2
   have h3 := h1.right
   have MI := heldIR u cq n (k + m + 1) v hqI (by simpa using h3) (by omega) (by omega)
   have HM2 : Hid (m + 1 + n = (strA g 2 [0] o (rowsQ (hs.take (j + 1)))).length) := by
    show _ = _
    rw [hnx]
    simp only [List.length_append, List.length_map, List.length_cons, List.length_nil, hln, ← HM.out]
    omega
   have hm1 : ¬ (k + (m : Int) + 1 + (n : Int) < 0) := by omega
   clear hR2 hnx hqI hqK hun h1 h3 hal
   go_wp2_with (first | (go_at_call 67; refine MI.mono ?_; rintro e w5 ⟨rfl, rfl⟩))
   exact ⟨⟨j + 1, m + 1 + n, by omega, by go_num, by refine congrArg (Value.int .i64) ?_; first | omega | (push_cast; omega), HM2.out⟩, by simp only [intOf]; omega⟩
  ·have hke : j = hs.length := by omega
   subst hke
   have hm : m = (strA g 2 [0] o (rowsQ hs)).length := by rw [HM.out, List.take_of_length_le (Nat.le_refl _)]
   go_wp2_with fail
   go_ret
   exact ⟨by rw [← hm]; rfl, rfl⟩
end Go.Proofs.YtkpmiikafconmaaGreatDoor
namespace Go.Proofs.YtkpmiikafconmaaGreatDoor
open Go.RowKit
set_option linter.unusedVariables false
set_option linter.unusedSimpArgs false
set_option maxHeartbeats 2000000 in
set_option maxRecDepth 100000 in
theorem heldInR (K : List Addr) (g o c : Nat) (hs : List (Option Addr × Nat)) (k : Int) (v : World) (hn : hs.length ≤ 1048576) (hh : HdrR K v g o 7 6 hs) (hA : Hlds v (strA g 7 [0, 1, 2, 3, 4, 5] o (rowsQ hs)) k) (hk0 : 0 ≤ k) (hk : k + (strA g 7 [0, 1, 2, 3, 4, 5] o (rowsQ hs)).length ≤ 4611686018427387904) :
  Calls Tryz.prog 106 #[.slice (some ⟨g, o, none⟩) hs.length c, .int .i64 k] v fun e w' => e = .returned (.int .i64 (k + (strA g 7 [0, 1, 2, 3, 4, 5] o (rowsQ hs)).length)) ∧ w' = v := by
 have HH : Hid (HdrR K v g o 7 6 hs) := hh
 have HA : Hid (Hlds v (strA g 7 [0, 1, 2, 3, 4, 5] o (rowsQ hs)) k) := hA
 have HK : Hid (k + (strA g 7 [0, 1, 2, 3, 4, 5] o (rowsQ hs)).length ≤ 4611686018427387904) := hk
 clear hh hA hk
 go_enter Tryz.func106, Tryz.ntmps106
 go_wp2_with fail
 go_loop [1, 5] (fun q i => ∃ (j m : Nat), j ≤ hs.length ∧ i = .int .i64 j ∧ q = .int .i64 (k + m) ∧ Hid (m = (strA g 7 [0, 1, 2, 3, 4, 5] o (rowsQ (hs.take j))).length)) (fun _ i => hs.length - (intOf i).toNat)
 case atStart => exact ⟨0, 0, by omega, rfl, by simp, rfl⟩
 case round =>
  obtain ⟨j, m, hj, rfl, rfl, HM⟩ := hrel
  by_cases hlt : j < hs.length
  ·have hjI : (j : Int) < (hs.length : Int) := by omega
   have hnx := strA_next g 7 [0, 1, 2, 3, 4, 5] o hs hlt
   obtain ⟨R2, hR2⟩ := strA_le g 7 [0, 1, 2, 3, 4, 5] o hs (j + 1) (by omega)
   have hbd := HK.out
   have hal := HA.out
   rw [hR2, hnx] at hbd hal
   simp only [List.length_append, List.length_map, List.length_cons, List.length_nil] at hbd
   have h1 := hal.left.right
   rw [← HM.out] at hbd h1
   obtain ⟨⟨cq, hq⟩, hqK, hqI⟩ := HH.out j hlt
   obtain ⟨u, n, hun⟩ : ∃ u n, hs.getD j (none, 0) = (u, n) := ⟨_, _, rfl⟩
   rw [hun] at hq hqI hnx hbd h1
   dsimp only at hq hqI hnx hbd h1
   have hln := hqI.len
   rw [hln] at hbd
   have hn0 : n ≤ 1048576 := hqI.1
   have e0 : v.cell? ⟨g, o + j * 7, none⟩ = some (.int .i64 (k + m)) := by
    have h2 := h1.left 0 ⟨g, o + j * 7 + 0, none⟩ rfl
    refine h2.trans (congrArg (fun x => some (Value.int .i64 x)) ?_)
    omega
   have e1 : v.cell? ⟨g, o + j * 7 + 1, none⟩ = some (.int .i64 (k + m + 1)) := by
    have h2 := h1.left 1 ⟨g, o + j * 7 + 1, none⟩ rfl
    refine h2.trans (congrArg (fun x => some (Value.int .i64 x)) ?_)
    omega
   have e2 : v.cell? ⟨g, o + j * 7 + 2, none⟩ = some (.int .i64 (k + m + 1 + 1)) := by
    have h2 := h1.left 2 ⟨g, o + j * 7 + 2, none⟩ rfl
    refine h2.trans (congrArg (fun x => some (Value.int .i64 x)) ?_)
    omega
   have e3 : v.cell? ⟨g, o + j * 7 + 3, none⟩ = some (.int .i64 (k + m + 1 + 1 + 1)) := by
    have h2 := h1.left 3 ⟨g, o + j * 7 + 3, none⟩ rfl
    refine h2.trans (congrArg (fun x => some (Value.int .i64 x)) ?_)
    omega
   have e4 : v.cell? ⟨g, o + j * 7 + 4, none⟩ = some (.int .i64 (k + m + 1 + 1 + 1 + 1)) := by
    have h2 := h1.left 4 ⟨g, o + j * 7 + 4, none⟩ rfl
    refine h2.trans (congrArg (fun x => some (Value.int .i64 x)) ?_)
    omega
   have e5 : v.cell? ⟨g, o + j * 7 + 5, none⟩ = some (.int .i64 (k + m + 1 + 1 + 1 + 1 + 1)) := by
    have h2 := h1.left 5 ⟨g, o + j * 7 + 5, none⟩ rfl
    refine h2.trans (congrArg (fun x => some (Value.int .i64 x)) ?_)
    omega
   have h3 := h1.right
   have MI := heldIR u cq n (k + m + 1 + 1 + 1 + 1 + 1 + 1) v hqI (by have h4 := h3; rw [show k + ((m : Nat) : Int) + ((([0, 1, 2, 3, 4, 5] : List Nat).map (fun f => (⟨g, o + j * 7 + f, none⟩ : Addr))).length : Int) = k + m + 1 + 1 + 1 + 1 + 1 + 1 by simp; omega] at h4; exact h4) (by omega) (by omega)
   have HM2 : Hid (m + 6 + n = (strA g 7 [0, 1, 2, 3, 4, 5] o (rowsQ (hs.take (j + 1)))).length) := by
    show _ = _
    rw [hnx]
    simp only [List.length_append, List.length_map, List.length_cons, List.length_nil, hln, ← HM.out]
    omega
   have hm1 : ¬ (k + (m : Int) + 1 + 1 + 1 + 1 + 1 + 1 + (n : Int) < 0) := by omega
   clear hR2 hnx hqI hqK hun h1 h3 hal
   go_wp2_with (first | (go_at_call 67; refine MI.mono ?_; rintro e w5 ⟨rfl, rfl⟩))
   exact ⟨⟨j + 1, m + 6 + n, by omega, by go_num, by refine congrArg (Value.int .i64) ?_; first | omega | (push_cast; omega), HM2.out⟩, by simp only [intOf]; omega⟩
  ·have hke : j = hs.length := by omega
   subst hke
   have hm : m = (strA g 7 [0, 1, 2, 3, 4, 5] o (rowsQ hs)).length := by rw [HM.out, List.take_of_length_le (Nat.le_refl _)]
   go_wp2_with fail
   go_ret
   exact ⟨by rw [← hm]; rfl, rfl⟩
end Go.Proofs.YtkpmiikafconmaaGreatDoor
namespace Go.Proofs.YtkpmiikafconmaaGreatDoor
open Go.RowKit
set_option linter.unusedVariables false
set_option linter.unusedSimpArgs false
set_option maxHeartbeats 1000000 in
theorem heldPhO (K : List Addr) (u : Option Addr) (c : Nat) (hs : List (Option Addr × Nat)) (k : Int) (v : World) (h : StrR K v 2 1 [0] u hs) (hA : Hlds v (strO 2 [0] u hs) k) (hk0 : 0 ≤ k) (hk : k + (strO 2 [0] u hs).length ≤ 4611686018427387904) :
  Calls Tryz.prog 105 #[.slice u hs.length c, .int .i64 k] v fun e w' => e = .returned (.int .i64 (k + (strO 2 [0] u hs).length)) ∧ w' = v := by
 rcases h.2 with e | ⟨g, o, rfl, h1, h2⟩
 ·subst e
  rw [strO_nil]
  go_enter Tryz.func105, Tryz.ntmps105
  go_wp2_with fail
  go_loop [1, 5] (fun q i => i = .int .i64 0 ∧ q = .int .i64 k) (fun _ _ => 0)
  case atStart => exact ⟨rfl, rfl⟩
  case round =>
   obtain ⟨rfl, rfl⟩ := hrel
   go_wp2_with fail
   go_ret
   exact ⟨by simp, rfl⟩
 ·exact heldPhR K g o c hs k v h.1 h2 hA hk0 hk
set_option maxHeartbeats 1000000 in
theorem heldInO (K : List Addr) (u : Option Addr) (c : Nat) (hs : List (Option Addr × Nat)) (k : Int) (v : World) (h : StrR K v 7 6 [0, 1, 2, 3, 4, 5] u hs) (hA : Hlds v (strO 7 [0, 1, 2, 3, 4, 5] u hs) k) (hk0 : 0 ≤ k) (hk : k + (strO 7 [0, 1, 2, 3, 4, 5] u hs).length ≤ 4611686018427387904) :
  Calls Tryz.prog 106 #[.slice u hs.length c, .int .i64 k] v fun e w' => e = .returned (.int .i64 (k + (strO 7 [0, 1, 2, 3, 4, 5] u hs).length)) ∧ w' = v := by
 rcases h.2 with e | ⟨g, o, rfl, h1, h2⟩
 ·subst e
  rw [strO_nil]
  go_enter Tryz.func106, Tryz.ntmps106
  go_wp2_with fail
  go_loop [1, 5] (fun q i => i = .int .i64 0 ∧ q = .int .i64 k) (fun _ _ => 0)
  case atStart => exact ⟨rfl, rfl⟩
  case round =>
   obtain ⟨rfl, rfl⟩ := hrel
   go_wp2_with fail
   go_ret
   exact ⟨by simp, rfl⟩
 ·exact heldInR K g o c hs k v h.1 h2 hA hk0 hk
set_option maxHeartbeats 2000000 in
set_option maxRecDepth 100000 in
theorem heldBlR (K : List Addr) (g o c : Nat) (bs : List BlkH) (k : Int) (v : World) (hn : bs.length ≤ 1048576) (hh : BlkR K v g o bs) (hA : Hlds v (strA g 6 [2, 3, 4, 5] o (blksQ bs)) k) (hk0 : 0 ≤ k) (hk : k + (strA g 6 [2, 3, 4, 5] o (blksQ bs)).length ≤ 4611686018427387904) :
  Calls Tryz.prog 68 #[.slice (some ⟨g, o, none⟩) bs.length c, .int .i64 k] v fun e w' => e = .returned (.int .i64 (k + (strA g 6 [2, 3, 4, 5] o (blksQ bs)).length)) ∧ w' = v := by
 have HH : Hid (BlkR K v g o bs) := hh
 have HA : Hid (Hlds v (strA g 6 [2, 3, 4, 5] o (blksQ bs)) k) := hA
 have HK : Hid (k + (strA g 6 [2, 3, 4, 5] o (blksQ bs)).length ≤ 4611686018427387904) := hk
 clear hh hA hk
 go_enter Tryz.func68, Tryz.ntmps68
 go_wp2_with fail
 go_loop [1, 5] (fun q i => ∃ (j m : Nat), j ≤ bs.length ∧ i = .int .i64 j ∧ q = .int .i64 (k + m) ∧ Hid (m = (strA g 6 [2, 3, 4, 5] o (blksQ (bs.take j))).length)) (fun _ i => bs.length - (intOf i).toNat)
 case atStart => exact ⟨0, 0, by omega, rfl, by simp, rfl⟩
 case round =>
  obtain ⟨j, m, hj, rfl, rfl, HM⟩ := hrel
  by_cases hlt : j < bs.length
  ·have hjI : (j : Int) < (bs.length : Int) := by omega
   have hnx := strB_next g o bs hlt
   obtain ⟨R2, hR2⟩ := strB_le g o bs (j + 1) (by omega)
   have hbd := HK.out
   have hal := HA.out
   rw [hR2, hnx] at hbd hal
   obtain ⟨⟨⟨pu, ps⟩, ⟨iu, is⟩⟩, hb⟩ : ∃ b, bs.getD j blk0 = b := ⟨_, rfl⟩
   rw [hb] at hnx hbd hal
   unfold blkA at hnx hbd hal
   dsimp only at hnx hbd hal
   simp only [List.length_append, List.length_map, List.length_cons, List.length_nil] at hbd
   have h1 := hal.left.right
   rw [← HM.out] at hbd h1
   obtain ⟨⟨pc, q0⟩, qn0, ⟨ic, q1⟩, qn1, hp, hi2⟩ := HH.out j hlt
   rw [hb] at q0 hp q1 hi2
   dsimp only at q0 hp q1 hi2
   have P1 := heldPhO K pu pc ps (k + m) v hp h1.left.left (by omega) (by omega)
   have h2a := h1.left.right
   have h3 := h1.right
   obtain ⟨lp, hlp⟩ : ∃ n, (strO 2 [0] pu ps).length = n := ⟨_, rfl⟩
   obtain ⟨li, hli⟩ : ∃ n, (strO 7 [0, 1, 2, 3, 4, 5] iu is).length = n := ⟨_, rfl⟩
   rw [List.length_append, hlp, hli] at h3
   rw [hlp] at P1 hbd h2a
   rw [hli] at hbd
   have P2 := heldInO K iu ic is (k + m + lp) v hi2 h2a (by omega) (by omega)
   rw [hli] at P2
   obtain ⟨m2, hm2⟩ : ∃ n : Nat, k + (n : Int) = k + m + lp + li := ⟨m + lp + li, by omega⟩
   rw [← hm2] at P2
   rw [show k + ((m : Nat) : Int) + ((lp + li : Nat) : Int) = k + (m2 : Int) by omega] at h3
   have e0 : v.cell? ⟨g, o + j * 6 + 2, none⟩ = some (.int .i64 (k + (m2 : Int))) := by
    have h2 := h3 0 ⟨g, o + j * 6 + 2, none⟩ rfl
    refine h2.trans (congrArg (fun x => some (Value.int .i64 x)) ?_)
    omega
   have e1 : v.cell? ⟨g, o + j * 6 + 3, none⟩ = some (.int .i64 (k + (m2 : Int) + 1)) := by
    have h2 := h3 1 ⟨g, o + j * 6 + 3, none⟩ rfl
    refine h2.trans (congrArg (fun x => some (Value.int .i64 x)) ?_)
    omega
   have e2 : v.cell? ⟨g, o + j * 6 + 4, none⟩ = some (.int .i64 (k + (m2 : Int) + 1 + 1)) := by
    have h2 := h3 2 ⟨g, o + j * 6 + 4, none⟩ rfl
    refine h2.trans (congrArg (fun x => some (Value.int .i64 x)) ?_)
    omega
   have e3 : v.cell? ⟨g, o + j * 6 + 5, none⟩ = some (.int .i64 (k + (m2 : Int) + 1 + 1 + 1)) := by
    have h2 := h3 3 ⟨g, o + j * 6 + 5, none⟩ rfl
    refine h2.trans (congrArg (fun x => some (Value.int .i64 x)) ?_)
    omega
   have HM2 : Hid (m2 + 4 = (strA g 6 [2, 3, 4, 5] o (blksQ (bs.take (j + 1)))).length) := by
    show _ = _
    rw [hnx]
    simp only [List.length_append, List.length_map, List.length_cons, List.length_nil, hlp, hli, ← HM.out]
    omega
   have hm2b : (m2 : Int) + k ≤ 4611686018427387904 := by omega
   have hm20 : 0 ≤ k + (m2 : Int) := by omega
   have hn1 : ¬ (k + (m : Int) + (lp : Int) < 0) := by omega
   have hn2 : ¬ (k + (m2 : Int) < 0) := by omega
   clear hR2 hnx hal h1 h2a h3 hp hi2 qn0 qn1 hb hlp hli hm2
   go_wp2_with (first | (go_at_call 105; refine P1.mono ?_; rintro e w5 ⟨rfl, rfl⟩) | (go_at_call 106; refine P2.mono ?_; rintro e w6 ⟨rfl, rfl⟩))
   exact ⟨⟨j + 1, m2 + 4, by omega, by go_num, by refine congrArg (Value.int .i64) ?_; first | omega | (push_cast; omega), HM2.out⟩, by simp only [intOf]; omega⟩
  ·have hke : j = bs.length := by omega
   subst hke
   have hm : m = (strA g 6 [2, 3, 4, 5] o (blksQ bs)).length := by rw [HM.out, List.take_of_length_le (Nat.le_refl _)]
   go_wp2_with fail
   go_ret
   exact ⟨by rw [← hm]; rfl, rfl⟩
end Go.Proofs.YtkpmiikafconmaaGreatDoor
