import Derived.Test.YtkpmiikafconmaaGreatDoorMkHV
import Derived.Test.YtkpmiikafconmaaGreatDoorOwAV
namespace Go.Proofs.YtkpmiikafconmaaGreatDoor
open Go.RowKit
set_option linter.unusedVariables false
set_option linter.unusedSimpArgs false
set_option maxHeartbeats 1000000 in
theorem heldBlO (K : List Addr) (u : Option Addr) (c : Nat) (bs : List BlkH) (k : Int) (v : World) (h : BlsR K v u bs) (hA : Hlds v (strB u bs) k) (hk0 : 0 ≤ k) (hk : k + (strB u bs).length ≤ 4611686018427387904) :
  Calls Tryz.prog 68 #[.slice u bs.length c, .int .i64 k] v fun e w' => e = .returned (.int .i64 (k + (strB u bs).length)) ∧ w' = v := by
 rcases h.2 with e | ⟨g, o, rfl, h1, h2⟩
 ·subst e
  rw [strB_nil]
  go_enter Tryz.func68, Tryz.ntmps68
  go_wp2_with fail
  go_loop [1, 5] (fun q i => i = .int .i64 0 ∧ q = .int .i64 k) (fun _ _ => 0)
  case atStart => exact ⟨rfl, rfl⟩
  case round =>
   obtain ⟨rfl, rfl⟩ := hrel
   go_wp2_with fail
   go_ret
   exact ⟨by simp, rfl⟩
 ·exact heldBlR K g o c bs k v h.1 h2 hA hk0 hk
set_option maxHeartbeats 2000000 in
set_option maxRecDepth 100000 in
theorem heldFuR (K : List Addr) (g o c : Nat) (fs : List FunH) (k : Int) (v : World) (hn : fs.length ≤ 1048576) (hh : FunsR K v g o fs) (hA : Hlds v (strA g 3 [1] o (funsQ fs)) k) (hk0 : 0 ≤ k) (hk : k + (strA g 3 [1] o (funsQ fs)).length ≤ 4611686018427387904) :
  Calls Tryz.prog 36 #[.slice (some ⟨g, o, none⟩) fs.length c, .int .i64 k] v fun e w' => e = .returned (.int .i64 (k + (strA g 3 [1] o (funsQ fs)).length)) ∧ w' = v := by
 have HH : Hid (FunsR K v g o fs) := hh
 have HA : Hid (Hlds v (strA g 3 [1] o (funsQ fs)) k) := hA
 have HK : Hid (k + (strA g 3 [1] o (funsQ fs)).length ≤ 4611686018427387904) := hk
 clear hh hA hk
 go_enter Tryz.func36, Tryz.ntmps36
 go_wp2_with fail
 go_loop [1, 5] (fun q i => ∃ (j m : Nat), j ≤ fs.length ∧ i = .int .i64 j ∧ q = .int .i64 (k + m) ∧ Hid (m = (strA g 3 [1] o (funsQ (fs.take j))).length)) (fun _ i => fs.length - (intOf i).toNat)
 case atStart => exact ⟨0, 0, by omega, rfl, by simp, rfl⟩
 case round =>
  obtain ⟨j, m, hj, rfl, rfl, HM⟩ := hrel
  by_cases hlt : j < fs.length
  ·have hjI : (j : Int) < (fs.length : Int) := by omega
   have hnx := strF_next g o fs hlt
   obtain ⟨R2, hR2⟩ := strF_le g o fs (j + 1) (by omega)
   have hbd := HK.out
   have hal := HA.out
   rw [hR2, hnx] at hbd hal
   obtain ⟨⟨⟨pu, pn⟩, ⟨bu, bs⟩⟩, hb⟩ : ∃ b, fs.getD j fun0H = b := ⟨_, rfl⟩
   rw [hb] at hnx hbd hal
   dsimp only at hnx hbd hal
   simp only [List.length_append, List.length_map, List.length_cons, List.length_nil] at hbd
   have h1 := hal.left.right
   rw [← HM.out] at hbd h1
   obtain ⟨⟨pc, q0⟩, qn0, ⟨bc, q2⟩, qn2, hp, hb2⟩ := HH.out j hlt
   rw [hb] at q0 hp q2 hb2
   dsimp only at q0 hp q2 hb2
   have hlp := hp.len
   rw [hlp] at hbd
   obtain ⟨lb, hlb⟩ : ∃ n, (strB bu bs).length = n := ⟨_, rfl⟩
   rw [hlb] at hbd
   have P1 := heldIR pu pc pn (k + m) v hp h1.left (by omega) (by omega)
   obtain ⟨m1, hm1⟩ : ∃ n : Nat, k + (n : Int) = k + m + pn := ⟨m + pn, by omega⟩
   have h2 := h1.right
   rw [hlp, ← hm1] at h2
   rw [← hm1] at P1
   have e1 : v.cell? ⟨g, o + j * 3 + 1, none⟩ = some (.int .i64 (k + (m1 : Int))) := by
    have h3 := h2.left 0 ⟨g, o + j * 3 + 1, none⟩ rfl
    refine h3.trans (congrArg (fun x => some (Value.int .i64 x)) ?_)
    omega
   have h4 := h2.right
   have P2 := heldBlO K bu bc bs (k + (m1 : Int) + 1) v hb2 h4 (by omega) (by omega)
   rw [hlb] at P2
   have HM2 : Hid (m1 + 1 + lb = (strA g 3 [1] o (funsQ (fs.take (j + 1)))).length) := by
    show _ = _
    rw [hnx]
    simp only [List.length_append, List.length_cons, List.length_nil, hlp, hlb, ← HM.out]
    omega
   have hpn := hp.1
   have hm1b : k + (m1 : Int) + 1 + (lb : Int) ≤ 4611686018427387904 := by omega
   have hm10 : 0 ≤ k + (m1 : Int) := by omega
   have hn1 : ¬ (k + (m1 : Int) < 0) := by omega
   have hn2 : ¬ (k + (m1 : Int) + 1 + (lb : Int) < 0) := by omega
   clear hR2 hnx hal h1 h2 h4 hp hb2 qn0 qn2 hb hlp hlb hm1
   go_wp2_with (first | (go_at_call 67; refine P1.mono ?_; rintro e w5 ⟨rfl, rfl⟩) | (go_at_call 68; refine P2.mono ?_; rintro e w6 ⟨rfl, rfl⟩))
   exact ⟨⟨j + 1, m1 + 1 + lb, by omega, by go_num, by refine congrArg (Value.int .i64) ?_; first | omega | (push_cast; omega), HM2.out⟩, by simp only [intOf]; omega⟩
  ·have hke : j = fs.length := by omega
   subst hke
   have hm : m = (strA g 3 [1] o (funsQ fs)).length := by rw [HM.out, List.take_of_length_le (Nat.le_refl _)]
   go_wp2_with fail
   go_ret
   exact ⟨by rw [← hm]; rfl, rfl⟩
end Go.Proofs.YtkpmiikafconmaaGreatDoor
namespace Go.Proofs.YtkpmiikafconmaaGreatDoor
open Go.RowKit
set_option linter.unusedVariables false
set_option linter.unusedSimpArgs false
def strF (u : Option Addr) (fs : List FunH) : List Addr := match u with
 | some p => strA p.block 3 [1] p.off (funsQ fs)
 | none => []
theorem strF_nil (u : Option Addr) : strF u [] = [] := by
 cases u with
 | none => rfl
 | some p => rfl
def FusR (K : List Addr) (w : World) (u : Option Addr) (fs : List FunH) : Prop := fs.length ≤ 1048576 ∧ (fs = [] ∨ ∃ g o, u = some ⟨g, o, none⟩ ∧ OwnR w g o 3 [1] fs.length ∧ FunsR K w g o fs)
theorem FusR.mk {K : List Addr} {w : World} {u : Option Addr} {fs : List FunH} (h : FusR K w u fs) {A : List Addr} (hA : ∀ a ∈ A, a ∈ K) (k : Int) : FusR K (mkw w A k) u fs := by
 refine ⟨h.1, ?_⟩
 rcases h.2 with h | ⟨g, o, e, h1, h2⟩
 ·exact .inl h
 ·exact .inr ⟨g, o, e, h1.mk A k, h2.mk hA k⟩
set_option maxHeartbeats 1000000 in
theorem markFuO (K : List Addr) (u : Option Addr) (c : Nat) (fs : List FunH) (k : Int) (w : World) (h : FusR K w u fs) (hA : ∀ a ∈ strF u fs, a ∈ K) (hk0 : 0 ≤ k) (hk : k + (strF u fs).length ≤ 4611686018427387904) :
  Calls Tryz.prog 35 #[.slice u fs.length c, .int .i64 k] w fun e w' => e = .returned (.int .i64 (k + (strF u fs).length)) ∧ w' = mkw w (strF u fs) k := by
 rcases h.2 with e | ⟨g, o, rfl, h1, h2⟩
 ·subst e
  rw [strF_nil]
  go_enter Tryz.func35, Tryz.ntmps35
  go_wp2_with fail
  go_loopw [1, 5] (fun q i wr => i = .int .i64 0 ∧ q = .int .i64 k ∧ Hid (wr = w)) (fun _ _ _ => 0)
  case atStart => exact ⟨rfl, rfl, rfl⟩
  case round =>
   obtain ⟨rfl, rfl, HE⟩ := hrel
   go_wp2_with fail
   go_ret
   exact ⟨by simp, HE.out⟩
 ·exact markFuR K g o c fs k w h.1 h1 h2 hA hk0 hk
set_option maxHeartbeats 1000000 in
theorem heldFuO (K : List Addr) (u : Option Addr) (c : Nat) (fs : List FunH) (k : Int) (v : World) (h : FusR K v u fs) (hA : Hlds v (strF u fs) k) (hk0 : 0 ≤ k) (hk : k + (strF u fs).length ≤ 4611686018427387904) :
  Calls Tryz.prog 36 #[.slice u fs.length c, .int .i64 k] v fun e w' => e = .returned (.int .i64 (k + (strF u fs).length)) ∧ w' = v := by
 rcases h.2 with e | ⟨g, o, rfl, h1, h2⟩
 ·subst e
  rw [strF_nil]
  go_enter Tryz.func36, Tryz.ntmps36
  go_wp2_with fail
  go_loop [1, 5] (fun q i => i = .int .i64 0 ∧ q = .int .i64 k) (fun _ _ => 0)
  case atStart => exact ⟨rfl, rfl⟩
  case round =>
   obtain ⟨rfl, rfl⟩ := hrel
   go_wp2_with fail
   go_ret
   exact ⟨by simp, rfl⟩
 ·exact heldFuR K g o c fs k v h.1 h2 hA hk0 hk
set_option maxHeartbeats 1000000 in
theorem markMod (K : List Addr) (u : Option Addr) (c : Nat) (fs : List FunH) (k : Int) (w : World) (h : FusR K (w.alloc (.cells #[.slice u fs.length c] 26)) u fs) (hA : ∀ a ∈ strF u fs, a ∈ K) (hk0 : 0 ≤ k) (hk : k + (strF u fs).length ≤ 4611686018427387904) :
  Calls Tryz.prog 14 #[.agg #[.slice u fs.length c], .int .i64 k] w fun e w' => e = .returned (.int .i64 (k + (strF u fs).length)) ∧ w' = mkw (w.alloc (.cells #[.slice u fs.length c] 26)) (strF u fs) k := by
 have P := markFuO K u c fs k _ h hA hk0 hk
 clear h hA
 go_enter Tryz.func14, Tryz.ntmps14
 go_wp2_with fail
 refine P.mono ?_
 rintro e w1 ⟨rfl, h9⟩
 have h8 := h9.symm
 clear h9 P
 go_wp2_with fail
 go_ret
 exact ⟨rfl, h8.symm⟩
set_option maxHeartbeats 1000000 in
theorem heldMod (K : List Addr) (u : Option Addr) (c : Nat) (fs : List FunH) (k : Int) (v : World) (h : FusR K (v.alloc (.cells #[.slice u fs.length c] 26)) u fs) (hA : Hlds (v.alloc (.cells #[.slice u fs.length c] 26)) (strF u fs) k) (hk0 : 0 ≤ k) (hk : k + (strF u fs).length ≤ 4611686018427387904) :
  Calls Tryz.prog 15 #[.agg #[.slice u fs.length c], .int .i64 k] v fun e w' => e = .returned (.int .i64 (k + (strF u fs).length)) ∧ w' = v.alloc (.cells #[.slice u fs.length c] 26) := by
 have P := heldFuO K u c fs k _ h hA hk0 hk
 have hn : ¬ (k + ((strF u fs).length : Int) < 0) := by omega
 clear h hA
 go_enter Tryz.func15, Tryz.ntmps15
 go_wp2_with fail
 refine P.mono ?_
 rintro e w1 ⟨rfl, h9⟩
 have h8 := h9.symm
 clear h9 P
 go_wp2_with fail
 go_ret
 exact ⟨rfl, h8.symm⟩
end Go.Proofs.YtkpmiikafconmaaGreatDoor
namespace Go.Proofs.YtkpmiikafconmaaGreatDoor
open Go.RowKit
set_option linter.unusedVariables false
set_option linter.unusedSimpArgs false
def PhE.h (e : PhE) : Option Addr × Nat := (e.2.1, e.1.ins.length)
def InE.h (e : InE) : Option Addr × Nat := (e.2.1, e.1.args.length)
def BkE.h (b : BkE) : BlkH := ((b.pu, b.ps.map PhE.h), (b.iu, b.is.map InE.h))
def FnE.h (f : FnE) : FunH := ((f.pu, f.pars.length), (f.bu, f.bs.map BkE.h))
def InA (w : World) (lo hi k : Nat) (A : List Addr) : Prop := ∀ a ∈ A, lo ≤ a.block ∧ a.block < hi ∧ (∃ (cur : Array Value) (T : TypeId), w.heap[a.block]? = some (.cells cur T (0, 0)) ∧ lvT T < k) ∧ ∃ z : Int, w.cell? a = some (.int .i64 z)
theorem InA.wide {w : World} {lo hi k lo' hi' k' : Nat} {A : List Addr} (h : InA w lo hi k A) (h1 : lo' ≤ lo) (h2 : hi ≤ hi') (h3 : k ≤ k') : InA w lo' hi' k' A := fun a ha => by
 obtain ⟨k1, k2, ⟨cur, T, k3, k4⟩, k5⟩ := h a ha
 exact ⟨by omega, by omega, ⟨cur, T, k3, by omega⟩, k5⟩
theorem InA.nil {w : World} {lo hi k : Nat} : InA w lo hi k [] := fun a ha => by cases ha
theorem InA.append {w : World} {lo hi k : Nat} {A B : List Addr} (h : InA w lo hi k A) (h2 : InA w lo hi k B) : InA w lo hi k (A ++ B) := fun a ha => by
 rcases List.mem_append.1 ha with h' | h'
 ·exact h a h'
 ·exact h2 a h'
theorem InA.apart {w : World} {lo m m' hi k k' : Nat} {A B : List Addr} (h : InA w lo m k A) (h2 : InA w m' hi k' B) (hm : m ≤ m') (hA : A.Nodup) (hB : B.Nodup) : (A ++ B).Nodup :=
 apart_of_blocks (fun a ha b hb e => by have := (h a ha).2.1; have := (h2 b hb).1; omega) hA hB
theorem OwnI.inA {w : World} {lo hi : Nat} {u : Option Addr} {l : List Int} (h : OwnI w lo hi u l) : InA w lo hi 1 (rowH u l.length) := by
 rcases h.2 with h | ⟨g, cur, rfl, h1, h2, h3, h4⟩
 ·subst h
  rw [show ([] : List Int).length = 0 from rfl, rowH_zero]
  exact InA.nil
 ·intro a ha
  obtain ⟨i, hi, rfl⟩ := List.mem_map.1 (show a ∈ rowA g 0 l.length 1 from ha)
  have hi' : i < l.length := by simpa using hi
  refine ⟨h1, h2, ⟨cur, _, h3, by decide⟩, l.getD i 0, ?_⟩
  rw [cell_of_heap h3, Nat.zero_add, Nat.mul_one]
  exact h4 i hi'
theorem OwnI.intR {w : World} {lo hi : Nat} {u : Option Addr} {l : List Int} (h : OwnI w lo hi u l) : IntR w u l.length := by
 refine ⟨h.1, ?_⟩
 rcases h.2 with h | ⟨g, cur, rfl, h1, h2, h3, h4⟩
 ·exact .inl (by rw [h]; rfl)
 ·exact .inr ⟨g, 0, rfl, fun i hi => ⟨⟨_, by rw [cell_of_heap h3, Nat.zero_add]; exact h4 i hi⟩, froz_of_heap h3⟩⟩
theorem sub_inA {α : Type} {O : World → Nat → Nat → α → Prop} {w : World} {k : Nat} {q : α → List Addr × List Addr} (hq : ∀ lo hi e, O w lo hi e → InA w lo hi k ((q e).1 ++ (q e).2)) : ∀ {es : List α} {lo hi : Nat}, Sub O w lo hi es → InA w lo hi k (subA (es.map q))
 | [], _, _, _ => InA.nil
 | e :: es, lo, hi, ⟨a, m, h1, h2, h3, h4⟩ => by
  have h5 := hq _ _ _ h3
  have h6 := sub_inA hq h4
  have hle := h4.le
  show InA w lo hi k ((q e).1 ++ ((q e).2 ++ subA (es.map q)))
  rw [← List.append_assoc]
  exact (h5.wide h1 hle (Nat.le_refl _)).append (h6.wide (Nat.le_trans h1 h2) (Nat.le_refl _) (Nat.le_refl _))
theorem sub_nodup {α : Type} {O : World → Nat → Nat → α → Prop} {w : World} {k : Nat} {q : α → List Addr × List Addr} (hq : ∀ lo hi e, O w lo hi e → InA w lo hi k ((q e).1 ++ (q e).2)) (hn : ∀ lo hi e, O w lo hi e → ((q e).1 ++ (q e).2).Nodup) : ∀ {es : List α} {lo hi : Nat}, Sub O w lo hi es → (subA (es.map q)).Nodup
 | [], _, _, _ => List.nodup_nil
 | e :: es, lo, hi, ⟨a, m, h1, h2, h3, h4⟩ => by
  show ((q e).1 ++ ((q e).2 ++ subA (es.map q))).Nodup
  rw [← List.append_assoc]
  exact (hq _ _ _ h3).apart (sub_inA hq h4) (Nat.le_refl _) (hn _ _ _ h3) (sub_nodup hq hn h4)
theorem row_inA {α : Type} {T : TypeId} {s : Nat} {w : World} {lo hi k : Nat} {F : List Nat} {q : α → List Addr × List Addr} {g : Nat} {cur : Array Value} {es : List α} (hg : w.heap[g]? = some (.cells cur T (0, 0))) (h1 : lo ≤ g) (h2 : g < hi) (hT : lvT T < k) (hk : InA w lo hi k (subA (es.map q)))
  (hF : ∀ i e, es[i]? = some e → ∀ f ∈ F, ∃ z : Int, cur[i * s + f]? = some (.int .i64 z)) : InA w lo hi k (strA g s F 0 (es.map q)) := by
 suffices H : ∀ (es : List α) (n : Nat), InA w lo hi k (subA (es.map q)) → (∀ i e, es[i]? = some e → ∀ f ∈ F, ∃ z : Int, cur[(n + i) * s + f]? = some (.int .i64 z)) → InA w lo hi k (strA g s F (n * s) (es.map q)) by
  have := H es 0 hk (fun i e he f hf => by rw [Nat.zero_add]; exact hF i e he f hf)
  rwa [Nat.zero_mul] at this
 intro es
 induction es with
 | nil => intro n _ _; exact InA.nil
 | cons e es ih =>
  intro n hs hc
  have hs' : InA w lo hi k ((q e).1 ++ ((q e).2 ++ subA (es.map q))) := hs
  show InA w lo hi k ((q e).1 ++ (F.map (fun f => (⟨g, n * s + f, none⟩ : Addr)) ++ ((q e).2 ++ strA g s F (n * s + s) (es.map q))))
  have ih' := ih (n + 1) (fun a ha => hs' a (List.mem_append_right _ (List.mem_append_right _ ha))) (fun i x hx f hf => by
   have := hc (i + 1) x (by simpa using hx) f hf
   rwa [show n + (i + 1) = n + 1 + i by omega] at this)
  rw [Nat.succ_mul] at ih'
  refine InA.append (fun a ha => hs' a (List.mem_append_left _ ha)) (InA.append (fun a ha => ?_) (InA.append (fun a ha => hs' a (List.mem_append_right _ (List.mem_append_left _ ha))) ih'))
  obtain ⟨f, hf, rfl⟩ := List.mem_map.1 ha
  refine ⟨h1, h2, ⟨cur, T, hg, hT⟩, ?_⟩
  obtain ⟨z, hz⟩ := hc 0 e rfl f hf
  refine ⟨z, ?_⟩
  rw [cell_of_heap hg]
  simpa using hz
theorem row_nodup {α : Type} {T : TypeId} {s : Nat} {w : World} {lo hi k : Nat} {F : List Nat} {q : α → List Addr × List Addr} {g : Nat} {cur : Array Value} {es : List α} (hg : w.heap[g]? = some (.cells cur T (0, 0))) (hT : k ≤ lvT T) (hk : InA w lo hi k (subA (es.map q))) (hn : (subA (es.map q)).Nodup) (hF : F.Nodup) (hs : ∀ f ∈ F, f < s) : (strA g s F 0 (es.map q)).Nodup :=
 strA_nodup hF hs _ _ hn fun a ha e => by
  obtain ⟨_, _, ⟨cur2, T2, h3, h4⟩, _⟩ := hk a ha
  rw [e, hg] at h3
  cases h3
  omega
end Go.Proofs.YtkpmiikafconmaaGreatDoor
