import Derived.Test.YtenbodghkpbghaaDoorSbDSv
import Derived.Test.YtenbodghkpbghaaDoorOps3Sv
import Derived.Test.YtenbodghkpbghaaDoorGnYSv
import Derived.Laws.World
import Derived.Test.YtenbodghkpbghaaDoorGnVSv
import Derived.Deep.DeepCutAuto
namespace Go.Proofs.YtenbodghkpbghaaDoor
open Go.RowKit Go.Maps
set_option linter.unusedVariables false
set_option linter.unusedSimpArgs false
def rhoT (l : List Int) : Int → Int := fun id => if 0 ≤ id ∧ id < l.length then l.getD id.toNat 0 else id
def subOk (d : FuncD) (tt : List Int) : Prop := funcB 3 d = true ∧ tt.length = cntF d ∧ (tt.all fun n => belowB n (cntF d)) = true
open Classical in
noncomputable def substD (d : FuncD) (tt : List Int) : FuncD × Bool := if subOk d tt then (sbFunc (rhoT tt) d, true) else (func0, false)
theorem subst_yes {d : FuncD} {tt : List Int} (h : subOk d tt) : substD d tt = (sbFunc (rhoT tt) d, true) := by unfold substD; rw [if_pos h]
theorem subst_no {d : FuncD} {tt : List Int} (h : ¬ subOk d tt) : substD d tt = (func0, false) := by unfold substD; rw [if_neg h]
def RenN (w : World) (B n : Nat) (ρ : Int → Int) : Prop := ∃ D : DataW Unit, IsMap D ∧ w.ownsMap Tryd.prog 2 (plainElem Tryd.prog 2) B n D ∧ ∀ id c : Int, D.atKey (.int .i64 id) (.lit (.int .i64 0)) = .lit (.int .i64 c) → (if Maps.has D (.int .i64 id) = true then c else id) = ρ id
theorem RenN.ren {w : World} {B n : Nat} {ρ : Int → Int} (h : RenN w B n ρ) : RenAt w B ρ := by
 obtain ⟨D, _, h1, h2⟩ := h
 exact ⟨n, D, h1, h2⟩
theorem RenN.made (w : World) : RenN (w.alloc (.map #[] 0)) w.heap.size 0 (fun id => id) := ⟨.map [], isMap_empty, World.ownsMap_made _ _ _ _, fun id c _ => rfl⟩
theorem RenN.keep {w w' : World} {B n : Nat} {ρ : Int → Int} (h : RenN w B n ρ) (k : w'.heap[B]? = w.heap[B]?) : RenN w' B n ρ := by
 obtain ⟨D, hm, ⟨es, clock, hb, F, hs, hD⟩, h2⟩ := h
 exact ⟨D, hm, ⟨es, clock, k.trans hb, F, hs, hD⟩, h2⟩
theorem RenN.lt {w : World} {B n : Nat} {ρ : Int → Int} (h : RenN w B n ρ) : B < w.heap.size := by
 obtain ⟨D, _, h1, _⟩ := h
 exact h1.lt
theorem RenN.put {ops : Array Oper} {rest : List Oper} {o : Oper} {a : Act} {Q : Exit → Act → World → Prop} {w : World} (hg : o.guard = none) (m x v : Operand) (hop : o.op = Op.mapUpdate 66 m x v)
  {B n : Nat} {ρ ρ' : Int → Int} (hm : a.eval m = .map (some B)) (h : RenN w B n ρ) (hn : n ≤ 100000) {id y : Int} (hx : a.eval x = .int .i64 id) (hv : a.eval v = .int .i64 y) (h0 : 0 ≤ id ∧ id ≤ 100000) (h1 : 0 ≤ y ∧ y ≤ 100000) (hρ : ∀ i, ρ' i = if i = id then y else ρ i)
  (hK : ∀ w', RenN w' B (n + 1) ρ' → w.grownBy w' (some B) → wpList Tryd.prog ops Q rest (a.put o.dst undef) w') : wpList Tryd.prog ops Q (o :: rest) a w := by
 obtain ⟨D, hD, hown, hat⟩ := h
 have hkey := keyOf_int_mk (P := Tryd.prog) (q := .i64) Tryd.underlying2 (a := id) (WalkArith.wf_i64 (by omega))
 refine wpList_mapUpdate_own w hg m x v 66 hop 2 2 lawR Tryd.underlying66 _ B n D hm hown (by unfold maxLen; omega) (.int .i64 id) (.int .i64 y) _ hx hv hkey _ [] (plainElem_int Tryd.underlying2 (WalkArith.wf_i64 (by omega))) ?_
 intro w' ho hgr
 refine hK w' ⟨_, hD.put _ _, ho, fun i c hc => ?_⟩ hgr
 rw [hρ]
 by_cases e : i = id
 ·subst e
  rw [atKey_put_same hD (show WideAt.IsKeyLit (Lit.int .i64 i) from trivial)] at hc
  rw [has_put_same hD (show WideAt.IsKeyLit (Lit.int .i64 i) from trivial), if_pos rfl, if_pos rfl]
  cases hc
  rfl
 ·have hne : Lit.int .i64 i ≠ Lit.int .i64 id := fun h => e (by cases h; rfl)
  rw [atKey_put_other hne] at hc
  rw [has_put_other hne, if_neg e]
  exact hat i c hc
theorem rho_nil : rhoT [] = fun id => id := by
 funext id
 unfold rhoT
 rw [if_neg (by simp)]
theorem rho_take (l : List Int) (k : Nat) (h : k < l.length) : ∀ i, rhoT (l.take (k + 1)) i = if i = (k : Int) then l.getD k 0 else rhoT (l.take k) i := fun i => by
 unfold rhoT
 have e1 : (l.take (k + 1)).length = k + 1 := by rw [List.length_take]; omega
 have e0 : (l.take k).length = k := by rw [List.length_take]; omega
 rw [e1, e0]
 by_cases e : i = (k : Int)
 ·subst e
  rw [if_pos (by omega), if_pos rfl]
  simp [List.getD, List.getElem?_take]
 ·rw [if_neg e]
  by_cases h2 : 0 ≤ i ∧ i < (k : Int)
  ·rw [if_pos (by omega), if_pos h2]
   have : i.toNat < k := by omega
   simp [List.getD, List.getElem?_take, this, show i.toNat < k + 1 by omega]
  ·rw [if_neg (by omega), if_neg h2]
theorem below_idn {l : List Int} {c : Nat} (h : (l.all fun n => belowB n c) = true) (hc : c ≤ 60) : Idn l := fun x hx => by
 have h1 := List.all_eq_true.1 h x hx
 unfold belowB at h1
 simp only [Bool.and_eq_true, decide_eq_true_eq] at h1
 omega
theorem cnt_le {l : List BlockD} {b : BlockD} (h : b ∈ l) : b.phis.length + b.insts.length ≤ cntL l := by
 induction l with
 | nil => cases h
 | cons x r ih =>
  rw [show cntL (x :: r) = x.phis.length + x.insts.length + cntL r from rfl]
  rcases List.mem_cons.1 h with rfl | h
  ·omega
  ·have := ih h; omega
theorem ok_form {d : FuncD} (h : funcB 3 d = true) : OkFn d := by
 unfold funcB at h
 simp only [Bool.and_eq_true, decide_eq_true_eq] at h
 obtain ⟨⟨⟨⟨⟨⟨h1, _⟩, _⟩, _⟩, h5⟩, h6⟩, h7⟩ := h
 refine ⟨by omega, by omega, fun b hb => ?_⟩
 have hb2 := List.all_eq_true.1 h7 b hb
 have hc := cnt_le hb
 have hcf : cntF d = d.params.length + cntL d.blocks := rfl
 unfold blockB at hb2
 simp only [Bool.and_eq_true] at hb2
 obtain ⟨⟨k1, k2⟩, k3⟩ := hb2
 refine ⟨by omega, by omega, fun p hp => ?_, fun i hi => ?_, fun x hx => ?_⟩
 ·have := List.all_eq_true.1 k1 p hp
  unfold phiB at this
  simp only [Bool.and_eq_true, decide_eq_true_eq] at this
  exact ⟨by omega, below_idn this.2 h6⟩
 ·have := List.all_eq_true.1 k2 i hi
  unfold instB at this
  simp only [Bool.and_eq_true] at this
  obtain ⟨⟨⟨_, _⟩, hf⟩, ho⟩ := this
  have ha : i.args.length ≤ 4 := by
   unfold fB at hf
   split at hf
   ·simp at hf; omega
   ·simp only [Bool.and_eq_true, decide_eq_true_eq] at hf
    omega
  refine ⟨by omega, ?_, below_idn ho h6⟩
  unfold opsD
  split
  ·simp
  ·split
   ·simp
   ·split
    ·simp
    ·split
     ·omega
     ·simp
 ·unfold namesT at hx
  split at hx
  ·rename_i hk
   rw [List.mem_singleton.1 hx]
   unfold termB at k3
   rcases hk with hk | hk
   ·rw [if_pos hk] at k3
    simp [belowB] at k3
    omega
   ·rw [if_neg (by omega), if_neg (by omega), if_pos hk] at k3
    simp [belowB] at k3
    omega
  ·cases hx
def SubTold (w : World) (p : FuncD × Bool) (e : Ending) (w' : World) : Prop := (∃ f : FnE, f.d = p.1 ∧ e = .returned (.tuple #[.agg #[.slice f.pu f.pars.length f.pc, .int .i64 f.ret, .slice f.bu f.bs.length f.bc], .bool p.2]) ∧ OwnFn w' w.heap.size w'.heap.size f) ∧ Below w.heap.size w w'
theorem own_func0 {w : World} {lo hi : Nat} (h : lo ≤ hi) : OwnFn w lo hi ⟨[], none, 0, 0, [], none, 0⟩ := ⟨lo, Nat.le_refl _, h, ⟨by simp, .inl rfl⟩, OwnL.none h⟩
set_option maxHeartbeats 8000000 in
set_option maxRecDepth 100000 in
theorem substI (lo : Nat) (d : FuncD) (u0 : Option Addr) (c0 : Nat) (u2 : Option Addr) (c2 : Nat) (tt : List Int) (ut : Option Addr) (ct : Nat) (w : World) (hs : SmFunc d) (m0 : IntsAt w lo u0 d.params) (m2 : BlocksAt w lo u2 d.blocks) (mt : IntsAt w lo ut tt) :
  Calls Tryd.prog 7 #[.agg #[.slice u0 d.params.length c0, .int .i64 d.ret, .slice u2 d.blocks.length c2], .slice ut tt.length ct] w fun e w' => SubTold w (substD d tt) e w' := by
 have b0 : Below w.heap.size w ((w.alloc (.cells #[.slice u0 d.params.length c0, .int .i64 d.ret, .slice u2 d.blocks.length c2] 27)).alloc (.cells #[.slice none 0 0, .int .i64 0, .slice none 0 0] 27)) := ((Below.refl _ _).alloc (Nat.le_refl _) _).alloc (by simp) _
 have A0 : At ((w.alloc (.cells #[.slice u0 d.params.length c0, .int .i64 d.ret, .slice u2 d.blocks.length c2] 27)).alloc (.cells #[.slice none 0 0, .int .i64 0, .slice none 0 0] 27)) w.heap.size #[.slice u0 d.params.length c0, .int .i64 d.ret, .slice u2 d.blocks.length c2] 27 := (Below.heap_alloc _ _ _ (by simp)).trans (heap_alloc_last _ _)
 have A1 : At ((w.alloc (.cells #[.slice u0 d.params.length c0, .int .i64 d.ret, .slice u2 d.blocks.length c2] 27)).alloc (.cells #[.slice none 0 0, .int .i64 0, .slice none 0 0] 27)) (w.heap.size + 1) #[.slice none 0 0, .int .i64 0, .slice none 0 0] 27 := heap_two2 _ _ _
 have H0 : Hid (Below w.heap.size w ((w.alloc (.cells #[.slice u0 d.params.length c0, .int .i64 d.ret, .slice u2 d.blocks.length c2] 27)).alloc (.cells #[.slice none 0 0, .int .i64 0, .slice none 0 0] 27))) := b0
 have HA : Hid (At ((w.alloc (.cells #[.slice u0 d.params.length c0, .int .i64 d.ret, .slice u2 d.blocks.length c2] 27)).alloc (.cells #[.slice none 0 0, .int .i64 0, .slice none 0 0] 27)) w.heap.size #[.slice u0 d.params.length c0, .int .i64 d.ret, .slice u2 d.blocks.length c2] 27) := A0
 have HZ : Hid (At ((w.alloc (.cells #[.slice u0 d.params.length c0, .int .i64 d.ret, .slice u2 d.blocks.length c2] 27)).alloc (.cells #[.slice none 0 0, .int .i64 0, .slice none 0 0] 27)) (w.heap.size + 1) #[.slice none 0 0, .int .i64 0, .slice none 0 0] 27) := A1
 have hz : (((w.alloc (.cells #[.slice u0 d.params.length c0, .int .i64 d.ret, .slice u2 d.blocks.length c2] 27)).alloc (.cells #[.slice none 0 0, .int .i64 0, .slice none 0 0] 27))).heap.size = w.heap.size + 2 := by simp
 have P := inFormI lo d u0 c0 u2 c2 ((w.alloc (.cells #[.slice u0 d.params.length c0, .int .i64 d.ret, .slice u2 d.blocks.length c2] 27)).alloc (.cells #[.slice none 0 0, .int .i64 0, .slice none 0 0] 27)) hs (m0.keep (agree_of_below b0 lo)) (m2.keep (agree_of_below b0 lo))
 have NO : ∀ W : World, Below w.heap.size w W → At W (w.heap.size + 1) #[.slice none 0 0, .int .i64 0, .slice none 0 0] 27 → ¬ subOk d tt → SubTold w (substD d tt) (.returned (.tuple #[.agg #[.slice none 0 0, .int .i64 0, .slice none 0 0], .bool false])) W := fun W hB _ hn => by
  rw [subst_no hn]
  exact ⟨⟨⟨[], none, 0, 0, [], none, 0⟩, rfl, rfl, own_func0 hB.size⟩, hB⟩
 have HNO : Hid (∀ W : World, Below w.heap.size w W → At W (w.heap.size + 1) #[.slice none 0 0, .int .i64 0, .slice none 0 0] 27 → ¬ subOk d tt → SubTold w (substD d tt) (.returned (.tuple #[.agg #[.slice none 0 0, .int .i64 0, .slice none 0 0], .bool false])) W) := NO
 clear NO
 have x0 : (((w.alloc (.cells #[.slice u0 d.params.length c0, .int .i64 d.ret, .slice u2 d.blocks.length c2] 27)).alloc (.cells #[.slice none 0 0, .int .i64 0, .slice none 0 0] 27))).cell? ⟨w.heap.size, 0, none⟩ = some (.slice u0 d.params.length c0) := A0.cell 0
 have x1 : (((w.alloc (.cells #[.slice u0 d.params.length c0, .int .i64 d.ret, .slice u2 d.blocks.length c2] 27)).alloc (.cells #[.slice none 0 0, .int .i64 0, .slice none 0 0] 27))).cell? ⟨w.heap.size, 1, none⟩ = some (.int .i64 d.ret) := A0.cell 1
 have x2 : (((w.alloc (.cells #[.slice u0 d.params.length c0, .int .i64 d.ret, .slice u2 d.blocks.length c2] 27)).alloc (.cells #[.slice none 0 0, .int .i64 0, .slice none 0 0] 27))).cell? ⟨w.heap.size, 2, none⟩ = some (.slice u2 d.blocks.length c2) := A0.cell 2
 clear b0 A0 A1
 go_enter Tryd.func7, Tryd.ntmps7
 go_upto_region 1 with fail
 generalize ((w.alloc (.cells #[.slice u0 d.params.length c0, .int .i64 d.ret, .slice u2 d.blocks.length c2] 27)).alloc (.cells #[.slice none 0 0, .int .i64 0, .slice none 0 0] 27)) = W1 at *
 go_wp2_with fail
 refine P.mono ?_
 rintro e w2 ⟨rfl, b2⟩
 clear P x0 x1 x2
 have HB2 : Hid (Below w.heap.size w w2) := H0.out.trans (b2.mono (by omega))
 have HA2 : Hid (At w2 w.heap.size #[.slice u0 d.params.length c0, .int .i64 d.ret, .slice u2 d.blocks.length c2] 27) := HA.out.below b2
 have HZ2 : Hid (At w2 (w.heap.size + 1) #[.slice none 0 0, .int .i64 0, .slice none 0 0] 27) := HZ.out.below b2
 clear b2 H0 HA HZ hz
 have c_0 : w2.cell? ⟨w.heap.size, 0, none⟩ = some (.slice u0 d.params.length c0) := HA2.out.cell 0
 have c_1 : w2.cell? ⟨w.heap.size, 1, none⟩ = some (.int .i64 d.ret) := HA2.out.cell 1
 have c_2 : w2.cell? ⟨w.heap.size, 2, none⟩ = some (.slice u2 d.blocks.length c2) := HA2.out.cell 2
 cases hF : funcB 3 d with
 | false =>
  have HN : Hid (¬ subOk d tt) := fun h => by rw [h.1] at hF; cases hF
  clear hF
  have r0 : w2.cell? ⟨w.heap.size + 1, 0, none⟩ = some (.slice none 0 0) := HZ2.out.cell 0
  have r1 : w2.cell? ⟨w.heap.size + 1, 1, none⟩ = some (.int .i64 0) := HZ2.out.cell 1
  have r2 : w2.cell? ⟨w.heap.size + 1, 2, none⟩ = some (.slice none 0 0) := HZ2.out.cell 2
  have rf : ∀ o, w2.frozen? ⟨w.heap.size + 1, o, none⟩ = false := fun o => froz_of_heap HZ2.out
  go_wp2_with fail
  have hr := heap_set (o := 2) (v := .slice none 0 0) (heap_set (o := 1) (v := .int .i64 0) (heap_set (o := 0) (v := .slice none 0 0) HZ2.out))
  refine bodyPost_ret (v := .tuple #[.agg #[.slice none 0 0, .int .i64 0, .slice none 0 0], .bool false]) ((results_cell_row_tmp Tryd.results7 _ _ (w.heap.size + 1) _ rfl (run_loadVar_row _ _ 27 _ _ (0, 0) _ hr Tryd.underlying27 rfl (by kernel_rfl))).trans (by rfl)) rfl ?_
  exact HNO.out _ (((HB2.out.setCell (by dsimp only; omega) _).setCell (by dsimp only; omega) _).setCell (by dsimp only; omega) _) hr HN.out
 | true =>
  have HOK : Hid (OkFn d) := ok_form hF
  have hc60 : cntF d ≤ 60 := by
   have h := hF
   unfold funcB at h
   simp only [Bool.and_eq_true, decide_eq_true_eq] at h
   exact h.1.2
  have HF : Hid (funcB 3 d = true) := hF
  have P2 := countI_any lo d u0 c0 u2 c2 w2 hs (m2.keep (agree_of_below HB2.out lo))
  clear hF
  go_wp2_with fail
  refine P2.mono ?_
  rintro e w3 ⟨rfl, b3⟩
  clear P2 c_0 c_1 c_2
  have HB3 : Hid (Below w.heap.size w w3) := HB2.out.trans (b3.mono HB2.out.size)
  have HA3 : Hid (At w3 w.heap.size #[.slice u0 d.params.length c0, .int .i64 d.ret, .slice u2 d.blocks.length c2] 27) := HA2.out.below b3
  have HZ3 : Hid (At w3 (w.heap.size + 1) #[.slice none 0 0, .int .i64 0, .slice none 0 0] 27) := HZ2.out.below b3
  clear b3 HB2 HA2 HZ2
  have c_0 : w3.cell? ⟨w.heap.size, 0, none⟩ = some (.slice u0 d.params.length c0) := HA3.out.cell 0
  have c_1 : w3.cell? ⟨w.heap.size, 1, none⟩ = some (.int .i64 d.ret) := HA3.out.cell 1
  have c_2 : w3.cell? ⟨w.heap.size, 2, none⟩ = some (.slice u2 d.blocks.length c2) := HA3.out.cell 2
  by_cases hL : tt.length = cntF d
  rotate_left
  ·have HN : Hid (¬ subOk d tt) := fun h => hL h.2.1
   have hLb : ((tt.length : Int) != (cntF d : Int)) = true := by simp; omega
   clear hL
   have r0 : w3.cell? ⟨w.heap.size + 1, 0, none⟩ = some (.slice none 0 0) := HZ3.out.cell 0
   have r1 : w3.cell? ⟨w.heap.size + 1, 1, none⟩ = some (.int .i64 0) := HZ3.out.cell 1
   have r2 : w3.cell? ⟨w.heap.size + 1, 2, none⟩ = some (.slice none 0 0) := HZ3.out.cell 2
   have rf : ∀ o, w3.frozen? ⟨w.heap.size + 1, o, none⟩ = false := fun o => froz_of_heap HZ3.out
   go_wp2_with fail
   have hr := heap_set (o := 2) (v := .slice none 0 0) (heap_set (o := 1) (v := .int .i64 0) (heap_set (o := 0) (v := .slice none 0 0) HZ3.out))
   refine bodyPost_ret (v := .tuple #[.agg #[.slice none 0 0, .int .i64 0, .slice none 0 0], .bool false]) ((results_cell_row_tmp Tryd.results7 _ _ (w.heap.size + 1) _ rfl (run_loadVar_row _ _ 27 _ _ (0, 0) _ hr Tryd.underlying27 rfl (by kernel_rfl))).trans (by rfl)) rfl ?_
   exact HNO.out _ (((HB3.out.setCell (by dsimp only; omega) _).setCell (by dsimp only; omega) _).setCell (by dsimp only; omega) _) hr HN.out
  have HL : Hid (tt.length = cntF d) := hL
  have hLb : ((tt.length : Int) != (cntF d : Int)) = false := by simp; omega
  have htl60 : tt.length ≤ 60 := by omega
  clear hL
  have P3 := countI_any lo d u0 c0 u2 c2 w3 hs (m2.keep (agree_of_below HB3.out lo))
  go_wp2_with fail
  refine P3.mono ?_
  rintro e w4 ⟨rfl, b4⟩
  clear P3 c_0 c_1 c_2 hLb
  have HB4 : Hid (Below w.heap.size w w4) := HB3.out.trans (b4.mono HB3.out.size)
  have HA4 : Hid (At w4 w.heap.size #[.slice u0 d.params.length c0, .int .i64 d.ret, .slice u2 d.blocks.length c2] 27) := HA3.out.below b4
  have HZ4 : Hid (At w4 (w.heap.size + 1) #[.slice none 0 0, .int .i64 0, .slice none 0 0] 27) := HZ3.out.below b4
  clear b4 HB3 HA3 HZ3
  have P4 := allBelowI lo ut ct tt (cntF d : Int) w4 (mt.keep (agree_of_below HB4.out lo))
  cases hA : (tt.all fun n => belowB n (cntF d : Int)) with
  | false =>
   have HN : Hid (¬ subOk d tt) := fun h => by rw [h.2.2] at hA; cases hA
   rw [hA] at P4
   clear hA
   have r0 : w4.cell? ⟨w.heap.size + 1, 0, none⟩ = some (.slice none 0 0) := HZ4.out.cell 0
   have r1 : w4.cell? ⟨w.heap.size + 1, 1, none⟩ = some (.int .i64 0) := HZ4.out.cell 1
   have r2 : w4.cell? ⟨w.heap.size + 1, 2, none⟩ = some (.slice none 0 0) := HZ4.out.cell 2
   have rf : ∀ o, w4.frozen? ⟨w.heap.size + 1, o, none⟩ = false := fun o => froz_of_heap HZ4.out
   go_wp2_with fail
   refine P4.mono ?_
   rintro e w5 ⟨rfl, h9⟩
   have h8 := h9.symm
   clear h9 P4
   subst h8
   go_wp2_with fail
   have hr := heap_set (o := 2) (v := .slice none 0 0) (heap_set (o := 1) (v := .int .i64 0) (heap_set (o := 0) (v := .slice none 0 0) HZ4.out))
   refine bodyPost_ret (v := .tuple #[.agg #[.slice none 0 0, .int .i64 0, .slice none 0 0], .bool false]) ((results_cell_row_tmp Tryd.results7 _ _ (w.heap.size + 1) _ rfl (run_loadVar_row _ _ 27 _ _ (0, 0) _ hr Tryd.underlying27 rfl (by kernel_rfl))).trans (by rfl)) rfl ?_
   exact HNO.out _ (((HB4.out.setCell (by dsimp only; omega) _).setCell (by dsimp only; omega) _).setCell (by dsimp only; omega) _) hr HN.out
  | true =>
   have HY : Hid (subOk d tt) := ⟨HF.out, HL.out, hA⟩
   have HID : Hid (Idn tt) := below_idn hA hc60
   rw [hA] at P4
   clear hA HF HL
   go_wp2_with fail
   refine P4.mono ?_
   rintro e w5 ⟨rfl, h9⟩
   have h8 := h9.symm
   clear h9 P4
   subst h8
   have hmm := @run_makeMap Tryd.prog
   go_upto_region 4 with fail
   clear hmm
   have b5 : Below w4.heap.size w4 (w4.alloc (.map #[] 0)) := (Below.refl _ _).alloc (Nat.le_refl _) _
   have HR5 : Hid (RenN (w4.alloc (.map #[] 0)) w4.heap.size 0 (rhoT (tt.take 0))) := by show RenN _ _ _ _; rw [List.take_zero, rho_nil]; exact RenN.made _
   have HB5 : Hid (Below w.heap.size w (w4.alloc (.map #[] 0))) := HB4.out.trans (b5.mono HB4.out.size)
   have HA5 : Hid (At (w4.alloc (.map #[] 0)) w.heap.size #[.slice u0 d.params.length c0, .int .i64 d.ret, .slice u2 d.blocks.length c2] 27) := HA4.out.below b5
   have HZ5 : Hid (At (w4.alloc (.map #[] 0)) (w.heap.size + 1) #[.slice none 0 0, .int .i64 0, .slice none 0 0] 27) := HZ4.out.below b5
   have hB : w.heap.size + 1 < w4.heap.size := HZ4.out.lt
   clear b5 HB4 HA4 HZ4
   generalize (w4.alloc (.map #[] 0)) = W5 at *
   generalize w4.heap.size = B at *
   clear w4
   go_wp2_with fail
   go_loopw [7, 8, 30] (fun _ _ i wr => ∃ k : Nat, k ≤ tt.length ∧ i = .int .i64 k ∧ Hid (RenN wr B k (rhoT (tt.take k))) ∧ Hid (At wr w.heap.size #[.slice u0 d.params.length c0, .int .i64 d.ret, .slice u2 d.blocks.length c2] 27) ∧ Hid (At wr (w.heap.size + 1) #[.slice none 0 0, .int .i64 0, .slice none 0 0] 27) ∧ Hid (Below w.heap.size w wr)) (fun _ _ i _ => tt.length - (intOf i).toNat)
   case atStart => exact ⟨0, by omega, rfl, HR5.out, HA5.out, HZ5.out, HB5.out⟩
   case round =>
    clear HR5 HA5 HZ5 HB5
    obtain ⟨k, hk, rfl, HR, HA, HZ, HB⟩ := hrel
    obtain ⟨wo, hwo⟩ : ∃ w1, w1 = wr := ⟨_, rfl⟩
    subst hwo
    by_cases hlt : k < tt.length
    ·obtain ⟨ga, off, rfl, e1⟩ : ∃ ga off, ut = some ⟨ga, off, none⟩ ∧ wo.cell? ⟨ga, off + k, none⟩ = some (.int .i64 (tt.getD k 0)) := by
      rcases (mt.keep (agree_of_below HB.out lo)).2 with h | ⟨ga, off, ha, _, _, hc⟩
      ·rw [h] at hlt; simp at hlt
      ·exact ⟨ga, off, ha, hc k hlt⟩
     have hm := HID.out _ (getD_mem 0 tt k hlt)
     have HT : Hid (∀ i, rhoT (tt.take (k + 1)) i = if i = (k : Int) then tt.getD k 0 else rhoT (tt.take k) i) := rho_take tt k hlt
     generalize tt.getD k 0 = y at *
     have hk60 : k ≤ 60 := by omega
     have hkI : 0 ≤ (k : Int) ∧ (k : Int) ≤ 100000 := by omega
     go_wp2_with (at_mapUpdate; refine RenN.put rfl _ _ _ rfl rfl HR.out (by omega) rfl rfl hkI hm HT.out ?_; intro w7 hR7 hg7)
     have HR7 : Hid (RenN w7 B (k + 1) (rhoT (tt.take (k + 1)))) := hR7
     have HA7 : Hid (At w7 w.heap.size #[.slice u0 d.params.length c0, .int .i64 d.ret, .slice u2 d.blocks.length c2] 27) := (hg7.block _ HA.out.lt (by intro e; have := Option.some.inj e; omega)).trans HA.out
     have HZ7 : Hid (At w7 (w.heap.size + 1) #[.slice none 0 0, .int .i64 0, .slice none 0 0] 27) := (hg7.block _ HZ.out.lt (by intro e; have := Option.some.inj e; omega)).trans HZ.out
     have HB7 : Hid (Below w.heap.size w w7) := HB.out.grown hg7 HB.out.size (fun q hq => by cases hq; omega)
     clear hR7 hg7 hm HT e1
     go_roundw
     case rel => exact ⟨k + 1, by omega, by go_num, HR7.out, HA7.out, HZ7.out, HB7.out⟩
     case measure => simp [intOf]; omega
    ·have hke : k = tt.length := by omega
     have HRr : Hid (RenAt wo B (rhoT tt)) := by
      have := HR.out.ren
      rw [hke, List.take_length] at this
      exact this
     have PF := ofFuncI B lo (rhoT tt) d u0 c0 u2 c2 wo HRr.out (m0.keep (agree_of_below HB.out lo)) (m2.keep (agree_of_below HB.out lo)) HOK.out
     have c_0 : wo.cell? ⟨w.heap.size, 0, none⟩ = some (.slice u0 d.params.length c0) := HA.out.cell 0
     have c_1 : wo.cell? ⟨w.heap.size, 1, none⟩ = some (.int .i64 d.ret) := HA.out.cell 1
     have c_2 : wo.cell? ⟨w.heap.size, 2, none⟩ = some (.slice u2 d.blocks.length c2) := HA.out.cell 2
     clear HR
     go_wp2_with fail
     refine PF.mono ?_
     rintro e w7 ⟨f, hfd, rfl, hown, b7⟩
     clear PF c_0 c_1 c_2
     have HB7 : Hid (Below w.heap.size w w7) := HB.out.trans (b7.mono HB.out.size)
     have HZ7 : Hid (At w7 (w.heap.size + 1) #[.slice none 0 0, .int .i64 0, .slice none 0 0] 27) := HZ.out.below b7
     have HOW : Hid (OwnFn w7 wo.heap.size w7.heap.size f) := hown
     have HFD : Hid (f.d = sbFunc (rhoT tt) d) := hfd
     have hzo := HB.out.size
     clear b7 HB HZ HA hown hfd
     have r0 : w7.cell? ⟨w.heap.size + 1, 0, none⟩ = some (.slice none 0 0) := HZ7.out.cell 0
     have r1 : w7.cell? ⟨w.heap.size + 1, 1, none⟩ = some (.int .i64 0) := HZ7.out.cell 1
     have r2 : w7.cell? ⟨w.heap.size + 1, 2, none⟩ = some (.slice none 0 0) := HZ7.out.cell 2
     have rf : ∀ o, w7.frozen? ⟨w.heap.size + 1, o, none⟩ = false := fun o => froz_of_heap HZ7.out
     go_wp2_with fail
     have hr := heap_set (o := 2) (v := .slice f.bu f.bs.length f.bc) (heap_set (o := 1) (v := .int .i64 f.ret) (heap_set (o := 0) (v := .slice f.pu f.pars.length f.pc) HZ7.out))
     have BB : Below w.heap.size w (((w7.setCell ⟨w.heap.size + 1, 0, none⟩ (.slice f.pu f.pars.length f.pc)).setCell ⟨w.heap.size + 1, 1, none⟩ (.int .i64 f.ret)).setCell ⟨w.heap.size + 1, 2, none⟩ (.slice f.bu f.bs.length f.bc)) := ((HB7.out.setCell (by dsimp only; omega) _).setCell (by dsimp only; omega) _).setCell (by dsimp only; omega) _
     have hzr : w7.heap.size ≤ ((((w7.setCell ⟨w.heap.size + 1, 0, none⟩ (.slice f.pu f.pars.length f.pc)).setCell ⟨w.heap.size + 1, 1, none⟩ (.int .i64 f.ret)).setCell ⟨w.heap.size + 1, 2, none⟩ (.slice f.bu f.bs.length f.bc))).heap.size := by simp only [World.size_setCell]; exact Nat.le_refl _
     have SS : Still 4 w7 (((w7.setCell ⟨w.heap.size + 1, 0, none⟩ (.slice f.pu f.pars.length f.pc)).setCell ⟨w.heap.size + 1, 1, none⟩ (.int .i64 f.ret)).setCell ⟨w.heap.size + 1, 2, none⟩ (.slice f.bu f.bs.length f.bc)) := (Still.set (k := 4) (o := 0) (v := .slice f.pu f.pars.length f.pc) HZ7.out (by decide)).trans ((Still.set (k := 4) (o := 1) (v := .int .i64 f.ret) (heap_set (o := 0) (v := .slice f.pu f.pars.length f.pc) HZ7.out) (by decide)).trans (Still.set (k := 4) (o := 2) (v := .slice f.bu f.bs.length f.bc) (heap_set (o := 1) (v := .int .i64 f.ret) (heap_set (o := 0) (v := .slice f.pu f.pars.length f.pc) HZ7.out)) (by decide)))
     generalize (((w7.setCell ⟨w.heap.size + 1, 0, none⟩ (.slice f.pu f.pars.length f.pc)).setCell ⟨w.heap.size + 1, 1, none⟩ (.int .i64 f.ret)).setCell ⟨w.heap.size + 1, 2, none⟩ (.slice f.bu f.bs.length f.bc)) = W9 at *
     have UU : OwnFn W9 w.heap.size W9.heap.size f := by
      obtain ⟨m, k1, k2, k3, k4⟩ := OwnFn.still HOW.out SS (by decide)
      exact ⟨m, by omega, by omega, k3.wide hzo (Nat.le_refl _), k4.wide (Nat.le_refl _) hzr⟩
     refine bodyPost_ret (v := .tuple #[.agg #[.slice f.pu f.pars.length f.pc, .int .i64 f.ret, .slice f.bu f.bs.length f.bc], .bool true]) ((results_cell_row_tmp Tryd.results7 _ _ (w.heap.size + 1) _ rfl (run_loadVar_row _ _ 27 _ _ (0, 0) _ hr Tryd.underlying27 rfl (by kernel_rfl))).trans (by rfl)) rfl ?_
     rw [subst_yes HY.out]
     exact ⟨⟨f, HFD.out, rfl, UU⟩, BB⟩
end Go.Proofs.YtenbodghkpbghaaDoor
namespace Go.Proofs.YtenbodghkpbghaaDoor
open Go.RowKit
set_option linter.unusedVariables false
set_option linter.unusedSimpArgs false
theorem cntL_sb (ρ : Int → Int) (l : List BlockD) : cntL (l.map (sbBlock ρ)) = cntL l := by
 induction l with
 | nil => rfl
 | cons x r ih =>
  rw [List.map_cons, show cntL (sbBlock ρ x :: r.map (sbBlock ρ)) = (sbBlock ρ x).phis.length + (sbBlock ρ x).insts.length + cntL (r.map (sbBlock ρ)) from rfl, show cntL (x :: r) = x.phis.length + x.insts.length + cntL r from rfl, ih]
  simp [sbBlock]
theorem cnt_sb (ρ : Int → Int) (d : FuncD) : cntF (sbFunc ρ d) = cntF d := by
 unfold cntF sbFunc
 rw [cntL_sb]
theorem ops_sb (ρ : Int → Int) (i : InstD) : opsD (sbInst ρ i) = (opsD i).map ρ := by
 unfold sbInst
 rcases ops_back i ρ with h | h
 ·rw [h]
  unfold mkD
  rw [if_pos rfl]
  unfold opsD
  simp [opB, h]
 ·exact h.2
theorem mk_self {i : InstD} (h : fB i = true) : mkD i.op i.w i.imm (opsD i) = i := by
 obtain ⟨op, iw, a, b, c, imm, args⟩ := i
 by_cases ho : op = 26
 ·subst ho
  unfold fB at h
  rw [if_pos rfl] at h
  simp only [Bool.and_eq_true, decide_eq_true_eq, beq_iff_eq] at h
  obtain ⟨⟨⟨_, ha⟩, hb⟩, hc⟩ := h
  subst ha hb hc
  rfl
 ·unfold fB at h
  rw [if_neg ho] at h
  simp only [Bool.and_eq_true, decide_eq_true_eq, Bool.or_eq_true, beq_iff_eq] at h
  obtain ⟨⟨⟨h0, h1⟩, h2⟩, h3⟩ := h
  have hn : args = [] := List.length_eq_zero_iff.1 h0
  subst hn
  unfold mkD
  rw [if_neg ho]
  unfold opsD at h1 h2 h3 ⊢
  dsimp only at h1 h2 h3 ⊢
  split at h1
  ·rename_i k
   rw [if_pos k] at h2 h3 ⊢
   simp at h3
   subst h3
   rfl
  ·rename_i k
   rw [if_neg k] at h2 h3 ⊢
   split at h1
   ·rename_i k
    rw [if_pos k] at h2 h3 ⊢
    simp at h2 h3
    subst h2 h3
    rfl
   ·rename_i k
    rw [if_neg k] at h2 h3 ⊢
    split at h1
    ·rename_i k
     rw [if_pos k]
     rfl
    ·rename_i k
     rw [if_neg k] at h2 h3 ⊢
     rw [if_neg ho] at h2 h3 ⊢
     simp at h1 h2 h3
     subst h1 h2 h3
     rfl
theorem sbInst_self {i : InstD} {ids funcs : Int} (h : instB i ids funcs = true) (ρ : Int → Int) (hρ : ∀ x, belowB x ids = true → ρ x = x) : sbInst ρ i = i := by
 unfold instB at h
 simp only [Bool.and_eq_true] at h
 obtain ⟨⟨_, hf⟩, ho⟩ := h
 unfold sbInst
 rw [List.map_congr_left (g := id) fun x hx => hρ x (List.all_eq_true.1 ho x hx), List.map_id]
 exact mk_self hf
theorem sbBlock_self {d : BlockD} {ids bs funcs : Int} (h : blockB ids bs funcs d = true) (ρ : Int → Int) (hρ : ∀ x, belowB x ids = true → ρ x = x) : sbBlock ρ d = d := by
 unfold blockB at h
 simp only [Bool.and_eq_true] at h
 obtain ⟨⟨k1, k2⟩, k3⟩ := h
 obtain ⟨ph, is, tm⟩ := d
 unfold sbBlock
 have e1 : ph.map (sbPhi ρ) = ph := by
  rw [List.map_congr_left (g := id) fun p hp => ?_, List.map_id]
  have := List.all_eq_true.1 k1 p hp
  unfold phiB at this
  simp only [Bool.and_eq_true] at this
  show PhiD.mk p.w (p.ins.map ρ) = p
  rw [List.map_congr_left (g := id) fun x hx => hρ x (List.all_eq_true.1 this.2 x hx), List.map_id]
 have e2 : is.map (sbInst ρ) = is := by
  rw [List.map_congr_left (g := id) fun p hp => sbInst_self (List.all_eq_true.1 k2 p hp) ρ hρ, List.map_id]
 have e3 : sbTerm ρ tm = tm := by
  unfold sbTerm
  split
  ·rename_i hk
   obtain ⟨tk, ta, tx, ty⟩ := tm
   have : belowB ta ids = true := by
    unfold termB at k3
    dsimp only at k3 hk
    rcases hk with hk | hk
    ·rw [if_pos hk] at k3
     simp only [Bool.and_eq_true] at k3
     exact k3.1.1
    ·rw [if_neg (by omega), if_neg (by omega), if_pos hk] at k3
     simp only [Bool.and_eq_true] at k3
     exact k3.1.1.1
   show TermD.mk tk (ρ ta) tx ty = _
   rw [hρ _ this]
  ·rfl
 dsimp only
 rw [e1, e2, e3]
theorem sbFunc_self {d : FuncD} {funcs : Int} (h : funcB funcs d = true) (ρ : Int → Int) (hρ : ∀ x, belowB x (cntF d) = true → ρ x = x) : sbFunc ρ d = d := by
 unfold funcB at h
 simp only [Bool.and_eq_true] at h
 have hb := List.all_eq_true.1 h.2
 obtain ⟨ps, rt, bs⟩ := d
 unfold sbFunc
 rw [List.map_congr_left (g := id) fun b hm => sbBlock_self (hb b hm) ρ hρ, List.map_id]
def selfL (n : Nat) : List Int := (List.range n).map Int.ofNat
theorem selfL_len (n : Nat) : (selfL n).length = n := by simp [selfL]
theorem selfL_succ (n : Nat) : selfL (n + 1) = selfL n ++ [(n : Int)] := by unfold selfL; rw [List.range_succ, List.map_append]; rfl
theorem rho_self (n : Nat) (x : Int) : rhoT (selfL n) x = x := by
 unfold rhoT
 split
 ·rename_i h
  rw [selfL_len] at h
  have : x.toNat < n := by omega
  simp [selfL, List.getD, this]
  omega
 ·rfl
theorem self_all (n : Nat) : ((selfL n).all fun x => belowB x n) = true := by
 rw [List.all_eq_true]
 intro x hx
 unfold selfL at hx
 obtain ⟨k, hk, rfl⟩ := List.mem_map.1 hx
 have := List.mem_range.1 hk
 unfold belowB
 simp only [Bool.and_eq_true, decide_eq_true_eq]
 exact ⟨Int.natCast_nonneg k, by show (k : Int) < n; omega⟩
theorem self_ok {d : FuncD} (h : funcB 3 d = true) : subOk d (selfL (cntF d)) := ⟨h, selfL_len _, self_all _⟩
theorem self_subst {d : FuncD} (h : funcB 3 d = true) : substD d (selfL (cntF d)) = (d, true) := by
 rw [subst_yes (self_ok h), sbFunc_self h _ fun x _ => rho_self _ x]
theorem placeL_in : ∀ (l : List BlockD) (b : Nat) (x : Nat), x < cntL l → ∃ j y : Nat, placeL l b x = (((b + j : Nat) : Int), (y : Int)) ∧ j < l.length ∧ y < cntB (l.getD j block0)
 | [], b, x, h => absurd h (Nat.not_lt_zero _)
 | d :: r, b, x, h => by
  rw [placeL]
  by_cases hx : x < cntB d
  ·rw [if_pos (by omega)]
   exact ⟨0, x, rfl, by simp, hx⟩
  ·rw [if_neg (by omega), show (x : Int) - cntB d = ((x - cntB d : Nat) : Int) by omega]
   obtain ⟨j, y, h1, h2, h3⟩ := placeL_in r (b + 1) (x - cntB d) (by have : cntL (d :: r) = cntB d + cntL r := rfl; omega)
   refine ⟨j + 1, y, ?_, by simp; omega, ?_⟩
   ·rw [h1]; congr 2; omega
   ·simpa using h3
theorem placeF_in {d : FuncD} {k : Nat} (h1 : d.params.length ≤ k) (h2 : k < cntF d) : ∃ j y : Nat, placeF d k = ((j : Int), (y : Int)) ∧ j < d.blocks.length ∧ y < cntB (d.blocks.getD j block0) := by
 unfold placeF
 rw [if_neg (by omega), if_neg (by omega), show (k : Int) - d.params.length = ((k - d.params.length : Nat) : Int) by omega]
 obtain ⟨j, y, h1, h2, h3⟩ := placeL_in d.blocks 0 (k - d.params.length) (by unfold cntF at h2; omega)
 exact ⟨j, y, by rw [h1, Nat.zero_add], h2, h3⟩
theorem sb_block (ρ : Int → Int) (d : FuncD) {b : Nat} (hb : b < d.blocks.length) : (sbFunc ρ d).blocks.getD b block0 = sbBlock ρ (d.blocks.getD b block0) := by simp [sbFunc, List.getD, hb]
theorem sb_inst (ρ : Int → Int) (d : BlockD) {j : Nat} (hj : j < d.insts.length) : (sbBlock ρ d).insts.getD j inst0 = sbInst ρ (d.insts.getD j inst0) := by simp [sbBlock, List.getD, hj]
theorem sub_ops {d : FuncD} {l : List Int} (h : subOk d l) {b j : Nat} (hb : b < d.blocks.length) (hj : j < (d.blocks.getD b block0).insts.length) :
  ∀ k, k < (opsD ((d.blocks.getD b block0).insts.getD j inst0)).length → ∃ m : Nat, (opsD ((d.blocks.getD b block0).insts.getD j inst0)).getD k 0 = (m : Int) ∧ m < l.length ∧ (opsD (((sbFunc (rhoT l) d).blocks.getD b block0).insts.getD j inst0)).getD k 0 = l.getD m 0 := fun k hk => by
 rw [sb_block _ _ hb, sb_inst _ _ hj, ops_sb]
 have h7 := h.1
 unfold funcB at h7
 simp only [Bool.and_eq_true] at h7
 have hB := List.all_eq_true.1 h7.2 _ (getD_mem block0 d.blocks b hb)
 unfold blockB at hB
 simp only [Bool.and_eq_true] at hB
 have hI := List.all_eq_true.1 hB.1.2 _ (getD_mem inst0 _ j hj)
 unfold instB at hI
 simp only [Bool.and_eq_true] at hI
 have hx := List.all_eq_true.1 hI.2 _ (getD_mem 0 _ k hk)
 unfold belowB at hx
 simp only [Bool.and_eq_true, decide_eq_true_eq] at hx
 have hl := h.2.1
 generalize opsD ((d.blocks.getD b block0).insts.getD j inst0) = L at *
 refine ⟨(L.getD k 0).toNat, by omega, by omega, ?_⟩
 have e : (L.map (rhoT l)).getD k 0 = rhoT l (L.getD k 0) := by simp [List.getD, hk]
 rw [e]
 unfold rhoT
 rw [if_pos (by omega)]
theorem sub_len {d : FuncD} {l : List Int} {b j : Nat} (hb : b < d.blocks.length) (hj : j < (d.blocks.getD b block0).insts.length) :
  (opsD (((sbFunc (rhoT l) d).blocks.getD b block0).insts.getD j inst0)).length = (opsD ((d.blocks.getD b block0).insts.getD j inst0)).length := by
 rw [sb_block _ _ hb, sb_inst _ _ hj, ops_sb, List.length_map]
theorem sm_sb {d : FuncD} (h : OkFn d) (ρ : Int → Int) : SmFunc (sbFunc ρ d) := by
 have h1 := h.pr
 have h2 := h.bl
 refine ⟨by show d.params.length ≤ _; omega, by show (d.blocks.map _).length ≤ _; rw [List.length_map]; omega, fun b hb => ?_⟩
 obtain ⟨x, hx, rfl⟩ := List.mem_map.1 hb
 have k := h.bk x hx
 have k1 := k.pl
 have k2 := k.il
 refine ⟨⟨by show (x.phis.map _).length ≤ _; rw [List.length_map]; omega, fun p hp => ?_⟩, ⟨by show (x.insts.map _).length ≤ _; rw [List.length_map]; omega, fun p hp => ?_⟩⟩
 ·obtain ⟨y, hy, rfl⟩ := List.mem_map.1 hp
  have := (k.ph y hy).1
  show (y.ins.map _).length ≤ _
  rw [List.length_map]; omega
 ·obtain ⟨y, hy, rfl⟩ := List.mem_map.1 hp
  have := (k.is y hy).2.1
  unfold SmInst sbInst
  by_cases e : y.op = 26
  ·rw [mk_args.1 e, List.length_map]; omega
  ·rw [mk_args.2 e]; simp
end Go.Proofs.YtenbodghkpbghaaDoor
namespace Go.Proofs.YtenbodghkpbghaaDoor
open Go.RowKit
set_option linter.unusedVariables false
def mkw (w : World) : List Addr → Int → World
 | [], _ => w
 | a :: A, k => mkw (w.setCell a (.int .i64 k)) A (k + 1)
theorem mkw_out : ∀ (A : List Addr) (k : Int) (w : World) (b : Addr), b ∉ A → (mkw w A k).cell? b = w.cell? b
 | [], _, _, _, _ => rfl
 | a :: A, k, w, b, h => by
  simp only [List.mem_cons, not_or] at h
  rw [mkw, mkw_out A _ _ b h.2]
  exact World.cell?_setCell_other w a b _ (fun e => h.1 e.symm)
def rowA (g o n s : Nat) : List Addr := (List.range n).map fun i => ⟨g, o + i * s, none⟩
theorem apart_of_blocks {A B : List Addr} (h : ∀ a ∈ A, ∀ b ∈ B, a.block ≠ b.block) (hA : A.Nodup) (hB : B.Nodup) : (A ++ B).Nodup := by
 rw [List.nodup_append]
 exact ⟨hA, hB, fun a ha b hb e => h a ha b hb (by rw [e])⟩
theorem mkw_froz : ∀ (A : List Addr) (k : Int) (w : World) (b : Addr), (mkw w A k).frozen? b = w.frozen? b
 | [], _, _, _ => rfl
 | a :: A, k, w, b => by rw [mkw, mkw_froz A]; exact World.frozen?_setCell ..
theorem rowA_len (g o n s : Nat) : (rowA g o n s).length = n := by simp [rowA]
end Go.Proofs.YtenbodghkpbghaaDoor
namespace Go.Proofs.YtenbodghkpbghaaDoor
open Go.RowKit
def OI (w : World) (lo : Nat) (a : Option Addr) (l : List Int) : Prop :=
 l.length ≤ 9223372036854775807 ∧ (l = [] ∨ ∃ g cur, a = some ⟨g, 0, none⟩ ∧ lo ≤ g ∧ w.heap[g]? = some (.cells cur 2 (0, 0)) ∧ ∀ i, i < l.length → cur[i]? = some (.int .i64 (l.getD i 0)))
theorem OI.keep {w w' : World} {lo : Nat} {a : Option Addr} {l : List Int} (h : OI w lo a l) (k : Agree lo w w') : OI w' lo a l := by
 obtain ⟨hm, h⟩ := h
 refine ⟨hm, ?_⟩
 rcases h with h | ⟨g, cur, ha, hl, hb, hc⟩
 ·exact .inl h
 ·exact .inr ⟨g, cur, ha, hl, (k.2 g hl (Array.getElem?_eq_some_iff.1 hb).1).trans hb, hc⟩
theorem OI.low {w : World} {lo lo' : Nat} {a : Option Addr} {l : List Int} (h : OI w lo a l) (k : lo' ≤ lo) : OI w lo' a l := by
 obtain ⟨hm, h⟩ := h
 refine ⟨hm, ?_⟩
 rcases h with h | ⟨g, cur, ha, hl, hb, hc⟩
 ·exact .inl h
 ·exact .inr ⟨g, cur, ha, Nat.le_trans k hl, hb, hc⟩
theorem OI.at {w : World} {lo : Nat} {a : Option Addr} {l : List Int} (h : OI w lo a l) : IntsAt w lo a l := by
 obtain ⟨hm, h⟩ := h
 refine ⟨hm, ?_⟩
 rcases h with h | ⟨g, cur, ha, hl, hb, hc⟩
 ·exact .inl h
 ·exact .inr ⟨g, 0, ha, hl, (Array.getElem?_eq_some_iff.1 hb).1, fun i hi => (cell_of_heap hb).trans (by simpa using hc i hi)⟩
def OP (w : World) (lo : Nat) (a : Option Addr) (l : List PhiD) : Prop :=
 l.length ≤ 9223372036854775807 ∧ (l = [] ∨ ∃ g cur, a = some ⟨g, 0, none⟩ ∧ lo ≤ g ∧ w.heap[g]? = some (.cells cur 89 (0, 0)) ∧ ∀ i, i < l.length → cur[i * 2]? = some (.int .i64 (l.getD i phi0).w) ∧ (∃ u c, cur[i * 2 + 1]? = some (.slice u (l.getD i phi0).ins.length c) ∧ OI w lo u (l.getD i phi0).ins))
theorem OP.keep {w w' : World} {lo : Nat} {a : Option Addr} {l : List PhiD} (h : OP w lo a l) (k : Agree lo w w') : OP w' lo a l := by
 obtain ⟨hm, h⟩ := h
 refine ⟨hm, ?_⟩
 rcases h with h | ⟨g, cur, ha, hl, hb, hc⟩
 ·exact .inl h
 ·refine .inr ⟨g, cur, ha, hl, (k.2 g hl (Array.getElem?_eq_some_iff.1 hb).1).trans hb, fun i hi => ?_⟩
  obtain ⟨h0, ⟨u1, c1, h1, k1⟩⟩ := hc i hi
  exact ⟨h0, ⟨u1, c1, h1, k1.keep k⟩⟩
theorem OP.low {w : World} {lo lo' : Nat} {a : Option Addr} {l : List PhiD} (h : OP w lo a l) (k : lo' ≤ lo) : OP w lo' a l := by
 obtain ⟨hm, h⟩ := h
 refine ⟨hm, ?_⟩
 rcases h with h | ⟨g, cur, ha, hl, hb, hc⟩
 ·exact .inl h
 ·refine .inr ⟨g, cur, ha, Nat.le_trans k hl, hb, fun i hi => ?_⟩
  obtain ⟨h0, ⟨u1, c1, h1, k1⟩⟩ := hc i hi
  exact ⟨h0, ⟨u1, c1, h1, k1.low k⟩⟩
theorem OP.at {w : World} {lo : Nat} {a : Option Addr} {l : List PhiD} (h : OP w lo a l) : PhisAt w lo a l := by
 obtain ⟨hm, h⟩ := h
 refine ⟨hm, ?_⟩
 rcases h with h | ⟨g, cur, ha, hl, hb, hc⟩
 ·exact .inl h
 ·refine .inr ⟨g, 0, ha, hl, (Array.getElem?_eq_some_iff.1 hb).1, fun i hi => ?_⟩
  obtain ⟨h0, ⟨u1, c1, h1, k1⟩⟩ := hc i hi
  exact ⟨(cell_of_heap hb).trans (by simpa using h0), ⟨u1, c1, (cell_of_heap hb).trans (by simpa using h1), k1.at⟩⟩
def ON (w : World) (lo : Nat) (a : Option Addr) (l : List InstD) : Prop :=
 l.length ≤ 9223372036854775807 ∧ (l = [] ∨ ∃ g cur, a = some ⟨g, 0, none⟩ ∧ lo ≤ g ∧ w.heap[g]? = some (.cells cur 44 (0, 0)) ∧ ∀ i, i < l.length → cur[i * 7]? = some (.int .i64 (l.getD i inst0).op) ∧ cur[i * 7 + 1]? = some (.int .i64 (l.getD i inst0).w) ∧ cur[i * 7 + 2]? = some (.int .i64 (l.getD i inst0).a) ∧ cur[i * 7 + 3]? = some (.int .i64 (l.getD i inst0).b) ∧ cur[i * 7 + 4]? = some (.int .i64 (l.getD i inst0).c) ∧ cur[i * 7 + 5]? = some (.int .i64 (l.getD i inst0).imm) ∧ (∃ u c, cur[i * 7 + 6]? = some (.slice u (l.getD i inst0).args.length c) ∧ OI w lo u (l.getD i inst0).args))
theorem ON.keep {w w' : World} {lo : Nat} {a : Option Addr} {l : List InstD} (h : ON w lo a l) (k : Agree lo w w') : ON w' lo a l := by
 obtain ⟨hm, h⟩ := h
 refine ⟨hm, ?_⟩
 rcases h with h | ⟨g, cur, ha, hl, hb, hc⟩
 ·exact .inl h
 ·refine .inr ⟨g, cur, ha, hl, (k.2 g hl (Array.getElem?_eq_some_iff.1 hb).1).trans hb, fun i hi => ?_⟩
  obtain ⟨h0, h1, h2, h3, h4, h5, ⟨u6, c6, h6, k6⟩⟩ := hc i hi
  exact ⟨h0, h1, h2, h3, h4, h5, ⟨u6, c6, h6, k6.keep k⟩⟩
theorem ON.low {w : World} {lo lo' : Nat} {a : Option Addr} {l : List InstD} (h : ON w lo a l) (k : lo' ≤ lo) : ON w lo' a l := by
 obtain ⟨hm, h⟩ := h
 refine ⟨hm, ?_⟩
 rcases h with h | ⟨g, cur, ha, hl, hb, hc⟩
 ·exact .inl h
 ·refine .inr ⟨g, cur, ha, Nat.le_trans k hl, hb, fun i hi => ?_⟩
  obtain ⟨h0, h1, h2, h3, h4, h5, ⟨u6, c6, h6, k6⟩⟩ := hc i hi
  exact ⟨h0, h1, h2, h3, h4, h5, ⟨u6, c6, h6, k6.low k⟩⟩
theorem ON.at {w : World} {lo : Nat} {a : Option Addr} {l : List InstD} (h : ON w lo a l) : InstsAt w lo a l := by
 obtain ⟨hm, h⟩ := h
 refine ⟨hm, ?_⟩
 rcases h with h | ⟨g, cur, ha, hl, hb, hc⟩
 ·exact .inl h
 ·refine .inr ⟨g, 0, ha, hl, (Array.getElem?_eq_some_iff.1 hb).1, fun i hi => ?_⟩
  obtain ⟨h0, h1, h2, h3, h4, h5, ⟨u6, c6, h6, k6⟩⟩ := hc i hi
  exact ⟨(cell_of_heap hb).trans (by simpa using h0), (cell_of_heap hb).trans (by simpa using h1), (cell_of_heap hb).trans (by simpa using h2), (cell_of_heap hb).trans (by simpa using h3), (cell_of_heap hb).trans (by simpa using h4), (cell_of_heap hb).trans (by simpa using h5), ⟨u6, c6, (cell_of_heap hb).trans (by simpa using h6), k6.at⟩⟩
def OB (w : World) (lo : Nat) (a : Option Addr) (l : List BlockD) : Prop :=
 l.length ≤ 9223372036854775807 ∧ (l = [] ∨ ∃ g cur, a = some ⟨g, 0, none⟩ ∧ lo ≤ g ∧ w.heap[g]? = some (.cells cur 41 (0, 0)) ∧ ∀ i, i < l.length → (∃ u c, cur[i * 6]? = some (.slice u (l.getD i block0).phis.length c) ∧ OP w lo u (l.getD i block0).phis) ∧ (∃ u c, cur[i * 6 + 1]? = some (.slice u (l.getD i block0).insts.length c) ∧ ON w lo u (l.getD i block0).insts) ∧ cur[i * 6 + 2]? = some (.int .i64 (l.getD i block0).term.kind) ∧ cur[i * 6 + 3]? = some (.int .i64 (l.getD i block0).term.a) ∧ cur[i * 6 + 4]? = some (.int .i64 (l.getD i block0).term.x) ∧ cur[i * 6 + 5]? = some (.int .i64 (l.getD i block0).term.y))
theorem OB.keep {w w' : World} {lo : Nat} {a : Option Addr} {l : List BlockD} (h : OB w lo a l) (k : Agree lo w w') : OB w' lo a l := by
 obtain ⟨hm, h⟩ := h
 refine ⟨hm, ?_⟩
 rcases h with h | ⟨g, cur, ha, hl, hb, hc⟩
 ·exact .inl h
 ·refine .inr ⟨g, cur, ha, hl, (k.2 g hl (Array.getElem?_eq_some_iff.1 hb).1).trans hb, fun i hi => ?_⟩
  obtain ⟨⟨u0, c0, h0, k0⟩, ⟨u1, c1, h1, k1⟩, h2, h3, h4, h5⟩ := hc i hi
  exact ⟨⟨u0, c0, h0, k0.keep k⟩, ⟨u1, c1, h1, k1.keep k⟩, h2, h3, h4, h5⟩
theorem OB.low {w : World} {lo lo' : Nat} {a : Option Addr} {l : List BlockD} (h : OB w lo a l) (k : lo' ≤ lo) : OB w lo' a l := by
 obtain ⟨hm, h⟩ := h
 refine ⟨hm, ?_⟩
 rcases h with h | ⟨g, cur, ha, hl, hb, hc⟩
 ·exact .inl h
 ·refine .inr ⟨g, cur, ha, Nat.le_trans k hl, hb, fun i hi => ?_⟩
  obtain ⟨⟨u0, c0, h0, k0⟩, ⟨u1, c1, h1, k1⟩, h2, h3, h4, h5⟩ := hc i hi
  exact ⟨⟨u0, c0, h0, k0.low k⟩, ⟨u1, c1, h1, k1.low k⟩, h2, h3, h4, h5⟩
theorem OB.at {w : World} {lo : Nat} {a : Option Addr} {l : List BlockD} (h : OB w lo a l) : BlocksAt w lo a l := by
 obtain ⟨hm, h⟩ := h
 refine ⟨hm, ?_⟩
 rcases h with h | ⟨g, cur, ha, hl, hb, hc⟩
 ·exact .inl h
 ·refine .inr ⟨g, 0, ha, hl, (Array.getElem?_eq_some_iff.1 hb).1, fun i hi => ?_⟩
  obtain ⟨⟨u0, c0, h0, k0⟩, ⟨u1, c1, h1, k1⟩, h2, h3, h4, h5⟩ := hc i hi
  exact ⟨⟨u0, c0, (cell_of_heap hb).trans (by simpa using h0), k0.at⟩, ⟨u1, c1, (cell_of_heap hb).trans (by simpa using h1), k1.at⟩, (cell_of_heap hb).trans (by simpa using h2), (cell_of_heap hb).trans (by simpa using h3), (cell_of_heap hb).trans (by simpa using h4), (cell_of_heap hb).trans (by simpa using h5)⟩
end Go.Proofs.YtenbodghkpbghaaDoor
namespace Go.Proofs.YtenbodghkpbghaaDoor
open Go.RowKit
def isIv : Value → Bool | .int .i64 _ => true | _ => false
theorem isI_yes {v : Value} (h : isIv v = true) : ∃ z, v = .int .i64 z := by
 unfold isIv at h
 split at h
 ·exact ⟨_, rfl⟩
 ·cases h
def Cur (cur cur' : Array Value) : Prop := ∀ (j : Nat) (v : Value), cur[j]? = some v → ∃ v', cur'[j]? = some v' ∧ (isIv v = true → isIv v' = true) ∧ (isIv v = false → v' = v)
theorem Cur.int {cur cur' : Array Value} (h : Cur cur cur') {j : Nat} {z : Int} (hj : cur[j]? = some (.int .i64 z)) : ∃ z : Int, cur'[j]? = some (.int .i64 z) := by
 obtain ⟨v', h1, h2, _⟩ := h j _ hj
 obtain ⟨y, rfl⟩ := isI_yes (h2 rfl)
 exact ⟨y, h1⟩
theorem Cur.slice {cur cur' : Array Value} (h : Cur cur cur') {j : Nat} {u : Option Addr} {n c : Nat} (hj : cur[j]? = some (.slice u n c)) : cur'[j]? = some (.slice u n c) := by
 obtain ⟨v', h1, _, h3⟩ := h j _ hj
 rw [h1, h3 rfl]
theorem Cur.refl (cur : Array Value) : Cur cur cur := fun _ v h => ⟨v, h, fun h => h, fun _ => rfl⟩
theorem Cur.trans {a b c : Array Value} (h : Cur a b) (k : Cur b c) : Cur a c := fun j v hv => by
 obtain ⟨v1, h1, h2, h3⟩ := h j v hv
 obtain ⟨v2, k1, k2, k3⟩ := k j v1 h1
 refine ⟨v2, k1, fun e => k2 (h2 e), fun e => ?_⟩
 have e1 := h3 e
 subst e1
 exact k3 e
theorem Cur.set {cur : Array Value} {o : Nat} {z : Int} (h : cur[o]? = some (.int .i64 z)) (y : Int) : Cur cur (cur.setIfInBounds o (.int .i64 y)) := fun j v hv => by
 by_cases e : o = j
 ·subst e
  rw [h] at hv
  cases hv
  have hlt := (Array.getElem?_eq_some_iff.1 h).1
  exact ⟨.int .i64 y, by simp [hlt], fun _ => rfl, fun e => by cases e⟩
 ·exact ⟨v, by rw [Array.getElem?_setIfInBounds_ne e]; exact hv, fun h => h, fun _ => rfl⟩
structure Hdr (lo hi : Nat) (w w' : World) : Prop where
 os : w'.os = w.os
 tape : w'.tape = w.tape
 output : w'.output = w.output
 size : w.heap.size ≤ w'.heap.size
 out : ∀ g : Nat, g < lo ∨ hi ≤ g → g < w.heap.size → w'.heap[g]? = w.heap[g]?
 cells : ∀ (g : Nat) (cur : Array Value) (T : TypeId), w.heap[g]? = some (.cells cur T (0, 0)) → ∃ cur', w'.heap[g]? = some (.cells cur' T (0, 0)) ∧ Cur cur cur'
theorem Hdr.refl (lo hi : Nat) (w : World) : Hdr lo hi w w := ⟨rfl, rfl, rfl, Nat.le_refl _, fun _ _ _ => rfl, fun _ cur _ h => ⟨cur, h, Cur.refl _⟩⟩
theorem Hdr.trans {lo hi : Nat} {a b c : World} (h : Hdr lo hi a b) (k : Hdr lo hi b c) : Hdr lo hi a c :=
 ⟨k.os.trans h.os, k.tape.trans h.tape, k.output.trans h.output, Nat.le_trans h.size k.size, fun g hg hl => (k.out g hg (Nat.lt_of_lt_of_le hl h.size)).trans (h.out g hg hl), fun g cur T hc => by
  obtain ⟨c1, h1, h2⟩ := h.cells g cur T hc
  obtain ⟨c2, k1, k2⟩ := k.cells g c1 T h1
  exact ⟨c2, k1, h2.trans k2⟩⟩
theorem Hdr.alloc (lo hi : Nat) (w : World) (o : Obj) : Hdr lo hi w (w.alloc o) :=
 ⟨rfl, rfl, rfl, by simp, fun g _ hl => Below.heap_alloc w o g hl, fun g cur T hc => ⟨cur, (Below.heap_alloc w o g (Array.getElem?_eq_some_iff.1 hc).1).trans hc, Cur.refl _⟩⟩
theorem Hdr.store {lo hi : Nat} {w w1 : World} (h : Hdr lo hi w w1) {g o : Nat} {cur : Array Value} {T : TypeId} {z : Int} (hc : w.heap[g]? = some (.cells cur T (0, 0))) (ho : cur[o]? = some (.int .i64 z)) (hl : lo ≤ g) (hh : g < hi) (y : Int) :
  Hdr lo hi w (w1.setCell ⟨g, o, none⟩ (.int .i64 y)) := by
 refine h.trans ⟨rfl, rfl, rfl, by simp [World.setCell], fun k hk _ => Below.heap_setCell _ _ _ _ (by show k ≠ g; omega), fun k c1 T1 h1 => ?_⟩
 by_cases e : k = g
 ·subst e
  obtain ⟨c2, h2, h3⟩ := h.cells k cur T hc
  rw [h2] at h1
  cases h1
  obtain ⟨z1, hz1⟩ := h3.int ho
  exact ⟨_, heap_set h2, Cur.set hz1 y⟩
 ·exact ⟨c1, (Below.heap_setCell _ _ _ _ (by show k ≠ g; omega)).trans h1, Cur.refl _⟩
theorem Hdr.cell {lo hi : Nat} {w w1 : World} (h : Hdr lo hi w w1) {g o : Nat} {cur : Array Value} {T : TypeId} {z : Int} (hc : w.heap[g]? = some (.cells cur T (0, 0))) (ho : cur[o]? = some (.int .i64 z)) :
  (∃ y : Int, w1.cell? ⟨g, o, none⟩ = some (.int .i64 y)) ∧ w1.frozen? ⟨g, o, none⟩ = false := by
 obtain ⟨c2, h2, h3⟩ := h.cells g cur T hc
 obtain ⟨z1, hz1⟩ := h3.int ho
 exact ⟨⟨z1, (cell_of_heap h2).trans hz1⟩, froz_of_heap h2⟩
theorem Hdr.head {lo hi : Nat} {w w1 : World} (h : Hdr lo hi w w1) {g o : Nat} {cur : Array Value} {T : TypeId} {u : Option Addr} {n c : Nat} (hc : w.heap[g]? = some (.cells cur T (0, 0))) (ho : cur[o]? = some (.slice u n c)) :
  w1.cell? ⟨g, o, none⟩ = some (.slice u n c) := by
 obtain ⟨c2, h2, h3⟩ := h.cells g cur T hc
 exact (cell_of_heap h2).trans (h3.slice ho)
def SI (w : World) (lo hi : Nat) (a : Option Addr) (n : Nat) : Prop :=
 n = 0 ∨ ∃ g cur, a = some ⟨g, 0, none⟩ ∧ lo ≤ g ∧ g < hi ∧ w.heap[g]? = some (.cells cur 2 (0, 0)) ∧ ∀ i, i < n → ∃ z : Int, cur[i]? = some (.int .i64 z)
theorem SI.keep {w w' : World} {lo hi : Nat} {a : Option Addr} {n : Nat} (h : SI w lo hi a n) (k : Hdr lo hi w w') : SI w' lo hi a n := by
 rcases h with h | ⟨g, cur, ha, hl, hh, hb, hc⟩
 ·exact .inl h
 ·obtain ⟨cur', hb', hi⟩ := k.cells g cur _ hb
  exact .inr ⟨g, cur', ha, hl, hh, hb', fun i hi' => by obtain ⟨z, hz⟩ := hc i hi'; exact hi.int hz⟩
def SP (w : World) (lo hi : Nat) (a : Option Addr) (l : List PhiD) : Prop :=
 l = [] ∨ ∃ g cur, a = some ⟨g, 0, none⟩ ∧ lo ≤ g ∧ g < hi ∧ w.heap[g]? = some (.cells cur 89 (0, 0)) ∧ ∀ i, i < l.length → (∃ z : Int, cur[i * 2]? = some (.int .i64 z)) ∧ (∃ u c, cur[i * 2 + 1]? = some (.slice u (l.getD i phi0).ins.length c) ∧ SI w lo hi u (l.getD i phi0).ins.length)
theorem SP.keep {w w' : World} {lo hi : Nat} {a : Option Addr} {l : List PhiD} (h : SP w lo hi a l) (k : Hdr lo hi w w') : SP w' lo hi a l := by
 rcases h with h | ⟨g, cur, ha, hl, hh, hb, hc⟩
 ·exact .inl h
 ·obtain ⟨cur', hb', hi⟩ := k.cells g cur _ hb
  refine .inr ⟨g, cur', ha, hl, hh, hb', fun i hi' => ?_⟩
  obtain ⟨⟨z0, h0⟩, ⟨u1, c1, h1, k1⟩⟩ := hc i hi'
  exact ⟨hi.int h0, ⟨u1, c1, hi.slice h1, k1.keep k⟩⟩
def SN (w : World) (lo hi : Nat) (a : Option Addr) (l : List InstD) : Prop :=
 l = [] ∨ ∃ g cur, a = some ⟨g, 0, none⟩ ∧ lo ≤ g ∧ g < hi ∧ w.heap[g]? = some (.cells cur 44 (0, 0)) ∧ ∀ i, i < l.length → (∃ z : Int, cur[i * 7]? = some (.int .i64 z)) ∧ (∃ z : Int, cur[i * 7 + 1]? = some (.int .i64 z)) ∧ (∃ z : Int, cur[i * 7 + 2]? = some (.int .i64 z)) ∧ (∃ z : Int, cur[i * 7 + 3]? = some (.int .i64 z)) ∧ (∃ z : Int, cur[i * 7 + 4]? = some (.int .i64 z)) ∧ (∃ z : Int, cur[i * 7 + 5]? = some (.int .i64 z)) ∧ (∃ u c, cur[i * 7 + 6]? = some (.slice u (l.getD i inst0).args.length c) ∧ SI w lo hi u (l.getD i inst0).args.length)
theorem SN.keep {w w' : World} {lo hi : Nat} {a : Option Addr} {l : List InstD} (h : SN w lo hi a l) (k : Hdr lo hi w w') : SN w' lo hi a l := by
 rcases h with h | ⟨g, cur, ha, hl, hh, hb, hc⟩
 ·exact .inl h
 ·obtain ⟨cur', hb', hi⟩ := k.cells g cur _ hb
  refine .inr ⟨g, cur', ha, hl, hh, hb', fun i hi' => ?_⟩
  obtain ⟨⟨z0, h0⟩, ⟨z1, h1⟩, ⟨z2, h2⟩, ⟨z3, h3⟩, ⟨z4, h4⟩, ⟨z5, h5⟩, ⟨u6, c6, h6, k6⟩⟩ := hc i hi'
  exact ⟨hi.int h0, hi.int h1, hi.int h2, hi.int h3, hi.int h4, hi.int h5, ⟨u6, c6, hi.slice h6, k6.keep k⟩⟩
def SB (w : World) (lo hi : Nat) (a : Option Addr) (l : List BlockD) : Prop :=
 l = [] ∨ ∃ g cur, a = some ⟨g, 0, none⟩ ∧ lo ≤ g ∧ g < hi ∧ w.heap[g]? = some (.cells cur 41 (0, 0)) ∧ ∀ i, i < l.length → (∃ u c, cur[i * 6]? = some (.slice u (l.getD i block0).phis.length c) ∧ SP w lo hi u (l.getD i block0).phis) ∧ (∃ u c, cur[i * 6 + 1]? = some (.slice u (l.getD i block0).insts.length c) ∧ SN w lo hi u (l.getD i block0).insts) ∧ (∃ z : Int, cur[i * 6 + 2]? = some (.int .i64 z)) ∧ (∃ z : Int, cur[i * 6 + 3]? = some (.int .i64 z)) ∧ (∃ z : Int, cur[i * 6 + 4]? = some (.int .i64 z)) ∧ (∃ z : Int, cur[i * 6 + 5]? = some (.int .i64 z))
theorem SB.keep {w w' : World} {lo hi : Nat} {a : Option Addr} {l : List BlockD} (h : SB w lo hi a l) (k : Hdr lo hi w w') : SB w' lo hi a l := by
 rcases h with h | ⟨g, cur, ha, hl, hh, hb, hc⟩
 ·exact .inl h
 ·obtain ⟨cur', hb', hi⟩ := k.cells g cur _ hb
  refine .inr ⟨g, cur', ha, hl, hh, hb', fun i hi' => ?_⟩
  obtain ⟨⟨u0, c0, h0, k0⟩, ⟨u1, c1, h1, k1⟩, ⟨z2, h2⟩, ⟨z3, h3⟩, ⟨z4, h4⟩, ⟨z5, h5⟩⟩ := hc i hi'
  exact ⟨⟨u0, c0, hi.slice h0, k0.keep k⟩, ⟨u1, c1, hi.slice h1, k1.keep k⟩, hi.int h2, hi.int h3, hi.int h4, hi.int h5⟩
end Go.Proofs.YtenbodghkpbghaaDoor
namespace Go.Proofs.YtenbodghkpbghaaDoor
open Go.RowKit
structure Only (g : Nat) (w w' : World) : Prop where
 os : w'.os = w.os
 tape : w'.tape = w.tape
 output : w'.output = w.output
 size : w'.heap.size = w.heap.size
 other : ∀ k : Nat, k ≠ g → w'.heap[k]? = w.heap[k]?
theorem Only.refl (g : Nat) (w : World) : Only g w w := ⟨rfl, rfl, rfl, rfl, fun _ _ => rfl⟩
theorem Only.set {g : Nat} {w w1 : World} (h : Only g w w1) (o : Nat) (v : Value) : Only g w (w1.setCell ⟨g, o, none⟩ v) :=
 ⟨h.os, h.tape, h.output, by simp [World.setCell]; exact h.size, fun k hk => (Below.heap_setCell _ _ _ _ hk).trans (h.other k hk)⟩
def marks (k : Int) (n : Nat) : List Int := (List.range n).map fun i : Nat => k + (i : Int)
end Go.Proofs.YtenbodghkpbghaaDoor
namespace Go.Proofs.YtenbodghkpbghaaDoor
open Go.RowKit
end Go.Proofs.YtenbodghkpbghaaDoor
namespace Go.Proofs.YtenbodghkpbghaaDoor
open Go.RowKit
end Go.Proofs.YtenbodghkpbghaaDoor
namespace Go.Proofs.YtenbodghkpbghaaDoor
open Go.RowKit
set_option linter.unusedVariables false
end Go.Proofs.YtenbodghkpbghaaDoor
namespace Go.Proofs.YtenbodghkpbghaaDoor
open Go.RowKit
set_option linter.unusedVariables false
def rowH (a : Option Addr) (n : Nat) : List Addr := match a with
 | some p => rowA p.block p.off n 1
 | none => []
end Go.Proofs.YtenbodghkpbghaaDoor
namespace Go.Proofs.YtenbodghkpbghaaDoor
open Go.RowKit
set_option linter.unusedVariables false
set_option linter.unusedSimpArgs false
theorem mkw_int : ∀ (A : List Addr) (k : Int) (w : World) (a : Addr), (∃ z : Int, w.cell? a = some (.int .i64 z)) → ∃ z : Int, (mkw w A k).cell? a = some (.int .i64 z)
 | [], k, w, a, h => h
 | b :: A, k, w, a, h => by
  refine mkw_int A (k + 1) _ a ?_
  obtain ⟨z, hz⟩ := h
  by_cases e : a = b
  ·subst e
   exact ⟨k, by rw [World.cell?_setCell_same _ _ _ hz]⟩
  ·exact ⟨z, by rw [World.cell?_setCell_other _ _ _ _ (fun h => e h.symm)]; exact hz⟩
def IntR (w : World) (u : Option Addr) (n : Nat) : Prop := n ≤ 1048576 ∧ (n = 0 ∨ ∃ g o, u = some ⟨g, o, none⟩ ∧ ∀ i, i < n → (∃ z : Int, w.cell? ⟨g, o + i, none⟩ = some (.int .i64 z)) ∧ w.frozen? ⟨g, o + i, none⟩ = false)
theorem IntR.mk {w : World} {u : Option Addr} {n : Nat} (h : IntR w u n) (A : List Addr) (k : Int) : IntR (mkw w A k) u n := by
 refine ⟨h.1, ?_⟩
 rcases h.2 with h | ⟨g, o, e, h⟩
 ·exact .inl h
 ·exact .inr ⟨g, o, e, fun i hi => ⟨mkw_int A k w _ (h i hi).1, by rw [mkw_froz]; exact (h i hi).2⟩⟩
theorem rowH_zero (u : Option Addr) : rowH u 0 = [] := by
 cases u with
 | none => rfl
 | some p => simp [rowH, rowA]
theorem IntR.len {w : World} {u : Option Addr} {n : Nat} (h : IntR w u n) : (rowH u n).length = n := by
 rcases h.2 with h | ⟨g, o, rfl, h⟩
 ·subst h; rw [rowH_zero]; rfl
 ·simp [rowH, rowA_len]
def OwnR (w : World) (g o s : Nat) (F : List Nat) (n : Nat) : Prop := ∀ i, i < n → ∀ f ∈ F, (∃ z : Int, w.cell? ⟨g, o + i * s + f, none⟩ = some (.int .i64 z)) ∧ w.frozen? ⟨g, o + i * s + f, none⟩ = false
theorem OwnR.mk {w : World} {g o s n : Nat} {F : List Nat} (h : OwnR w g o s F n) (A : List Addr) (k : Int) : OwnR (mkw w A k) g o s F n :=
 fun i hi f hf => ⟨mkw_int A k w _ (h i hi f hf).1, by rw [mkw_froz]; exact (h i hi f hf).2⟩
def HdrR (K : List Addr) (w : World) (g o s f : Nat) (hs : List (Option Addr × Nat)) : Prop := ∀ i, i < hs.length → (∃ c, w.cell? ⟨g, o + i * s + f, none⟩ = some (.slice (hs.getD i (none, 0)).1 (hs.getD i (none, 0)).2 c)) ∧ (⟨g, o + i * s + f, none⟩ : Addr) ∉ K ∧ IntR w (hs.getD i (none, 0)).1 (hs.getD i (none, 0)).2
theorem HdrR.mk {K : List Addr} {w : World} {g o s f : Nat} {hs : List (Option Addr × Nat)} (h : HdrR K w g o s f hs) {A : List Addr} (hA : ∀ a ∈ A, a ∈ K) (k : Int) : HdrR K (mkw w A k) g o s f hs := fun i hi => by
 obtain ⟨⟨c, h1⟩, h2, h3⟩ := h i hi
 exact ⟨⟨c, by rw [mkw_out _ _ _ _ (fun e => h2 (hA _ e))]; exact h1⟩, h2, h3.mk A k⟩
end Go.Proofs.YtenbodghkpbghaaDoor
namespace Go.Proofs.YtenbodghkpbghaaDoor
open Go.RowKit
set_option linter.unusedVariables false
set_option linter.unusedSimpArgs false
end Go.Proofs.YtenbodghkpbghaaDoor
namespace Go.Proofs.YtenbodghkpbghaaDoor
open Go.RowKit
set_option linter.unusedVariables false
set_option linter.unusedSimpArgs false
def StrR (K : List Addr) (w : World) (s f : Nat) (F : List Nat) (u : Option Addr) (hs : List (Option Addr × Nat)) : Prop := hs.length ≤ 1048576 ∧ (hs = [] ∨ ∃ g o, u = some ⟨g, o, none⟩ ∧ OwnR w g o s F hs.length ∧ HdrR K w g o s f hs)
theorem StrR.mk {K : List Addr} {w : World} {s f : Nat} {F : List Nat} {u : Option Addr} {hs : List (Option Addr × Nat)} (h : StrR K w s f F u hs) {A : List Addr} (hA : ∀ a ∈ A, a ∈ K) (k : Int) : StrR K (mkw w A k) s f F u hs := by
 refine ⟨h.1, ?_⟩
 rcases h.2 with h | ⟨g, o, e, h1, h2⟩
 ·exact .inl h
 ·exact .inr ⟨g, o, e, h1.mk A k, h2.mk hA k⟩
end Go.Proofs.YtenbodghkpbghaaDoor
namespace Go.Proofs.YtenbodghkpbghaaDoor
open Go.RowKit
set_option linter.unusedVariables false
set_option linter.unusedSimpArgs false
abbrev BlkH := (Option Addr × List (Option Addr × Nat)) × (Option Addr × List (Option Addr × Nat))
def blk0 : BlkH := ((none, []), (none, []))
def BlkR (K : List Addr) (w : World) (g o : Nat) (bs : List BlkH) : Prop := ∀ i, i < bs.length → (∃ c, w.cell? ⟨g, o + i * 6, none⟩ = some (.slice (bs.getD i blk0).1.1 (bs.getD i blk0).1.2.length c)) ∧ (⟨g, o + i * 6, none⟩ : Addr) ∉ K ∧ (∃ c, w.cell? ⟨g, o + i * 6 + 1, none⟩ = some (.slice (bs.getD i blk0).2.1 (bs.getD i blk0).2.2.length c)) ∧ (⟨g, o + i * 6 + 1, none⟩ : Addr) ∉ K ∧ StrR K w 2 1 [0] (bs.getD i blk0).1.1 (bs.getD i blk0).1.2 ∧ StrR K w 7 6 [0, 1, 2, 3, 4, 5] (bs.getD i blk0).2.1 (bs.getD i blk0).2.2
theorem BlkR.mk {K : List Addr} {w : World} {g o : Nat} {bs : List BlkH} (h : BlkR K w g o bs) {A : List Addr} (hA : ∀ a ∈ A, a ∈ K) (k : Int) : BlkR K (mkw w A k) g o bs := fun i hi => by
 obtain ⟨⟨c, h1⟩, h2, ⟨d, h3⟩, h4, h5, h6⟩ := h i hi
 exact ⟨⟨c, by rw [mkw_out _ _ _ _ (fun e => h2 (hA _ e))]; exact h1⟩, h2, ⟨d, by rw [mkw_out _ _ _ _ (fun e => h4 (hA _ e))]; exact h3⟩, h4, h5.mk hA k, h6.mk hA k⟩
end Go.Proofs.YtenbodghkpbghaaDoor
