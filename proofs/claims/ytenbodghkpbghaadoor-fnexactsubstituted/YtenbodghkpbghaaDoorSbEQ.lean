import Derived.Test.YtenbodghkpbghaaDoorSbDQ
import Derived.Test.YtenbodghkpbghaaDoorFmHQ
import Derived.Laws.World
namespace Go.Proofs.YtenbodghkpbghaaDoor
open Go.RowKit Go.Maps
set_option linter.unusedVariables false
set_option linter.unusedSimpArgs false
def rhoT (l : List Int) : Int → Int := fun id => if 0 ≤ id ∧ id < l.length then l.getD id.toNat 0 else id
def subOk (d : FuncD) (tt : List Int) : Prop := funcB 3 d = true ∧ tt.length = cntF d ∧ (tt.all fun n => belowB n (cntF d)) = true
open Classical in
noncomputable def substD (d : FuncD) (tt : List Int) : FuncD × Bool := if subOk d tt then (sbFunc (rhoT tt) d, true) else (func0, false)
theorem subst_yes {d : FuncD} {tt : List Int} (h : subOk d tt) : substD d tt = (sbFunc (rhoT tt) d, true) := by unfold substD; rw [if_pos h]
theorem subst_no {d : FuncD} {tt : List Int} (h : ¬ subOk d tt) : substD d tt = (func0, false) := by unfold substD; rw [if_neg h]
def RenN (w : World) (B n : Nat) (ρ : Int → Int) : Prop := ∃ D : DataW Unit, IsMap D ∧ w.ownsMap Tryd.prog 2 (plainElem Tryd.prog 2) B n D ∧ ∀ id c : Int, D.atKey (.int .i64 id) (.lit (.int .i64 0)) = .lit (.int .i64 c) → (if Maps.has D (.int .i64 id) = true then c else id) = ρ id
theorem RenN.ren {w : World} {B n : Nat} {ρ : Int → Int} (h : RenN w B n ρ) : RenAt w B ρ := by
 obtain ⟨D, _, h1, h2⟩ := h
 exact ⟨n, D, h1, h2⟩
theorem RenN.made (w : World) : RenN (w.alloc (.map #[] 0)) w.heap.size 0 (fun id => id) := ⟨.map [], isMap_empty, World.ownsMap_made _ _ _ _, fun id c _ => rfl⟩
theorem RenN.keep {w w' : World} {B n : Nat} {ρ : Int → Int} (h : RenN w B n ρ) (k : w'.heap[B]? = w.heap[B]?) : RenN w' B n ρ := by
 obtain ⟨D, hm, ⟨es, clock, hb, F, hs, hD⟩, h2⟩ := h
 exact ⟨D, hm, ⟨es, clock, k.trans hb, F, hs, hD⟩, h2⟩
theorem RenN.lt {w : World} {B n : Nat} {ρ : Int → Int} (h : RenN w B n ρ) : B < w.heap.size := by
 obtain ⟨D, _, h1, _⟩ := h
 exact h1.lt
theorem RenN.put {ops : Array Oper} {rest : List Oper} {o : Oper} {a : Act} {Q : Exit → Act → World → Prop} {w : World} (hg : o.guard = none) (m x v : Operand) (hop : o.op = Op.mapUpdate 66 m x v)
  {B n : Nat} {ρ ρ' : Int → Int} (hm : a.eval m = .map (some B)) (h : RenN w B n ρ) (hn : n ≤ 100000) {id y : Int} (hx : a.eval x = .int .i64 id) (hv : a.eval v = .int .i64 y) (h0 : 0 ≤ id ∧ id ≤ 100000) (h1 : 0 ≤ y ∧ y ≤ 100000) (hρ : ∀ i, ρ' i = if i = id then y else ρ i)
  (hK : ∀ w', RenN w' B (n + 1) ρ' → w.grownBy w' (some B) → wpList Tryd.prog ops Q rest (a.put o.dst undef) w') : wpList Tryd.prog ops Q (o :: rest) a w := by
 obtain ⟨D, hD, hown, hat⟩ := h
 have hkey := keyOf_int_mk (P := Tryd.prog) (q := .i64) Tryd.underlying2 (a := id) (WalkArith.wf_i64 (by omega))
 refine wpList_mapUpdate_own w hg m x v 66 hop 2 2 lawR Tryd.underlying66 _ B n D hm hown (by unfold maxLen; omega) (.int .i64 id) (.int .i64 y) _ hx hv hkey _ [] (plainElem_int Tryd.underlying2 (WalkArith.wf_i64 (by omega))) ?_
 intro w' ho hgr
 refine hK w' ⟨_, hD.put _ _, ho, fun i c hc => ?_⟩ hgr
 rw [hρ]
 by_cases e : i = id
 ·subst e
  rw [atKey_put_same hD (show WideAt.IsKeyLit (Lit.int .i64 i) from trivial)] at hc
  rw [has_put_same hD (show WideAt.IsKeyLit (Lit.int .i64 i) from trivial), if_pos rfl, if_pos rfl]
  cases hc
  rfl
 ·have hne : Lit.int .i64 i ≠ Lit.int .i64 id := fun h => e (by cases h; rfl)
  rw [atKey_put_other hne] at hc
  rw [has_put_other hne, if_neg e]
  exact hat i c hc
theorem rho_nil : rhoT [] = fun id => id := by
 funext id
 unfold rhoT
 rw [if_neg (by simp)]
theorem rho_take (l : List Int) (k : Nat) (h : k < l.length) : ∀ i, rhoT (l.take (k + 1)) i = if i = (k : Int) then l.getD k 0 else rhoT (l.take k) i := fun i => by
 unfold rhoT
 have e1 : (l.take (k + 1)).length = k + 1 := by rw [List.length_take]; omega
 have e0 : (l.take k).length = k := by rw [List.length_take]; omega
 rw [e1, e0]
 by_cases e : i = (k : Int)
 ·subst e
  rw [if_pos (by omega), if_pos rfl]
  simp [List.getD, List.getElem?_take]
 ·rw [if_neg e]
  by_cases h2 : 0 ≤ i ∧ i < (k : Int)
  ·rw [if_pos (by omega), if_pos h2]
   have : i.toNat < k := by omega
   simp [List.getD, List.getElem?_take, this, show i.toNat < k + 1 by omega]
  ·rw [if_neg (by omega), if_neg h2]
theorem below_idn {l : List Int} {c : Nat} (h : (l.all fun n => belowB n c) = true) (hc : c ≤ 60) : Idn l := fun x hx => by
 have h1 := List.all_eq_true.1 h x hx
 unfold belowB at h1
 simp only [Bool.and_eq_true, decide_eq_true_eq] at h1
 omega
theorem cnt_le {l : List BlockD} {b : BlockD} (h : b ∈ l) : b.phis.length + b.insts.length ≤ cntL l := by
 induction l with
 | nil => cases h
 | cons x r ih =>
  rw [show cntL (x :: r) = x.phis.length + x.insts.length + cntL r from rfl]
  rcases List.mem_cons.1 h with rfl | h
  ·omega
  ·have := ih h; omega
theorem ok_form {d : FuncD} (h : funcB 3 d = true) : OkFn d := by
 unfold funcB at h
 simp only [Bool.and_eq_true, decide_eq_true_eq] at h
 obtain ⟨⟨⟨⟨⟨⟨h1, _⟩, _⟩, _⟩, h5⟩, h6⟩, h7⟩ := h
 refine ⟨by omega, by omega, fun b hb => ?_⟩
 have hb2 := List.all_eq_true.1 h7 b hb
 have hc := cnt_le hb
 have hcf : cntF d = d.params.length + cntL d.blocks := rfl
 unfold blockB at hb2
 simp only [Bool.and_eq_true] at hb2
 obtain ⟨⟨k1, k2⟩, k3⟩ := hb2
 refine ⟨by omega, by omega, fun p hp => ?_, fun i hi => ?_, fun x hx => ?_⟩
 ·have := List.all_eq_true.1 k1 p hp
  unfold phiB at this
  simp only [Bool.and_eq_true, decide_eq_true_eq] at this
  exact ⟨by omega, below_idn this.2 h6⟩
 ·have := List.all_eq_true.1 k2 i hi
  unfold instB at this
  simp only [Bool.and_eq_true] at this
  obtain ⟨⟨⟨_, _⟩, hf⟩, ho⟩ := this
  have ha : i.args.length ≤ 4 := by
   unfold fB at hf
   split at hf
   ·simp at hf; omega
   ·simp only [Bool.and_eq_true, decide_eq_true_eq] at hf
    omega
  refine ⟨by omega, ?_, below_idn ho h6⟩
  unfold opsD
  split
  ·simp
  ·split
   ·simp
   ·split
    ·simp
    ·split
     ·omega
     ·simp
 ·unfold namesT at hx
  split at hx
  ·rename_i hk
   rw [List.mem_singleton.1 hx]
   unfold termB at k3
   rcases hk with hk | hk
   ·rw [if_pos hk] at k3
    simp [belowB] at k3
    omega
   ·rw [if_neg (by omega), if_neg (by omega), if_pos hk] at k3
    simp [belowB] at k3
    omega
  ·cases hx
def SubTold (w : World) (p : FuncD × Bool) (e : Ending) (w' : World) : Prop := (∃ f : FnE, f.d = p.1 ∧ e = .returned (.tuple #[.agg #[.slice f.pu f.pars.length f.pc, .int .i64 f.ret, .slice f.bu f.bs.length f.bc], .bool p.2]) ∧ OwnFn w' w.heap.size w'.heap.size f) ∧ Below w.heap.size w w'
theorem own_func0 {w : World} {lo hi : Nat} (h : lo ≤ hi) : OwnFn w lo hi ⟨[], none, 0, 0, [], none, 0⟩ := ⟨lo, Nat.le_refl _, h, ⟨by simp, .inl rfl⟩, OwnL.none h⟩
set_option maxHeartbeats 8000000 in
set_option maxRecDepth 100000 in
theorem substI (lo : Nat) (d : FuncD) (u0 : Option Addr) (c0 : Nat) (u2 : Option Addr) (c2 : Nat) (tt : List Int) (ut : Option Addr) (ct : Nat) (w : World) (hs : SmFunc d) (m0 : IntsAt w lo u0 d.params) (m2 : BlocksAt w lo u2 d.blocks) (mt : IntsAt w lo ut tt) (htl : tt.length ≤ 1048576) :
  Calls Tryd.prog 7 #[.agg #[.slice u0 d.params.length c0, .int .i64 d.ret, .slice u2 d.blocks.length c2], .slice ut tt.length ct] w fun e w' => SubTold w (substD d tt) e w' := by
 have b0 : Below w.heap.size w ((w.alloc (.cells #[.slice u0 d.params.length c0, .int .i64 d.ret, .slice u2 d.blocks.length c2] 27)).alloc (.cells #[.slice none 0 0, .int .i64 0, .slice none 0 0] 27)) := ((Below.refl _ _).alloc (Nat.le_refl _) _).alloc (by simp) _
 have A0 : At ((w.alloc (.cells #[.slice u0 d.params.length c0, .int .i64 d.ret, .slice u2 d.blocks.length c2] 27)).alloc (.cells #[.slice none 0 0, .int .i64 0, .slice none 0 0] 27)) w.heap.size #[.slice u0 d.params.length c0, .int .i64 d.ret, .slice u2 d.blocks.length c2] 27 := (Below.heap_alloc _ _ _ (by simp)).trans (heap_alloc_last _ _)
 have A1 : At ((w.alloc (.cells #[.slice u0 d.params.length c0, .int .i64 d.ret, .slice u2 d.blocks.length c2] 27)).alloc (.cells #[.slice none 0 0, .int .i64 0, .slice none 0 0] 27)) (w.heap.size + 1) #[.slice none 0 0, .int .i64 0, .slice none 0 0] 27 := heap_two2 _ _ _
 have H0 : Hid (Below w.heap.size w ((w.alloc (.cells #[.slice u0 d.params.length c0, .int .i64 d.ret, .slice u2 d.blocks.length c2] 27)).alloc (.cells #[.slice none 0 0, .int .i64 0, .slice none 0 0] 27))) := b0
 have HA : Hid (At ((w.alloc (.cells #[.slice u0 d.params.length c0, .int .i64 d.ret, .slice u2 d.blocks.length c2] 27)).alloc (.cells #[.slice none 0 0, .int .i64 0, .slice none 0 0] 27)) w.heap.size #[.slice u0 d.params.length c0, .int .i64 d.ret, .slice u2 d.blocks.length c2] 27) := A0
 have HZ : Hid (At ((w.alloc (.cells #[.slice u0 d.params.length c0, .int .i64 d.ret, .slice u2 d.blocks.length c2] 27)).alloc (.cells #[.slice none 0 0, .int .i64 0, .slice none 0 0] 27)) (w.heap.size + 1) #[.slice none 0 0, .int .i64 0, .slice none 0 0] 27) := A1
 have hz : (((w.alloc (.cells #[.slice u0 d.params.length c0, .int .i64 d.ret, .slice u2 d.blocks.length c2] 27)).alloc (.cells #[.slice none 0 0, .int .i64 0, .slice none 0 0] 27))).heap.size = w.heap.size + 2 := by simp
 have P := inFormI lo d u0 c0 u2 c2 ((w.alloc (.cells #[.slice u0 d.params.length c0, .int .i64 d.ret, .slice u2 d.blocks.length c2] 27)).alloc (.cells #[.slice none 0 0, .int .i64 0, .slice none 0 0] 27)) hs (m0.keep (agree_of_below b0 lo)) (m2.keep (agree_of_below b0 lo))
 have NO : ∀ W : World, Below w.heap.size w W → At W (w.heap.size + 1) #[.slice none 0 0, .int .i64 0, .slice none 0 0] 27 → ¬ subOk d tt → SubTold w (substD d tt) (.returned (.tuple #[.agg #[.slice none 0 0, .int .i64 0, .slice none 0 0], .bool false])) W := fun W hB _ hn => by
  rw [subst_no hn]
  exact ⟨⟨⟨[], none, 0, 0, [], none, 0⟩, rfl, rfl, own_func0 hB.size⟩, hB⟩
 have HNO : Hid (∀ W : World, Below w.heap.size w W → At W (w.heap.size + 1) #[.slice none 0 0, .int .i64 0, .slice none 0 0] 27 → ¬ subOk d tt → SubTold w (substD d tt) (.returned (.tuple #[.agg #[.slice none 0 0, .int .i64 0, .slice none 0 0], .bool false])) W) := NO
 clear NO
 have x0 : (((w.alloc (.cells #[.slice u0 d.params.length c0, .int .i64 d.ret, .slice u2 d.blocks.length c2] 27)).alloc (.cells #[.slice none 0 0, .int .i64 0, .slice none 0 0] 27))).cell? ⟨w.heap.size, 0, none⟩ = some (.slice u0 d.params.length c0) := A0.cell 0
 have x1 : (((w.alloc (.cells #[.slice u0 d.params.length c0, .int .i64 d.ret, .slice u2 d.blocks.length c2] 27)).alloc (.cells #[.slice none 0 0, .int .i64 0, .slice none 0 0] 27))).cell? ⟨w.heap.size, 1, none⟩ = some (.int .i64 d.ret) := A0.cell 1
 have x2 : (((w.alloc (.cells #[.slice u0 d.params.length c0, .int .i64 d.ret, .slice u2 d.blocks.length c2] 27)).alloc (.cells #[.slice none 0 0, .int .i64 0, .slice none 0 0] 27))).cell? ⟨w.heap.size, 2, none⟩ = some (.slice u2 d.blocks.length c2) := A0.cell 2
 clear b0 A0 A1
 go_enter Tryd.func7, Tryd.ntmps7
 go_upto_region 1 with fail
 generalize ((w.alloc (.cells #[.slice u0 d.params.length c0, .int .i64 d.ret, .slice u2 d.blocks.length c2] 27)).alloc (.cells #[.slice none 0 0, .int .i64 0, .slice none 0 0] 27)) = W1 at *
 go_wp2_with fail
 refine P.mono ?_
 rintro e w2 ⟨rfl, b2⟩
 clear P x0 x1 x2
 have HB2 : Hid (Below w.heap.size w w2) := H0.out.trans (b2.mono (by omega))
 have HA2 : Hid (At w2 w.heap.size #[.slice u0 d.params.length c0, .int .i64 d.ret, .slice u2 d.blocks.length c2] 27) := HA.out.below b2
 have HZ2 : Hid (At w2 (w.heap.size + 1) #[.slice none 0 0, .int .i64 0, .slice none 0 0] 27) := HZ.out.below b2
 clear b2 H0 HA HZ hz
 have c_0 : w2.cell? ⟨w.heap.size, 0, none⟩ = some (.slice u0 d.params.length c0) := HA2.out.cell 0
 have c_1 : w2.cell? ⟨w.heap.size, 1, none⟩ = some (.int .i64 d.ret) := HA2.out.cell 1
 have c_2 : w2.cell? ⟨w.heap.size, 2, none⟩ = some (.slice u2 d.blocks.length c2) := HA2.out.cell 2
 cases hF : funcB 3 d with
 | false =>
  have HN : Hid (¬ subOk d tt) := fun h => by rw [h.1] at hF; cases hF
  clear hF
  have r0 : w2.cell? ⟨w.heap.size + 1, 0, none⟩ = some (.slice none 0 0) := HZ2.out.cell 0
  have r1 : w2.cell? ⟨w.heap.size + 1, 1, none⟩ = some (.int .i64 0) := HZ2.out.cell 1
  have r2 : w2.cell? ⟨w.heap.size + 1, 2, none⟩ = some (.slice none 0 0) := HZ2.out.cell 2
  have rf : ∀ o, w2.frozen? ⟨w.heap.size + 1, o, none⟩ = false := fun o => froz_of_heap HZ2.out
  go_wp2_with fail
  have hr := heap_set (o := 2) (v := .slice none 0 0) (heap_set (o := 1) (v := .int .i64 0) (heap_set (o := 0) (v := .slice none 0 0) HZ2.out))
  refine bodyPost_ret (v := .tuple #[.agg #[.slice none 0 0, .int .i64 0, .slice none 0 0], .bool false]) ((results_cell_row_tmp Tryd.results7 _ _ (w.heap.size + 1) _ rfl (run_loadVar_row _ _ 27 _ _ (0, 0) _ hr Tryd.underlying27 rfl (by kernel_rfl))).trans (by rfl)) rfl ?_
  exact HNO.out _ (((HB2.out.setCell (by dsimp only; omega) _).setCell (by dsimp only; omega) _).setCell (by dsimp only; omega) _) hr HN.out
 | true =>
  have HOK : Hid (OkFn d) := ok_form hF
  have hc60 : cntF d ≤ 60 := by
   have h := hF
   unfold funcB at h
   simp only [Bool.and_eq_true, decide_eq_true_eq] at h
   exact h.1.2
  have HF : Hid (funcB 3 d = true) := hF
  have P2 := countI_any lo d u0 c0 u2 c2 w2 hs (m2.keep (agree_of_below HB2.out lo))
  clear hF
  go_wp2_with fail
  refine P2.mono ?_
  rintro e w3 ⟨rfl, b3⟩
  clear P2 c_0 c_1 c_2
  have HB3 : Hid (Below w.heap.size w w3) := HB2.out.trans (b3.mono HB2.out.size)
  have HA3 : Hid (At w3 w.heap.size #[.slice u0 d.params.length c0, .int .i64 d.ret, .slice u2 d.blocks.length c2] 27) := HA2.out.below b3
  have HZ3 : Hid (At w3 (w.heap.size + 1) #[.slice none 0 0, .int .i64 0, .slice none 0 0] 27) := HZ2.out.below b3
  clear b3 HB2 HA2 HZ2
  have c_0 : w3.cell? ⟨w.heap.size, 0, none⟩ = some (.slice u0 d.params.length c0) := HA3.out.cell 0
  have c_1 : w3.cell? ⟨w.heap.size, 1, none⟩ = some (.int .i64 d.ret) := HA3.out.cell 1
  have c_2 : w3.cell? ⟨w.heap.size, 2, none⟩ = some (.slice u2 d.blocks.length c2) := HA3.out.cell 2
  by_cases hL : tt.length = cntF d
  rotate_left
  ·have HN : Hid (¬ subOk d tt) := fun h => hL h.2.1
   have hLb : ((tt.length : Int) != (cntF d : Int)) = true := by simp; omega
   clear hL
   have r0 : w3.cell? ⟨w.heap.size + 1, 0, none⟩ = some (.slice none 0 0) := HZ3.out.cell 0
   have r1 : w3.cell? ⟨w.heap.size + 1, 1, none⟩ = some (.int .i64 0) := HZ3.out.cell 1
   have r2 : w3.cell? ⟨w.heap.size + 1, 2, none⟩ = some (.slice none 0 0) := HZ3.out.cell 2
   have rf : ∀ o, w3.frozen? ⟨w.heap.size + 1, o, none⟩ = false := fun o => froz_of_heap HZ3.out
   go_wp2_with fail
   have hr := heap_set (o := 2) (v := .slice none 0 0) (heap_set (o := 1) (v := .int .i64 0) (heap_set (o := 0) (v := .slice none 0 0) HZ3.out))
   refine bodyPost_ret (v := .tuple #[.agg #[.slice none 0 0, .int .i64 0, .slice none 0 0], .bool false]) ((results_cell_row_tmp Tryd.results7 _ _ (w.heap.size + 1) _ rfl (run_loadVar_row _ _ 27 _ _ (0, 0) _ hr Tryd.underlying27 rfl (by kernel_rfl))).trans (by rfl)) rfl ?_
   exact HNO.out _ (((HB3.out.setCell (by dsimp only; omega) _).setCell (by dsimp only; omega) _).setCell (by dsimp only; omega) _) hr HN.out
  have HL : Hid (tt.length = cntF d) := hL
  have hLb : ((tt.length : Int) != (cntF d : Int)) = false := by simp; omega
  have htl60 : tt.length ≤ 60 := by omega
  clear hL
  have P3 := countI_any lo d u0 c0 u2 c2 w3 hs (m2.keep (agree_of_below HB3.out lo))
  go_wp2_with fail
  refine P3.mono ?_
  rintro e w4 ⟨rfl, b4⟩
  clear P3 c_0 c_1 c_2 hLb
  have HB4 : Hid (Below w.heap.size w w4) := HB3.out.trans (b4.mono HB3.out.size)
  have HA4 : Hid (At w4 w.heap.size #[.slice u0 d.params.length c0, .int .i64 d.ret, .slice u2 d.blocks.length c2] 27) := HA3.out.below b4
  have HZ4 : Hid (At w4 (w.heap.size + 1) #[.slice none 0 0, .int .i64 0, .slice none 0 0] 27) := HZ3.out.below b4
  clear b4 HB3 HA3 HZ3
  have P4 := allBelowI lo ut ct tt (cntF d : Int) w4 (mt.keep (agree_of_below HB4.out lo))
  cases hA : (tt.all fun n => belowB n (cntF d : Int)) with
  | false =>
   have HN : Hid (¬ subOk d tt) := fun h => by rw [h.2.2] at hA; cases hA
   rw [hA] at P4
   clear hA
   have r0 : w4.cell? ⟨w.heap.size + 1, 0, none⟩ = some (.slice none 0 0) := HZ4.out.cell 0
   have r1 : w4.cell? ⟨w.heap.size + 1, 1, none⟩ = some (.int .i64 0) := HZ4.out.cell 1
   have r2 : w4.cell? ⟨w.heap.size + 1, 2, none⟩ = some (.slice none 0 0) := HZ4.out.cell 2
   have rf : ∀ o, w4.frozen? ⟨w.heap.size + 1, o, none⟩ = false := fun o => froz_of_heap HZ4.out
   go_wp2_with fail
   refine P4.mono ?_
   rintro e w5 ⟨rfl, h9⟩
   have h8 := h9.symm
   clear h9 P4
   subst h8
   go_wp2_with fail
   have hr := heap_set (o := 2) (v := .slice none 0 0) (heap_set (o := 1) (v := .int .i64 0) (heap_set (o := 0) (v := .slice none 0 0) HZ4.out))
   refine bodyPost_ret (v := .tuple #[.agg #[.slice none 0 0, .int .i64 0, .slice none 0 0], .bool false]) ((results_cell_row_tmp Tryd.results7 _ _ (w.heap.size + 1) _ rfl (run_loadVar_row _ _ 27 _ _ (0, 0) _ hr Tryd.underlying27 rfl (by kernel_rfl))).trans (by rfl)) rfl ?_
   exact HNO.out _ (((HB4.out.setCell (by dsimp only; omega) _).setCell (by dsimp only; omega) _).setCell (by dsimp only; omega) _) hr HN.out
  | true =>
   have HY : Hid (subOk d tt) := ⟨HF.out, HL.out, hA⟩
   have HID : Hid (Idn tt) := below_idn hA hc60
   rw [hA] at P4
   clear hA HF HL
   go_wp2_with fail
   refine P4.mono ?_
   rintro e w5 ⟨rfl, h9⟩
   have h8 := h9.symm
   clear h9 P4
   subst h8
   have hmm := @run_makeMap Tryd.prog
   go_upto_region 4 with fail
   clear hmm
   have b5 : Below w4.heap.size w4 (w4.alloc (.map #[] 0)) := (Below.refl _ _).alloc (Nat.le_refl _) _
   have HR5 : Hid (RenN (w4.alloc (.map #[] 0)) w4.heap.size 0 (rhoT (tt.take 0))) := by show RenN _ _ _ _; rw [List.take_zero, rho_nil]; exact RenN.made _
   have HB5 : Hid (Below w.heap.size w (w4.alloc (.map #[] 0))) := HB4.out.trans (b5.mono HB4.out.size)
   have HA5 : Hid (At (w4.alloc (.map #[] 0)) w.heap.size #[.slice u0 d.params.length c0, .int .i64 d.ret, .slice u2 d.blocks.length c2] 27) := HA4.out.below b5
   have HZ5 : Hid (At (w4.alloc (.map #[] 0)) (w.heap.size + 1) #[.slice none 0 0, .int .i64 0, .slice none 0 0] 27) := HZ4.out.below b5
   have hB : w.heap.size + 1 < w4.heap.size := HZ4.out.lt
   clear b5 HB4 HA4 HZ4
   generalize (w4.alloc (.map #[] 0)) = W5 at *
   generalize w4.heap.size = B at *
   clear w4
   go_wp2_with fail
   go_loopw [7, 8, 30] (fun _ _ i wr => ∃ k : Nat, k ≤ tt.length ∧ i = .int .i64 k ∧ Hid (RenN wr B k (rhoT (tt.take k))) ∧ Hid (At wr w.heap.size #[.slice u0 d.params.length c0, .int .i64 d.ret, .slice u2 d.blocks.length c2] 27) ∧ Hid (At wr (w.heap.size + 1) #[.slice none 0 0, .int .i64 0, .slice none 0 0] 27) ∧ Hid (Below w.heap.size w wr)) (fun _ _ i _ => tt.length - (intOf i).toNat)
   case atStart => exact ⟨0, by omega, rfl, HR5.out, HA5.out, HZ5.out, HB5.out⟩
   case round =>
    clear HR5 HA5 HZ5 HB5
    obtain ⟨k, hk, rfl, HR, HA, HZ, HB⟩ := hrel
    obtain ⟨wo, hwo⟩ : ∃ w1, w1 = wr := ⟨_, rfl⟩
    subst hwo
    by_cases hlt : k < tt.length
    ·obtain ⟨ga, off, rfl, e1⟩ : ∃ ga off, ut = some ⟨ga, off, none⟩ ∧ wo.cell? ⟨ga, off + k, none⟩ = some (.int .i64 (tt.getD k 0)) := by
      rcases (mt.keep (agree_of_below HB.out lo)).2 with h | ⟨ga, off, ha, _, _, hc⟩
      ·rw [h] at hlt; simp at hlt
      ·exact ⟨ga, off, ha, hc k hlt⟩
     have hm := HID.out _ (getD_mem 0 tt k hlt)
     have HT : Hid (∀ i, rhoT (tt.take (k + 1)) i = if i = (k : Int) then tt.getD k 0 else rhoT (tt.take k) i) := rho_take tt k hlt
     generalize tt.getD k 0 = y at *
     have hk60 : k ≤ 60 := by omega
     have hkI : 0 ≤ (k : Int) ∧ (k : Int) ≤ 100000 := by omega
     go_wp2_with (at_mapUpdate; refine RenN.put rfl _ _ _ rfl rfl HR.out (by omega) rfl rfl hkI hm HT.out ?_; intro w7 hR7 hg7)
     have HR7 : Hid (RenN w7 B (k + 1) (rhoT (tt.take (k + 1)))) := hR7
     have HA7 : Hid (At w7 w.heap.size #[.slice u0 d.params.length c0, .int .i64 d.ret, .slice u2 d.blocks.length c2] 27) := (hg7.block _ HA.out.lt (by intro e; have := Option.some.inj e; omega)).trans HA.out
     have HZ7 : Hid (At w7 (w.heap.size + 1) #[.slice none 0 0, .int .i64 0, .slice none 0 0] 27) := (hg7.block _ HZ.out.lt (by intro e; have := Option.some.inj e; omega)).trans HZ.out
     have HB7 : Hid (Below w.heap.size w w7) := HB.out.grown hg7 HB.out.size (fun q hq => by cases hq; omega)
     clear hR7 hg7 hm HT e1
     go_roundw
     case rel => exact ⟨k + 1, by omega, by go_num, HR7.out, HA7.out, HZ7.out, HB7.out⟩
     case measure => simp [intOf]; omega
    ·have hke : k = tt.length := by omega
     have HRr : Hid (RenAt wo B (rhoT tt)) := by
      have := HR.out.ren
      rw [hke, List.take_length] at this
      exact this
     have PF := ofFuncI B lo (rhoT tt) d u0 c0 u2 c2 wo HRr.out (m0.keep (agree_of_below HB.out lo)) (m2.keep (agree_of_below HB.out lo)) HOK.out
     have c_0 : wo.cell? ⟨w.heap.size, 0, none⟩ = some (.slice u0 d.params.length c0) := HA.out.cell 0
     have c_1 : wo.cell? ⟨w.heap.size, 1, none⟩ = some (.int .i64 d.ret) := HA.out.cell 1
     have c_2 : wo.cell? ⟨w.heap.size, 2, none⟩ = some (.slice u2 d.blocks.length c2) := HA.out.cell 2
     clear HR
     go_wp2_with fail
     refine PF.mono ?_
     rintro e w7 ⟨f, hfd, rfl, hown, b7⟩
     clear PF c_0 c_1 c_2
     have HB7 : Hid (Below w.heap.size w w7) := HB.out.trans (b7.mono HB.out.size)
     have HZ7 : Hid (At w7 (w.heap.size + 1) #[.slice none 0 0, .int .i64 0, .slice none 0 0] 27) := HZ.out.below b7
     have HOW : Hid (OwnFn w7 wo.heap.size w7.heap.size f) := hown
     have HFD : Hid (f.d = sbFunc (rhoT tt) d) := hfd
     have hzo := HB.out.size
     clear b7 HB HZ HA hown hfd
     have r0 : w7.cell? ⟨w.heap.size + 1, 0, none⟩ = some (.slice none 0 0) := HZ7.out.cell 0
     have r1 : w7.cell? ⟨w.heap.size + 1, 1, none⟩ = some (.int .i64 0) := HZ7.out.cell 1
     have r2 : w7.cell? ⟨w.heap.size + 1, 2, none⟩ = some (.slice none 0 0) := HZ7.out.cell 2
     have rf : ∀ o, w7.frozen? ⟨w.heap.size + 1, o, none⟩ = false := fun o => froz_of_heap HZ7.out
     go_wp2_with fail
     have hr := heap_set (o := 2) (v := .slice f.bu f.bs.length f.bc) (heap_set (o := 1) (v := .int .i64 f.ret) (heap_set (o := 0) (v := .slice f.pu f.pars.length f.pc) HZ7.out))
     have BB : Below w.heap.size w (((w7.setCell ⟨w.heap.size + 1, 0, none⟩ (.slice f.pu f.pars.length f.pc)).setCell ⟨w.heap.size + 1, 1, none⟩ (.int .i64 f.ret)).setCell ⟨w.heap.size + 1, 2, none⟩ (.slice f.bu f.bs.length f.bc)) := ((HB7.out.setCell (by dsimp only; omega) _).setCell (by dsimp only; omega) _).setCell (by dsimp only; omega) _
     have hzr : w7.heap.size ≤ ((((w7.setCell ⟨w.heap.size + 1, 0, none⟩ (.slice f.pu f.pars.length f.pc)).setCell ⟨w.heap.size + 1, 1, none⟩ (.int .i64 f.ret)).setCell ⟨w.heap.size + 1, 2, none⟩ (.slice f.bu f.bs.length f.bc))).heap.size := by simp only [World.size_setCell]; exact Nat.le_refl _
     have SS : Still 4 w7 (((w7.setCell ⟨w.heap.size + 1, 0, none⟩ (.slice f.pu f.pars.length f.pc)).setCell ⟨w.heap.size + 1, 1, none⟩ (.int .i64 f.ret)).setCell ⟨w.heap.size + 1, 2, none⟩ (.slice f.bu f.bs.length f.bc)) := (Still.set (k := 4) (o := 0) (v := .slice f.pu f.pars.length f.pc) HZ7.out (by decide)).trans ((Still.set (k := 4) (o := 1) (v := .int .i64 f.ret) (heap_set (o := 0) (v := .slice f.pu f.pars.length f.pc) HZ7.out) (by decide)).trans (Still.set (k := 4) (o := 2) (v := .slice f.bu f.bs.length f.bc) (heap_set (o := 1) (v := .int .i64 f.ret) (heap_set (o := 0) (v := .slice f.pu f.pars.length f.pc) HZ7.out)) (by decide)))
     generalize (((w7.setCell ⟨w.heap.size + 1, 0, none⟩ (.slice f.pu f.pars.length f.pc)).setCell ⟨w.heap.size + 1, 1, none⟩ (.int .i64 f.ret)).setCell ⟨w.heap.size + 1, 2, none⟩ (.slice f.bu f.bs.length f.bc)) = W9 at *
     have UU : OwnFn W9 w.heap.size W9.heap.size f := by
      obtain ⟨m, k1, k2, k3, k4⟩ := OwnFn.still HOW.out SS (by decide)
      exact ⟨m, by omega, by omega, k3.wide hzo (Nat.le_refl _), k4.wide (Nat.le_refl _) hzr⟩
     refine bodyPost_ret (v := .tuple #[.agg #[.slice f.pu f.pars.length f.pc, .int .i64 f.ret, .slice f.bu f.bs.length f.bc], .bool true]) ((results_cell_row_tmp Tryd.results7 _ _ (w.heap.size + 1) _ rfl (run_loadVar_row _ _ 27 _ _ (0, 0) _ hr Tryd.underlying27 rfl (by kernel_rfl))).trans (by rfl)) rfl ?_
     rw [subst_yes HY.out]
     exact ⟨⟨f, HFD.out, rfl, UU⟩, BB⟩
end Go.Proofs.YtenbodghkpbghaaDoor
namespace Go.Proofs.YtenbodghkpbghaaDoor
open Go.RowKit
set_option linter.unusedVariables false
def mkw (w : World) : List Addr → Int → World
 | [], _ => w
 | a :: A, k => mkw (w.setCell a (.int .i64 k)) A (k + 1)
theorem mkw_append : ∀ (A B : List Addr) (k : Int) (w : World), mkw w (A ++ B) k = mkw (mkw w A k) B (k + A.length)
 | [], B, k, w => by simp [mkw]
 | a :: A, B, k, w => by
  rw [List.cons_append, mkw, mkw_append A B, mkw]
  congr 1
  simp only [List.length_cons]
  omega
theorem mkw_out : ∀ (A : List Addr) (k : Int) (w : World) (b : Addr), b ∉ A → (mkw w A k).cell? b = w.cell? b
 | [], _, _, _, _ => rfl
 | a :: A, k, w, b, h => by
  simp only [List.mem_cons, not_or] at h
  rw [mkw, mkw_out A _ _ b h.2]
  exact World.cell?_setCell_other w a b _ (fun e => h.1 e.symm)
theorem mkw_size : ∀ (A : List Addr) (k : Int) (w : World), (mkw w A k).heap.size = w.heap.size
 | [], _, _ => rfl
 | a :: A, k, w => by rw [mkw, mkw_size A]; simp
theorem mkw_below {n : Nat} : ∀ (A : List Addr) (k : Int) (w v : World), (∀ a ∈ A, n ≤ a.block) → Below n w v → Below n w (mkw v A k)
 | [], _, _, _, _, h => h
 | a :: A, k, w, v, hA, h => mkw_below A _ w _ (fun x hx => hA x (List.mem_cons_of_mem _ hx)) (h.setCell (hA a (List.mem_cons_self ..)) _)
theorem mkw_at : ∀ (A : List Addr) (k : Int) (w : World), A.Nodup → (∀ a ∈ A, ∃ v, w.cell? a = some v) → ∀ i (hi : i < A.length), (mkw w A k).cell? A[i] = some (.int .i64 (k + i))
 | [], _, _, _, _, i, hi => by simp at hi
 | a :: A, k, w, hn, hc, i, hi => by
  have hn' := List.nodup_cons.1 hn
  obtain ⟨v, hv⟩ := hc a (List.mem_cons_self ..)
  cases i with
  | zero =>
   rw [mkw]
   show (mkw _ A _).cell? a = _
   rw [mkw_out A _ _ a hn'.1, World.cell?_setCell_same w a _ hv]
   simp
  | succ i =>
   have ih := mkw_at A (k + 1) (w.setCell a (.int .i64 k)) hn'.2 (fun x hx => by
    obtain ⟨u, hu⟩ := hc x (List.mem_cons_of_mem _ hx)
    exact cell?_setCell_some hu) i (by simp at hi; omega)
   rw [mkw]
   refine ih.trans ?_
   congr 2
   omega
def rowA (g o n s : Nat) : List Addr := (List.range n).map fun i => ⟨g, o + i * s, none⟩
theorem rowA_nodup (g o n s : Nat) (hs : 0 < s) : (rowA g o n s).Nodup := by
 unfold rowA
 rw [List.nodup_iff_pairwise_ne, List.pairwise_map]
 refine List.Pairwise.imp ?_ (List.nodup_iff_pairwise_ne.1 List.nodup_range)
 intro i j hij e
 injection e with _ e2 _
 exact hij (Nat.eq_of_mul_eq_mul_right hs (by omega))
theorem apart_of_blocks {A B : List Addr} (h : ∀ a ∈ A, ∀ b ∈ B, a.block ≠ b.block) (hA : A.Nodup) (hB : B.Nodup) : (A ++ B).Nodup := by
 rw [List.nodup_append]
 exact ⟨hA, hB, fun a ha b hb e => h a ha b hb (by rw [e])⟩
theorem mkw_froz : ∀ (A : List Addr) (k : Int) (w : World) (b : Addr), (mkw w A k).frozen? b = w.frozen? b
 | [], _, _, _ => rfl
 | a :: A, k, w, b => by rw [mkw, mkw_froz A]; exact World.frozen?_setCell ..
theorem rowA_len (g o n s : Nat) : (rowA g o n s).length = n := by simp [rowA]
theorem rowA_succ (g o n s : Nat) : rowA g o (n + 1) s = rowA g o n s ++ [⟨g, o + n * s, none⟩] := by simp [rowA, List.range_succ]
theorem rowA_out (g o n s : Nat) (hs : 0 < s) : (⟨g, o + n * s, none⟩ : Addr) ∉ rowA g o n s := by
 unfold rowA
 intro h
 obtain ⟨i, hi, e⟩ := List.mem_map.1 h
 injection e with _ e2 _
 have := Nat.eq_of_mul_eq_mul_right hs (show i * s = n * s by omega)
 simp at hi
 omega
end Go.Proofs.YtenbodghkpbghaaDoor
