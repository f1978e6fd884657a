import Derived.Test.YtojhakjkfkmklaaGreatDoorRbPV
import Derived.Test.YtojhakjkfkmklaaGreatDoorRmAV
import Derived.Test.YtojhakjkfkmklaaGreatDoorCrcV
import Derived.Laws.World
import Derived.Laws.OwnMore
namespace Go.Proofs.YtojhakjkfkmklaaGreatDoor
open Go.RowKit
set_option linter.unusedVariables false
set_option linter.unusedSimpArgs false
def InR (x : Int) : Prop := 0 ≤ x ∧ x ≤ 4294967295
theorem wid_in {x : Int} (h : widthB x = true) : InR x := by
 rw [wid_iff] at h
 unfold InR
 omega
theorem bel_in {x c : Int} (hc : c ≤ 4294967295) (h : belowB x c = true) : InR x := by
 simp only [belowB, Bool.and_eq_true, decide_eq_true_eq] at h
 unfold InR
 omega
theorem rng_one {x : Int} {l : List Int} (h : InR x) (k : Rng l) : Rng (x :: l) := fun y hy => by
 rcases List.mem_cons.1 hy with rfl | hy
 ·exact h
 ·exact k y hy
theorem rng_nil : Rng [] := fun y hy => by cases hy
theorem rng_flat {α : Type} {l : List α} {g : α → List Int} (h : ∀ x ∈ l, Rng (g x)) : Rng (l.flatMap g) := fun y hy => by
 obtain ⟨x, hx, hy⟩ := List.mem_flatMap.1 hy
 exact h x hx y hy
theorem len_in {α : Type} {l : List α} (h : l.length ≤ 1000000) : InR (l.length : Int) := by unfold InR; omega
theorem inst_rng {d : InstD} {ids funcs : Int} (h : instB d ids funcs = true) (hi : ids ≤ 1000) (hf : funcs ≤ 1000) : Rng (instM d) := by
 have h4 := ops_len4 h
 simp only [instB, Bool.and_eq_true] at h
 obtain ⟨⟨⟨hw, him⟩, _⟩, ho⟩ := h
 have hop : 1 ≤ d.op ∧ d.op ≤ 27 := by
  by_cases e : d.op < 1 ∨ 27 < d.op
  ·rw [wB, if_pos e] at hw; cases hw
  ·omega
 have hwi : InR d.w := by
  rw [wB, if_neg (by omega)] at hw
  split at hw
  ·have : d.w = 0 := by simpa using hw
   unfold InR; omega
  ·split at hw
   ·have : d.w = 8 := by simpa using hw
    unfold InR; omega
   ·exact wid_in hw
 unfold instM
 refine Rng.join (Rng.join (rng_one (by unfold InR; omega) (rng_one hwi rng_nil)) ?_) (Rng.list ?_ (by omega))
 ·split
  ·rename_i e
   refine rng_one ?_ rng_nil
   unfold immM at e
   rw [iB] at him
   by_cases e1 : d.op = 21
   ·rw [if_pos e1] at him
    have ht : InR d.imm := by
     simp only [valueB, Bool.and_eq_true, decide_eq_true_eq] at him
     have hz : topZ d.w ≤ 4294967296 := by unfold topZ; split <;> (try split) <;> (try split) <;> omega
     unfold InR
     omega
    exact ht
   ·have e2 : d.op = 26 := by simpa [e1] using e
    rw [if_neg e1, if_pos e2] at him
    exact bel_in (by omega) him
  ·exact rng_nil
 ·intro x hx
  exact bel_in (by omega) (List.all_eq_true.1 ho x hx)
theorem phi_rng {p : PhiD} {ids : Int} (h : phiB ids p = true) (hi : ids ≤ 1000) : Rng (phiM p) := by
 simp only [phiB, Bool.and_eq_true, decide_eq_true_eq] at h
 exact rng_one (wid_in h.1.1) (Rng.list (fun x hx => bel_in (by omega) (List.all_eq_true.1 h.2 x hx)) (by omega))
theorem term_rng {t : TermD} {ids blocks : Int} (h : termB t ids blocks = true) (hi : ids ≤ 1000) (hb : blocks ≤ 1000) : Rng (termM t) := by
 obtain ⟨k, a, x, y⟩ := t
 unfold termB at h
 dsimp only at h
 unfold termM termNs
 dsimp only
 by_cases k1 : k = 1
 ·rw [if_pos k1] at h ⊢
  simp only [Bool.and_eq_true] at h
  exact rng_one (by unfold InR; omega) (rng_one (bel_in (by omega) h.1.1) rng_nil)
 rw [if_neg k1] at h ⊢
 by_cases k2 : k = 2
 ·rw [if_pos k2] at h ⊢
  simp only [Bool.and_eq_true] at h
  exact rng_one (by unfold InR; omega) (rng_one (bel_in (by omega) h.1.1) rng_nil)
 rw [if_neg k2] at h ⊢
 by_cases k3 : k = 3
 ·rw [if_pos k3] at h ⊢
  simp only [Bool.and_eq_true] at h
  exact rng_one (by unfold InR; omega) (rng_one (bel_in (by omega) h.1.1.1) (rng_one (bel_in (by omega) h.1.1.2) (rng_one (bel_in (by omega) h.1.2) rng_nil)))
 rw [if_neg k3] at h ⊢
 simp only [Bool.and_eq_true, beq_iff_eq] at h
 exact rng_one (by unfold InR; omega) rng_nil
theorem cnt_parts {d : FuncD} (b : BlockD) (h : b ∈ d.blocks) : b.phis.length + b.insts.length ≤ cntF d := by
 have key : ∀ (l : List BlockD), b ∈ l → b.phis.length + b.insts.length ≤ cntL l := by
  intro l
  induction l with
  | nil => intro h; cases h
  | cons x r ih =>
   intro h
   have e : cntL (x :: r) = cntB x + cntL r := rfl
   rcases List.mem_cons.1 h with rfl | h
   ·rw [e]; unfold cntB; omega
   ·have := ih h
    rw [e]; omega
 have := key d.blocks h
 unfold cntF
 omega
theorem func_rng {d : FuncD} {funcs : Int} (h : funcB funcs d = true) (hf : funcs ≤ 1000) : Rng (funcM d) := by
 have hp := h
 simp only [funcB, Bool.and_eq_true, decide_eq_true_eq] at h
 obtain ⟨⟨⟨⟨⟨⟨h1, h2⟩, h3⟩, h4⟩, h5⟩, h6⟩, h7⟩ := h
 unfold funcM fheadM
 refine Rng.join (rng_one (wid_in h3) (Rng.join (Rng.list (fun x hx => wid_in (List.all_eq_true.1 h2 x hx)) (by omega)) (rng_one (len_in (by omega)) rng_nil))) (rng_flat fun b hb => ?_)
 have h8 := List.all_eq_true.1 h7 b hb
 have hc := cnt_parts b hb
 simp only [blockB, Bool.and_eq_true] at h8
 unfold blockM phisM instsM
 exact Rng.join (Rng.join (rng_one (len_in (by omega)) (rng_flat fun p hp => phi_rng (List.all_eq_true.1 h8.1.1 p hp) (by omega))) (rng_one (len_in (by omega)) (rng_flat fun i hi => inst_rng (List.all_eq_true.1 h8.1.2 i hi) (by omega) hf))) (term_rng h8.2 (by omega) (by omega))
theorem mod_rng {l : List FuncD} (h : modB l = true) : Rng (modM l) := by
 obtain ⟨h1, h2⟩ := modB_parts h
 exact rng_one (len_in (by omega)) (rng_flat fun d hd => func_rng (h2 d hd) (by omega))
theorem rng_pos {l : List Int} (h : Rng l) : Pos l := fun x hx => (h x hx).1
def OkM (s : ByteArray) (l : List FuncD) : Prop := modB l = true ∧ s = modT l ∧ s.size ≤ 20000
theorem okm_body {s : ByteArray} {l : List FuncD} (h : OkM s l) : s = vb ssa1 (modM l) ++ sumT (vb ssa1 (modM l)) := by
 have := h.2.1
 unfold modT at this
 rwa [if_pos h.1] at this
theorem okm_size {s : ByteArray} {l : List FuncD} (h : OkM s l) : 4 ≤ s.size ∧ s.extract 0 (s.size - 4) = vb ssa1 (modM l) ∧ s.extract (s.size - 4) s.size = sumT (vb ssa1 (modM l)) := by
 have e := okm_body h
 have hs : (sumT (vb ssa1 (modM l))).size = 4 := sumT_size _
 have hz : s.size = (vb ssa1 (modM l)).size + 4 := by
  rw [e, ByteArray.size_append, hs]
 refine ⟨by omega, ?_, ?_⟩
 ·apply ByteArray.ext
  apply Array.ext'
  rw [ext_list, hz, e]
  simp
 ·apply ByteArray.ext
  apply Array.ext'
  rw [ext_list, hz, e]
  have hl : (vb ssa1 (modM l)).data.toList.length = (vb ssa1 (modM l)).size := Array.length_toList
  rw [ByteArray.data_append, Array.toList_append]
  simp only [Nat.add_sub_cancel]
  rw [List.drop_append_of_le_length (by omega), List.drop_eq_nil_of_le (by omega), List.nil_append]
  rw [List.take_of_length_le (by rw [Array.length_toList]; show (sumT (vb ssa1 (modM l))).size ≤ _; rw [hs]; omega)]
theorem cut_back {s : ByteArray} (h : 4 ≤ s.size) : s = s.extract 0 (s.size - 4) ++ s.extract (s.size - 4) s.size := by
 apply ByteArray.ext
 apply Array.ext'
 have hz : s.data.toList.length = s.size := Array.length_toList
 rw [ByteArray.data_append, Array.toList_append, ext_list, ext_list, List.drop_zero, Nat.sub_zero]
 rw [List.take_of_length_le (show (s.data.toList.drop (s.size - 4)).length ≤ s.size - (s.size - 4) by rw [List.length_drop]; omega), List.take_append_drop]
theorem okm_iff {s : ByteArray} {l : List FuncD} {L : List Int} (h4 : 4 ≤ s.size) (hz : s.size ≤ 20000) (hs : sumT (s.extract 0 (s.size - 4)) = s.extract (s.size - 4) s.size) (hL : Rng L) (hb : (s.extract 0 (s.size - 4)).data.toList = ssa1.data.toList ++ toL L) : OkM s l ↔ modB l = true ∧ L = modM l := by
 constructor
 ·intro h
  obtain ⟨_, h2, _⟩ := okm_size h
  rw [h2, vb_data _ _ (mod_rng h.1)] at hb
  exact ⟨h.1, (toL_inj (mod_rng h.1) hL (List.append_cancel_left hb)).symm⟩
 ·rintro ⟨h1, rfl⟩
  have hv : s.extract 0 (s.size - 4) = vb ssa1 (modM l) := by
   apply ByteArray.ext
   apply Array.ext'
   rw [hb, vb_data _ _ hL]
  refine ⟨h1, ?_, hz⟩
  unfold modT
  rw [if_pos h1, ← hv, hs]
  exact cut_back h4
theorem okm_no {s : ByteArray} (h : ¬ (4 ≤ s.size ∧ s.size ≤ 20000 ∧ sumT (s.extract 0 (s.size - 4)) = s.extract (s.size - 4) s.size)) : ¬ ∃ l, OkM s l := by
 rintro ⟨l, hl⟩
 obtain ⟨h1, h2, h3⟩ := okm_size hl
 exact h ⟨h1, hl.2.2, by rw [h2, h3]⟩
theorem okm_head {s : ByteArray} (h : ¬ ∃ L, Rng L ∧ (s.extract 0 (s.size - 4)).data.toList = ssa1.data.toList ++ toL L) : ¬ ∃ l, OkM s l := by
 rintro ⟨l, hl⟩
 obtain ⟨_, h2, _⟩ := okm_size hl
 exact h ⟨modM l, mod_rng hl.1, by rw [h2, vb_data _ _ (mod_rng hl.1)]⟩
theorem okm_read {s : ByteArray} {L : List Int} (hok : ∀ l, OkM s l ↔ modB l = true ∧ L = modM l) (hp : Pos L) : (∀ l, pMod L = some l → modB l = true → OkM s l) ∧ ((∀ l, pMod L = some l → modB l = false) → ¬ ∃ l, OkM s l) := by
 refine ⟨fun l h1 h2 => (hok l).2 ⟨h2, pMod_yes hp h1⟩, ?_⟩
 rintro h ⟨l, hl⟩
 obtain ⟨h1, h2⟩ := (hok l).1 hl
 have := h l (by rw [h2]; exact pMod_back (plain_mod h1))
 rw [h1] at this
 cases this
theorem okm_one {s : ByteArray} {l l' : List FuncD} (h : OkM s l) (h' : OkM s l') : l = l' := by
 obtain ⟨_, h2, _⟩ := okm_size h
 obtain ⟨_, h2', _⟩ := okm_size h'
 have e : vb ssa1 (modM l) = vb ssa1 (modM l') := h2.symm.trans h2'
 have e2 := congrArg (fun x => x.data.toList) e
 rw [vb_data _ _ (mod_rng h.1), vb_data _ _ (mod_rng h'.1)] at e2
 have e3 := toL_inj (mod_rng h.1) (mod_rng h'.1) (List.append_cancel_left e2)
 have e4 := pMod_back (plain_mod h.1)
 rw [e3, pMod_back (plain_mod h'.1)] at e4
 exact (Option.some.inj e4).symm
end Go.Proofs.YtojhakjkfkmklaaGreatDoor
namespace Go.Proofs.YtojhakjkfkmklaaGreatDoor
open Go.RowKit
set_option linter.unusedVariables false
def mkw (w : World) : List Addr → Int → World
 | [], _ => w
 | a :: A, k => mkw (w.setCell a (.int .i64 k)) A (k + 1)
theorem mkw_append : ∀ (A B : List Addr) (k : Int) (w : World), mkw w (A ++ B) k = mkw (mkw w A k) B (k + A.length)
 | [], B, k, w => by simp [mkw]
 | a :: A, B, k, w => by
  rw [List.cons_append, mkw, mkw_append A B, mkw]
  congr 1
  simp only [List.length_cons]
  omega
theorem mkw_one (w : World) (a : Addr) (k : Int) : mkw w [a] k = w.setCell a (.int .i64 k) := rfl
theorem mkw_out : ∀ (A : List Addr) (k : Int) (w : World) (b : Addr), b ∉ A → (mkw w A k).cell? b = w.cell? b
 | [], _, _, _, _ => rfl
 | a :: A, k, w, b, h => by
  simp only [List.mem_cons, not_or] at h
  rw [mkw, mkw_out A _ _ b h.2]
  exact World.cell?_setCell_other w a b _ (fun e => h.1 e.symm)
theorem mkw_size : ∀ (A : List Addr) (k : Int) (w : World), (mkw w A k).heap.size = w.heap.size
 | [], _, _ => rfl
 | a :: A, k, w => by rw [mkw, mkw_size A]; simp
theorem mkw_below {n : Nat} : ∀ (A : List Addr) (k : Int) (w v : World), (∀ a ∈ A, n ≤ a.block) → Below n w v → Below n w (mkw v A k)
 | [], _, _, _, _, h => h
 | a :: A, k, w, v, hA, h => mkw_below A _ w _ (fun x hx => hA x (List.mem_cons_of_mem _ hx)) (h.setCell (hA a (List.mem_cons_self ..)) _)
theorem mkw_at : ∀ (A : List Addr) (k : Int) (w : World), A.Nodup → (∀ a ∈ A, ∃ v, w.cell? a = some v) → ∀ i (hi : i < A.length), (mkw w A k).cell? A[i] = some (.int .i64 (k + i))
 | [], _, _, _, _, i, hi => by simp at hi
 | a :: A, k, w, hn, hc, i, hi => by
  have hn' := List.nodup_cons.1 hn
  obtain ⟨v, hv⟩ := hc a (List.mem_cons_self ..)
  cases i with
  | zero =>
   rw [mkw]
   show (mkw _ A _).cell? a = _
   rw [mkw_out A _ _ a hn'.1, World.cell?_setCell_same w a _ hv]
   simp
  | succ i =>
   have ih := mkw_at A (k + 1) (w.setCell a (.int .i64 k)) hn'.2 (fun x hx => by
    obtain ⟨u, hu⟩ := hc x (List.mem_cons_of_mem _ hx)
    exact cell?_setCell_some hu) i (by simp at hi; omega)
   rw [mkw]
   refine ih.trans ?_
   congr 2
   omega
def rowA (g o n s : Nat) : List Addr := (List.range n).map fun i => ⟨g, o + i * s, none⟩
theorem rowA_nodup (g o n s : Nat) (hs : 0 < s) : (rowA g o n s).Nodup := by
 unfold rowA
 rw [List.nodup_iff_pairwise_ne, List.pairwise_map]
 refine List.Pairwise.imp ?_ (List.nodup_iff_pairwise_ne.1 List.nodup_range)
 intro i j hij e
 injection e with _ e2 _
 exact hij (Nat.eq_of_mul_eq_mul_right hs (by omega))
theorem apart_of_blocks {A B : List Addr} (h : ∀ a ∈ A, ∀ b ∈ B, a.block ≠ b.block) (hA : A.Nodup) (hB : B.Nodup) : (A ++ B).Nodup := by
 rw [List.nodup_append]
 exact ⟨hA, hB, fun a ha b hb e => h a ha b hb (by rw [e])⟩
theorem mkw_froz : ∀ (A : List Addr) (k : Int) (w : World) (b : Addr), (mkw w A k).frozen? b = w.frozen? b
 | [], _, _, _ => rfl
 | a :: A, k, w, b => by rw [mkw, mkw_froz A]; exact World.frozen?_setCell ..
theorem rowA_len (g o n s : Nat) : (rowA g o n s).length = n := by simp [rowA]
theorem rowA_succ (g o n s : Nat) : rowA g o (n + 1) s = rowA g o n s ++ [⟨g, o + n * s, none⟩] := by simp [rowA, List.range_succ]
theorem rowA_out (g o n s : Nat) (hs : 0 < s) : (⟨g, o + n * s, none⟩ : Addr) ∉ rowA g o n s := by
 unfold rowA
 intro h
 obtain ⟨i, hi, e⟩ := List.mem_map.1 h
 injection e with _ e2 _
 have := Nat.eq_of_mul_eq_mul_right hs (show i * s = n * s by omega)
 simp at hi
 omega
end Go.Proofs.YtojhakjkfkmklaaGreatDoor
namespace Go.Proofs.YtojhakjkfkmklaaGreatDoor
open Go.RowKit
set_option linter.unusedVariables false
def OI (w : World) (lo : Nat) (a : Option Addr) (l : List Int) : Prop :=
 l.length ≤ 9223372036854775807 ∧ (l = [] ∨ ∃ g cur, a = some ⟨g, 0, none⟩ ∧ lo ≤ g ∧ w.heap[g]? = some (.cells cur 2 (0, 0)) ∧ ∀ i, i < l.length → cur[i]? = some (.int .i64 (l.getD i 0)))
theorem OI.keep {w w' : World} {lo : Nat} {a : Option Addr} {l : List Int} (h : OI w lo a l) (k : Agree lo w w') : OI w' lo a l := by
 obtain ⟨hm, h⟩ := h
 refine ⟨hm, ?_⟩
 rcases h with h | ⟨g, cur, ha, hl, hb, hc⟩
 ·exact .inl h
 ·exact .inr ⟨g, cur, ha, hl, (k.2 g hl (Array.getElem?_eq_some_iff.1 hb).1).trans hb, hc⟩
theorem OI.low {w : World} {lo lo' : Nat} {a : Option Addr} {l : List Int} (h : OI w lo a l) (k : lo' ≤ lo) : OI w lo' a l := by
 obtain ⟨hm, h⟩ := h
 refine ⟨hm, ?_⟩
 rcases h with h | ⟨g, cur, ha, hl, hb, hc⟩
 ·exact .inl h
 ·exact .inr ⟨g, cur, ha, Nat.le_trans k hl, hb, hc⟩
theorem OI.at {w : World} {lo : Nat} {a : Option Addr} {l : List Int} (h : OI w lo a l) : IntsAt w lo a l := by
 obtain ⟨hm, h⟩ := h
 refine ⟨hm, ?_⟩
 rcases h with h | ⟨g, cur, ha, hl, hb, hc⟩
 ·exact .inl h
 ·exact .inr ⟨g, 0, ha, hl, (Array.getElem?_eq_some_iff.1 hb).1, fun i hi => (cell_of_heap hb).trans (by simpa using hc i hi)⟩
def isI : Value → Bool | .int .i64 _ => true | _ => false
theorem isI_yes {v : Value} (h : isI v = true) : ∃ z, v = .int .i64 z := by
 unfold isI at h
 split at h
 ·exact ⟨_, rfl⟩
 ·cases h
def Cur (cur cur' : Array Value) : Prop := ∀ (j : Nat) (v : Value), cur[j]? = some v → ∃ v', cur'[j]? = some v' ∧ (isI v = true → isI v' = true) ∧ (isI v = false → v' = v)
theorem Cur.int {cur cur' : Array Value} (h : Cur cur cur') {j : Nat} {z : Int} (hj : cur[j]? = some (.int .i64 z)) : ∃ z : Int, cur'[j]? = some (.int .i64 z) := by
 obtain ⟨v', h1, h2, _⟩ := h j _ hj
 obtain ⟨y, rfl⟩ := isI_yes (h2 rfl)
 exact ⟨y, h1⟩
theorem Cur.slice {cur cur' : Array Value} (h : Cur cur cur') {j : Nat} {u : Option Addr} {n c : Nat} (hj : cur[j]? = some (.slice u n c)) : cur'[j]? = some (.slice u n c) := by
 obtain ⟨v', h1, _, h3⟩ := h j _ hj
 rw [h1, h3 rfl]
theorem Cur.refl (cur : Array Value) : Cur cur cur := fun _ v h => ⟨v, h, fun h => h, fun _ => rfl⟩
theorem Cur.trans {a b c : Array Value} (h : Cur a b) (k : Cur b c) : Cur a c := fun j v hv => by
 obtain ⟨v1, h1, h2, h3⟩ := h j v hv
 obtain ⟨v2, k1, k2, k3⟩ := k j v1 h1
 refine ⟨v2, k1, fun e => k2 (h2 e), fun e => ?_⟩
 have e1 := h3 e
 subst e1
 exact k3 e
theorem Cur.set {cur : Array Value} {o : Nat} {z : Int} (h : cur[o]? = some (.int .i64 z)) (y : Int) : Cur cur (cur.setIfInBounds o (.int .i64 y)) := fun j v hv => by
 by_cases e : o = j
 ·subst e
  rw [h] at hv
  cases hv
  have hlt := (Array.getElem?_eq_some_iff.1 h).1
  exact ⟨.int .i64 y, by simp [hlt], fun _ => rfl, fun e => by cases e⟩
 ·exact ⟨v, by rw [Array.getElem?_setIfInBounds_ne e]; exact hv, fun h => h, fun _ => rfl⟩
structure Hdr (lo hi : Nat) (w w' : World) : Prop where
 os : w'.os = w.os
 tape : w'.tape = w.tape
 output : w'.output = w.output
 size : w.heap.size ≤ w'.heap.size
 out : ∀ g : Nat, g < lo ∨ hi ≤ g → g < w.heap.size → w'.heap[g]? = w.heap[g]?
 cells : ∀ (g : Nat) (cur : Array Value) (T : TypeId), w.heap[g]? = some (.cells cur T (0, 0)) → ∃ cur', w'.heap[g]? = some (.cells cur' T (0, 0)) ∧ Cur cur cur'
theorem Hdr.refl (lo hi : Nat) (w : World) : Hdr lo hi w w := ⟨rfl, rfl, rfl, Nat.le_refl _, fun _ _ _ => rfl, fun _ cur _ h => ⟨cur, h, Cur.refl _⟩⟩
theorem Hdr.trans {lo hi : Nat} {a b c : World} (h : Hdr lo hi a b) (k : Hdr lo hi b c) : Hdr lo hi a c :=
 ⟨k.os.trans h.os, k.tape.trans h.tape, k.output.trans h.output, Nat.le_trans h.size k.size, fun g hg hl => (k.out g hg (Nat.lt_of_lt_of_le hl h.size)).trans (h.out g hg hl), fun g cur T hc => by
  obtain ⟨c1, h1, h2⟩ := h.cells g cur T hc
  obtain ⟨c2, k1, k2⟩ := k.cells g c1 T h1
  exact ⟨c2, k1, h2.trans k2⟩⟩
theorem Hdr.alloc (lo hi : Nat) (w : World) (o : Obj) : Hdr lo hi w (w.alloc o) :=
 ⟨rfl, rfl, rfl, by simp, fun g _ hl => Below.heap_alloc w o g hl, fun g cur T hc => ⟨cur, (Below.heap_alloc w o g (Array.getElem?_eq_some_iff.1 hc).1).trans hc, Cur.refl _⟩⟩
theorem Hdr.store {lo hi : Nat} {w w1 : World} (h : Hdr lo hi w w1) {g o : Nat} {cur : Array Value} {T : TypeId} {z : Int} (hc : w.heap[g]? = some (.cells cur T (0, 0))) (ho : cur[o]? = some (.int .i64 z)) (hl : lo ≤ g) (hh : g < hi) (y : Int) :
  Hdr lo hi w (w1.setCell ⟨g, o, none⟩ (.int .i64 y)) := by
 refine h.trans ⟨rfl, rfl, rfl, by simp [World.setCell], fun k hk _ => Below.heap_setCell _ _ _ _ (by show k ≠ g; omega), fun k c1 T1 h1 => ?_⟩
 by_cases e : k = g
 ·subst e
  obtain ⟨c2, h2, h3⟩ := h.cells k cur T hc
  rw [h2] at h1
  cases h1
  obtain ⟨z1, hz1⟩ := h3.int ho
  exact ⟨_, heap_set h2, Cur.set hz1 y⟩
 ·exact ⟨c1, (Below.heap_setCell _ _ _ _ (by show k ≠ g; omega)).trans h1, Cur.refl _⟩
theorem Hdr.cell {lo hi : Nat} {w w1 : World} (h : Hdr lo hi w w1) {g o : Nat} {cur : Array Value} {T : TypeId} {z : Int} (hc : w.heap[g]? = some (.cells cur T (0, 0))) (ho : cur[o]? = some (.int .i64 z)) :
  (∃ y : Int, w1.cell? ⟨g, o, none⟩ = some (.int .i64 y)) ∧ w1.frozen? ⟨g, o, none⟩ = false := by
 obtain ⟨c2, h2, h3⟩ := h.cells g cur T hc
 obtain ⟨z1, hz1⟩ := h3.int ho
 exact ⟨⟨z1, (cell_of_heap h2).trans hz1⟩, froz_of_heap h2⟩
theorem Hdr.head {lo hi : Nat} {w w1 : World} (h : Hdr lo hi w w1) {g o : Nat} {cur : Array Value} {T : TypeId} {u : Option Addr} {n c : Nat} (hc : w.heap[g]? = some (.cells cur T (0, 0))) (ho : cur[o]? = some (.slice u n c)) :
  w1.cell? ⟨g, o, none⟩ = some (.slice u n c) := by
 obtain ⟨c2, h2, h3⟩ := h.cells g cur T hc
 exact (cell_of_heap h2).trans (h3.slice ho)
def SI (w : World) (lo hi : Nat) (a : Option Addr) (n : Nat) : Prop :=
 n = 0 ∨ ∃ g cur, a = some ⟨g, 0, none⟩ ∧ lo ≤ g ∧ g < hi ∧ w.heap[g]? = some (.cells cur 2 (0, 0)) ∧ ∀ i, i < n → ∃ z : Int, cur[i]? = some (.int .i64 z)
theorem SI.keep {w w' : World} {lo hi : Nat} {a : Option Addr} {n : Nat} (h : SI w lo hi a n) (k : Hdr lo hi w w') : SI w' lo hi a n := by
 rcases h with h | ⟨g, cur, ha, hl, hh, hb, hc⟩
 ·exact .inl h
 ·obtain ⟨cur', hb', hi⟩ := k.cells g cur _ hb
  exact .inr ⟨g, cur', ha, hl, hh, hb', fun i hi' => by obtain ⟨z, hz⟩ := hc i hi'; exact hi.int hz⟩
structure Only (g : Nat) (w w' : World) : Prop where
 os : w'.os = w.os
 tape : w'.tape = w.tape
 output : w'.output = w.output
 size : w'.heap.size = w.heap.size
 other : ∀ k : Nat, k ≠ g → w'.heap[k]? = w.heap[k]?
theorem Only.refl (g : Nat) (w : World) : Only g w w := ⟨rfl, rfl, rfl, rfl, fun _ _ => rfl⟩
theorem Only.set {g : Nat} {w w1 : World} (h : Only g w w1) (o : Nat) (v : Value) : Only g w (w1.setCell ⟨g, o, none⟩ v) :=
 ⟨h.os, h.tape, h.output, by simp [World.setCell]; exact h.size, fun k hk => (Below.heap_setCell _ _ _ _ hk).trans (h.other k hk)⟩
def marks (k : Int) (n : Nat) : List Int := (List.range n).map fun i : Nat => k + (i : Int)
theorem agree_below {lo' : Nat} {a b c : World} (h : Agree lo' a b) (k : Below b.heap.size b c) : Agree lo' a c := h.trans (agree_of_below k _)
end Go.Proofs.YtojhakjkfkmklaaGreatDoor
namespace Go.Proofs.YtojhakjkfkmklaaGreatDoor
open Go.RowKit
set_option linter.unusedVariables false
set_option maxHeartbeats 1000000 in
theorem markW (g o c n : Nat) (k : Int) (w : World) (hn : n ≤ 1048576) (hk0 : 0 ≤ k) (hk : k ≤ 4611686018427387904) (hc : ∀ i, i < n → ∃ z : Int, w.cell? ⟨g, o + i, none⟩ = some (.int .i64 z)) (hf : ∀ i, i < n → w.frozen? ⟨g, o + i, none⟩ = false) :
  Calls Tryz.prog 73 #[.slice (some ⟨g, o, none⟩) n c, .int .i64 k] w fun e w' => e = .returned (.int .i64 (k + n)) ∧ w' = mkw w (rowA g o n 1) k := by
 have HC : Hid (∀ i, i < n → ∃ z : Int, w.cell? ⟨g, o + i, none⟩ = some (.int .i64 z)) := hc
 have HF : Hid (∀ i, i < n → w.frozen? ⟨g, o + i, none⟩ = false) := hf
 clear hc hf
 go_enter Tryz.func73, Tryz.ntmps73
 go_wp2_with fail
 go_loopw [1, 5] (fun q i wr => ∃ (j : Nat), j ≤ n ∧ i = .int .i64 j ∧ q = .int .i64 (k + j) ∧ Hid (wr = mkw w (rowA g o j 1) k)) (fun _ i _ => n - (intOf i).toNat)
 case atStart => exact ⟨0, by omega, rfl, by simp, rfl⟩
 case round =>
  obtain ⟨j, hj, rfl, rfl, HE⟩ := hrel
  by_cases hlt : j < n
  ·obtain ⟨z, hz⟩ := HC.out j hlt
   have e0 : (⟨g, o + j, none⟩ : Addr) = ⟨g, o + j * 1, none⟩ := by simp
   have e1 : wr.cell? ⟨g, o + j, none⟩ = some (.int .i64 z) := by
    rw [HE.out, mkw_out _ _ _ _ (by rw [e0]; exact rowA_out g o j 1 (by omega))]
    exact hz
   have e2 : wr.frozen? ⟨g, o + j, none⟩ = false := by
    rw [HE.out, mkw_froz]
    exact HF.out j hlt
   have HE2 : Hid (wr.setCell ⟨g, o + j, none⟩ (.int .i64 (k + j)) = mkw w (rowA g o (j + 1) 1) k) := by
    show _ = _
    rw [rowA_succ, mkw_append, ← HE.out, rowA_len, e0]
    rfl
   clear hz e0
   go_wp2_with fail
   go_roundw
   case rel => exact ⟨j + 1, by omega, by go_num, by refine congrArg (Value.int .i64) ?_; first | omega | (unfold wrap64; omega), HE2.out⟩
   case measure => simp [intOf]; omega
  ·have hke : j = n := by omega
   subst hke
   go_wp2_with fail
   go_ret
   exact ⟨rfl, HE.out⟩
end Go.Proofs.YtojhakjkfkmklaaGreatDoor
