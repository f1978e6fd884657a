import Derived.Test.YtkpmiikafconmaaGreatDoorReQV
import Derived.Test.YtkpmiikafconmaaGreatDoorMtCV
import Derived.Test.YtkpmiikafconmaaGreatDoorReKV
import Derived.Test.YtkpmiikafconmaaGreatDoorOwCV
namespace Go.Proofs.YtkpmiikafconmaaGreatDoor
open Go.RowKit
set_option linter.unusedVariables false
set_option linter.unusedSimpArgs false
def strR : Value → Nat
 | .string s => s.size
 | _ => 0
theorem lineH (R n : Nat) (p : PSt) (s : ByteArray) (w : World) (h : StH w R n p) (hn : n ≤ 20000) (hs : s.size ≤ 1048576) :
  Calls Tryz.prog 33 #[.pointer (some ⟨R, 0, none⟩), .string s] w fun e w' => LineT R n s p w e w' := by
 rcases h with ⟨fs, v, hc, rfl⟩ | ⟨T, fs, f, bs, x, v, ho, rfl⟩
 ·exact lineC R n fs v s w hc hn hs
 ·exact lineO R T n fs f bs x v s w ho hn hs
theorem StH.at_ {w : World} {R n : Nat} {p : PSt} (h : StH w R n p) (hn : n ≤ 1048576) : ∃ (u : Option Addr) (c : Nat) (b : Bool) (l : List FuncD), At w R #[.slice u l.length c, .bool b] 62 ∧ FuncsAt w (R + 1) u l ∧ SmMod l ∧ ∀ m, p = .cl m → m = l := by
 rcases h with ⟨fs, v, hc, rfl⟩ | ⟨T, fs, f, bs, x, v, ho, rfl⟩
 ·obtain ⟨u, c, rfl, h1, h2⟩ := hc.at_ hn
  refine ⟨u, c, false, fs.map FnE.d, by rw [List.length_map]; exact hc.box, h1, h2, fun m hm => ?_⟩
  unfold stC PSt.cl at hm
  cases hm
  rfl
 ·obtain ⟨u, c, rfl, h1, h2⟩ := ho.at_ hn
  refine ⟨u, c, true, (fs ++ [f]).map FnE.d, by rw [List.length_map]; exact ho.box, h1, h2, fun m hm => ?_⟩
  unfold stO PSt.op PSt.cl at hm
  cases hm
def LeftM (s rest : ByteArray) (p : PSt) : Prop := ∀ l, OkT s l → ∃ L : List Ln, rest.data.toList = L.flatMap lnT ∧ (∀ x ∈ L, (10 : UInt8) ∉ xLn x ∧ LineIs (bs (xLn x)) x ∧ LnOk x) ∧ Runs p L (.cl l)
theorem leftM_start (s : ByteArray) : LeftM s s (.cl []) := fun l hl => by
 refine ⟨modL l, ?_, fun x hx => ?_, runs_mod hl.1⟩
 ·rw [mod_lines, hl.2.1]
  rfl
 ·have hk := mod_lnok hl.1 x hx
  have hp := mod_plain x hx
  refine ⟨fun h => ?_, line_back hp.2 hk.s, hk⟩
  unfold xLn at h
  rcases List.mem_append.1 h with h | h
  ·exact hp.1 h
  ·exact nums_line hk.s h
theorem lnT_x (x : Ln) (r : List UInt8) : lnT x ++ r = xLn x ++ 10 :: r := by unfold lnT xLn; simp
theorem lines_ne {rest : ByteArray} {L : List Ln} (h : rest.data.toList = L.flatMap lnT) (hr : ¬ rest = ⟨#[]⟩) : ∃ x M, L = x :: M ∧ rest.data.toList = xLn x ++ 10 :: M.flatMap lnT := by
 cases L with
 | nil => exact absurd (ba_ext (by rw [h]; rfl)) hr
 | cons x M => exact ⟨x, M, rfl, by rw [h, List.flatMap_cons, lnT_x]⟩
theorem leftM_no {s rest : ByteArray} {p : PSt} (h : LeftM s rest p) (hr : ¬ rest = ⟨#[]⟩) (hi : Lib.indexB rest blankN = -1) : ¬ ∃ l, OkT s l := fun ⟨l, hl⟩ => by
 obtain ⟨L, h1, h2, _⟩ := h l hl
 obtain ⟨x, M, rfl, h3⟩ := lines_ne h1 hr
 rw [idx_byteN, h3, idx_atN _ _ (h2 x (List.mem_cons_self ..)).1] at hi
 omega
theorem leftM_yes {s rest : ByteArray} {p : PSt} {i : Nat} (h : LeftM s rest p) (hr : ¬ rest = ⟨#[]⟩) (hi : Lib.indexB rest blankN = i) : ∀ l, OkT s l → ∃ (x : Ln) (M : List Ln), LineIs (rest.extract 0 i) x ∧ LnOk x ∧ (rest.extract (i + 1) rest.size).data.toList = M.flatMap lnT ∧ (∀ x ∈ M, (10 : UInt8) ∉ xLn x ∧ LineIs (bs (xLn x)) x ∧ LnOk x) ∧ ∃ q, Step p x q ∧ Runs q M (.cl l) := fun l hl => by
 obtain ⟨L, h1, h2, h3⟩ := h l hl
 obtain ⟨x, M, rfl, h4⟩ := lines_ne h1 hr
 obtain ⟨k1, k2, k3⟩ := h2 x (List.mem_cons_self ..)
 have hl := hi
 rw [idx_byteN, h4, idx_atN _ _ k1] at hl
 have hl2 : (xLn x).length = i := by omega
 have e1 : rest.extract 0 i = bs (xLn x) := ba_ext (by
  rw [ext_data, h4, ← hl2]
  show _ = xLn x
  simp)
 have hz : rest.size = (xLn x).length + 1 + (M.flatMap lnT).length := by
  have := congrArg List.length h4
  simp only [List.length_append, List.length_cons] at this
  have e : rest.data.toList.length = rest.size := by simp
  omega
 refine ⟨x, M, by rw [e1]; exact k2, k3, ?_, fun y hy => h2 y (List.mem_cons_of_mem _ hy), h3⟩
 rw [ext_data, h4, hz, ← hl2, List.take_of_length_le (by simp)]
 rw [List.drop_append]
 simp
theorem leftM_step {s rest : ByteArray} {p q : PSt} {i : Nat} (h : LeftM s rest p) (hr : ¬ rest = ⟨#[]⟩) (hi : Lib.indexB rest blankN = i) (hq : ∀ x q', LineIs (rest.extract 0 i) x → LnOk x → Step p x q' → q' = q) : LeftM s (rest.extract (i + 1) rest.size) q := fun l hl => by
 obtain ⟨x, M, h1, h2, h3, h4, q', h5, h6⟩ := leftM_yes h hr hi l hl
 rw [hq x q' h1 h2 h5] at h6
 exact ⟨M, h3, h4, h6⟩
theorem leftM_bad {s rest : ByteArray} {p : PSt} {i : Nat} (h : LeftM s rest p) (hr : ¬ rest = ⟨#[]⟩) (hi : Lib.indexB rest blankN = i) (hq : ∀ x q', LineIs (rest.extract 0 i) x → LnOk x → ¬ Step p x q') : ¬ ∃ l, OkT s l := fun ⟨l, hl⟩ => by
 obtain ⟨x, M, h1, h2, _, _, q', h5, _⟩ := leftM_yes h hr hi l hl
 exact hq x q' h1 h2 h5
theorem leftM_end {s : ByteArray} {p : PSt} (h : LeftM s ⟨#[]⟩ p) {l : List FuncD} (hl : OkT s l) : p = .cl l := by
 obtain ⟨L, h1, _, h3⟩ := h l hl
 cases L with
 | nil => exact h3
 | cons x M =>
  have := congrArg List.length h1
  rw [List.flatMap_cons, lnT_x] at this
  simp at this
def MtGotS (s : ByteArray) (base : Nat) (e : Ending) (w : World) : Prop :=
 (∃ (l : List FuncD) (u : Option Addr) (c : Nat), OkT s l ∧ e = .returned (.tuple #[.agg #[.slice u l.length c], .bool true]) ∧ FuncsAt w base u l ∧ SmMod l) ∨ ((¬ ∃ l, OkT s l) ∧ e = .returned (.tuple #[.agg #[.slice none 0 0], .bool false]))
theorem at_end {s : ByteArray} {p : PSt} {l : List FuncD} (h : LeftM s ⟨#[]⟩ p) (hl : ∀ m, p = .cl m → m = l) : (∃ m, OkT s m) → OkT s l := fun ⟨m, hm⟩ => by
 have := hl m (leftM_end h hm)
 rw [this] at hm
 exact hm
theorem okt_text {s : ByteArray} {l : List FuncD} (hz : s.size ≤ 20000) (hs : ¬ s = ⟨#[]⟩) (h : modText l = s) : OkT s l := by
 unfold modText at h
 by_cases hm : modB l = true
 ·rw [if_pos hm] at h
  exact ⟨hm, h.symm, hz⟩
 ·rw [if_neg hm] at h
  exact absurd h.symm hs
theorem text_okt {s : ByteArray} {l : List FuncD} (h : OkT s l) : modText l = s := by
 unfold modText
 rw [if_pos h.1]
 exact h.2.1.symm
theorem okt_some {s : ByteArray} {l : List FuncD} (h : OkT s l) : ¬ s = ⟨#[]⟩ := fun e => by
 have h1 := leftM_end (p := .cl []) (s := s) (e ▸ leftM_start s) h
 unfold PSt.cl at h1
 cases h1
 exact absurd h.1 (by decide)
set_option maxHeartbeats 8000000 in
set_option maxRecDepth 100000 in
theorem readMS (s : ByteArray) (w : World) (hs : s.size ≤ 1048576) :
  Calls Tryz.prog 12 #[.string s] w fun e w' => MtGotS s w.heap.size e w' ∧ Below w.heap.size w w' := by
 have B1 : Below w.heap.size w ((w.alloc (.cells #[.slice none 0 0] 26)).alloc (.cells #[.slice none 0 0, .bool false] 62)) := ((Below.refl _ _).alloc (Nat.le_refl _) _).alloc (by simp) _
 have A1 : At ((w.alloc (.cells #[.slice none 0 0] 26)).alloc (.cells #[.slice none 0 0, .bool false] 62)) w.heap.size #[.slice none 0 0] 26 := (At.new _ _ _).below ((Below.refl _ _).alloc (Nat.le_refl _) _)
 have A2 : At ((w.alloc (.cells #[.slice none 0 0] 26)).alloc (.cells #[.slice none 0 0, .bool false] 62)) (w.heap.size + 1) #[.slice none 0 0, .bool false] 62 := by
  have h := At.new (w.alloc (.cells #[.slice none 0 0] 26)) #[.slice none 0 0, .bool false] 62
  have e : (w.alloc (.cells #[.slice none 0 0] 26)).heap.size = w.heap.size + 1 := by simp
  rw [e] at h
  exact h
 have HC : Hid (StH ((w.alloc (.cells #[.slice none 0 0] 26)).alloc (.cells #[.slice none 0 0, .bool false] 62)) (w.heap.size + 1) 0 (.cl [])) := .inl ⟨[], _, ⟨A2, RowS.nil _ _ _ _ _, fun f hf => (by cases hf), Nat.le_refl _, fun f hf => (by cases hf)⟩, rfl⟩
 have HB : Hid (Below w.heap.size w ((w.alloc (.cells #[.slice none 0 0] 26)).alloc (.cells #[.slice none 0 0, .bool false] 62))) := B1
 have HA : Hid (At ((w.alloc (.cells #[.slice none 0 0] 26)).alloc (.cells #[.slice none 0 0, .bool false] 62)) w.heap.size #[.slice none 0 0] 26) := A1
 have HL : Hid (LeftM s s (.cl [])) := leftM_start s
 clear B1 A1 A2
 go_enter Tryz.func12, Tryz.ntmps12
 go_wp2_with fail
 generalize ((w.alloc (.cells #[.slice none 0 0] 26)).alloc (.cells #[.slice none 0 0, .bool false] 62)) = W1 at HC HB HA ⊢
 go_loopw [5] (fun rs wr => ∃ (rest : ByteArray) (n : Nat) (p : PSt), rs = .string rest ∧ n + rest.size ≤ s.size ∧ (s.size ≤ 20000 ∨ p = .cl []) ∧ Hid (StH wr (w.heap.size + 1) n p) ∧ Hid (LeftM s rest p) ∧ Hid (At wr w.heap.size #[.slice none 0 0] 26) ∧ Hid (Below w.heap.size w wr)) (fun rs _ => strR rs)
 case atStart => exact ⟨s, 0, .cl [], rfl, by omega, .inr rfl, HC.out, HL.out, HA.out, HB.out⟩
 case round =>
  clear HC HL HA HB
  obtain ⟨rest, n, p, rfl, hnz, hsz, HC, HL, HA, HB⟩ := hrel
  obtain ⟨w4, hwo⟩ : ∃ w1, w1 = wr := ⟨_, rfl⟩
  subst hwo
  have hw4 : w.heap.size + 1 < w4.heap.size := by
   obtain ⟨_, _, _, _, h, _⟩ := HC.out.at_ (by omega)
   exact h.lt
  by_cases hgo : ¬ rest = ⟨#[]⟩ ∧ s.size ≤ 20000
  ·obtain ⟨hr, hz⟩ := hgo
   have q0 : (rest.toList == []) = false := beq_eq_false_iff_ne.2 fun e => hr (ba_ext (by rw [← ByteArray.toList_eq, e]))
   have q1 : (s.size : Int) ≤ 20000 := by omega
   rcases Lib.indexB_cases rest blankN with hi | ⟨i, hi, hil⟩
   ·have C := cutS_noN rest w4 (by omega) hi
    have HNo : Hid (¬ ∃ l, OkT s l) := leftM_no HL.out hr hi
    have z0 : w4.cell? ⟨w.heap.size, 0, none⟩ = some (.slice none 0 0) := HA.out.cell 0
    clear HL hr
    go_wp2_with fail
    refine C.mono ?_
    rintro e w5 ⟨rfl, b5⟩
    have HA5 : Hid (At w5 w.heap.size #[.slice none 0 0] 26) := HA.out.below b5
    have HB5 : Hid (Below w.heap.size w w5) := HB.out.trans (b5.mono (by omega))
    have zf : ∀ o, w5.frozen? ⟨w.heap.size, o, none⟩ = false := fun o => froz_of_heap HA5.out
    have z5 : w5.cell? ⟨w.heap.size, 0, none⟩ = some (.slice none 0 0) := HA5.out.cell 0
    clear C b5 HA HB HC z0
    go_wp2_with fail
    have hrr := heap_set (o := 0) (v := .slice none 0 0) HA5.out
    exact bodyPost_ret (v := .tuple #[.agg #[.slice none 0 0], .bool false]) ((results_row_tmp Tryz.results12 _ _ w.heap.size _ rfl (run_loadVar_row _ _ 26 _ _ (0, 0) _ hrr Tryz.underlying26 rfl (by kernel_rfl))).trans (by rfl)) rfl ⟨.inr ⟨HNo.out, rfl⟩, HB5.out.setCell (Nat.le_refl _) _⟩
   ·have C := cutS_yesN rest i w4 (by omega) hi
    have hilt : i < rest.size := by have := blank_sizeN; omega
    have h1z : (rest.extract 0 i).size ≤ 1048576 := by rw [ByteArray.size_extract]; omega
    have h2z : (rest.extract (i + 1) rest.size).size + 1 ≤ rest.size := by rw [ByteArray.size_extract]; omega
    have HL1 : Hid (∀ q, (∀ x q', LineIs (rest.extract 0 i) x → LnOk x → Step p x q' → q' = q) → LeftM s (rest.extract (i + 1) rest.size) q) := fun q hq => leftM_step HL.out hr hi hq
    have HL2 : Hid ((∀ x q', LineIs (rest.extract 0 i) x → LnOk x → ¬ Step p x q') → ¬ ∃ l, OkT s l) := fun hq => leftM_bad HL.out hr hi hq
    clear HL hr hi
    generalize rest.extract 0 i = line at *
    generalize hmo : rest.extract (i + 1) rest.size = more at *
    clear hmo
    go_wp2_with fail
    refine C.mono ?_
    rintro e w5 ⟨rfl, b5⟩
    have HA5 : Hid (At w5 w.heap.size #[.slice none 0 0] 26) := HA.out.below b5
    have HB5 : Hid (Below w.heap.size w w5) := HB.out.trans (b5.mono (by omega))
    have HC5 : Hid (StH w5 (w.heap.size + 1) n p) := HC.out.keep b5
    have LH := lineH (w.heap.size + 1) n p line w5 HC5.out (by omega) h1z
    have hz5 := b5.size
    clear C b5 HA HB HC
    go_wp2_with fail
    refine LH.mono ?_
    rintro e w6 ⟨hc, b6⟩
    have HA6 : Hid (At w6 w.heap.size #[.slice none 0 0] 26) := (b6.block _ (by omega)).trans HA5.out
    have HB6 : Hid (Below w.heap.size w w6) := HB5.out.trans (b6.mono (by omega))
    clear LH b6 HA5 HB5 HC5
    rcases hc with ⟨q, rfl, hq, hst⟩ | ⟨rfl, hst⟩
    ·have HC6 : Hid (StH w6 (w.heap.size + 1) (n + 1) q) := hq
     have HL6 : Hid (LeftM s more q) := HL1.out q hst
     clear hq hst HL1 HL2
     go_wp2_with fail
     go_roundw
     case rel => exact ⟨more, n + 1, q, rfl, by omega, .inl hz, HC6.out, HL6.out, HA6.out, HB6.out⟩
     case measure => simp [strR]; omega
    ·have HNo : Hid (¬ ∃ l, OkT s l) := HL2.out hst
     have zf : ∀ o, w6.frozen? ⟨w.heap.size, o, none⟩ = false := fun o => froz_of_heap HA6.out
     have z0 : w6.cell? ⟨w.heap.size, 0, none⟩ = some (.slice none 0 0) := HA6.out.cell 0
     clear hst HL1 HL2
     go_wp2_with fail
     have hrr := heap_set (o := 0) (v := .slice none 0 0) HA6.out
     exact bodyPost_ret (v := .tuple #[.agg #[.slice none 0 0], .bool false]) ((results_row_tmp Tryz.results12 _ _ w.heap.size _ rfl (run_loadVar_row _ _ 26 _ _ (0, 0) _ hrr Tryz.underlying26 rfl (by kernel_rfl))).trans (by rfl)) rfl ⟨.inr ⟨HNo.out, rfl⟩, HB6.out.setCell (Nat.le_refl _) _⟩
  ·obtain ⟨u, c, b, l, k1, k2, k3, k4⟩ := HC.out.at_ (by omega)
   have HY : Hid (¬ s = ⟨#[]⟩ → modText l = s → OkT s l) := fun hne hm => by
    rcases hsz with hz | hp
    ·exact okt_text hz hne hm
    ·have := k4 [] hp
     subst this
     exact absurd hm.symm hne
   have HN : Hid ((∃ m, OkT s m) → OkT s l) := fun ⟨m, hm⟩ => by
    have hr : rest = ⟨#[]⟩ := Classical.byContradiction fun hr => hgo ⟨hr, hm.2.2⟩
    have h := HL.out
    rw [hr] at h
    exact at_end h k4 ⟨m, hm⟩
   have HR : Hid (At w4 (w.heap.size + 1) #[.slice u l.length c, .bool b] 62) := k1
   have c0 : w4.cell? ⟨w.heap.size + 1, 0, none⟩ = some (.slice u l.length c) := k1.cell 0
   have M := modTextS (w.heap.size + 1 + 1) l u c w4 k3 k2
   have HK : Hid (FuncsAt w4 (w.heap.size + 1 + 1) u l) := k2
   have HSm : Hid (SmMod l) := k3
   have z4 : w4.cell? ⟨w.heap.size, 0, none⟩ = some (.slice none 0 0) := HA.out.cell 0
   have zf4 : ∀ o, w4.frozen? ⟨w.heap.size, o, none⟩ = false := fun o => froz_of_heap HA.out
   have qgo : (rest.toList == []) = true ∨ ((rest.toList == []) = false ∧ ¬ (s.size : Int) ≤ 20000) := by
    by_cases hr : rest = ⟨#[]⟩
    ·left
     rw [hr, ByteArray.toList_eq]
     rfl
    ·right
     exact ⟨beq_eq_false_iff_ne.2 fun e => hr (ba_ext (by rw [← ByteArray.toList_eq, e])), fun h => hgo ⟨hr, by omega⟩⟩
   clear k1 k2 k3 k4 HC HL hgo hsz
   by_cases hne : s = ⟨#[]⟩
   ·have p0 : (s.toList == []) = true := by rw [hne, ByteArray.toList_eq]; rfl
    have HNo : Hid (¬ ∃ l, OkT s l) := fun ⟨m, hm⟩ => okt_some hm hne
    clear hne HY HN M
    rcases qgo with q0 | ⟨q0, q1⟩
    all_goals
     go_wp2_with fail
     have hrr := heap_set (o := 0) (v := .slice none 0 0) HA.out
     exact bodyPost_ret (v := .tuple #[.agg #[.slice none 0 0], .bool false]) ((results_row_tmp Tryz.results12 _ _ w.heap.size _ rfl (run_loadVar_row _ _ 26 _ _ (0, 0) _ hrr Tryz.underlying26 rfl (by kernel_rfl))).trans (by rfl)) rfl ⟨.inr ⟨HNo.out, rfl⟩, HB.out.setCell (Nat.le_refl _) _⟩
   ·have p0 : (s.toList == []) = false := beq_eq_false_iff_ne.2 fun e => hne (ba_ext (by rw [← ByteArray.toList_eq, e]))
    have HY2 : Hid (modText l = s → OkT s l) := HY.out hne
    clear hne HY
    have HTE : Hid (OkT s l → modText l = s) := fun h => text_okt h
    generalize modText l = t at *
    rcases qgo with q0 | ⟨q0, q1⟩
    all_goals
     go_wp2_with fail
     refine M.mono ?_
     rintro e w5 ⟨rfl, b5⟩
     have HA5 : Hid (At w5 w.heap.size #[.slice none 0 0] 26) := HA.out.below b5
     have HR5 : Hid (At w5 (w.heap.size + 1) #[.slice u l.length c, .bool b] 62) := HR.out.below b5
     have HB5 : Hid (Below w.heap.size w w5) := HB.out.trans (b5.mono (by omega))
     have HK5 : Hid (FuncsAt w5 (w.heap.size + 1 + 1) u l) := HK.out.keep (agree_of_below b5 _)
     have zf : ∀ o, w5.frozen? ⟨w.heap.size, o, none⟩ = false := fun o => froz_of_heap HA5.out
     have z0 : w5.cell? ⟨w.heap.size, 0, none⟩ = some (.slice none 0 0) := HA5.out.cell 0
     have r0 : w5.cell? ⟨w.heap.size + 1, 0, none⟩ = some (.slice u l.length c) := HR5.out.cell 0
     clear M b5 HA HR HB HK c0 z4 zf4
     by_cases hts : t = s
     ·have HOk : Hid (OkT s l) := HY2.out hts
      have p1 : (t.toList == s.toList) = true := by rw [hts]; exact beq_self_eq_true _
      clear hts HY2 HN
      go_wp2_with fail
      have hrr := heap_set (o := 0) (v := .slice u l.length c) HA5.out
      exact bodyPost_ret (v := .tuple #[.agg #[.slice u l.length c], .bool true]) ((results_row_tmp Tryz.results12 _ _ w.heap.size _ rfl (run_loadVar_row _ _ 26 _ _ (0, 0) _ hrr Tryz.underlying26 rfl (by kernel_rfl))).trans (by rfl)) rfl ⟨.inl ⟨l, u, c, HOk.out, rfl, (HK5.out.keep (agree_setCell _ _ _ _ _ (by omega))).low (by omega), HSm.out⟩, HB5.out.setCell (Nat.le_refl _) _⟩
     ·have HNo : Hid (¬ ∃ l, OkT s l) := fun h => hts (HTE.out (HN.out h))
      have p1 : (t.toList == s.toList) = false := beq_eq_false_iff_ne.2 fun e => hts (ba_ext (by rw [← ByteArray.toList_eq, e, ByteArray.toList_eq]))
      clear hts HY2 HN
      go_wp2_with fail
      have hrr := heap_set (o := 0) (v := .slice none 0 0) HA5.out
      exact bodyPost_ret (v := .tuple #[.agg #[.slice none 0 0], .bool false]) ((results_row_tmp Tryz.results12 _ _ w.heap.size _ rfl (run_loadVar_row _ _ 26 _ _ (0, 0) _ hrr Tryz.underlying26 rfl (by kernel_rfl))).trans (by rfl)) rfl ⟨.inr ⟨HNo.out, rfl⟩, HB5.out.setCell (Nat.le_refl _) _⟩
end Go.Proofs.YtkpmiikafconmaaGreatDoor
namespace Go.Proofs.YtkpmiikafconmaaGreatDoor
open Go.RowKit
set_option linter.unusedVariables false
set_option linter.unusedSimpArgs false
theorem cell_lt {w : World} {a : Addr} {v : Value} (h : w.cell? a = some v) : a.block < w.heap.size := by
 rcases Nat.lt_or_ge a.block w.heap.size with h' | h'
 ·exact h'
 ·unfold World.cell? at h
  simp [Array.getElem?_eq_none h'] at h
theorem cell_kp {w w' : World} (k : Below w.heap.size w w') {a : Addr} {v : Value} (h : w.cell? a = some v) : w'.cell? a = some v ∧ w'.frozen? a = w.frozen? a :=
 ⟨(k.cell (cell_lt h)).trans h, k.frozen (cell_lt h)⟩
theorem int_kp {w w' : World} (k : Below w.heap.size w w') {a : Addr} (h : (∃ z : Int, w.cell? a = some (.int .i64 z)) ∧ w.frozen? a = false) : (∃ z : Int, w'.cell? a = some (.int .i64 z)) ∧ w'.frozen? a = false := by
 obtain ⟨⟨z, h1⟩, h2⟩ := h
 exact ⟨⟨z, (cell_kp k h1).1⟩, (cell_kp k h1).2.trans h2⟩
theorem IntR.kp {w w' : World} {u : Option Addr} {n : Nat} (h : IntR w u n) (k : Below w.heap.size w w') : IntR w' u n := by
 refine ⟨h.1, ?_⟩
 rcases h.2 with h | ⟨g, o, e, h⟩
 ·exact .inl h
 ·exact .inr ⟨g, o, e, fun i hi => int_kp k (h i hi)⟩
theorem OwnR.kp {w w' : World} {g o s n : Nat} {F : List Nat} (h : OwnR w g o s F n) (k : Below w.heap.size w w') : OwnR w' g o s F n := fun i hi f hf => int_kp k (h i hi f hf)
theorem HdrR.kp {K : List Addr} {w w' : World} {g o s f : Nat} {hs : List (Option Addr × Nat)} (h : HdrR K w g o s f hs) (k : Below w.heap.size w w') : HdrR K w' g o s f hs := fun i hi => by
 obtain ⟨⟨c, h1⟩, h2, h3⟩ := h i hi
 exact ⟨⟨c, (cell_kp k h1).1⟩, h2, h3.kp k⟩
theorem StrR.kp {K : List Addr} {w w' : World} {s f : Nat} {F : List Nat} {u : Option Addr} {hs : List (Option Addr × Nat)} (h : StrR K w s f F u hs) (k : Below w.heap.size w w') : StrR K w' s f F u hs := by
 refine ⟨h.1, ?_⟩
 rcases h.2 with h | ⟨g, o, e, h1, h2⟩
 ·exact .inl h
 ·exact .inr ⟨g, o, e, h1.kp k, h2.kp k⟩
theorem BlsR.kp {K : List Addr} {w w' : World} {u : Option Addr} {bs : List BlkH} (h : BlsR K w u bs) (k : Below w.heap.size w w') : BlsR K w' u bs := by
 refine ⟨h.1, ?_⟩
 rcases h.2 with h | ⟨g, o, e, h1, h2⟩
 ·exact .inl h
 ·refine .inr ⟨g, o, e, h1.kp k, fun i hi => ?_⟩
  obtain ⟨⟨c, k1⟩, k2, ⟨d, k3⟩, k4, k5, k6⟩ := h2 i hi
  exact ⟨⟨c, (cell_kp k k1).1⟩, k2, ⟨d, (cell_kp k k3).1⟩, k4, k5.kp k, k6.kp k⟩
theorem FusR.kp {K : List Addr} {w w' : World} {u : Option Addr} {fs : List FunH} (h : FusR K w u fs) (k : Below w.heap.size w w') : FusR K w' u fs := by
 refine ⟨h.1, ?_⟩
 rcases h.2 with h | ⟨g, o, e, h1, h2⟩
 ·exact .inl h
 ·refine .inr ⟨g, o, e, h1.kp k, fun i hi => ?_⟩
  obtain ⟨⟨c, k1⟩, k2, ⟨d, k3⟩, k4, k5, k6⟩ := h2 i hi
  exact ⟨⟨c, (cell_kp k k1).1⟩, k2, ⟨d, (cell_kp k k3).1⟩, k4, k5.kp k, k6.kp k⟩
theorem Hlds.kp {w w' : World} {A : List Addr} {k : Int} (h : Hlds w A k) (b : Below w.heap.size w w') : Hlds w' A k := fun i a ha => (cell_kp b (h i a ha)).1
theorem mkw_other : ∀ (A : List Addr) (k : Int) (w : World) (b : Nat), (∀ a ∈ A, a.block ≠ b) → (mkw w A k).heap[b]? = w.heap[b]?
 | [], _, _, _, _ => rfl
 | a :: A, k, w, b, h => by
  rw [mkw, mkw_other A _ _ b (fun x hx => h x (List.mem_cons_of_mem _ hx))]
  exact Below.heap_setCell _ _ _ _ (fun e => h a (List.mem_cons_self ..) e.symm)
theorem strA_bound {g s m : Nat} {F : List Nat} : ∀ (l : List (List Addr × List Addr)) (o : Nat), (∀ q ∈ l, q.1.length + q.2.length ≤ m) → (strA g s F o l).length ≤ l.length * (F.length + m)
 | [], _, _ => by simp [strA]
 | (P, Q) :: l, o, h => by
  have h1 := h (P, Q) (List.mem_cons_self ..)
  have h2 := strA_bound (g := g) (s := s) (F := F) l (o + s) (fun q hq => h q (List.mem_cons_of_mem _ hq))
  rw [strA, List.length_append, List.length_append, List.length_append, List.length_map, List.length_cons, Nat.succ_mul]
  dsimp only at h1
  omega
theorem rowH_le (u : Option Addr) (n : Nat) : (rowH u n).length ≤ n := by
 cases u with
 | none => simp [rowH]
 | some p => show (rowA _ _ _ _).length ≤ n; rw [rowA_len]; exact Nat.le_refl _
theorem strO_bound {s m n : Nat} {F : List Nat} (u : Option Addr) (hs : List (Option Addr × Nat)) (h : ∀ x ∈ hs, x.2 ≤ m) (hn : hs.length ≤ n) : (strO s F u hs).length ≤ n * (F.length + m) := by
 cases u with
 | none => simp [strO]
 | some p =>
  have := strA_bound (g := p.block) (s := s) (F := F) (m := m) (rowsQ hs) p.off (fun q hq => by
   obtain ⟨x, hx, rfl⟩ := List.mem_map.1 hq
   have := rowH_le x.1 x.2
   have := h x hx
   simp only [List.length_nil]
   omega)
  rw [show (rowsQ hs).length = hs.length from List.length_map ..] at this
  exact Nat.le_trans this (Nat.mul_le_mul_right _ hn)
theorem args_lenT {d : InstD} {ids funcs : Int} (h : instB d ids funcs = true) : d.args.length ≤ 4 := by
 simp only [instB, Bool.and_eq_true] at h
 have hf := h.1.2
 unfold fB at hf
 split at hf
 ·simp only [Bool.and_eq_true, decide_eq_true_eq] at hf
  exact hf.1.1.1
 ·simp only [Bool.and_eq_true, decide_eq_true_eq] at hf
  omega
def FitBT (b : BlockD) : Prop := b.phis.length ≤ 60 ∧ (∀ p ∈ b.phis, p.ins.length ≤ 10) ∧ b.insts.length ≤ 60 ∧ ∀ i ∈ b.insts, i.args.length ≤ 4
def FitFT (d : FuncD) : Prop := d.params.length ≤ 4 ∧ d.blocks.length ≤ 10 ∧ ∀ b ∈ d.blocks, FitBT b
theorem modT_parts {l : List FuncD} (h : modB l = true) : l.length ≤ 3 ∧ ∀ d ∈ l, funcB l.length d = true := by
 simp only [modB, Bool.and_eq_true, decide_eq_true_eq] at h
 exact ⟨h.1.2, fun d hd => List.all_eq_true.1 h.2 d hd⟩
theorem cntT_parts {d : FuncD} (b : BlockD) (h : b ∈ d.blocks) : b.phis.length + b.insts.length ≤ cntF d := by
 have key : ∀ (l : List BlockD), b ∈ l → b.phis.length + b.insts.length ≤ cntL l := by
  intro l
  induction l with
  | nil => intro h; cases h
  | cons x r ih =>
   intro h
   have e : cntL (x :: r) = cntB x + cntL r := rfl
   rcases List.mem_cons.1 h with rfl | h
   ·rw [e]; unfold cntB; omega
   ·have := ih h
    rw [e]; omega
 have := key d.blocks h
 unfold cntF
 omega
theorem fitT_mod {l : List FuncD} (h : modB l = true) : ∀ d ∈ l, FitFT d := fun d hd => by
 obtain ⟨_, h2⟩ := modT_parts h
 have h3 := h2 d hd
 simp only [funcB, Bool.and_eq_true, decide_eq_true_eq] at h3
 obtain ⟨⟨⟨⟨⟨⟨k1, _⟩, _⟩, _⟩, k5⟩, k6⟩, k7⟩ := h3
 refine ⟨k1, k5, fun b hb => ?_⟩
 have hc := cntT_parts b hb
 have h4 := List.all_eq_true.1 k7 b hb
 simp only [blockB, Bool.and_eq_true] at h4
 refine ⟨by unfold cntF at *; omega, fun p hpp => ?_, by unfold cntF at *; omega, fun i hi => args_lenT (List.all_eq_true.1 h4.1.2 i hi)⟩
 have h5 := List.all_eq_true.1 h4.1.1 p hpp
 simp only [phiB, Bool.and_eq_true, decide_eq_true_eq] at h5
 exact h5.1.2
theorem marksT_few {es : List FnE} (u : Option Addr) (h3 : es.length ≤ 3) (h : ∀ f ∈ es, FitFT f.d) : (strF u (es.map FnE.h)).length ≤ 40000 := by
 cases u with
 | none => simp [strF]
 | some p =>
  have := strA_bound (g := p.block) (s := 3) (F := [1]) (m := 12644) (funsQ (es.map FnE.h)) p.off (fun q hq => by
   obtain ⟨x, hx, rfl⟩ := List.mem_map.1 hq
   obtain ⟨f, hf, rfl⟩ := List.mem_map.1 hx
   obtain ⟨k1, k2, k3⟩ := h f hf
   have g1 := rowH_le f.pu f.pars.length
   have k1' : f.pars.length ≤ 4 := k1
   have k2' : f.bs.length ≤ 10 := by have : (f.bs.map BkE.d).length ≤ 10 := k2; rwa [List.length_map] at this
   have g2 : (strB f.bu (f.bs.map BkE.h)).length ≤ 12640 := by
    cases hbu : f.bu with
    | none => simp [strB]
    | some q =>
     have := strA_bound (g := q.block) (s := 6) (F := [2, 3, 4, 5]) (m := 1260) (blksQ (f.bs.map BkE.h)) q.off (fun y hy => by
      obtain ⟨z, hz, rfl⟩ := List.mem_map.1 hy
      obtain ⟨b, hb, rfl⟩ := List.mem_map.1 hz
      obtain ⟨m1, m2, m3, m4⟩ := k3 b.d (List.mem_map.2 ⟨b, hb, rfl⟩)
      have m1' : b.ps.length ≤ 60 := by have : (b.ps.map (·.1)).length ≤ 60 := m1; rwa [List.length_map] at this
      have m3' : b.is.length ≤ 60 := by have : (b.is.map (·.1)).length ≤ 60 := m3; rwa [List.length_map] at this
      have n1 := strO_bound (s := 2) (m := 10) (n := 60) (F := [0]) b.pu (b.ps.map PhE.h) (fun x hx => by
       obtain ⟨e, he, rfl⟩ := List.mem_map.1 hx
       exact m2 e.1 (List.mem_map.2 ⟨e, he, rfl⟩)) (by rw [List.length_map]; exact m1')
      have n2 := strO_bound (s := 7) (m := 4) (n := 60) (F := [0, 1, 2, 3, 4, 5]) b.iu (b.is.map InE.h) (fun x hx => by
       obtain ⟨e, he, rfl⟩ := List.mem_map.1 hx
       exact m4 e.1 (List.mem_map.2 ⟨e, he, rfl⟩)) (by rw [List.length_map]; exact m3')
      show (blkA b.h).length + ([] : List Addr).length ≤ 1260
      have e : blkA b.h = strO 2 [0] b.pu (b.ps.map PhE.h) ++ strO 7 [0, 1, 2, 3, 4, 5] b.iu (b.is.map InE.h) := rfl
      rw [e, List.length_append]
      simp only [List.length_nil, List.length_cons] at n1 n2 ⊢
      omega)
     have e1 : (blksQ (f.bs.map BkE.h)).length = f.bs.length := by simp [blksQ]
     rw [e1] at this
     show (strA q.block 6 [2, 3, 4, 5] q.off (blksQ (f.bs.map BkE.h))).length ≤ _
     have := Nat.le_trans this (Nat.mul_le_mul_right _ k2')
     simpa using this
   show (rowH f.pu f.pars.length).length + (strB f.bu (f.bs.map BkE.h)).length ≤ _
   omega)
  have e1 : (funsQ (es.map FnE.h)).length = es.length := by simp [funsQ]
  rw [e1] at this
  show (strA p.block 3 [1] p.off (funsQ (es.map FnE.h))).length ≤ _
  have := Nat.le_trans this (Nat.mul_le_mul_right _ h3)
  simp at this
  omega
def MTold (w : World) (base : Nat) (l : List FuncD) (ok : Bool) (e : Ending) : Prop := ∃ u c, e = .returned (.tuple #[.agg #[.slice u l.length c], .bool ok]) ∧ FuncsAt w base u l
def MOwn (w : World) (base : Nat) (l : List FuncD) (ok : Bool) (e : Ending) : Prop := ∃ fs u c, fs.map FnE.d = l ∧ e = .returned (.tuple #[.agg #[.slice u fs.length c], .bool ok]) ∧ OwnFns w base w.heap.size u fs
theorem uniM (s : ByteArray) : ∃ (l : List FuncD) (ok : Bool), (l.length ≤ 3 ∧ ∀ d ∈ l, FitFT d) ∧ (∀ base w e, MtGotS s base e w → MTold w base l ok e) ∧ (∀ base w e, base ≤ w.heap.size → MtGot s base e w → MOwn w base l ok e) := by
 by_cases h : ∃ l, OkT s l
 ·obtain ⟨l, hl⟩ := h
  refine ⟨l, true, ⟨(modT_parts hl.1).1, fitT_mod hl.1⟩, ?_, ?_⟩
  ·rintro base w e (⟨l', u, c, h1, he, h2, _⟩ | ⟨hn, _⟩)
   ·obtain rfl := okt_one hl h1
    exact ⟨u, c, he, h2⟩
   ·exact absurd ⟨l, hl⟩ hn
  ·rintro base w e _ (⟨fs, u, c, h1, he, h2⟩ | ⟨hn, _⟩)
   ·exact ⟨fs, u, c, okt_one h1 hl, he, h2⟩
   ·exact absurd ⟨l, hl⟩ hn
 ·refine ⟨[], false, ⟨by simp, fun d hd => by cases hd⟩, ?_, ?_⟩
  ·rintro base w e (⟨l', u, c, h1, _⟩ | ⟨_, he⟩)
   ·exact absurd ⟨l', h1⟩ h
   ·exact ⟨none, 0, he, by simp, .inl rfl⟩
  ·rintro base w e hb (⟨fs, u, c, h1, _⟩ | ⟨_, he⟩)
   ·exact absurd ⟨_, h1⟩ h
   ·exact ⟨[], none, 0, rfl, he, OwnL.none hb⟩
end Go.Proofs.YtkpmiikafconmaaGreatDoor
