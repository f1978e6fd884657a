import Derived.Test.YtojhakjkfkmklaaGreatDoorRbLV
import Derived.Test.YtojhakjkfkmklaaGreatDoorRbOV
import Derived.Test.YtojhakjkfkmklaaGreatDoorRpIV
import Derived.Test.YtojhakjkfkmklaaGreatDoorFmIV
import Derived.Test.YtojhakjkfkmklaaGreatDoorOwBV
namespace Go.Proofs.YtojhakjkfkmklaaGreatDoor
open Go.RowKit
set_option linter.unusedVariables false
set_option linter.unusedSimpArgs false
def ModTold (s : ByteArray) (a : Addr) (lo : Nat) (e : Ending) (w' : World) : Prop :=
 (∃ (fs : List FnE) (u : Option Addr) (c : Nat), OkM s (fs.map FnE.d) ∧ e = .returned (.agg #[.slice u fs.length c]) ∧ OwnFns w' lo w'.heap.size u fs) ∨ ((¬ ∃ l, OkM s l) ∧ Gone a e)
theorem bad_no {s : ByteArray} (h : BadB s) : ¬ ∃ l, OkM s l := okm_no (by
 rintro ⟨h1, h2, h3⟩
 rcases h with h | h | h
 ·omega
 ·omega
 ·exact h h3)
structure YSt (w wr : World) (a0 : Addr) (R Bm : Nat) (v : Value) (L : List Int) : Prop where
 box : At wr Bm #[v] 26
 res : At wr w.heap.size #[.slice none 0 0] 26
 rw_ : RwIn Bm wr R L
 fit : Fit L
 below : Below w.heap.size w wr
 gv : Gv wr 0 (errV a0)
 ltR : w.heap.size < R
 lt : R < Bm
 ltG : 0 < w.heap.size
theorem YSt.step {w wr w2 : World} {a0 : Addr} {R Bm : Nat} {v : Value} {L L2 : List Int} (h : YSt w wr a0 R Bm v L) (ho : OnlyR R wr w2) (hr : RwIn Bm w2 R L2) (hf : Fit L2) : YSt w w2 a0 R Bm v L2 :=
 ⟨(ho.block _ h.box.lt (by have := h.lt; omega)).trans h.box, (ho.block _ h.res.lt (by have := h.ltR; omega)).trans h.res, hr, hf, h.below.trans (ho.down (Nat.le_of_lt h.ltR) h.below.size), h.gv.only ho (by have := h.ltR; have := h.ltG; omega), h.ltR, h.lt, h.ltG⟩
theorem YSt.bel {w wr w2 : World} {a0 : Addr} {R Bm : Nat} {v : Value} {L : List Int} (h : YSt w wr a0 R Bm v L) (ho : OnlyR R wr w2) : Below w.heap.size w w2 := h.below.trans (ho.down (Nat.le_of_lt h.ltR) h.below.size)
theorem YSt.keep {w wr w2 : World} {a0 : Addr} {R Bm : Nat} {v : Value} {L : List Int} (h : YSt w wr a0 R Bm v L) (k : Below wr.heap.size wr w2) : YSt w w2 a0 R Bm v L :=
 h.step (OnlyR.below k) (h.rw_.keep k) h.fit
theorem YSt.grown {w wr w2 : World} {a0 : Addr} {R Bm : Nat} {v : Value} {L : List Int} {r : Option Nat} (h : YSt w wr a0 R Bm v L) (k : wr.grownBy w2 r) (hr : ∀ g, r = some g → Bm + 1 ≤ g) : YSt w w2 a0 R Bm v L := by
 have low : ∀ b, b < Bm + 1 → w2.heap[b]? = wr.heap[b]? := fun b hb => k.block b (by have := h.box.lt; omega) (fun e => by have := hr b e.symm; omega)
 have h1 := h.lt
 have h2 := h.ltR
 have h3 := h.ltG
 exact ⟨(low _ (by omega)).trans h.box, (low _ (by omega)).trans h.res, h.rw_.lower (N := Bm) h.lt (Nat.le_refl _) k.size (fun b hb => low b (by omega)), h.fit,
  ⟨k.os.trans h.below.os, k.tape.trans h.below.tape, k.output.trans h.below.output, Nat.le_trans h.below.size k.size, fun i hi => (low i (by omega)).trans (h.below.block i hi)⟩,
  ⟨(cell_block (low _ (by omega))).trans h.gv.cell, Nat.lt_of_lt_of_le h.gv.lt k.size⟩, h.ltR, h.lt, h.ltG⟩
theorem YSt.set0 {w wr : World} {a0 : Addr} {R Bm : Nat} {v : Value} {L : List Int} (h : YSt w wr a0 R Bm v L) (x : Value) : YSt w (wr.setCell ⟨Bm, 0, none⟩ x) a0 R Bm x L :=
 ⟨heap_set (o := 0) h.box, h.res.setOther (by have := h.lt; have := h.ltR; omega), h.rw_.set (Nat.le_refl _) (by have := h.lt; omega), h.fit, h.below.setCell (by have := h.lt; have := h.ltR; dsimp only; omega) _, gv_setT h.gv (by have := h.lt; have := h.ltR; have := h.ltG; omega), h.ltR, h.lt, h.ltG⟩
theorem pMod_eq (L : List Int) : pMod L = (pNext L).bind fun n => (pMany pFunc n.1.toNat n.2).bind fun fs => if fs.2 = [] then some fs.1 else none := by
 have hc : ∀ {α : Type} (p : Rdr α) (L : List Int), pCount p L = (pNext L).bind fun n => pMany p n.1.toNat n.2 := fun p L => by cases L <;> rfl
 unfold pMod
 rw [hc]
 cases pNext L with
 | none => rfl
 | some n =>
  dsimp only [Option.bind_some]
  cases pMany pFunc n.1.toNat n.2 with
  | none => rfl
  | some fs =>
   obtain ⟨l, r⟩ := fs
   cases r <;> rfl
theorem OwnFns.sm {w : World} {lo hi : Nat} {u : Option Addr} {es : List FnE} (h : OwnFns w lo hi u es) : SmMod (es.map FnE.d) := by
 refine ⟨by rw [List.length_map]; exact h.1, fun d hd => ?_⟩
 obtain ⟨f, hf, rfl⟩ := List.mem_map.1 hd
 obtain ⟨_, _, _, _, _, _, h3, h4⟩ := h.2.2.each f hf
 refine ⟨h3.1, by show (f.bs.map BkE.d).length ≤ _; rw [List.length_map]; exact h4.1, fun b hb => ?_⟩
 obtain ⟨x, hx, rfl⟩ := List.mem_map.1 hb
 obtain ⟨_, _, _, _, _, _, h5, h6⟩ := h4.2.2.each x hx
 refine ⟨⟨by show (x.ps.map (·.1)).length ≤ _; rw [List.length_map]; exact h5.1, fun p hp => ?_⟩, by show (x.is.map (·.1)).length ≤ _; rw [List.length_map]; exact h6.1, fun i hi => ?_⟩
 ·obtain ⟨e, he, rfl⟩ := List.mem_map.1 hp
  obtain ⟨_, _, _, h7⟩ := h5.2.2.each e he
  exact h7.1
 ·obtain ⟨e, he, rfl⟩ := List.mem_map.1 hi
  obtain ⟨_, _, _, h7⟩ := h6.2.2.each e he
  exact h7.1
set_option maxHeartbeats 8000000 in
set_option maxRecDepth 100000 in
theorem modOfI (a : Addr) (s : ByteArray) (w : World) (hv : Gv w 0 (errV a)) :
  Calls Tryz.prog 25 #[.string s] w fun e w' => ModTold s a w.heap.size e w' ∧ Below w.heap.size w w' := by
 by_cases hbad : BadB s
 ·refine (mobBad a s w hbad hv).mono ?_
  rintro e w' ⟨rfl, h⟩
  exact ⟨.inr ⟨bad_no hbad, rfl⟩, h⟩
 have h4 : 4 ≤ s.size := by
  rcases Nat.lt_or_ge s.size 4 with h | h
  ·exact absurd (.inl h) hbad
  ·exact h
 have h20 : s.size ≤ 20000 := by
  rcases Nat.lt_or_ge 20000 s.size with h | h
  ·exact absurd (.inr (.inl h)) hbad
  ·exact h
 have hsum0 : sumT (s.extract 0 (s.size - 4)) = s.extract (s.size - 4) s.size := by
  by_cases h : sumT (s.extract 0 (s.size - 4)) = s.extract (s.size - 4) s.size
  ·exact h
  ·exact absurd (.inr (.inr h)) hbad
 have HOK : Hid (∀ l L, Rng L → (s.extract 0 (s.size - 4)).data.toList = ssa1.data.toList ++ toL L → (OkM s l ↔ modB l = true ∧ L = modM l)) := fun l L hL hb => okm_iff h4 h20 hsum0 hL hb
 have HNO : Hid ((¬ ∃ L, Rng L ∧ (s.extract 0 (s.size - 4)).data.toList = ssa1.data.toList ++ toL L) → ¬ ∃ l, OkM s l) := okm_head
 have B1 : Below w.heap.size w (w.alloc (.cells #[.slice none 0 0] 26)) := (Below.refl _ _).alloc (Nat.le_refl _) _
 have HV1 : Hid (Gv (w.alloc (.cells #[.slice none 0 0] 26)) 0 (errV a)) := hv.keep B1
 have HB : Hid (Below w.heap.size w (w.alloc (.cells #[.slice none 0 0] 26))) := B1
 have HA1 : Hid (At (w.alloc (.cells #[.slice none 0 0] 26)) w.heap.size #[.slice none 0 0] 26) := At.new _ _ _
 have hgw := hv.lt
 clear B1 hv hbad
 have h4i : (4 : Int) ≤ (s.size : Int) := by omega
 have h20i : (s.size : Int) ≤ 20000 := by omega
 obtain ⟨m, hm⟩ : ∃ m, s.size = m + 4 := ⟨s.size - 4, by omega⟩
 have hsum : sumT (s.extract 0 m) = s.extract m s.size := by
  rw [show s.size - 4 = m by omega] at hsum0; exact hsum0
 rw [show s.size - 4 = m by omega] at HOK HNO
 have e2 : (s.size : Int) - 4 = (m : Int) := by omega
 obtain ⟨t, HT⟩ : ∃ t, Hid (s.extract 0 m = t) := ⟨_, rfl⟩
 obtain ⟨u, HU⟩ : ∃ u, Hid (s.extract m s.size = u) := ⟨_, rfl⟩
 rw [HT.out, HU.out] at hsum
 have htm : (t.size : Int) = (m : Int) := by rw [← HT.out, ByteArray.size_extract]; omega
 have htz : t.size ≤ 20000 := by omega
 have hs1 : ∀ v : World, (Instr.slice 9 (.string s) none (some (.int .i64 (m : Int))) none).run Tryz.prog v = .ok (.string t) v := fun v => by
  rw [run_slice_string_to_if (h := Tryz.underlying9), if_pos (by omega), ← HT.out]; rfl
 have hs2 : ∀ v : World, (Instr.slice 9 (.string s) (some (.int .i64 (m : Int))) none none).run Tryz.prog v = .ok (.string u) v := fun v => by
  rw [run_slice_string_from_if (h := Tryz.underlying9), if_pos (by omega), ← HU.out]; rfl
 rw [HT.out] at HOK HNO
 have hq : ((sumT t).toList == u.toList) = true := str_eqq hsum
 clear hsum hsum0 h4 h20 hm
 go_enter Tryz.func25, Tryz.ntmps25
 go_wp2_with (first | (go_at_call 50; refine (wantY _).mono ?_; rintro e w1 ⟨rfl, h9⟩; have h8 := h9.symm; clear h9; subst h8))
 obtain ⟨W, hW⟩ : ∃ W, (w.alloc (.cells #[.slice none 0 0] 26)) = W := ⟨_, rfl⟩
 rw [hW] at HV1 HB HA1 ⊢
 clear hW
 refine wp_region_held_drew (S := fun w' => Below W.heap.size W w') (by kernel_rfl) ((Below.refl _ _).drew) (fun hHeld => ?_)
 refine wpAnyH_take (i := 0) (v := ?_) rfl (by kernel_rfl) (by kernel_rfl) (by kernel_rfl) (fun _ _ _ h => h) (Or.inl ⟨by rfl, ?_⟩) hHeld ?_
 rotate_left
 ·intro w9 hS9
  go_simp
  try with_reducible rfl
 show wpAnyH _ _ _ _ _ _ _ (Act.put _ (some _) _) _
 simp only [Act.put, List.setIfInBounds_toArray, List.set_cons_zero, List.set_cons_succ]
 refine wpAnyH_take (i := 2) (v := ?_) rfl (by kernel_rfl) (by kernel_rfl) (by kernel_rfl) (fun _ _ _ h => h) (Or.inl ⟨by rfl, ?_⟩) hHeld ?_
 rotate_left
 ·intro w9 hS9
  go_simp
  try with_reducible rfl
 show wpAnyH _ _ _ _ _ _ _ (Act.put _ (some _) _) _
 simp only [Act.put, List.setIfInBounds_toArray, List.set_cons_zero, List.set_cons_succ]
 refine wpAnyH_take (i := 3) (v := ?_) rfl (by kernel_rfl) (by kernel_rfl) (by kernel_rfl) (fun _ _ _ h => h) (Or.inl ⟨by rfl, ?_⟩) hHeld ?_
 rotate_left
 ·intro w9 hS9
  go_simp
  try with_reducible rfl
 show wpAnyH _ _ _ _ _ _ _ (Act.put _ (some _) _) _
 simp only [Act.put, List.setIfInBounds_toArray, List.set_cons_zero, List.set_cons_succ]
 refine wpAnyH_take (i := 4) (v := ?_) rfl (by kernel_rfl) (by kernel_rfl) (by kernel_rfl) (fun _ _ _ h => h) (Or.inl ⟨by rfl, ?_⟩) hHeld ?_
 rotate_left
 ·intro w9 hS9
  go_simp
  try with_reducible rfl
 show wpAnyH _ _ _ _ _ _ _ (Act.put _ (some _) _) _
 simp only [Act.put, List.setIfInBounds_toArray, List.set_cons_zero, List.set_cons_succ]
 refine wpAnyH_take (i := 5) (v := ?_) rfl (by kernel_rfl) (by kernel_rfl) (by kernel_rfl) (fun _ _ _ h => h) (Or.inl ⟨by rfl, ?_⟩) hHeld ?_
 rotate_left
 ·intro w9 hS9
  go_simp
  try with_reducible rfl
 show wpAnyH _ _ _ _ _ _ _ (Act.put _ (some _) _) _
 simp only [Act.put, List.setIfInBounds_toArray, List.set_cons_zero, List.set_cons_succ]
 refine wpAnyH_ready (rs := [1]) (by kernel_rfl) (by simp) ?_
 refine AllReadyH.cons rfl (fun K hK => ?_) AllReadyH.nil
 go_simp
 go_wp2_with (go_at_call 22; refine (sumI t (by omega) _).mono ?_; rintro e w5 ⟨rfl, bb⟩; have bc := hHeld.trans (bb.mono hHeld.size))
 refine hK.out _ _ ?_ (fun hHeld2 => ?_)
 ·exact bc
 clear hK K
 have hPrev := hHeld
 clear hHeld
 have hHeld := hHeld2
 clear hHeld2 bc
 try simp only [Act.put, List.setIfInBounds_toArray, List.set_cons_zero, List.set_cons_succ]
 refine wpAnyH_take (i := 6) (v := ?_) rfl (by kernel_rfl) (by kernel_rfl) (by kernel_rfl) (fun _ _ _ h => h) (Or.inl ⟨by rfl, ?_⟩) hHeld ?_
 rotate_left
 ·intro w9 hS9
  go_simp
  try with_reducible rfl
 show wpAnyH _ _ _ _ _ _ _ (Act.put _ (some _) _) _
 simp only [Act.put, List.setIfInBounds_toArray, List.set_cons_zero, List.set_cons_succ]
 have RI := rowI a t w5 (by omega) (HV1.out.keep hHeld)
 refine wpAnyH_ready (rs := [7]) (by kernel_rfl) (by simp) ?_
 refine AllReadyH.cons rfl (fun K hK => ?_) AllReadyH.nil
 go_simp
 go_wp2_with (go_at_call 50; refine (wantY _).mono ?_; rintro e w6 ⟨rfl, h9⟩; have h8 := h9.symm; clear h9; subst h8)
 refine hK.out _ _ hHeld (fun _ => ?_)
 clear hK K
 refine wpAnyH_done (by kernel_rfl) ?_ _
 have HB5 : Hid (Below w.heap.size w w5) := HB.out.trans (hHeld.mono HB.out.size)
 have HA5 : Hid (At w5 w.heap.size #[.slice none 0 0] 26) := HA1.out.below hHeld
 have HV5 : Hid (Gv w5 0 (errV a)) := HV1.out.keep hHeld
 have hz5 : w.heap.size < w5.heap.size := HA5.out.lt
 clear HB HA1 HV1 hHeld hPrev hq hs1 hs2 HT HU h4i h20i e2
 go_wp2_with fail
 refine RI.mono ?_
 rintro e w7 ⟨⟨R, L, rfl, hL, hE, hR, hRw, hLl⟩ | ⟨rfl, hno⟩, b7⟩
 rotate_left
 ·have HB7 := HB5.out.trans (b7.mono HB5.out.size)
  have HN := HNO.out hno
  clear RI HOK HNO
  go_wp2_with fail
  exact ⟨rfl, .inr ⟨HN, rfl⟩, HB7⟩
 have HK : Hid (∀ l, OkM s l ↔ modB l = true ∧ L = modM l) := fun l => HOK.out l L hL hE
 have HPo : Hid (Pos L) := rng_pos hL
 have B8 : Below w7.heap.size w7 (w7.alloc (.cells #[.slice none 0 0] 26)) := (Below.refl _ _).alloc (Nat.le_refl _) _
 have HS8 : Hid (YSt w (w7.alloc (.cells #[.slice none 0 0] 26)) a R w7.heap.size (.slice none 0 0) L) := ⟨At.new _ _ _, (HA5.out.below b7).below B8, hRw.in_.keep B8, ⟨HPo.out, hLl⟩, (HB5.out.trans (b7.mono HB5.out.size)).trans (B8.mono (by have := b7.size; omega)), (HV5.out.keep b7).keep B8, by omega, hRw.lt, hgw⟩
 have HP0 : Hid (pMod L = _) := pMod_eq L
 have N0 := nextT a w7.heap.size R L _ HS8.out.rw_ hLl HS8.out.gv
 obtain ⟨iF, hiF, zF, sF', bF⟩ := info_three infoFn
 have hRe : 0 ≠ R := by omega
 clear RI HOK HNO B8 b7 HA5 HB5 HV5 hRw hE hL
 go_wp2_with fail
 refine N0.mono ?_
 rintro e w8 ⟨o0, ⟨n, L1, p0, rfl, q0⟩ | ⟨p0, rfl⟩⟩
 rotate_left
 ·have HN : ¬ ∃ l, OkM s l := (okm_read HK.out HPo.out).2 (fun l h => by rw [HP0.out, p0] at h; cases h)
  have HB8 := HS8.out.bel o0
  clear p0 HP0 N0
  go_wp2_with fail
  exact ⟨rfl, .inr ⟨HN, rfl⟩, HB8⟩
 have e9 := HP0.out
 rw [p0, Option.bind_some] at e9
 have HP1 : Hid (pMod L = _) := e9
 obtain ⟨hf1, hn0⟩ := HS8.out.fit.next p0
 have HS1 : Hid (YSt w w8 a R w7.heap.size (.slice none 0 0) L1) := HS8.out.step o0 q0 hf1
 have hz8 : w7.heap.size + 1 ≤ w8.heap.size := HS1.out.box.lt
 clear e9 HP0 p0 N0 o0 q0 HS8
 generalize w7.heap.size = Bm at *
 go_wp2_with fail
 go_loopw [32] (fun q wr => ∃ (j : Nat) (v : Value) (es : List FnE) (Lr : List Int), (j : Int) ≤ n ∧ q = .int .i64 j ∧ Hid (es.length = j) ∧ Hid (Lr.length + j ≤ 20000) ∧ Hid (pMany pFunc j L1 = some (es.map FnE.d, Lr)) ∧ Hid (YSt w wr a R Bm v Lr) ∧ Hid (RowS 49 3 fnC wr (Bm + 1) v es) ∧ Hid (Sub OwnFn wr (Bm + 1) wr.heap.size es)) (fun q _ => n.toNat - (intOf q).toNat)
 case atStart => exact ⟨0, _, [], L1, hn0, rfl, rfl, hf1.len, rfl, HS1.out, RowS.nil _ _ _ _ _, hz8⟩
 case round =>
  clear HS1 hz8 hf1
  obtain ⟨j, v, es, Lr, hj, rfl, HJ, HJ2, HM, HS, HR, HU⟩ := hrel
  obtain ⟨w4, hwo⟩ : ∃ w1, w1 = wr := ⟨_, rfl⟩
  subst hwo
  obtain ⟨vu, vc, rfl⟩ := HR.out.slice
  by_cases hjn : (j : Int) < n
  ·have hf4 := HS.out.fit
   have N3 := takeFuncT a Bm R Lr w4.drew HS.out.rw_ hf4 ⟨HS.out.gv.cell, HS.out.gv.lt⟩ hRe (Nat.le_of_lt HS.out.box.lt)
   have c0 : w4.cell? ⟨Bm, 0, none⟩ = some (.slice vu es.length vc) := HS.out.box.cell 0
   go_wp2_with fail
   refine startX (fun w' => w'.cell? ⟨Bm, 0, none⟩ = some (.slice vu es.length vc)) (fun i => decide (i = 7)) (by kernel_rfl) ?_
   refine takeX 0 (v := ?_) rfl rfl (by kernel_rfl) (fun _ _ _ h => h) (yesH (by rfl) ?_) c0 ?_
   rotate_left
   ·intro w9 hS9
    go_simp
    try with_reducible rfl
   try simp only [Act.put, sA, sB, sC]
   refine takeX 1 (v := ?_) rfl rfl (by kernel_rfl) (fun _ _ _ h => h) (yesH (by rfl) ?_) c0 ?_
   rotate_left
   ·intro w9 hS9
    have g0 := hS9
    go_simp
    try with_reducible rfl
   try simp only [Act.put, sA, sB, sC]
   refine takeX 2 (v := ?_) rfl rfl (by kernel_rfl) (fun _ _ _ h => h) (yesH (by rfl) ?_) c0 ?_
   rotate_left
   ·intro w9 hS9
    go_simp
    try with_reducible rfl
   try simp only [Act.put, sA, sB, sC]
   refine readyX 3 rfl (by kernel_rfl) (fun K hK => ?_)
   go_simp
   go_wp2_with fail
   refine N3.mono ?_
   rintro e w6 ⟨o2, ⟨d, L6, p2, ⟨b, hbd, rfl, hu⟩, q2⟩ | ⟨p2, rfl⟩⟩
   rotate_left
   ·have o3 : OnlyR R w4 w6 := ⟨o2.os, o2.tape, o2.output, o2.size, o2.block⟩
    have HN : ¬ ∃ l, OkM s l := (okm_read HK.out HPo.out).2 (fun l h => by
     rw [HP1.out, pMany_stop HM.out p2 (show j < n.toNat by omega)] at h
     cases h)
    have HO := HS.out.bel o3
    clear hK p2 HP1 N3
    go_wp2_with fail
    exact ⟨rfl, .inr ⟨HN, rfl⟩, HO⟩
   subst hbd
   have o3 : OnlyR R w4 w6 := ⟨o2.os, o2.tape, o2.output, o2.size, o2.block⟩
   have hyi := pFunc_yes hf4.pos p2
   have hli : 1 ≤ (funcM b.d).length := by unfold funcM fheadM; simp only [List.length_append, List.length_cons]; omega
   have HL6 : Hid (L6.length + (j + 1) ≤ 20000) := by
    have h2 := HJ2.out
    rw [hyi, List.length_append] at h2
    show _ ≤ _
    omega
   have hf6 : Fit L6 := ⟨by have := hf4.pos; rw [hyi] at this; exact this.right, by have := HL6.out; omega⟩
   have HS4 : Hid (YSt w w6 a R Bm (.slice vu es.length vc) L6) := HS.out.step o3 q2 hf6
   have ST4 : Hid (Still 9 w4 w6) := Still.only o3 HS.out.rw_
   have HR4 : Hid (RowS 49 3 fnC w6 (Bm + 1) (.slice vu es.length vc) es) := HR.out.still ST4.out (by decide)
   have HU4 : Hid (Sub OwnFn w6 (Bm + 1) w6.heap.size (es ++ [b])) := Sub.snoc (HU.out.still fun _ _ _ h => OwnFn.still h ST4.out (by decide)) (Nat.le_refl _) o3.size hu
   have HM4 : Hid (pMany pFunc (j + 1) L1 = some ((es ++ [b]).map FnE.d, L6)) := by
    show _ = _
    rw [List.map_append]
    exact pMany_snoc HM.out p2
   have c4 : w6.cell? ⟨Bm, 0, none⟩ = some (.slice vu es.length vc) := HS4.out.box.cell 0
   have hj20 : j ≤ 20000 := by have h2 := HJ2.out; omega
   have hel2 : es.length ≤ 20000 := by have h1 := HJ.out; omega
   have hb6 : Bm + 1 ≤ w6.heap.size := HU4.out.le
   clear N3 o2 o3 p2 q2 hu HS HR HU HM ST4 c0 hyi hli hf4
   have b5 : Below w6.heap.size w6 (w6.alloc (.cells #[.slice b.pu b.pars.length b.pc, .int .i64 b.ret, .slice b.bu b.bs.length b.bc] 49)) := (Below.refl _ _).alloc (Nat.le_refl _) _
   have HS5 : Hid (YSt w (w6.alloc (.cells #[.slice b.pu b.pars.length b.pc, .int .i64 b.ret, .slice b.bu b.bs.length b.bc] 49)) a R Bm (.slice vu es.length vc) L6) := HS4.out.keep b5
   have ST5 : Still 9 w6 (w6.alloc (.cells #[.slice b.pu b.pars.length b.pc, .int .i64 b.ret, .slice b.bu b.bs.length b.bc] 49)) := Still.below b5
   have HR5 : Hid (RowS 49 3 fnC (w6.alloc (.cells #[.slice b.pu b.pars.length b.pc, .int .i64 b.ret, .slice b.bu b.bs.length b.bc] 49)) (Bm + 1) (.slice vu es.length vc) es) := HR4.out.still ST5 (by decide)
   have HU5 : Hid (Sub OwnFn (w6.alloc (.cells #[.slice b.pu b.pars.length b.pc, .int .i64 b.ret, .slice b.bu b.bs.length b.bc] 49)) (Bm + 1) ((w6.alloc (.cells #[.slice b.pu b.pars.length b.pc, .int .i64 b.ret, .slice b.bu b.bs.length b.bc] 49))).heap.size (es ++ [b])) := (HU4.out.wide (Nat.le_refl _) b5.size).still fun _ _ _ h => OwnFn.still h ST5 (by decide)
   have c5 : ((w6.alloc (.cells #[.slice b.pu b.pars.length b.pc, .int .i64 b.ret, .slice b.bu b.bs.length b.bc] 49))).cell? ⟨Bm, 0, none⟩ = some (.slice vu es.length vc) := HS5.out.box.cell 0
   obtain ⟨g6, cap6, w9, hrun, hown6, hgr6, _, _⟩ := run_append_lies (P := Tryz.prog) (w6.alloc (.cells #[.slice b.pu b.pars.length b.pc, .int .i64 b.ret, .slice b.bu b.bs.length b.bc] 49)) 24 24 (Bm + 1) 49 iF (.agg #[.slice none 0 0, .int .i64 0, .slice none 0 0]) 3 56 Tryz.underlying24 hiF zF sF' bF rfl (by decide) (.slice vu es.length vc) es.length (es.flatMap fnC) HR5.out ⟨w6.heap.size, 0, none⟩ 1 1 [.slice b.pu b.pars.length b.pc, .int .i64 b.ret, .slice b.bu b.bs.length b.bc] rfl (World.news_of_block (At.new w6 #[.slice b.pu b.pars.length b.pc, .int .i64 b.ret, .slice b.bu b.bs.length b.bc] 49)) (by simp [Value.oneCell']) (by decide) (by unfold maxLen; omega) (by omega) (Nat.le_trans hb6 b5.size) _ rfl
   have HS6 : Hid (YSt w w9 a R Bm (.slice vu es.length vc) L6) := HS5.out.grown hgr6 (fun g e => (HR5.out.ge e).1)
   have ST6 : Still 4 (w6.alloc (.cells #[.slice b.pu b.pars.length b.pc, .int .i64 b.ret, .slice b.bu b.bs.length b.bc] 49)) w9 := Still.grown hgr6 (fun g e => by obtain ⟨_, cur, hc⟩ := HR5.out.ge e; exact ⟨cur, _, hc, by decide⟩)
   have HR6 : Hid (RowS 49 3 fnC w9 (Bm + 1) (.slice (some ⟨g6, 0, none⟩) (es.length + 1) cap6) (es ++ [b])) := RowS.push hown6
   have HU6 : Hid (Sub OwnFn w9 (Bm + 1) w9.heap.size (es ++ [b])) := (HU5.out.wide (Nat.le_refl _) hgr6.size).still fun _ _ _ h => OwnFn.still h ST6 (by decide)
   have HS7 : Hid (YSt w (w9.setCell ⟨Bm, 0, none⟩ (.slice (some ⟨g6, 0, none⟩) (es.length + 1) cap6)) a R Bm (.slice (some ⟨g6, 0, none⟩) (es.length + 1) cap6) L6) := HS6.out.set0 _
   have ST7 : Still 9 w9 (w9.setCell ⟨Bm, 0, none⟩ (.slice (some ⟨g6, 0, none⟩) (es.length + 1) cap6)) := Still.set HS6.out.box (by decide)
   have HR7 : Hid (RowS 49 3 fnC (w9.setCell ⟨Bm, 0, none⟩ (.slice (some ⟨g6, 0, none⟩) (es.length + 1) cap6)) (Bm + 1) (.slice (some ⟨g6, 0, none⟩) (es.length + 1) cap6) (es ++ [b])) := HR6.out.still ST7 (by decide)
   have HU7 : Hid (Sub OwnFn (w9.setCell ⟨Bm, 0, none⟩ (.slice (some ⟨g6, 0, none⟩) (es.length + 1) cap6)) (Bm + 1) ((w9.setCell ⟨Bm, 0, none⟩ (.slice (some ⟨g6, 0, none⟩) (es.length + 1) cap6))).heap.size (es ++ [b])) := (HU6.out.wide (Nat.le_refl _) (by simp only [World.size_setCell]; exact Nat.le_refl _)).still fun _ _ _ h => OwnFn.still h ST7 (by decide)
   have c6 : w9.cell? ⟨Bm, 0, none⟩ = some (.slice vu es.length vc) := HS6.out.box.cell 0
   have f6 : w9.frozen? ⟨Bm, 0, none⟩ = false := froz_of_heap HS6.out.box
   clear b5 HS5 ST5 HR5 HU5 ST6 HR6 HU6 ST7 HS4 HR4 HU4 hown6 hgr6 HS6 hb6
   refine hK.out _ _ (.inr c4) ?_
   clear hK K
   try simp only [Act.put, sA, sB, sC]
   refine readyX 4 rfl (by kernel_rfl) (fun K hK => ?_)
   go_simp
   refine hK.out _ _ (.inr c5) ?_
   clear hK K
   try simp only [Act.put, sA, sB, sC]
   refine readyX 5 rfl (by kernel_rfl) (fun K hK => ?_)
   refine step_runP rfl _ _ _ rfl rfl rfl hrun ?_
   refine hK.out _ _ (.inr c6) ?_
   clear hK K hrun
   try simp only [Act.put, sA, sB, sC]
   refine takeX 6 (v := ?_) rfl rfl (by kernel_rfl) (fun _ _ _ h => h) (yesH (by rfl) ?_) c6 ?_
   rotate_left
   ·intro w9 hS9
    go_simp
    try with_reducible rfl
   try simp only [Act.put, sA, sB, sC]
   refine readyX 7 rfl (by kernel_rfl) (fun K hK => ?_)
   go_simp
   refine hK.out _ _ (.inl rfl) ?_
   clear hK K
   refine doneX (by kernel_rfl) ?_ _
   go_wp2_with fail
   go_roundw
   case rel =>
    exact ⟨j + 1, _, _, L6, by omega, by go_num, (by show (es ++ [_]).length = j + 1; rw [List.length_append, HJ.out]; rfl), HL6.out, HM4.out, HS7.out, HR7.out, HU7.out⟩
   case measure => simp [intOf]; omega
  ·have e9 := HP1.out
   rw [show n.toNat = j by omega, HM.out, Option.bind_some] at e9
   have HP2 : Hid (pMod L = _) := e9
   have hel2 : es.length ≤ 20000 := by have h1 := HJ.out; have h2 := HJ2.out; omega
   have HX : Hid (OwnFns w4 (Bm + 1) w4.heap.size vu es) := RowS.own (fun _ => rfl) (by omega) HR.out HU.out (Nat.le_refl _) (Nat.le_refl _)
   clear e9 HP1 HM HR HU HJ HJ2
   by_cases hLr : Lr = []
   rotate_left
   ·have HN : ¬ ∃ l, OkM s l := (okm_read HK.out HPo.out).2 (fun l h => by
     rw [HP2.out, if_neg hLr] at h
     cases h)
    have EN := endN a Bm R Lr w4 HS.out.rw_ hLr HS.out.gv
    have HO := HS.out.below
    go_wp2_with fail
    refine EN.mono ?_
    rintro e w9 ⟨rfl, h9⟩
    have h8 := h9.symm
    clear h9
    subst h8
    go_wp2_with fail
    exact ⟨rfl, .inr ⟨HN, rfl⟩, HO⟩
   subst hLr
   have EY := endY Bm R w4 HS.out.rw_
   have MI := modShI (Bm + 1) (es.map FnE.d) vu vc w4 (OwnFns.sm HX.out) (OwnFns.at_ HX.out)
   rw [List.length_map] at MI
   have c0 : w4.cell? ⟨Bm, 0, none⟩ = some (.slice vu es.length vc) := HS.out.box.cell 0
   have HP3 : Hid (pMod L = some (es.map FnE.d)) := by show _ = _; rw [HP2.out, if_pos rfl]
   clear HP2
   go_wp2_with fail
   refine EY.mono ?_
   rintro e w9 ⟨rfl, h9⟩
   have h8 := h9.symm
   clear h9
   subst h8
   go_wp2_with fail
   refine MI.mono ?_
   rintro e w9 ⟨rfl, b9⟩
   have HS9 : Hid (YSt w w9 a R Bm (.slice vu es.length vc) []) := HS.out.keep b9
   have HX9 : Hid (OwnFns w9 (Bm + 1) w4.heap.size vu es) := OwnFns.still HX.out (Still.below (k := 9) b9) (by decide)
   have hz9 : w4.heap.size ≤ w9.heap.size := b9.size
   clear MI EY HS HX b9 c0
   cases hmb : modB (es.map FnE.d)
   ·have HN : ¬ ∃ l, OkM s l := (okm_read HK.out HPo.out).2 (fun l h => by
     rw [HP3.out] at h
     cases h
     exact hmb)
    have Wn := wantN a w9 HS9.out.gv
    have HO := HS9.out.below
    go_wp2_with fail
    refine Wn.mono ?_
    rintro e w8 ⟨rfl, h9⟩
    have h8 := h9.symm
    clear h9
    subst h8
    go_wp2_with fail
    exact ⟨rfl, .inr ⟨HN, rfl⟩, HO⟩
   ·have HOk : Hid (OkM s (es.map FnE.d)) := (okm_read HK.out HPo.out).1 _ HP3.out hmb
    have Wy := wantY w9
    have c0 : w9.cell? ⟨Bm, 0, none⟩ = some (.slice vu es.length vc) := HS9.out.box.cell 0
    have y0 : w9.cell? ⟨w.heap.size, 0, none⟩ = some (.slice none 0 0) := HS9.out.res.cell 0
    have yf : w9.frozen? ⟨w.heap.size, 0, none⟩ = false := froz_of_heap HS9.out.res
    have hlR := HS9.out.ltR
    have hlB := HS9.out.lt
    clear hmb HP3
    go_wp2_with fail
    refine Wy.mono ?_
    rintro e w8 ⟨rfl, h9⟩
    have h8 := h9.symm
    clear h9
    subst h8
    go_wp2_with fail
    have hr := heap_set (o := 0) (v := (.slice vu es.length vc)) HS9.out.res
    have BW : Below w.heap.size w (w9.setCell ⟨w.heap.size, 0, none⟩ (.slice vu es.length vc)) := HS9.out.below.setCell (Nat.le_refl _) _
    have OW : OwnFns (w9.setCell ⟨w.heap.size, 0, none⟩ (.slice vu es.length vc)) w.heap.size (w9.setCell ⟨w.heap.size, 0, none⟩ (.slice vu es.length vc)).heap.size vu es := (OwnFns.still HX9.out (Still.set (k := 9) HS9.out.res (by decide)) (by decide)).wide (by omega) (by simp only [World.size_setCell]; exact hz9)
    exact bodyPost_ret (v := .agg #[(.slice vu es.length vc)]) ((results_cell_row Tryz.results25 _ _ w.heap.size 26 _ (0, 0) _ rfl hr Tryz.underlying26 rfl (by kernel_rfl)).trans (by rfl)) rfl ⟨.inl ⟨es, vu, vc, HOk.out, rfl, OW⟩, BW⟩
end Go.Proofs.YtojhakjkfkmklaaGreatDoor
