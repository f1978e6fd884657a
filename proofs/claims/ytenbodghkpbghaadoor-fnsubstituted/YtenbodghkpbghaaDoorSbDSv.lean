import Derived.Test.YtenbodghkpbghaaDoorSbCSv
import Derived.Test.YtenbodghkpbghaaDoorOps3Sv
import Derived.Laws.EntriesVeiled
import Derived.Laws.Tables
import Derived.Test.YtenbodghkpbghaaDoorFmHSv
import Derived.Deep.RegionHeld2
import Derived.Test.YtenbodghkpbghaaDoorRdrSv
import Derived.Test.YtenbodghkpbghaaDoorGnYSv
namespace Go.Proofs.YtenbodghkpbghaaDoor
open Go.RowKit
set_option linter.unusedVariables false
set_option linter.unusedSimpArgs false
theorem run_clone (ty : TypeId) {w : World} {lo c : Nat} {u : Option Addr} {l : List Int} (hv : IntsAt w lo u l) (hl : l.length ≤ 1000) : ∃ v c2 w', (Builtin.append_ #[24, 24] ty #[.slice none 0 0, .slice u l.length c]).run Tryd.prog w = .ok (.slice v l.length c2) w' ∧ OwnI w' w.heap.size w'.heap.size v l ∧ Below w.heap.size w w' := by
 obtain ⟨i0, hi, hz0, hz1, hz2⟩ := info_parts infoI
 rcases u with _ | ad
 ·have hnil : l = [] := by
   rcases hv.2 with h | ⟨b, off, h, _⟩
   ·exact h
   ·cases h
  subst hnil
  exact ⟨none, 0, w, append_none (.slice none 0 0) (.inl rfl) c w i0 Tryd.underlying24 hi, ⟨by simp, .inl rfl⟩, Below.refl _ _⟩
 have hcell : ∀ j v, (l.map (Value.int .i64))[j]? = some v → w.cell? (ad.add j) = some v := fun j v hj => by
  have hjl : j < l.length := by
   rcases Nat.lt_or_ge j l.length with h | h
   ·exact h
   ·rw [List.getElem?_eq_none (by simpa using h)] at hj; cases hj
  rcases hv.2 with h | ⟨b, off, h, _, hb, hc⟩
  ·rw [h] at hjl; cases hjl
  ·cases h
   have hadd : (⟨b, off, none⟩ : Addr).add j = ⟨b, off + j, none⟩ := by unfold Addr.add; split <;> simp_all
   rw [hadd, hc j hjl, ← hj]
   simp [List.getD, hjl]
 obtain ⟨v', w8, hrun, hown, hgr, _⟩ := run_append_own_at (P := Tryd.prog) w w.heap.size 24 ty 2 i0 (.int .i64 0) 1 8 Tryd.underlying24 hi hz0 hz1 hz2 rfl (by decide) (.slice none 0 0) 0 [] (World.ownsRow_nil _ _ _ _) ad l.length c (l.map (Value.int .i64)) (by simp) hcell (fun v hv => by obtain ⟨x, _, rfl⟩ := List.mem_map.1 hv; rfl) (by unfold maxLen; omega) (by omega) (Nat.le_refl _)
 simp only [Nat.zero_add, List.nil_append] at hown
 obtain ⟨v, c2, rfl⟩ := Row.slice (l := l) hown
 exact ⟨v, c2, w8, hrun, OwnI.row (base := w.heap.size) (by omega) hown, (Below.refl _ _).grown hgr (Nat.le_refl _) (fun k hk => by cases hk)⟩
set_option maxHeartbeats 8000000 in
set_option maxRecDepth 100000 in
theorem ofFuncI (B lo : Nat) (ρ : Int → Int) (d : FuncD) (u0 : Option Addr) (c0 : Nat) (u2 : Option Addr) (c2 : Nat) (w : World) (hR : RenAt w B ρ) (m0 : IntsAt w lo u0 d.params) (m2 : BlocksAt w lo u2 d.blocks) (hd : OkFn d) :
  Calls Tryd.prog 28 #[.map (some B), .agg #[.slice u0 d.params.length c0, .int .i64 d.ret, .slice u2 d.blocks.length c2]] w fun e w' => ∃ f : FnE, f.d = sbFunc ρ d ∧ e = .returned (.agg #[.slice f.pu f.pars.length f.pc, .int .i64 f.ret, .slice f.bu f.bs.length f.bc]) ∧ OwnFn w' w.heap.size w'.heap.size f ∧ Below w.heap.size w w' := by
 have HRN : Hid (RenAt w B ρ) := hR
 have HD : Hid (OkFn d) := hd
 have b0 : Below w.heap.size w ((w.alloc (.cells #[.slice u0 d.params.length c0, .int .i64 d.ret, .slice u2 d.blocks.length c2] 27)).alloc (.cells #[.slice none 0 0, .int .i64 0, .slice none 0 0] 27)) := ((Below.refl _ _).alloc (Nat.le_refl _) _).alloc (by simp) _
 have A0 : At ((w.alloc (.cells #[.slice u0 d.params.length c0, .int .i64 d.ret, .slice u2 d.blocks.length c2] 27)).alloc (.cells #[.slice none 0 0, .int .i64 0, .slice none 0 0] 27)) w.heap.size #[.slice u0 d.params.length c0, .int .i64 d.ret, .slice u2 d.blocks.length c2] 27 := (Below.heap_alloc _ _ _ (by simp)).trans (heap_alloc_last _ _)
 have A1 : At ((w.alloc (.cells #[.slice u0 d.params.length c0, .int .i64 d.ret, .slice u2 d.blocks.length c2] 27)).alloc (.cells #[.slice none 0 0, .int .i64 0, .slice none 0 0] 27)) (w.heap.size + 1) #[.slice none 0 0, .int .i64 0, .slice none 0 0] 27 := heap_two2 _ _ _
 have H0 : Hid (Below w.heap.size w ((w.alloc (.cells #[.slice u0 d.params.length c0, .int .i64 d.ret, .slice u2 d.blocks.length c2] 27)).alloc (.cells #[.slice none 0 0, .int .i64 0, .slice none 0 0] 27))) := b0
 have HA : Hid (At ((w.alloc (.cells #[.slice u0 d.params.length c0, .int .i64 d.ret, .slice u2 d.blocks.length c2] 27)).alloc (.cells #[.slice none 0 0, .int .i64 0, .slice none 0 0] 27)) w.heap.size #[.slice u0 d.params.length c0, .int .i64 d.ret, .slice u2 d.blocks.length c2] 27) := A0
 have HZ : Hid (At ((w.alloc (.cells #[.slice u0 d.params.length c0, .int .i64 d.ret, .slice u2 d.blocks.length c2] 27)).alloc (.cells #[.slice none 0 0, .int .i64 0, .slice none 0 0] 27)) (w.heap.size + 1) #[.slice none 0 0, .int .i64 0, .slice none 0 0] 27) := A1
 have hz : (((w.alloc (.cells #[.slice u0 d.params.length c0, .int .i64 d.ret, .slice u2 d.blocks.length c2] 27)).alloc (.cells #[.slice none 0 0, .int .i64 0, .slice none 0 0] 27))).heap.size = w.heap.size + 2 := by simp
 have HM0 : Hid (IntsAt ((w.alloc (.cells #[.slice u0 d.params.length c0, .int .i64 d.ret, .slice u2 d.blocks.length c2] 27)).alloc (.cells #[.slice none 0 0, .int .i64 0, .slice none 0 0] 27)) lo u0 d.params) := m0.keep (agree_of_below b0 lo)
 have hp := hd.pr
 clear b0 A0 A1 hR hd m0
 go_enter Tryd.func28, Tryd.ntmps28
 go_upto_region 1 with fail
 generalize ((w.alloc (.cells #[.slice u0 d.params.length c0, .int .i64 d.ret, .slice u2 d.blocks.length c2] 27)).alloc (.cells #[.slice none 0 0, .int .i64 0, .slice none 0 0] 27)) = W1 at *
 have row3 : ∀ W : World, W.heap[w.heap.size]? = some (.cells #[.slice u0 d.params.length c0, .int .i64 d.ret, .slice u2 d.blocks.length c2] 27 (0, 0)) → W.cell? ⟨w.heap.size, 0, none⟩ = some (.slice u0 d.params.length c0) ∧ W.cell? ⟨w.heap.size, 1, none⟩ = some (.int .i64 d.ret) := fun W h => ⟨(cell_of_heap h).trans rfl, (cell_of_heap h).trans rfl⟩
 go_cut [5] (fun s5 wc => ∃ (X : Nat) (u : Option Addr) (c : Nat), s5 = .pointer (some ⟨X, 0, none⟩) ∧ Hid (SSt w wc X 27 #[.slice u0 d.params.length c0, .int .i64 d.ret, .slice u2 d.blocks.length c2] #[.slice u d.params.length c, .int .i64 d.ret, .slice none 0 0] #[.slice none 0 0, .int .i64 0, .slice none 0 0]) ∧ Hid (OwnI wc (w.heap.size + 2) wc.heap.size u d.params))
 case first =>
  have hS0 : W1.drew.heap[w.heap.size]? = some (.cells #[.slice u0 d.params.length c0, .int .i64 d.ret, .slice u2 d.blocks.length c2] 27 (0, 0)) := HA.out
  refine wp_region_held_drew (S := fun w' => w'.heap[w.heap.size]? = some (.cells #[.slice u0 d.params.length c0, .int .i64 d.ret, .slice u2 d.blocks.length c2] 27 (0, 0))) (by kernel_rfl) hS0 (fun hHeld => ?_)
  clear hS0
  refine tkh 0 (v := ?_) rfl rfl (by kernel_rfl) (fun _ _ _ h => h) (yesH (by rfl) ?_) hHeld ?_
  rotate_left
  ·intro w9 hS9
   obtain ⟨g0, g1⟩ := row3 w9 hS9
   go_simp
   try with_reducible rfl
  try simp only [Act.put, sA, sB, sC]
  refine tkh 1 (v := ?_) rfl rfl (by kernel_rfl) (fun _ _ _ h => h) (yesH (by rfl) ?_) hHeld ?_
  rotate_left
  ·intro w9 hS9
   obtain ⟨g0, g1⟩ := row3 w9 hS9
   go_simp
   try with_reducible rfl
  try simp only [Act.put, sA, sB, sC]
  refine tkh 3 (v := ?_) rfl rfl (by kernel_rfl) (fun _ _ _ h => h) (yesH (by rfl) ?_) hHeld ?_
  rotate_left
  ·intro w9 hS9
   obtain ⟨g0, g1⟩ := row3 w9 hS9
   go_simp
   try with_reducible rfl
  try simp only [Act.put, sA, sB, sC]
  refine tkh 4 (v := ?_) rfl rfl (by kernel_rfl) (fun _ _ _ h => h) (yesH (by rfl) ?_) hHeld ?_
  rotate_left
  ·intro w9 hS9
   obtain ⟨g0, g1⟩ := row3 w9 hS9
   go_simp
   try with_reducible rfl
  try simp only [Act.put, sA, sB, sC]
  refine wpAnyH_ready (rs := [2, 6]) (by kernel_rfl) (by simp) ?_
  refine AllReadyH.cons rfl (fun K hK => ?_) (AllReadyH.cons rfl (fun K hK => ?_) AllReadyH.nil)
  ·obtain ⟨v, c, w3, hrun, hown, b3'⟩ := run_clone 24 (w := W1.drew) (c := c0) HM0.out hp
   have b3 : Below W1.heap.size W1 w3 := undrew b3'
   refine step_runP rfl _ _ _ rfl rfl rfl hrun ?_
   have h3 : w3.heap[w.heap.size]? = some (.cells #[.slice u0 d.params.length c0, .int .i64 d.ret, .slice u2 d.blocks.length c2] 27 (0, 0)) := (b3.block _ HA.out.lt).trans HA.out
   refine hK.out _ _ h3 (fun hHeld2 => ?_)
   clear hK K hHeld hrun b3' hHeld2
   try simp only [Act.put, sA, sB, sC]
   refine tkh 5 (v := ?_) rfl rfl (by kernel_rfl) (fun _ _ _ h => h) (yesH (by rfl) ?_) h3 ?_
   rotate_left
   ·intro w9 hS9
    go_simp
    try with_reducible rfl
   try simp only [Act.put, sA, sB, sC]
   refine wpAnyH_ready (rs := [6]) (by kernel_rfl) (by simp) ?_
   refine AllReadyH.cons rfl (fun K hK => ?_) AllReadyH.nil
   have ba : Below w3.heap.size w3 (w3.alloc (.cells #[.slice none 0 0, .int .i64 0, .slice none 0 0] 27)) := (Below.refl _ _).alloc (Nat.le_refl _) _
   go_simp
   refine hK.out _ _ ((ba.block _ (Array.getElem?_eq_some_iff.1 h3).1).trans h3) (fun hHeld2 => ?_)
   clear hK K hHeld2
   try simp only [Act.put, sA, sB, sC]
   refine wpAnyH_ready (rs := [7]) (by kernel_rfl) (by simp) ?_
   refine AllReadyH.cons rfl (fun K hK => ?_) AllReadyH.nil
   go_simp
   have bb : Below w3.heap.size w3 (w3.alloc (.cells #[.slice v d.params.length c, .int .i64 d.ret, .slice none 0 0] 27)) := (Below.refl _ _).alloc (Nat.le_refl _) _
   have hz3 : w.heap.size + 2 ≤ w3.heap.size := by have := b3.size; omega
   refine hK.out _ _ ((bb.block _ (Array.getElem?_eq_some_iff.1 h3).1).trans h3) (fun hHeld2 => ?_)
   clear hK K hHeld2
   try simp only [Act.put, sA, sB, sC]
   have HSa : Hid (SSt w (w3.alloc (.cells #[.slice v d.params.length c, .int .i64 d.ret, .slice none 0 0] 27)) w3.heap.size 27 #[.slice u0 d.params.length c0, .int .i64 d.ret, .slice u2 d.blocks.length c2] #[.slice v d.params.length c, .int .i64 d.ret, .slice none 0 0] #[.slice none 0 0, .int .i64 0, .slice none 0 0]) := ⟨(bb.block _ (Array.getElem?_eq_some_iff.1 h3).1).trans h3, (HZ.out.below b3).below bb, At.new _ _ _, H0.out.trans ((b3.mono (by omega)).trans (bb.mono (by omega))), by omega⟩
   have HIa : Hid (OwnI (w3.alloc (.cells #[.slice v d.params.length c, .int .i64 d.ret, .slice none 0 0] 27)) (w.heap.size + 2) (w3.alloc (.cells #[.slice v d.params.length c, .int .i64 d.ret, .slice none 0 0] 27)).heap.size v d.params) := ((show OwnI w3 W1.heap.size w3.heap.size v d.params from hown).wide (by omega) bb.size).still (Still.below (k := 9) bb) (by decide)
   clear ba bb hown b3 h3
   refine wpAnyH_done (by kernel_rfl) ?_ _
   go_wp2_with fail
   go_meet
   case rel => exact ⟨_, v, c, rfl, HSa.out, HIa.out⟩
  ·have ba : Below W1.heap.size W1 (W1.alloc (.cells #[.slice none 0 0, .int .i64 0, .slice none 0 0] 27)).drew := ((Below.refl _ _).alloc (Nat.le_refl _) _).drew
   have h2 : (W1.alloc (.cells #[.slice none 0 0, .int .i64 0, .slice none 0 0] 27)).drew.heap[w.heap.size]? = some (.cells #[.slice u0 d.params.length c0, .int .i64 d.ret, .slice u2 d.blocks.length c2] 27 (0, 0)) := (ba.block _ HA.out.lt).trans HA.out
   have A2 : At (W1.alloc (.cells #[.slice none 0 0, .int .i64 0, .slice none 0 0] 27)).drew (w.heap.size + 2) #[.slice none 0 0, .int .i64 0, .slice none 0 0] 27 := by rw [← hz]; exact At.new W1 _ _
   have HM2 := HM0.out.keep (agree_of_below ba lo)
   have hz2 : ((W1.alloc (.cells #[.slice none 0 0, .int .i64 0, .slice none 0 0] 27)).drew).heap.size = w.heap.size + 3 := by show (W1.alloc _).heap.size = _; simp [hz]
   go_simp
   refine hK.out _ _ h2 (fun hHeld2 => ?_)
   clear hK K hHeld2
   generalize (W1.alloc (.cells #[.slice none 0 0, .int .i64 0, .slice none 0 0] 27)).drew = W2 at *
   try simp only [Act.put, sA, sB, sC]
   refine wpAnyH_ready (rs := [2]) (by kernel_rfl) (by simp) ?_
   refine AllReadyH.cons rfl (fun K hK => ?_) AllReadyH.nil
   obtain ⟨v, c, w3, hrun, hown, b3⟩ := run_clone 24 (c := c0) HM2 hp
   refine step_runP rfl _ _ _ rfl rfl rfl hrun ?_
   have h3 : w3.heap[w.heap.size]? = some (.cells #[.slice u0 d.params.length c0, .int .i64 d.ret, .slice u2 d.blocks.length c2] 27 (0, 0)) := (b3.block _ (Array.getElem?_eq_some_iff.1 h2).1).trans h2
   have A3 : At w3 (w.heap.size + 2) #[.slice none 0 0, .int .i64 0, .slice none 0 0] 27 := A2.below b3
   refine hK.out _ _ h3 (fun hHeld2 => ?_)
   clear hK K hHeld hrun hHeld2
   try simp only [Act.put, sA, sB, sC]
   refine tkh 5 (v := ?_) rfl rfl (by kernel_rfl) (fun _ _ _ h => h) (yesH (by rfl) ?_) h3 ?_
   rotate_left
   ·intro w9 hS9
    go_simp
    try with_reducible rfl
   try simp only [Act.put, sA, sB, sC]
   refine wpAnyH_ready (rs := [7]) (by kernel_rfl) (by simp) ?_
   refine AllReadyH.cons rfl (fun K hK => ?_) AllReadyH.nil
   have n0 : w3.cell? ⟨w.heap.size + 2, 0, none⟩ = some (.slice none 0 0) := A3.cell 0
   have n1 : w3.cell? ⟨w.heap.size + 2, 1, none⟩ = some (.int .i64 0) := A3.cell 1
   have n2 : w3.cell? ⟨w.heap.size + 2, 2, none⟩ = some (.slice none 0 0) := A3.cell 2
   have nf : ∀ o, w3.frozen? ⟨w.heap.size + 2, o, none⟩ = false := fun o => froz_of_heap A3
   go_simp
   clear n0 n1 n2 nf
   have S3 : SSt w w3 (w.heap.size + 2) 27 #[.slice u0 d.params.length c0, .int .i64 d.ret, .slice u2 d.blocks.length c2] #[.slice none 0 0, .int .i64 0, .slice none 0 0] #[.slice none 0 0, .int .i64 0, .slice none 0 0] := ⟨h3, (HZ.out.below ba).below b3, A3, H0.out.trans ((ba.mono (by omega)).trans (b3.mono (by omega))), by omega⟩
   have S4 := ((S3.set 0 (.slice v d.params.length c)).set 1 (.int .i64 d.ret)).set 2 (.slice none 0 0)
   have ST : Still 4 w3 (((w3.setCell ⟨w.heap.size + 2, 0, none⟩ (.slice v d.params.length c)).setCell ⟨w.heap.size + 2, 1, none⟩ (.int .i64 d.ret)).setCell ⟨w.heap.size + 2, 2, none⟩ (.slice none 0 0)) := ((Still.set (k := 4) (o := 0) S3.box (by decide)).trans (Still.set (k := 4) (o := 1) (heap_set (o := 0) S3.box) (by decide))).trans (Still.set (k := 4) (o := 2) (heap_set (o := 1) (heap_set (o := 0) S3.box)) (by decide))
   refine hK.out _ _ S4.par (fun hHeld2 => ?_)
   clear hK K hHeld2
   try simp only [Act.put, sA, sB, sC]
   have HSa : Hid (SSt w (((w3.setCell ⟨w.heap.size + 2, 0, none⟩ (.slice v d.params.length c)).setCell ⟨w.heap.size + 2, 1, none⟩ (.int .i64 d.ret)).setCell ⟨w.heap.size + 2, 2, none⟩ (.slice none 0 0)) (w.heap.size + 2) 27 #[.slice u0 d.params.length c0, .int .i64 d.ret, .slice u2 d.blocks.length c2] #[.slice v d.params.length c, .int .i64 d.ret, .slice none 0 0] #[.slice none 0 0, .int .i64 0, .slice none 0 0]) := S4
   have HIa : Hid (OwnI (((w3.setCell ⟨w.heap.size + 2, 0, none⟩ (.slice v d.params.length c)).setCell ⟨w.heap.size + 2, 1, none⟩ (.int .i64 d.ret)).setCell ⟨w.heap.size + 2, 2, none⟩ (.slice none 0 0)) (w.heap.size + 2) (((w3.setCell ⟨w.heap.size + 2, 0, none⟩ (.slice v d.params.length c)).setCell ⟨w.heap.size + 2, 1, none⟩ (.int .i64 d.ret)).setCell ⟨w.heap.size + 2, 2, none⟩ (.slice none 0 0)).heap.size v d.params) := (hown.wide (by omega) (by simp only [World.size_setCell]; exact Nat.le_refl _)).still ST (by decide)
   clear ba b3 hown h3 h2 A2 A3 S3 S4 ST HM2
   refine wpAnyH_done (by kernel_rfl) ?_ _
   go_wp2_with fail
   go_meet
   case rel => exact ⟨_, v, c, rfl, HSa.out, HIa.out⟩
 case rest =>
  obtain ⟨W3, hWC⟩ : ∃ W, W = wc := ⟨_, rfl⟩
  subst hWC
  obtain ⟨X, u, c, rfl, HS3, HI3⟩ := hcut
  clear HA HZ H0 HM0 hz row3
  have p2 : W3.cell? ⟨w.heap.size, 2, none⟩ = some (.slice u2 d.blocks.length c2) := HS3.out.par.cell 2
  obtain ⟨ps, hps⟩ : ∃ ps : Array Value, #[.slice u0 d.params.length c0, .int .i64 d.ret, .slice u2 d.blocks.length c2] = ps := ⟨_, rfl⟩
  rw [hps] at HS3
  clear hps
  have hX3 : X < W3.heap.size := HS3.out.box.lt
  go_wp2_with fail
  clear p2
  obtain ⟨m, hmm⟩ : ∃ m, W3.heap.size = m := ⟨_, rfl⟩
  rw [hmm] at HI3 hX3
  have hmm' : m ≤ W3.heap.size := by omega
  clear hmm
  go_loopw [17] (fun i wr => ∃ (j : Nat) (v : Value) (es : List BkE), j ≤ d.blocks.length ∧ i = .int .i64 j ∧ Hid (es.length = j) ∧ Hid (es.map BkE.d = (d.blocks.take j).map (sbBlock ρ)) ∧ Hid (SSt w wr X 27 ps #[.slice u d.params.length c, .int .i64 d.ret, v] #[.slice none 0 0, .int .i64 0, .slice none 0 0]) ∧ Hid (OwnI wr (w.heap.size + 2) m u d.params) ∧ Hid (RowS 41 6 bkC wr m v es) ∧ Hid (Sub OwnBk wr m wr.heap.size es)) (fun i _ => d.blocks.length - (intOf i).toNat)
  case atStart => exact ⟨0, _, [], by omega, rfl, rfl, (by show _ = _; simp), HS3.out, HI3.out, RowS.nil _ _ _ _ _, hmm'⟩
  case round =>
   clear HS3 HI3 hmm'
   obtain ⟨k, v, is, hk, rfl, his, HM, HS, HW, HR, HU⟩ := hrel
   obtain ⟨w5, hwo⟩ : ∃ w1, w1 = wr := ⟨_, rfl⟩
   subst hwo
   obtain ⟨nu, nc, rfl⟩ := HR.out.slice
   have hi60 := HD.out.bl
   by_cases hkl : k < d.blocks.length
   ·rcases m2.2 with hn | ⟨pb, po, rfl, hplo, hpb, hpc⟩
    ·simp [hn] at hkl
    obtain ⟨⟨pu, pq, hi0, ph⟩, ⟨iu, iq, hi1, it⟩, hi2, hi3, hi4, hi5⟩ := hpc k hkl
    have hsp := HD.out.bk _ (getD_mem block0 d.blocks k hkl)
    have HT := take_go (sbBlock ρ) block0 d.blocks k hkl
    generalize d.blocks.getD k block0 = p at hi0 hi1 hi2 hi3 hi4 hi5 ph it hsp HT
    have HT' : Hid ((d.blocks.take (k + 1)).map (sbBlock ρ) = (d.blocks.take k).map (sbBlock ρ) ++ [sbBlock ρ p]) := HT
    have hW := HS.out.bel
    have f0 : w5.cell? ⟨pb, po + k * 6, none⟩ = some (.slice pu p.phis.length pq) := (cell_block (hW.block pb hpb)).trans hi0
    have f1 : w5.cell? ⟨pb, po + k * 6 + 1, none⟩ = some (.slice iu p.insts.length iq) := (cell_block (hW.block pb hpb)).trans hi1
    have f2 : w5.cell? ⟨pb, po + k * 6 + 2, none⟩ = some (.int .i64 p.term.kind) := (cell_block (hW.block pb hpb)).trans hi2
    have f3 : w5.cell? ⟨pb, po + k * 6 + 3, none⟩ = some (.int .i64 p.term.a) := (cell_block (hW.block pb hpb)).trans hi3
    have f4 : w5.cell? ⟨pb, po + k * 6 + 4, none⟩ = some (.int .i64 p.term.x) := (cell_block (hW.block pb hpb)).trans hi4
    have f5 : w5.cell? ⟨pb, po + k * 6 + 5, none⟩ = some (.int .i64 p.term.y) := (cell_block (hW.block pb hpb)).trans hi5
    have b5 : Below w5.heap.size w5 (w5.alloc (.cells #[.slice pu p.phis.length pq, .slice iu p.insts.length iq, .int .i64 p.term.kind, .int .i64 p.term.a, .int .i64 p.term.x, .int .i64 p.term.y] 41)) := (Below.refl _ _).alloc (Nat.le_refl _) _
    have PM : PhisAt ((w5.alloc (.cells #[.slice pu p.phis.length pq, .slice iu p.insts.length iq, .int .i64 p.term.kind, .int .i64 p.term.a, .int .i64 p.term.x, .int .i64 p.term.y] 41))).drew lo pu p.phis := (ph.keep (agree_of_below hW lo)).keep (agree_of_below b5 lo)
    have IM : InstsAt ((w5.alloc (.cells #[.slice pu p.phis.length pq, .slice iu p.insts.length iq, .int .i64 p.term.kind, .int .i64 p.term.a, .int .i64 p.term.x, .int .i64 p.term.y] 41))).drew lo iu p.insts := (it.keep (agree_of_below hW lo)).keep (agree_of_below b5 lo)
    have PI := ofBlockI B lo ρ p pu pq iu iq ((w5.alloc (.cells #[.slice pu p.phis.length pq, .slice iu p.insts.length iq, .int .i64 p.term.kind, .int .i64 p.term.a, .int .i64 p.term.x, .int .i64 p.term.y] 41))).drew ((HRN.out.below hW).below b5.drew) PM IM hsp
    have HS5 : Hid (SSt w (w5.alloc (.cells #[.slice pu p.phis.length pq, .slice iu p.insts.length iq, .int .i64 p.term.kind, .int .i64 p.term.a, .int .i64 p.term.x, .int .i64 p.term.y] 41)) X 27 ps #[.slice u d.params.length c, .int .i64 d.ret, .slice nu is.length nc] #[.slice none 0 0, .int .i64 0, .slice none 0 0]) := HS.out.keep b5
    have HW5 : Hid (OwnI (w5.alloc (.cells #[.slice pu p.phis.length pq, .slice iu p.insts.length iq, .int .i64 p.term.kind, .int .i64 p.term.a, .int .i64 p.term.x, .int .i64 p.term.y] 41)) (w.heap.size + 2) m u d.params) := HW.out.still (Still.below (k := 9) b5) (by decide)
    have HR5 : Hid (RowS 41 6 bkC (w5.alloc (.cells #[.slice pu p.phis.length pq, .slice iu p.insts.length iq, .int .i64 p.term.kind, .int .i64 p.term.a, .int .i64 p.term.x, .int .i64 p.term.y] 41)) m (.slice nu is.length nc) is) := HR.out.still (Still.below (k := 9) b5) (by decide)
    have HU5 : Hid (Sub OwnBk (w5.alloc (.cells #[.slice pu p.phis.length pq, .slice iu p.insts.length iq, .int .i64 p.term.kind, .int .i64 p.term.a, .int .i64 p.term.x, .int .i64 p.term.y] 41)) m ((w5.alloc (.cells #[.slice pu p.phis.length pq, .slice iu p.insts.length iq, .int .i64 p.term.kind, .int .i64 p.term.a, .int .i64 p.term.x, .int .i64 p.term.y] 41))).heap.size is) := (HU.out.wide (Nat.le_refl _) b5.size).still fun _ _ _ h => OwnBk.still h (Still.below (k := 9) b5) (by decide)
    have HAP : Hid (At (w5.alloc (.cells #[.slice pu p.phis.length pq, .slice iu p.insts.length iq, .int .i64 p.term.kind, .int .i64 p.term.a, .int .i64 p.term.x, .int .i64 p.term.y] 41)) w5.heap.size #[.slice pu p.phis.length pq, .slice iu p.insts.length iq, .int .i64 p.term.kind, .int .i64 p.term.a, .int .i64 p.term.x, .int .i64 p.term.y] 41) := At.new _ _ _
    have hRP : ∀ g, (Value.slice nu is.length nc).ownBlock = some g → g < w5.heap.size := fun g e => by
     obtain ⟨_, cur, hc⟩ := HR.out.ge e
     exact (Array.getElem?_eq_some_iff.1 hc).1
    have hX5 : X < w5.heap.size := HS.out.box.lt
    clear hpc hi0 hi1 hi2 hi3 hi4 hi5 ph it hsp HT m2 HS HW HR HU b5 IM PM hW
    go_upto_region 5 with fail
    clear f0 f1 f2 f3 f4 f5
    generalize (w5.alloc (.cells #[.slice pu p.phis.length pq, .slice iu p.insts.length iq, .int .i64 p.term.kind, .int .i64 p.term.a, .int .i64 p.term.x, .int .i64 p.term.y] 41)) = w6 at *
    have row6 : ∀ W : World, W.heap[w5.heap.size]? = some (.cells #[.slice pu p.phis.length pq, .slice iu p.insts.length iq, .int .i64 p.term.kind, .int .i64 p.term.a, .int .i64 p.term.x, .int .i64 p.term.y] 41 (0, 0)) → W.cell? ⟨w5.heap.size, 0, none⟩ = some (.slice pu p.phis.length pq) ∧ W.cell? ⟨w5.heap.size, 1, none⟩ = some (.slice iu p.insts.length iq) ∧ W.cell? ⟨w5.heap.size, 2, none⟩ = some (.int .i64 p.term.kind) ∧ W.cell? ⟨w5.heap.size, 3, none⟩ = some (.int .i64 p.term.a) ∧ W.cell? ⟨w5.heap.size, 4, none⟩ = some (.int .i64 p.term.x) ∧ W.cell? ⟨w5.heap.size, 5, none⟩ = some (.int .i64 p.term.y) := fun W h => ⟨(cell_of_heap h).trans rfl, (cell_of_heap h).trans rfl, (cell_of_heap h).trans rfl, (cell_of_heap h).trans rfl, (cell_of_heap h).trans rfl, (cell_of_heap h).trans rfl⟩
    have HR6 : Hid (∀ W : World, W.heap[w5.heap.size]? = some (.cells #[.slice pu p.phis.length pq, .slice iu p.insts.length iq, .int .i64 p.term.kind, .int .i64 p.term.a, .int .i64 p.term.x, .int .i64 p.term.y] 41 (0, 0)) → _) := row6
    clear row6
    have s0 : w6.cell? ⟨X, 2, none⟩ = some (.slice nu is.length nc) ∧ w6.heap[w5.heap.size]? = some (.cells #[.slice pu p.phis.length pq, .slice iu p.insts.length iq, .int .i64 p.term.kind, .int .i64 p.term.a, .int .i64 p.term.x, .int .i64 p.term.y] 41 (0, 0)) := ⟨HS5.out.box.cell 2, HAP.out⟩
    go_wp2_with fail
    refine startX (fun w' => w'.cell? ⟨X, 2, none⟩ = some (.slice nu is.length nc) ∧ w'.heap[w5.heap.size]? = some (.cells #[.slice pu p.phis.length pq, .slice iu p.insts.length iq, .int .i64 p.term.kind, .int .i64 p.term.a, .int .i64 p.term.x, .int .i64 p.term.y] 41 (0, 0))) (fun i => decide (i = 8)) (by kernel_rfl) ?_
    refine takeX 0 (v := ?_) rfl rfl (by kernel_rfl) (fun _ _ _ h => h) (yesH (by rfl) ?_) s0 ?_
    rotate_left
    ·intro w9 hS9
     obtain ⟨g0, g1⟩ := hS9
     obtain ⟨k0, k1, k2, k3, k4, k5⟩ := HR6.out w9 g1
     go_simp
     try with_reducible rfl
    try simp only [Act.put, sA, sB, sC]
    refine takeX 1 (v := ?_) rfl rfl (by kernel_rfl) (fun _ _ _ h => h) (yesH (by rfl) ?_) s0 ?_
    rotate_left
    ·intro w9 hS9
     obtain ⟨g0, g1⟩ := hS9
     obtain ⟨k0, k1, k2, k3, k4, k5⟩ := HR6.out w9 g1
     go_simp
     try with_reducible rfl
    try simp only [Act.put, sA, sB, sC]
    refine takeX 2 (v := ?_) rfl rfl (by kernel_rfl) (fun _ _ _ h => h) (yesH (by rfl) ?_) s0 ?_
    rotate_left
    ·intro w9 hS9
     obtain ⟨g0, g1⟩ := hS9
     obtain ⟨k0, k1, k2, k3, k4, k5⟩ := HR6.out w9 g1
     go_simp
     try with_reducible rfl
    try simp only [Act.put, sA, sB, sC]
    refine takeX 3 (v := ?_) rfl rfl (by kernel_rfl) (fun _ _ _ h => h) (yesH (by rfl) ?_) s0 ?_
    rotate_left
    ·intro w9 hS9
     obtain ⟨g0, g1⟩ := hS9
     obtain ⟨k0, k1, k2, k3, k4, k5⟩ := HR6.out w9 g1
     go_simp
     try with_reducible rfl
    try simp only [Act.put, sA, sB, sC]
    clear HR6
    refine readyX 4 rfl (by kernel_rfl) (fun K hK => ?_)
    go_simp
    go_wp2_with fail
    refine PI.mono ?_
    rintro e w7 ⟨q, hq, rfl, hown, b7'⟩
    have b7 : Below w6.heap.size w6 w7 := undrew b7'
    have HQ : Hid (q.d = sbBlock ρ p) := hq
    have HS7 : Hid (SSt w w7 X 27 ps #[.slice u d.params.length c, .int .i64 d.ret, .slice nu is.length nc] #[.slice none 0 0, .int .i64 0, .slice none 0 0]) := HS5.out.keep b7
    have HW7 : Hid (OwnI w7 (w.heap.size + 2) m u d.params) := HW5.out.still (Still.below (k := 9) b7) (by decide)
    have HR7 : Hid (RowS 41 6 bkC w7 m (.slice nu is.length nc) is) := HR5.out.still (Still.below (k := 9) b7) (by decide)
    have HU7 : Hid (Sub OwnBk w7 m w7.heap.size (is ++ [q])) := Sub.snoc (HU5.out.still fun _ _ _ h => OwnBk.still h (Still.below (k := 9) b7) (by decide)) (Nat.le_refl _) b7.size hown
    have HAP7 : Hid (At w7 w5.heap.size #[.slice pu p.phis.length pq, .slice iu p.insts.length iq, .int .i64 p.term.kind, .int .i64 p.term.a, .int .i64 p.term.x, .int .i64 p.term.y] 41) := HAP.out.below b7
    have HM7 : Hid ((is ++ [q]).map BkE.d = (d.blocks.take (k + 1)).map (sbBlock ρ)) := by
     show _ = _
     rw [HT'.out, List.map_append, HM.out, ← HQ.out]
     rfl
    have hmz : m ≤ w7.heap.size := HU7.out.le
    have s7 : w7.cell? ⟨X, 2, none⟩ = some (.slice nu is.length nc) ∧ w7.heap[w5.heap.size]? = some (.cells #[.slice pu p.phis.length pq, .slice iu p.insts.length iq, .int .i64 p.term.kind, .int .i64 p.term.a, .int .i64 p.term.x, .int .i64 p.term.y] 41 (0, 0)) := ⟨HS7.out.box.cell 2, HAP7.out⟩
    have b8 : Below w7.heap.size w7 (w7.alloc (.cells #[.slice q.pu q.ps.length q.pc, .slice q.iu q.is.length q.ic, .int .i64 q.t.kind, .int .i64 q.t.a, .int .i64 q.t.x, .int .i64 q.t.y] 41)) := (Below.refl _ _).alloc (Nat.le_refl _) _
    have s8 : ((w7.alloc (.cells #[.slice q.pu q.ps.length q.pc, .slice q.iu q.is.length q.ic, .int .i64 q.t.kind, .int .i64 q.t.a, .int .i64 q.t.x, .int .i64 q.t.y] 41))).cell? ⟨X, 2, none⟩ = some (.slice nu is.length nc) ∧ ((w7.alloc (.cells #[.slice q.pu q.ps.length q.pc, .slice q.iu q.is.length q.ic, .int .i64 q.t.kind, .int .i64 q.t.a, .int .i64 q.t.x, .int .i64 q.t.y] 41))).heap[w5.heap.size]? = some (.cells #[.slice pu p.phis.length pq, .slice iu p.insts.length iq, .int .i64 p.term.kind, .int .i64 p.term.a, .int .i64 p.term.x, .int .i64 p.term.y] 41 (0, 0)) := ⟨(HS7.out.box.below b8).cell 2, HAP7.out.below b8⟩
    obtain ⟨g9, cap9, w9, hrun, b9, kp9, hX9, sta, hra, hua⟩ := app_box appBk 25 (C := bkC) (O := OwnBk) (TB := 27) (fun _ => rfl) (fun e v hv => by simp only [bkC, List.mem_cons, List.not_mem_nil, or_false] at hv; rcases hv with rfl | rfl | rfl | rfl | rfl | rfl <;> rfl) (by decide) (fun _ _ _ _ _ st h => OwnBk.still h st (by decide)) 2 HR7.out HU7.out HS7.out.box (by have := his.out; omega)
    have hrun : (Builtin.append_ #[25, 25] 25 #[.slice nu is.length nc, .slice (some ⟨w7.heap.size, 0, none⟩) 1 1]).run Tryd.prog (w7.alloc (.cells #[.slice q.pu q.ps.length q.pc, .slice q.iu q.is.length q.ic, .int .i64 q.t.kind, .int .i64 q.t.a, .int .i64 q.t.x, .int .i64 q.t.y] 41)) = .ok (.slice (some ⟨g9, 0, none⟩) (is.length + 1) cap9) w9 := hrun
    have HS9 : Hid (SSt w w9 X 27 ps #[.slice u d.params.length c, .int .i64 d.ret, .slice nu is.length nc] #[.slice none 0 0, .int .i64 0, .slice none 0 0]) := HS7.out.low b9 (by omega)
    have HAP9 : At w9 w5.heap.size #[.slice pu p.phis.length pq, .slice iu p.insts.length iq, .int .i64 p.term.kind, .int .i64 p.term.a, .int .i64 p.term.x, .int .i64 p.term.y] 41 := (kp9 _ HAP7.out.lt (fun e => by have := hRP _ e; omega)).trans HAP7.out
    have s9 : w9.cell? ⟨X, 2, none⟩ = some (.slice nu is.length nc) ∧ w9.heap[w5.heap.size]? = some (.cells #[.slice pu p.phis.length pq, .slice iu p.insts.length iq, .int .i64 p.term.kind, .int .i64 p.term.a, .int .i64 p.term.x, .int .i64 p.term.y] 41 (0, 0)) := ⟨HS9.out.box.cell 2, HAP9⟩
    have HSa : Hid (SSt w (w9.setCell ⟨X, 2, none⟩ (.slice (some ⟨g9, 0, none⟩) (is.length + 1) cap9)) X 27 ps #[.slice u d.params.length c, .int .i64 d.ret, (.slice (some ⟨g9, 0, none⟩) (is.length + 1) cap9)] #[.slice none 0 0, .int .i64 0, .slice none 0 0]) := HS9.out.set 2 _
    have HWa : Hid (OwnI (w9.setCell ⟨X, 2, none⟩ (.slice (some ⟨g9, 0, none⟩) (is.length + 1) cap9)) (w.heap.size + 2) m u d.params) := OwnI.still HW7.out sta (by decide)
    have HRa : Hid (RowS 41 6 bkC (w9.setCell ⟨X, 2, none⟩ (.slice (some ⟨g9, 0, none⟩) (is.length + 1) cap9)) m (.slice (some ⟨g9, 0, none⟩) (is.length + 1) cap9) (is ++ [q])) := hra
    have HUa : Hid (Sub OwnBk (w9.setCell ⟨X, 2, none⟩ (.slice (some ⟨g9, 0, none⟩) (is.length + 1) cap9)) m (w9.setCell ⟨X, 2, none⟩ (.slice (some ⟨g9, 0, none⟩) (is.length + 1) cap9)).heap.size (is ++ [q])) := hua
    have c9 := s9.1
    have fz9 : w9.frozen? ⟨X, 2, none⟩ = false := froz_of_heap HS9.out.box
    clear PI b7 b7' hown hq HS5 HW5 HR5 HU5 HAP HS7 HW7 HR7 HU7 HAP7 HAP9 b8 b9 kp9 hX9 sta hra hua HS9 hRP HM HT' HQ s0 hmz
    refine hK.out _ _ (.inr s7) ?_
    clear hK K
    try simp only [Act.put, sA, sB, sC]
    refine readyX 5 rfl (by kernel_rfl) (fun K hK => ?_)
    go_simp
    refine hK.out _ _ (.inr s8) ?_
    clear hK K
    try simp only [Act.put, sA, sB, sC]
    refine readyX 6 rfl (by kernel_rfl) (fun K hK => ?_)
    refine step_runP rfl _ _ _ rfl rfl rfl hrun ?_
    refine hK.out _ _ (.inr s9) ?_
    clear hK K hrun s7 s8
    try simp only [Act.put, sA, sB, sC]
    refine takeX 7 (v := ?_) rfl rfl (by kernel_rfl) (fun _ _ _ h => h) (yesH (by rfl) ?_) s9 ?_
    rotate_left
    ·intro w9 hS9
     go_simp
     try with_reducible rfl
    try simp only [Act.put, sA, sB, sC]
    clear s9
    refine readyX 8 rfl (by kernel_rfl) (fun K hK => ?_)
    go_simp
    refine hK.out _ _ (.inl rfl) ?_
    clear hK K
    refine doneX (by kernel_rfl) ?_ _
    go_wp2_with fail
    go_roundw
    case rel => exact ⟨k + 1, _, _, by omega, by go_num, (by have := his.out; show _ = _; rw [List.length_append]; simp; omega), HM7.out, HSa.out, HWa.out, HRa.out, HUa.out⟩
    case measure => simp [intOf]; omega
   ·have hke : k = d.blocks.length := by omega
    have HMi : Hid (is.map BkE.d = d.blocks.map (sbBlock ρ)) := by
     show _ = _
     rw [HM.out, hke, List.take_length]
    have HV : Hid (OwnBks w5 m w5.heap.size nu is) := RowS.own (fun _ => rfl) (by have := his.out; omega) HR.out HU.out (Nat.le_refl _) (Nat.le_refl _)
    have hm5 : m ≤ w5.heap.size := HU.out.le
    have x0 : w5.cell? ⟨X, 0, none⟩ = some (.slice u d.params.length c) := HS.out.box.cell 0
    have x1 : w5.cell? ⟨X, 1, none⟩ = some (.int .i64 d.ret) := HS.out.box.cell 1
    have x2 : w5.cell? ⟨X, 2, none⟩ = some (.slice nu is.length nc) := HS.out.box.cell 2
    have r0 : w5.cell? ⟨w.heap.size + 1, 0, none⟩ = some (.slice none 0 0) := HS.out.res.cell 0
    have r1 : w5.cell? ⟨w.heap.size + 1, 1, none⟩ = some (.int .i64 0) := HS.out.res.cell 1
    have r2 : w5.cell? ⟨w.heap.size + 1, 2, none⟩ = some (.slice none 0 0) := HS.out.res.cell 2
    have rf : ∀ o, w5.frozen? ⟨w.heap.size + 1, o, none⟩ = false := fun o => froz_of_heap HS.out.res
    have hX0 := HS.out.ltX
    clear HM HR HU
    go_wp2_with fail
    have hr := heap_set (o := 2) (v := .slice nu is.length nc) (heap_set (o := 1) (v := .int .i64 d.ret) (heap_set (o := 0) (v := .slice u d.params.length c) HS.out.res))
    have BB : Below w.heap.size w (((w5.setCell ⟨w.heap.size + 1, 0, none⟩ (.slice u d.params.length c)).setCell ⟨w.heap.size + 1, 1, none⟩ (.int .i64 d.ret)).setCell ⟨w.heap.size + 1, 2, none⟩ (.slice nu is.length nc)) := ((HS.out.bel.setCell (by dsimp only; omega) _).setCell (by dsimp only; omega) _).setCell (by dsimp only; omega) _
    have hzr : w5.heap.size ≤ ((((w5.setCell ⟨w.heap.size + 1, 0, none⟩ (.slice u d.params.length c)).setCell ⟨w.heap.size + 1, 1, none⟩ (.int .i64 d.ret)).setCell ⟨w.heap.size + 1, 2, none⟩ (.slice nu is.length nc))).heap.size := by simp only [World.size_setCell]; exact Nat.le_refl _
    have SS : Still 4 w5 (((w5.setCell ⟨w.heap.size + 1, 0, none⟩ (.slice u d.params.length c)).setCell ⟨w.heap.size + 1, 1, none⟩ (.int .i64 d.ret)).setCell ⟨w.heap.size + 1, 2, none⟩ (.slice nu is.length nc)) := (Still.set (k := 4) (o := 0) (v := .slice u d.params.length c) HS.out.res (by decide)).trans ((Still.set (k := 4) (o := 1) (v := .int .i64 d.ret) (heap_set (o := 0) (v := .slice u d.params.length c) HS.out.res) (by decide)).trans (Still.set (k := 4) (o := 2) (v := .slice nu is.length nc) (heap_set (o := 1) (v := .int .i64 d.ret) (heap_set (o := 0) (v := .slice u d.params.length c) HS.out.res)) (by decide)))
    generalize (((w5.setCell ⟨w.heap.size + 1, 0, none⟩ (.slice u d.params.length c)).setCell ⟨w.heap.size + 1, 1, none⟩ (.int .i64 d.ret)).setCell ⟨w.heap.size + 1, 2, none⟩ (.slice nu is.length nc)) = W9 at *
    have UU : OwnFn W9 w.heap.size W9.heap.size ⟨d.params, u, c, d.ret, is, nu, nc⟩ := ⟨m, by omega, by omega, (HW.out.still SS (by decide)).wide (by omega) (Nat.le_refl _), (OwnBks.still HV.out SS (by decide)).wide (Nat.le_refl _) (by omega)⟩
    exact bodyPost_ret (v := .agg #[.slice u d.params.length c, .int .i64 d.ret, .slice nu is.length nc]) ((results_cell_row Tryd.results28 _ _ (w.heap.size + 1) 27 _ (0, 0) _ rfl hr Tryd.underlying27 rfl (by kernel_rfl)).trans (by rfl)) rfl ⟨⟨d.params, u, c, d.ret, is, nu, nc⟩, (by unfold FnE.d sbFunc; dsimp only; rw [HMi.out]), rfl, UU, BB⟩
end Go.Proofs.YtenbodghkpbghaaDoor
namespace Go.Proofs.YtenbodghkpbghaaDoor
open Go.RowKit
end Go.Proofs.YtenbodghkpbghaaDoor
namespace Go.Proofs.YtenbodghkpbghaaDoor
open Go.RowKit
end Go.Proofs.YtenbodghkpbghaaDoor
namespace Go.Proofs.YtenbodghkpbghaaDoor
open Go.RowKit
set_option linter.unusedVariables false
end Go.Proofs.YtenbodghkpbghaaDoor
namespace Go.Proofs.YtenbodghkpbghaaDoor
open Go.RowKit
set_option linter.unusedVariables false
structure Fo3 (d : FuncD) (i : InstD) (u0 : Option Addr) (c0 : Nat) (u2 : Option Addr) (c2 : Nat) (ua : Option Addr) (qa : Nat) (w w1 : World) : Prop where
 b : Fo2 d i u0 c0 u2 c2 ua qa w w1
 j : w1.heap[w.heap.size + 2]? = some (.cells #[.int .i64 i.op, .int .i64 i.w, .int .i64 i.a, .int .i64 i.b, .int .i64 i.c, .int .i64 i.imm, .slice ua i.args.length qa] 44 (0, 0))
theorem Fo3.keep {d : FuncD} {i : InstD} {u0 u2 ua : Option Addr} {c0 c2 qa : Nat} {w w1 w2 : World} (h : Fo3 d i u0 c0 u2 c2 ua qa w w1) (k : Below w1.heap.size w1 w2) : Fo3 d i u0 c0 u2 c2 ua qa w w2 :=
 ⟨h.b.keep k, (k.block _ (Array.getElem?_eq_some_iff.1 h.j).1).trans h.j⟩
theorem Fo3.cell {d : FuncD} {i : InstD} {u0 u2 ua : Option Addr} {c0 c2 qa : Nat} {w w1 : World} (h : Fo3 d i u0 c0 u2 c2 ua qa w w1) :
  w1.cell? ⟨w.heap.size + 2, 0, none⟩ = some (.int .i64 i.op) ∧ w1.cell? ⟨w.heap.size + 2, 1, none⟩ = some (.int .i64 i.w) ∧ w1.cell? ⟨w.heap.size + 2, 2, none⟩ = some (.int .i64 i.a) ∧ w1.cell? ⟨w.heap.size + 2, 3, none⟩ = some (.int .i64 i.b) ∧ w1.cell? ⟨w.heap.size + 2, 4, none⟩ = some (.int .i64 i.c) ∧ w1.cell? ⟨w.heap.size + 2, 5, none⟩ = some (.int .i64 i.imm) ∧ w1.cell? ⟨w.heap.size + 2, 6, none⟩ = some (.slice ua i.args.length qa) :=
 ⟨(cell_of_heap h.j).trans rfl, (cell_of_heap h.j).trans rfl, (cell_of_heap h.j).trans rfl, (cell_of_heap h.j).trans rfl, (cell_of_heap h.j).trans rfl, (cell_of_heap h.j).trans rfl, (cell_of_heap h.j).trans rfl⟩
end Go.Proofs.YtenbodghkpbghaaDoor
namespace Go.Proofs.YtenbodghkpbghaaDoor
open Go.RowKit
set_option linter.unusedVariables false
structure FoJ (d : FuncD) (i : InstD) (u0 : Option Addr) (c0 : Nat) (u2 : Option Addr) (c2 : Nat) (ua : Option Addr) (qa : Nat) (w w1 : World) : Prop where
 f : FoBox d i u0 c0 u2 c2 ua qa w w1
 j : w1.heap[w.heap.size + 2]? = some (.cells #[.int .i64 i.op, .int .i64 i.w, .int .i64 i.a, .int .i64 i.b, .int .i64 i.c, .int .i64 i.imm, .slice ua i.args.length qa] 44 (0, 0))
theorem FoJ.keep {d : FuncD} {i : InstD} {u0 u2 ua : Option Addr} {c0 c2 qa : Nat} {w w1 w2 : World} (h : FoJ d i u0 c0 u2 c2 ua qa w w1) (k : Below w1.heap.size w1 w2) : FoJ d i u0 c0 u2 c2 ua qa w w2 :=
 ⟨h.f.keep k, (k.block _ (Array.getElem?_eq_some_iff.1 h.j).1).trans h.j⟩
theorem FoJ.set {d : FuncD} {i : InstD} {u0 u2 ua : Option Addr} {c0 c2 qa : Nat} {w w1 : World} (h : FoJ d i u0 c0 u2 c2 ua qa w w1) (g o : Nat) (v : Value) (hg : w.heap.size < g) (hn : g ≠ w.heap.size + 2) : FoJ d i u0 c0 u2 c2 ua qa w (w1.setCell ⟨g, o, none⟩ v) := by
 have hb : (w1.setCell ⟨g, o, none⟩ v).heap[w.heap.size]? = w1.heap[w.heap.size]? := Below.heap_setCell _ _ _ _ (by show w.heap.size ≠ g; omega)
 have hj : (w1.setCell ⟨g, o, none⟩ v).heap[w.heap.size + 2]? = w1.heap[w.heap.size + 2]? := Below.heap_setCell _ _ _ _ (by show w.heap.size + 2 ≠ g; omega)
 exact ⟨⟨(cell_block hb).trans h.f.a0, (cell_block hb).trans h.f.a1, (cell_block hb).trans h.f.a2, (cell_block hb).trans h.f.a3, (cell_block hb).trans h.f.a4, (cell_block hb).trans h.f.a5, (cell_block hb).trans h.f.a6, (cell_block hb).trans h.f.a7, (cell_block hb).trans h.f.a8, (cell_block hb).trans h.f.a9, h.f.below.setCell (p := ⟨g, o, none⟩) (by show w.heap.size ≤ g; omega) v, by simpa [World.setCell] using h.f.size⟩, hj.trans h.j⟩
theorem FoJ.cell {d : FuncD} {i : InstD} {u0 u2 ua : Option Addr} {c0 c2 qa : Nat} {w w1 : World} (h : FoJ d i u0 c0 u2 c2 ua qa w w1) :
  w1.cell? ⟨w.heap.size + 2, 0, none⟩ = some (.int .i64 i.op) ∧ w1.cell? ⟨w.heap.size + 2, 1, none⟩ = some (.int .i64 i.w) ∧ w1.cell? ⟨w.heap.size + 2, 2, none⟩ = some (.int .i64 i.a) ∧ w1.cell? ⟨w.heap.size + 2, 3, none⟩ = some (.int .i64 i.b) ∧ w1.cell? ⟨w.heap.size + 2, 4, none⟩ = some (.int .i64 i.c) ∧ w1.cell? ⟨w.heap.size + 2, 5, none⟩ = some (.int .i64 i.imm) ∧ w1.cell? ⟨w.heap.size + 2, 6, none⟩ = some (.slice ua i.args.length qa) :=
 ⟨(cell_of_heap h.j).trans rfl, (cell_of_heap h.j).trans rfl, (cell_of_heap h.j).trans rfl, (cell_of_heap h.j).trans rfl, (cell_of_heap h.j).trans rfl, (cell_of_heap h.j).trans rfl, (cell_of_heap h.j).trans rfl⟩
end Go.Proofs.YtenbodghkpbghaaDoor
namespace Go.Proofs.YtenbodghkpbghaaDoor
open Go.RowKit
set_option linter.unusedVariables false
end Go.Proofs.YtenbodghkpbghaaDoor
namespace Go.Proofs.YtenbodghkpbghaaDoor
open Go.RowKit
set_option linter.unusedVariables false
end Go.Proofs.YtenbodghkpbghaaDoor
namespace Go.Proofs.YtenbodghkpbghaaDoor
open Go.RowKit
set_option linter.unusedVariables false
end Go.Proofs.YtenbodghkpbghaaDoor
namespace Go.Proofs.YtenbodghkpbghaaDoor
open Go.RowKit
set_option linter.unusedVariables false
structure OkR (r : InstD) : Prop where
 back : mkD r.op r.w r.imm (opsD r) = r
 three : r.op = 26 ∨ (opsD r).length ≤ 3
 args : r.args.length ≤ 1000
 ops : (opsD r).length ≤ 1000
 rng : ∀ x ∈ opsD r, 0 ≤ x ∧ x ≤ 100000
end Go.Proofs.YtenbodghkpbghaaDoor
namespace Go.Proofs.YtenbodghkpbghaaDoor
open Go.RowKit
end Go.Proofs.YtenbodghkpbghaaDoor
namespace Go.Proofs.YtenbodghkpbghaaDoor
open Go.RowKit
set_option linter.unusedVariables false
set_option maxHeartbeats 2000000 in
set_option maxRecDepth 100000 in
theorem funcShI_p (lo : Nat) (d : FuncD) (u0 : Option Addr) (c0 : Nat) (u2 : Option Addr) (c2 : Nat) (funcs : Int) (w : World) (hs : SmFunc d) (k0 : IntsAt w lo u0 d.params) (k2 : BlocksAt w lo u2 d.blocks) (hp : ¬ d.params.length ≤ 4) : Calls Tryd.prog 45 #[.agg #[.slice u0 d.params.length c0, .int .i64 d.ret, .slice u2 d.blocks.length c2], .int .i64 funcs] w fun e w' => e = .returned (.bool (funcB funcs d)) ∧ Below w.heap.size w w' := by
 have HR : Hid (false = funcB funcs d) := by show _ = _; simp [funcB, hp]
 have i1 : (4 : Int) < d.params.length := by omega
 go_enter Tryd.func45, Tryd.ntmps45
 go_wp2_with fail
 go_ret
 exact ⟨ret_bool HR.out, (Below.refl _ _).alloc (Nat.le_refl _) _⟩
set_option maxHeartbeats 2000000 in
set_option maxRecDepth 100000 in
theorem funcShI_a (lo : Nat) (d : FuncD) (u0 : Option Addr) (c0 : Nat) (u2 : Option Addr) (c2 : Nat) (funcs : Int) (w : World) (hs : SmFunc d) (k0 : IntsAt w lo u0 d.params) (k2 : BlocksAt w lo u2 d.blocks) (hp : d.params.length ≤ 4) (ha : d.params.all widthB = false) : Calls Tryd.prog 45 #[.agg #[.slice u0 d.params.length c0, .int .i64 d.ret, .slice u2 d.blocks.length c2], .int .i64 funcs] w fun e w' => e = .returned (.bool (funcB funcs d)) ∧ Below w.heap.size w w' := by
 have HR : Hid (false = funcB funcs d) := by show _ = _; simp [funcB, ha]
 have i1 : ¬ (4 : Int) < d.params.length := by omega
 have K1 := (k0.keep (agree_alloc w (.cells #[.slice u0 d.params.length c0, .int .i64 d.ret, .slice u2 d.blocks.length c2] 27) _))
 have A := fun w k => allWidthsI lo u0 c0 d.params w k
 simp only [show (fun n => widthB n) = widthB from rfl] at A
 rw [ha] at A
 go_enter Tryd.func45, Tryd.ntmps45
 go_wp2_with (first | (go_at_call 71; refine (A _ K1).mono ?_; rintro e w' ⟨rfl, rfl⟩))
 go_ret
 exact ⟨ret_bool HR.out, (Below.refl _ _).alloc (Nat.le_refl _) _⟩
set_option maxHeartbeats 2000000 in
set_option maxRecDepth 100000 in
theorem funcShI_r (lo : Nat) (d : FuncD) (u0 : Option Addr) (c0 : Nat) (u2 : Option Addr) (c2 : Nat) (funcs : Int) (w : World) (hs : SmFunc d) (k0 : IntsAt w lo u0 d.params) (k2 : BlocksAt w lo u2 d.blocks) (hp : d.params.length ≤ 4) (ha : d.params.all widthB = true) (hr : widthB d.ret = false) : Calls Tryd.prog 45 #[.agg #[.slice u0 d.params.length c0, .int .i64 d.ret, .slice u2 d.blocks.length c2], .int .i64 funcs] w fun e w' => e = .returned (.bool (funcB funcs d)) ∧ Below w.heap.size w w' := by
 have HR : Hid (false = funcB funcs d) := by show _ = _; simp [funcB, hr]
 have i1 : ¬ (4 : Int) < d.params.length := by omega
 have K1 := (k0.keep (agree_alloc w (.cells #[.slice u0 d.params.length c0, .int .i64 d.ret, .slice u2 d.blocks.length c2] 27) _))
 have A := fun w k => allWidthsI lo u0 c0 d.params w k
 simp only [show (fun n => widthB n) = widthB from rfl] at A
 rw [ha] at A
 go_enter Tryd.func45, Tryd.ntmps45
 go_wp2_with (first | (go_at_call 71; refine (A _ K1).mono ?_; rintro e w' ⟨rfl, rfl⟩) | (go_at_call 72; refine (widthI _ _).mono ?_; rintro e w' ⟨rfl, rfl⟩))
 go_ret
 exact ⟨ret_bool HR.out, (Below.refl _ _).alloc (Nat.le_refl _) _⟩
set_option maxHeartbeats 2000000 in
set_option maxRecDepth 100000 in
theorem funcShI_b (lo : Nat) (d : FuncD) (u0 : Option Addr) (c0 : Nat) (u2 : Option Addr) (c2 : Nat) (funcs : Int) (w : World) (hs : SmFunc d) (k0 : IntsAt w lo u0 d.params) (k2 : BlocksAt w lo u2 d.blocks) (hp : d.params.length ≤ 4) (ha : d.params.all widthB = true) (hr : widthB d.ret = true) (hb : ¬ 1 ≤ d.blocks.length) : Calls Tryd.prog 45 #[.agg #[.slice u0 d.params.length c0, .int .i64 d.ret, .slice u2 d.blocks.length c2], .int .i64 funcs] w fun e w' => e = .returned (.bool (funcB funcs d)) ∧ Below w.heap.size w w' := by
 have HR : Hid (false = funcB funcs d) := by show _ = _; simp [funcB, hb]
 have i1 : ¬ (4 : Int) < d.params.length := by omega
 have K1 := (k0.keep (agree_alloc w (.cells #[.slice u0 d.params.length c0, .int .i64 d.ret, .slice u2 d.blocks.length c2] 27) _))
 have A := fun w k => allWidthsI lo u0 c0 d.params w k
 simp only [show (fun n => widthB n) = widthB from rfl] at A
 rw [ha] at A
 have i2 : (d.blocks.length : Int) < 1 := by omega
 go_enter Tryd.func45, Tryd.ntmps45
 go_wp2_with (first | (go_at_call 71; refine (A _ K1).mono ?_; rintro e w' ⟨rfl, rfl⟩) | (go_at_call 72; refine (widthI _ _).mono ?_; rintro e w' ⟨rfl, rfl⟩))
 go_ret
 exact ⟨ret_bool HR.out, (Below.refl _ _).alloc (Nat.le_refl _) _⟩
set_option maxHeartbeats 2000000 in
set_option maxRecDepth 100000 in
theorem funcShI_c (lo : Nat) (d : FuncD) (u0 : Option Addr) (c0 : Nat) (u2 : Option Addr) (c2 : Nat) (funcs : Int) (w : World) (hs : SmFunc d) (k0 : IntsAt w lo u0 d.params) (k2 : BlocksAt w lo u2 d.blocks) (hp : d.params.length ≤ 4) (ha : d.params.all widthB = true) (hr : widthB d.ret = true) (hb : 1 ≤ d.blocks.length) (hc : ¬ d.blocks.length ≤ 10) : Calls Tryd.prog 45 #[.agg #[.slice u0 d.params.length c0, .int .i64 d.ret, .slice u2 d.blocks.length c2], .int .i64 funcs] w fun e w' => e = .returned (.bool (funcB funcs d)) ∧ Below w.heap.size w w' := by
 have HR : Hid (false = funcB funcs d) := by show _ = _; simp [funcB, hc]
 have i1 : ¬ (4 : Int) < d.params.length := by omega
 have K1 := (k0.keep (agree_alloc w (.cells #[.slice u0 d.params.length c0, .int .i64 d.ret, .slice u2 d.blocks.length c2] 27) _))
 have A := fun w k => allWidthsI lo u0 c0 d.params w k
 simp only [show (fun n => widthB n) = widthB from rfl] at A
 rw [ha] at A
 have i2 : ¬ (d.blocks.length : Int) < 1 := by omega
 have i3 : (10 : Int) < d.blocks.length := by have := hs.2.1; omega
 go_enter Tryd.func45, Tryd.ntmps45
 go_wp2_with (first | (go_at_call 71; refine (A _ K1).mono ?_; rintro e w' ⟨rfl, rfl⟩) | (go_at_call 72; refine (widthI _ _).mono ?_; rintro e w' ⟨rfl, rfl⟩))
 go_ret
 exact ⟨ret_bool HR.out, (Below.refl _ _).alloc (Nat.le_refl _) _⟩
set_option maxHeartbeats 2000000 in
set_option maxRecDepth 100000 in
theorem funcShI_n (lo : Nat) (d : FuncD) (u0 : Option Addr) (c0 : Nat) (u2 : Option Addr) (c2 : Nat) (funcs : Int) (w : World) (hs : SmFunc d) (k0 : IntsAt w lo u0 d.params) (k2 : BlocksAt w lo u2 d.blocks) (hp : d.params.length ≤ 4) (ha : d.params.all widthB = true) (hr : widthB d.ret = true) (hb : 1 ≤ d.blocks.length) (hc : d.blocks.length ≤ 10) (hn : ¬ cntF d ≤ 60) : Calls Tryd.prog 45 #[.agg #[.slice u0 d.params.length c0, .int .i64 d.ret, .slice u2 d.blocks.length c2], .int .i64 funcs] w fun e w' => e = .returned (.bool (funcB funcs d)) ∧ Below w.heap.size w w' := by
 have HR : Hid (false = funcB funcs d) := by show _ = _; simp [funcB, hn]
 have F0 := FBox.start (d := d) (u0 := u0) (u2 := u2) (c0 := c0) (c2 := c2) (w := w) (T := 27)
 have i1 : ¬ (4 : Int) < d.params.length := by omega
 have K1 := (k0.keep (agree_alloc w (.cells #[.slice u0 d.params.length c0, .int .i64 d.ret, .slice u2 d.blocks.length c2] 27) _))
 have A := fun w k => allWidthsI lo u0 c0 d.params w k
 simp only [show (fun n => widthB n) = widthB from rfl] at A
 rw [ha] at A
 have i2 : ¬ (d.blocks.length : Int) < 1 := by omega
 have i3 : ¬ (10 : Int) < d.blocks.length := by omega
 have i4 : (60 : Int) < cntF d := by omega
 go_enter Tryd.func45, Tryd.ntmps45
 go_wp2_with (first | (go_at_call 71; refine (A _ K1).mono ?_; rintro e w' ⟨rfl, rfl⟩) | (go_at_call 72; refine (widthI _ _).mono ?_; rintro e w' ⟨rfl, rfl⟩))
 refine (countI_any lo d u0 c0 u2 c2 _ hs (k2.keep (agree_of_below F0.below lo))).mono ?_
 rintro e w1 ⟨rfl, hb1'⟩
 have F1 := F0.keep hb1'
 go_wp2_with fail
 go_ret
 exact ⟨ret_bool HR.out, F1.below⟩
theorem funcShI (lo : Nat) (d : FuncD) (u0 : Option Addr) (c0 : Nat) (u2 : Option Addr) (c2 : Nat) (funcs : Int) (w : World) (hs : SmFunc d) (k0 : IntsAt w lo u0 d.params) (k2 : BlocksAt w lo u2 d.blocks) : Calls Tryd.prog 45 #[.agg #[.slice u0 d.params.length c0, .int .i64 d.ret, .slice u2 d.blocks.length c2], .int .i64 funcs] w fun e w' => e = .returned (.bool (funcB funcs d)) ∧ Below w.heap.size w w' := by
 by_cases hp : d.params.length ≤ 4
 ·cases ha : d.params.all widthB with
  | false => exact funcShI_a lo d u0 c0 u2 c2 funcs w hs k0 k2 hp ha
  | true =>
   cases hr : widthB d.ret with
   | false => exact funcShI_r lo d u0 c0 u2 c2 funcs w hs k0 k2 hp ha hr
   | true =>
    by_cases hb : 1 ≤ d.blocks.length
    ·by_cases hc : d.blocks.length ≤ 10
     ·by_cases hn : cntF d ≤ 60
      ·exact funcShI_ok lo d u0 c0 u2 c2 funcs w hs k0 k2 hp ha hr hb hc hn
      ·exact funcShI_n lo d u0 c0 u2 c2 funcs w hs k0 k2 hp ha hr hb hc hn
     ·exact funcShI_c lo d u0 c0 u2 c2 funcs w hs k0 k2 hp ha hr hb hc
    ·exact funcShI_b lo d u0 c0 u2 c2 funcs w hs k0 k2 hp ha hr hb
 ·exact funcShI_p lo d u0 c0 u2 c2 funcs w hs k0 k2 hp
end Go.Proofs.YtenbodghkpbghaaDoor
namespace Go.Proofs.YtenbodghkpbghaaDoor
open Go.RowKit
set_option linter.unusedVariables false
set_option maxHeartbeats 1000000 in
set_option maxRecDepth 100000 in
theorem inFormI (lo : Nat) (d : FuncD) (u0 : Option Addr) (c0 : Nat) (u2 : Option Addr) (c2 : Nat) (w : World) (hs : SmFunc d) (k0 : IntsAt w lo u0 d.params) (k2 : BlocksAt w lo u2 d.blocks) :
  Calls Tryd.prog 26 #[.agg #[.slice u0 d.params.length c0, .int .i64 d.ret, .slice u2 d.blocks.length c2]] w fun e w' => e = .returned (.bool (funcB 3 d)) ∧ Below w.heap.size w w' := by
 have F0 := FBox.start (d := d) (u0 := u0) (u2 := u2) (c0 := c0) (c2 := c2) (w := w) (T := 27)
 have P := funcShI lo d u0 c0 u2 c2 3 _ hs (k0.keep (agree_of_below F0.below lo)) (k2.keep (agree_of_below F0.below lo))
 have HB := F0.below
 have a0 := F0.a0
 have a1 := F0.a1
 have a2 := F0.a2
 clear F0 hs k0 k2
 go_enter Tryd.func26, Tryd.ntmps26
 go_wp2_with (go_at_call 45; refine P.mono ?_; rintro e w2 ⟨rfl, b2⟩)
 go_ret
 exact ⟨rfl, HB.trans (b2.mono HB.size)⟩
end Go.Proofs.YtenbodghkpbghaaDoor
