import Derived.Test.YtenbodghkpbghaaDoorSbHSv
import Derived.Test.YtenbodghkpbghaaDoorXhoSv
namespace Go.Proofs.YtenbodghkpbghaaDoor
open Go.RowKit
set_option linter.unusedVariables false
set_option linter.unusedSimpArgs false
set_option maxHeartbeats 8000000 in
set_option maxRecDepth 100000 in
theorem copyFnS (lo : Nat) (d : FuncD) (u0 : Option Addr) (c0 : Nat) (u2 : Option Addr) (c2 : Nat) (w : World) (m0 : IntsAt w lo u0 d.params) (m2 : BlocksAt w lo u2 d.blocks) (hd : OkFn d) :
  Calls Tryd.prog 51 #[.agg #[.slice u0 d.params.length c0, .int .i64 d.ret, .slice u2 d.blocks.length c2]] w fun e w' => ∃ f : FnE, f.d = d ∧ e = .returned (.agg #[.slice f.pu f.pars.length f.pc, .int .i64 f.ret, .slice f.bu f.bs.length f.bc]) ∧ OwnFn w' w.heap.size w'.heap.size f ∧ Below w.heap.size w w' := by
 have HD : Hid (OkFn d) := hd
 have b0 : Below w.heap.size w ((w.alloc (.cells #[.slice u0 d.params.length c0, .int .i64 d.ret, .slice u2 d.blocks.length c2] 27)).alloc (.cells #[.slice none 0 0, .int .i64 0, .slice none 0 0] 27)) := ((Below.refl _ _).alloc (Nat.le_refl _) _).alloc (by simp) _
 have A0 : At ((w.alloc (.cells #[.slice u0 d.params.length c0, .int .i64 d.ret, .slice u2 d.blocks.length c2] 27)).alloc (.cells #[.slice none 0 0, .int .i64 0, .slice none 0 0] 27)) w.heap.size #[.slice u0 d.params.length c0, .int .i64 d.ret, .slice u2 d.blocks.length c2] 27 := (Below.heap_alloc _ _ _ (by simp)).trans (heap_alloc_last _ _)
 have H0 : Hid (Below w.heap.size w ((w.alloc (.cells #[.slice u0 d.params.length c0, .int .i64 d.ret, .slice u2 d.blocks.length c2] 27)).alloc (.cells #[.slice none 0 0, .int .i64 0, .slice none 0 0] 27))) := b0
 have HA : Hid (At ((w.alloc (.cells #[.slice u0 d.params.length c0, .int .i64 d.ret, .slice u2 d.blocks.length c2] 27)).alloc (.cells #[.slice none 0 0, .int .i64 0, .slice none 0 0] 27)) w.heap.size #[.slice u0 d.params.length c0, .int .i64 d.ret, .slice u2 d.blocks.length c2] 27) := A0
 have HZ : Hid (At ((w.alloc (.cells #[.slice u0 d.params.length c0, .int .i64 d.ret, .slice u2 d.blocks.length c2] 27)).alloc (.cells #[.slice none 0 0, .int .i64 0, .slice none 0 0] 27)) (w.heap.size + 1) #[.slice none 0 0, .int .i64 0, .slice none 0 0] 27) := heap_two2 _ _ _
 have hz : (((w.alloc (.cells #[.slice u0 d.params.length c0, .int .i64 d.ret, .slice u2 d.blocks.length c2] 27)).alloc (.cells #[.slice none 0 0, .int .i64 0, .slice none 0 0] 27))).heap.size = w.heap.size + 2 := by simp
 have HM0 : Hid (IntsAt ((w.alloc (.cells #[.slice u0 d.params.length c0, .int .i64 d.ret, .slice u2 d.blocks.length c2] 27)).alloc (.cells #[.slice none 0 0, .int .i64 0, .slice none 0 0] 27)) lo u0 d.params) := m0.keep (agree_of_below b0 lo)
 have hp := hd.pr
 clear b0 A0 hd m0
 go_enter Tryd.func51, Tryd.ntmps51
 go_upto_region 1 with fail
 generalize ((w.alloc (.cells #[.slice u0 d.params.length c0, .int .i64 d.ret, .slice u2 d.blocks.length c2] 27)).alloc (.cells #[.slice none 0 0, .int .i64 0, .slice none 0 0] 27)) = W1 at *
 have row3 : ∀ W : World, W.heap[w.heap.size]? = some (.cells #[.slice u0 d.params.length c0, .int .i64 d.ret, .slice u2 d.blocks.length c2] 27 (0, 0)) → W.cell? ⟨w.heap.size, 0, none⟩ = some (.slice u0 d.params.length c0) ∧ W.cell? ⟨w.heap.size, 1, none⟩ = some (.int .i64 d.ret) := fun W h => ⟨(cell_of_heap h).trans rfl, (cell_of_heap h).trans rfl⟩
 go_cut [3] (fun s5 wc => ∃ (X : Nat) (u : Option Addr) (c : Nat), s5 = .pointer (some ⟨X, 0, none⟩) ∧ Hid (SSt w wc X 27 #[.slice u0 d.params.length c0, .int .i64 d.ret, .slice u2 d.blocks.length c2] #[.slice u d.params.length c, .int .i64 d.ret, .slice none 0 0] #[.slice none 0 0, .int .i64 0, .slice none 0 0]) ∧ Hid (OwnI wc (w.heap.size + 2) wc.heap.size u d.params))
 case first =>
  have hS0 : W1.drew.heap[w.heap.size]? = some (.cells #[.slice u0 d.params.length c0, .int .i64 d.ret, .slice u2 d.blocks.length c2] 27 (0, 0)) := HA.out
  refine wp_region_held_drew (S := fun w' => w'.heap[w.heap.size]? = some (.cells #[.slice u0 d.params.length c0, .int .i64 d.ret, .slice u2 d.blocks.length c2] 27 (0, 0))) (by kernel_rfl) hS0 (fun hHeld => ?_)
  clear hS0
  refine tkh 0 (v := ?_) rfl rfl (by kernel_rfl) (fun _ _ _ h => h) (yesH (by rfl) ?_) hHeld ?_
  rotate_left
  ·intro w9 hS9
   obtain ⟨g0, g1⟩ := row3 w9 hS9
   go_simp
   try with_reducible rfl
  try simp only [Act.put, sA, sB, sC]
  refine tkh 1 (v := ?_) rfl rfl (by kernel_rfl) (fun _ _ _ h => h) (yesH (by rfl) ?_) hHeld ?_
  rotate_left
  ·intro w9 hS9
   obtain ⟨g0, g1⟩ := row3 w9 hS9
   go_simp
   try with_reducible rfl
  try simp only [Act.put, sA, sB, sC]
  refine tkh 3 (v := ?_) rfl rfl (by kernel_rfl) (fun _ _ _ h => h) (yesH (by rfl) ?_) hHeld ?_
  rotate_left
  ·intro w9 hS9
   obtain ⟨g0, g1⟩ := row3 w9 hS9
   go_simp
   try with_reducible rfl
  try simp only [Act.put, sA, sB, sC]
  refine tkh 4 (v := ?_) rfl rfl (by kernel_rfl) (fun _ _ _ h => h) (yesH (by rfl) ?_) hHeld ?_
  rotate_left
  ·intro w9 hS9
   obtain ⟨g0, g1⟩ := row3 w9 hS9
   go_simp
   try with_reducible rfl
  try simp only [Act.put, sA, sB, sC]
  refine wpAnyH_ready (rs := [2, 6]) (by kernel_rfl) (by simp) ?_
  refine AllReadyH.cons rfl (fun K hK => ?_) (AllReadyH.cons rfl (fun K hK => ?_) AllReadyH.nil)
  ·have P := copyO lo u0 c0 d.params W1.drew (by omega) HM0.out
   go_simp
   go_wp2_with fail
   refine P.mono ?_
   rintro e w3 ⟨v, c, rfl, hown, b3'⟩
   have b3 : Below W1.heap.size W1 w3 := undrew b3'
   have h3 : w3.heap[w.heap.size]? = some (.cells #[.slice u0 d.params.length c0, .int .i64 d.ret, .slice u2 d.blocks.length c2] 27 (0, 0)) := (b3.block _ HA.out.lt).trans HA.out
   refine hK.out _ _ h3 (fun hHeld2 => ?_)
   clear hK K hHeld P b3' hHeld2
   try simp only [Act.put, sA, sB, sC]
   refine tkh 5 (v := ?_) rfl rfl (by kernel_rfl) (fun _ _ _ h => h) (yesH (by rfl) ?_) h3 ?_
   rotate_left
   ·intro w9 hS9
    go_simp
    try with_reducible rfl
   try simp only [Act.put, sA, sB, sC]
   refine wpAnyH_ready (rs := [6]) (by kernel_rfl) (by simp) ?_
   refine AllReadyH.cons rfl (fun K hK => ?_) AllReadyH.nil
   have ba : Below w3.heap.size w3 (w3.alloc (.cells #[.slice none 0 0, .int .i64 0, .slice none 0 0] 27)) := (Below.refl _ _).alloc (Nat.le_refl _) _
   go_simp
   refine hK.out _ _ ((ba.block _ (Array.getElem?_eq_some_iff.1 h3).1).trans h3) (fun hHeld2 => ?_)
   clear hK K hHeld2
   try simp only [Act.put, sA, sB, sC]
   refine wpAnyH_ready (rs := [7]) (by kernel_rfl) (by simp) ?_
   refine AllReadyH.cons rfl (fun K hK => ?_) AllReadyH.nil
   go_simp
   have bb : Below w3.heap.size w3 (w3.alloc (.cells #[.slice v d.params.length c, .int .i64 d.ret, .slice none 0 0] 27)) := (Below.refl _ _).alloc (Nat.le_refl _) _
   have hz3 : w.heap.size + 2 ≤ w3.heap.size := by have := b3.size; omega
   refine hK.out _ _ ((bb.block _ (Array.getElem?_eq_some_iff.1 h3).1).trans h3) (fun hHeld2 => ?_)
   clear hK K hHeld2
   try simp only [Act.put, sA, sB, sC]
   have HSa : Hid (SSt w (w3.alloc (.cells #[.slice v d.params.length c, .int .i64 d.ret, .slice none 0 0] 27)) w3.heap.size 27 #[.slice u0 d.params.length c0, .int .i64 d.ret, .slice u2 d.blocks.length c2] #[.slice v d.params.length c, .int .i64 d.ret, .slice none 0 0] #[.slice none 0 0, .int .i64 0, .slice none 0 0]) := ⟨(bb.block _ (Array.getElem?_eq_some_iff.1 h3).1).trans h3, (HZ.out.below b3).below bb, At.new _ _ _, H0.out.trans ((b3.mono (by omega)).trans (bb.mono (by omega))), by omega⟩
   have HIa : Hid (OwnI (w3.alloc (.cells #[.slice v d.params.length c, .int .i64 d.ret, .slice none 0 0] 27)) (w.heap.size + 2) (w3.alloc (.cells #[.slice v d.params.length c, .int .i64 d.ret, .slice none 0 0] 27)).heap.size v d.params) := ((show OwnI w3 W1.heap.size w3.heap.size v d.params from hown).wide (by omega) bb.size).still (Still.below (k := 9) bb) (by decide)
   clear ba bb hown b3 h3
   refine wpAnyH_done (by kernel_rfl) ?_ _
   go_wp2_with fail
   go_meet
   case rel => exact ⟨_, v, c, rfl, HSa.out, HIa.out⟩
  ·have ba : Below W1.heap.size W1 (W1.alloc (.cells #[.slice none 0 0, .int .i64 0, .slice none 0 0] 27)).drew := ((Below.refl _ _).alloc (Nat.le_refl _) _).drew
   have h2 : (W1.alloc (.cells #[.slice none 0 0, .int .i64 0, .slice none 0 0] 27)).drew.heap[w.heap.size]? = some (.cells #[.slice u0 d.params.length c0, .int .i64 d.ret, .slice u2 d.blocks.length c2] 27 (0, 0)) := (ba.block _ HA.out.lt).trans HA.out
   have A2 : At (W1.alloc (.cells #[.slice none 0 0, .int .i64 0, .slice none 0 0] 27)).drew (w.heap.size + 2) #[.slice none 0 0, .int .i64 0, .slice none 0 0] 27 := by rw [← hz]; exact At.new W1 _ _
   have HM2 := HM0.out.keep (agree_of_below ba lo)
   have hz2 : ((W1.alloc (.cells #[.slice none 0 0, .int .i64 0, .slice none 0 0] 27)).drew).heap.size = w.heap.size + 3 := by show (W1.alloc _).heap.size = _; simp [hz]
   go_simp
   refine hK.out _ _ h2 (fun hHeld2 => ?_)
   clear hK K hHeld2
   generalize (W1.alloc (.cells #[.slice none 0 0, .int .i64 0, .slice none 0 0] 27)).drew = W2 at *
   try simp only [Act.put, sA, sB, sC]
   refine wpAnyH_ready (rs := [2]) (by kernel_rfl) (by simp) ?_
   refine AllReadyH.cons rfl (fun K hK => ?_) AllReadyH.nil
   have P := copyO lo u0 c0 d.params W2 (by omega) HM2
   go_simp
   go_wp2_with fail
   refine P.mono ?_
   rintro e w3 ⟨v, c, rfl, hown, b3⟩
   have h3 : w3.heap[w.heap.size]? = some (.cells #[.slice u0 d.params.length c0, .int .i64 d.ret, .slice u2 d.blocks.length c2] 27 (0, 0)) := (b3.block _ (Array.getElem?_eq_some_iff.1 h2).1).trans h2
   have A3 : At w3 (w.heap.size + 2) #[.slice none 0 0, .int .i64 0, .slice none 0 0] 27 := A2.below b3
   refine hK.out _ _ h3 (fun hHeld2 => ?_)
   clear hK K hHeld P hHeld2
   try simp only [Act.put, sA, sB, sC]
   refine tkh 5 (v := ?_) rfl rfl (by kernel_rfl) (fun _ _ _ h => h) (yesH (by rfl) ?_) h3 ?_
   rotate_left
   ·intro w9 hS9
    go_simp
    try with_reducible rfl
   try simp only [Act.put, sA, sB, sC]
   refine wpAnyH_ready (rs := [7]) (by kernel_rfl) (by simp) ?_
   refine AllReadyH.cons rfl (fun K hK => ?_) AllReadyH.nil
   have n0 : w3.cell? ⟨w.heap.size + 2, 0, none⟩ = some (.slice none 0 0) := A3.cell 0
   have n1 : w3.cell? ⟨w.heap.size + 2, 1, none⟩ = some (.int .i64 0) := A3.cell 1
   have n2 : w3.cell? ⟨w.heap.size + 2, 2, none⟩ = some (.slice none 0 0) := A3.cell 2
   have nf : ∀ o, w3.frozen? ⟨w.heap.size + 2, o, none⟩ = false := fun o => froz_of_heap A3
   go_simp
   clear n0 n1 n2 nf
   have S3 : SSt w w3 (w.heap.size + 2) 27 #[.slice u0 d.params.length c0, .int .i64 d.ret, .slice u2 d.blocks.length c2] #[.slice none 0 0, .int .i64 0, .slice none 0 0] #[.slice none 0 0, .int .i64 0, .slice none 0 0] := ⟨h3, (HZ.out.below ba).below b3, A3, H0.out.trans ((ba.mono (by omega)).trans (b3.mono (by omega))), by omega⟩
   have S4 := ((S3.set 0 (.slice v d.params.length c)).set 1 (.int .i64 d.ret)).set 2 (.slice none 0 0)
   have ST : Still 4 w3 (((w3.setCell ⟨w.heap.size + 2, 0, none⟩ (.slice v d.params.length c)).setCell ⟨w.heap.size + 2, 1, none⟩ (.int .i64 d.ret)).setCell ⟨w.heap.size + 2, 2, none⟩ (.slice none 0 0)) := (Still.trans (Still.set (k := 4) (o := 0) (v := .slice v d.params.length c) S3.box (by decide)) (Still.trans (Still.set (k := 4) (o := 1) (v := .int .i64 d.ret) (heap_set (o := 0) (v := .slice v d.params.length c) S3.box) (by decide)) (Still.set (k := 4) (o := 2) (v := .slice none 0 0) (heap_set (o := 1) (v := .int .i64 d.ret) (heap_set (o := 0) (v := .slice v d.params.length c) S3.box)) (by decide))))
   refine hK.out _ _ S4.par (fun hHeld2 => ?_)
   clear hK K hHeld2
   try simp only [Act.put, sA, sB, sC]
   have HSa : Hid (SSt w (((w3.setCell ⟨w.heap.size + 2, 0, none⟩ (.slice v d.params.length c)).setCell ⟨w.heap.size + 2, 1, none⟩ (.int .i64 d.ret)).setCell ⟨w.heap.size + 2, 2, none⟩ (.slice none 0 0)) (w.heap.size + 2) 27 #[.slice u0 d.params.length c0, .int .i64 d.ret, .slice u2 d.blocks.length c2] #[.slice v d.params.length c, .int .i64 d.ret, .slice none 0 0] #[.slice none 0 0, .int .i64 0, .slice none 0 0]) := S4
   have HIa : Hid (OwnI (((w3.setCell ⟨w.heap.size + 2, 0, none⟩ (.slice v d.params.length c)).setCell ⟨w.heap.size + 2, 1, none⟩ (.int .i64 d.ret)).setCell ⟨w.heap.size + 2, 2, none⟩ (.slice none 0 0)) (w.heap.size + 2) ((((w3.setCell ⟨w.heap.size + 2, 0, none⟩ (.slice v d.params.length c)).setCell ⟨w.heap.size + 2, 1, none⟩ (.int .i64 d.ret)).setCell ⟨w.heap.size + 2, 2, none⟩ (.slice none 0 0))).heap.size v d.params) := (hown.wide (by omega) (by simp only [World.size_setCell]; exact Nat.le_refl _)).still ST (by decide)
   clear ba b3 hown h3 h2 A2 A3 S3 S4 ST HM2
   refine wpAnyH_done (by kernel_rfl) ?_ _
   go_wp2_with fail
   go_meet
   case rel => exact ⟨_, v, c, rfl, HSa.out, HIa.out⟩
 case rest =>
  obtain ⟨W3, hWC⟩ : ∃ W, W = wc := ⟨_, rfl⟩
  subst hWC
  obtain ⟨X, u, c, rfl, HS3, HI3⟩ := hcut
  clear HA HZ H0 HM0 hz row3
  have SP : Hid (∀ (W : World) (CS : Array Value), SSt w W X 27 #[.slice u0 d.params.length c0, .int .i64 d.ret, .slice u2 d.blocks.length c2] CS #[.slice none 0 0, .int .i64 0, .slice none 0 0] → W.cell? ⟨w.heap.size, 2, none⟩ = some (.slice u2 d.blocks.length c2)) := fun W CS h => h.par.cell 2
  have hX3 : X < W3.heap.size := HS3.out.box.lt
  go_wp2_with fail
  obtain ⟨m, hmm⟩ : ∃ m, W3.heap.size = m := ⟨_, rfl⟩
  rw [hmm] at HI3 hX3
  have hmm' : m ≤ W3.heap.size := by omega
  clear hmm
  go_loopw [4] (fun i wr => ∃ (j : Nat) (v : Value) (es : List BkE), j ≤ d.blocks.length ∧ i = .int .i64 j ∧ Hid (es.length = j) ∧ Hid (es.map BkE.d = d.blocks.take j) ∧ Hid (SSt w wr X 27 #[.slice u0 d.params.length c0, .int .i64 d.ret, .slice u2 d.blocks.length c2] #[.slice u d.params.length c, .int .i64 d.ret, v] #[.slice none 0 0, .int .i64 0, .slice none 0 0]) ∧ Hid (OwnI wr (w.heap.size + 2) m u d.params) ∧ Hid (RowS 41 6 bkC wr m v es) ∧ Hid (Sub OwnBk wr m wr.heap.size es)) (fun i _ => d.blocks.length - (intOf i).toNat)
  case atStart => exact ⟨0, _, [], by omega, rfl, rfl, rfl, HS3.out, HI3.out, RowS.nil _ _ _ _ _, hmm'⟩
  case round =>
   clear HS3 HI3 hmm'
   obtain ⟨k, v, is, hk, rfl, his, HM, HS, HW, HR, HU⟩ := hrel
   obtain ⟨w5, hwo⟩ : ∃ w1, w1 = wr := ⟨_, rfl⟩
   subst hwo
   obtain ⟨nu, nc, rfl⟩ := HR.out.slice
   have hi60 := HD.out.bl
   by_cases hkl : k < d.blocks.length
   ·obtain ⟨pb, po, hu1, hpb, pu, pq, hi0, ph, iu, iq, hi1, it, hi2, hi3, hi4, hi5⟩ : ∃ pb po, u2 = some ⟨pb, po, none⟩ ∧ pb < w.heap.size ∧ ∃ pu pq, w.cell? ⟨pb, po + k * 6, none⟩ = some (.slice pu (d.blocks.getD k block0).phis.length pq) ∧ PhisAt w lo pu (d.blocks.getD k block0).phis ∧ ∃ iu iq, w.cell? ⟨pb, po + k * 6 + 1, none⟩ = some (.slice iu (d.blocks.getD k block0).insts.length iq) ∧ InstsAt w lo iu (d.blocks.getD k block0).insts ∧ w.cell? ⟨pb, po + k * 6 + 2, none⟩ = some (.int .i64 (d.blocks.getD k block0).term.kind) ∧ w.cell? ⟨pb, po + k * 6 + 3, none⟩ = some (.int .i64 (d.blocks.getD k block0).term.a) ∧ w.cell? ⟨pb, po + k * 6 + 4, none⟩ = some (.int .i64 (d.blocks.getD k block0).term.x) ∧ w.cell? ⟨pb, po + k * 6 + 5, none⟩ = some (.int .i64 (d.blocks.getD k block0).term.y) := by
     rcases m2.2 with hn | ⟨pb, po, hu, hplo, hpb, hpc⟩
     ·simp [hn] at hkl
     ·obtain ⟨⟨pu, pq, hi0, ph⟩, ⟨iu, iq, hi1, it⟩, hi2, hi3, hi4, hi5⟩ := hpc k hkl
      exact ⟨pb, po, hu, hpb, pu, pq, hi0, ph, iu, iq, hi1, it, hi2, hi3, hi4, hi5⟩
    have hsp := HD.out.bk _ (getD_mem block0 d.blocks k hkl)
    have HT := take_one block0 d.blocks k hkl
    generalize d.blocks.getD k block0 = p at hi0 hi1 hi2 hi3 hi4 hi5 ph it hsp HT
    have HT' : Hid (d.blocks.take (k + 1) = d.blocks.take k ++ [p]) := HT
    have hW := HS.out.bel
    have PI := copyBlkS lo p pu pq iu iq w5.drew (ph.keep (agree_of_below hW.drew lo)) (it.keep (agree_of_below hW.drew lo)) hsp
    have hkI : (k : Int) < d.blocks.length := by omega
    have SRC : Hid (∀ (W : World) (CS : Array Value), SSt w W X 27 #[.slice u0 d.params.length c0, .int .i64 d.ret, .slice u2 d.blocks.length c2] CS #[.slice none 0 0, .int .i64 0, .slice none 0 0] → W.cell? ⟨w.heap.size, 2, none⟩ = some (.slice (some ⟨pb, po, none⟩) d.blocks.length c2) ∧ W.cell? ⟨pb, po + k * 6, none⟩ = some (.slice pu p.phis.length pq) ∧ W.cell? ⟨pb, po + k * 6 + 1, none⟩ = some (.slice iu p.insts.length iq) ∧ W.cell? ⟨pb, po + k * 6 + 2, none⟩ = some (.int .i64 p.term.kind) ∧ W.cell? ⟨pb, po + k * 6 + 3, none⟩ = some (.int .i64 p.term.a) ∧ W.cell? ⟨pb, po + k * 6 + 4, none⟩ = some (.int .i64 p.term.x) ∧ W.cell? ⟨pb, po + k * 6 + 5, none⟩ = some (.int .i64 p.term.y)) := fun W CS h => ⟨by rw [← hu1]; exact SP.out W CS h, (cell_block (h.bel.block pb hpb)).trans hi0, (cell_block (h.bel.block pb hpb)).trans hi1, (cell_block (h.bel.block pb hpb)).trans hi2, (cell_block (h.bel.block pb hpb)).trans hi3, (cell_block (h.bel.block pb hpb)).trans hi4, (cell_block (h.bel.block pb hpb)).trans hi5⟩
    have y0 := (SRC.out _ _ HS.out).1
    have hX5 : X < w5.heap.size := HS.out.box.lt
    have s0 : SSt w w5.drew X 27 #[.slice u0 d.params.length c0, .int .i64 d.ret, .slice u2 d.blocks.length c2] #[.slice u d.params.length c, .int .i64 d.ret, .slice nu is.length nc] #[.slice none 0 0, .int .i64 0, .slice none 0 0] := HS.out.drew
    clear hi0 hi1 hi2 hi3 hi4 hi5 ph it hsp HT hW hu1
    go_wp2_with fail
    clear y0
    refine startX (fun w' => SSt w w' X 27 #[.slice u0 d.params.length c0, .int .i64 d.ret, .slice u2 d.blocks.length c2] #[.slice u d.params.length c, .int .i64 d.ret, .slice nu is.length nc] #[.slice none 0 0, .int .i64 0, .slice none 0 0]) (fun i => decide (i = 11)) (by kernel_rfl) ?_
    refine takeX 0 (v := ?_) rfl rfl (by kernel_rfl) (fun _ _ _ h => h) (yesH (by rfl) ?_) s0 ?_
    rotate_left
    ·intro w9 hS9
     obtain ⟨g0, g1, g2, g3, g4, g5, g6⟩ := SRC.out w9 _ hS9
     have g8 := hS9.box.cell 2
     go_simp
     try with_reducible rfl
    try simp only [Act.put, sA, sB, sC]
    refine takeX 1 (v := ?_) rfl rfl (by kernel_rfl) (fun _ _ _ h => h) (yesH (by rfl) ?_) s0 ?_
    rotate_left
    ·intro w9 hS9
     obtain ⟨g0, g1, g2, g3, g4, g5, g6⟩ := SRC.out w9 _ hS9
     have g8 := hS9.box.cell 2
     go_simp
     try with_reducible rfl
    try simp only [Act.put, sA, sB, sC]
    refine takeX 2 (v := ?_) rfl rfl (by kernel_rfl) (fun _ _ _ h => h) (yesH (by rfl) ?_) s0 ?_
    rotate_left
    ·intro w9 hS9
     obtain ⟨g0, g1, g2, g3, g4, g5, g6⟩ := SRC.out w9 _ hS9
     have g8 := hS9.box.cell 2
     go_simp
     try with_reducible rfl
    try simp only [Act.put, sA, sB, sC]
    refine takeX 3 (v := ?_) rfl rfl (by kernel_rfl) (fun _ _ _ h => h) (yesH (by rfl) ?_) s0 ?_
    rotate_left
    ·intro w9 hS9
     obtain ⟨g0, g1, g2, g3, g4, g5, g6⟩ := SRC.out w9 _ hS9
     have g8 := hS9.box.cell 2
     go_simp
     try with_reducible rfl
    try simp only [Act.put, sA, sB, sC]
    refine takeX 4 (v := ?_) rfl rfl (by kernel_rfl) (fun _ _ _ h => h) (yesH (by rfl) ?_) s0 ?_
    rotate_left
    ·intro w9 hS9
     obtain ⟨g0, g1, g2, g3, g4, g5, g6⟩ := SRC.out w9 _ hS9
     have g8 := hS9.box.cell 2
     go_simp
     try with_reducible rfl
    try simp only [Act.put, sA, sB, sC]
    refine takeX 5 (v := ?_) rfl rfl (by kernel_rfl) (fun _ _ _ h => h) (yesH (by rfl) ?_) s0 ?_
    rotate_left
    ·intro w9 hS9
     obtain ⟨g0, g1, g2, g3, g4, g5, g6⟩ := SRC.out w9 _ hS9
     have g8 := hS9.box.cell 2
     go_simp
     try with_reducible rfl
    try simp only [Act.put, sA, sB, sC]
    refine takeX 6 (v := ?_) rfl rfl (by kernel_rfl) (fun _ _ _ h => h) (yesH (by rfl) ?_) s0 ?_
    rotate_left
    ·intro w9 hS9
     obtain ⟨g0, g1, g2, g3, g4, g5, g6⟩ := SRC.out w9 _ hS9
     have g8 := hS9.box.cell 2
     go_simp
     try with_reducible rfl
    try simp only [Act.put, sA, sB, sC]
    clear s0
    refine readyX 7 rfl (by kernel_rfl) (fun K hK => ?_)
    go_simp
    go_wp2_with fail
    refine PI.mono ?_
    rintro e w7 ⟨q, hq, rfl, hown, b7'⟩
    have b7 : Below w5.heap.size w5 w7 := undrew b7'
    have HQ : Hid (q.d = p) := hq
    have HS7 : Hid (SSt w w7 X 27 #[.slice u0 d.params.length c0, .int .i64 d.ret, .slice u2 d.blocks.length c2] #[.slice u d.params.length c, .int .i64 d.ret, .slice nu is.length nc] #[.slice none 0 0, .int .i64 0, .slice none 0 0]) := HS.out.keep b7
    have HW7 : Hid (OwnI w7 (w.heap.size + 2) m u d.params) := HW.out.still (Still.below (k := 9) b7) (by decide)
    have HR7 : Hid (RowS 41 6 bkC w7 m (.slice nu is.length nc) is) := HR.out.still (Still.below (k := 9) b7) (by decide)
    have HU7 : Hid (Sub OwnBk w7 m w7.heap.size (is ++ [q])) := Sub.snoc (HU.out.still fun _ _ _ h => OwnBk.still h (Still.below (k := 9) b7) (by decide)) (Nat.le_refl _) b7.size hown
    have HM7 : Hid ((is ++ [q]).map BkE.d = d.blocks.take (k + 1)) := by
     show _ = _
     rw [HT'.out, List.map_append, HM.out, ← HQ.out]
     rfl
    have hmz : m ≤ w7.heap.size := HU7.out.le
    have b8 : Below w7.heap.size w7 (w7.alloc (.cells #[.slice q.pu q.ps.length q.pc, .slice q.iu q.is.length q.ic, .int .i64 q.t.kind, .int .i64 q.t.a, .int .i64 q.t.x, .int .i64 q.t.y] 41)) := (Below.refl _ _).alloc (Nat.le_refl _) _
    have s8 : SSt w (w7.alloc (.cells #[.slice q.pu q.ps.length q.pc, .slice q.iu q.is.length q.ic, .int .i64 q.t.kind, .int .i64 q.t.a, .int .i64 q.t.x, .int .i64 q.t.y] 41)) X 27 #[.slice u0 d.params.length c0, .int .i64 d.ret, .slice u2 d.blocks.length c2] #[.slice u d.params.length c, .int .i64 d.ret, .slice nu is.length nc] #[.slice none 0 0, .int .i64 0, .slice none 0 0] := HS7.out.keep b8
    obtain ⟨g9, cap9, w9, hrun, b9, kp9, hX9, sta, hra, hua⟩ := app_box appBk 25 (C := bkC) (O := OwnBk) (TB := 27) (fun _ => rfl) (fun e v hv => by simp only [bkC, List.mem_cons, List.not_mem_nil, or_false] at hv; rcases hv with rfl | rfl | rfl | rfl | rfl | rfl <;> rfl) (by decide) (fun _ _ _ _ _ st h => OwnBk.still h st (by decide)) 2 HR7.out HU7.out HS7.out.box (by have := his.out; omega)
    have hrun : (Builtin.append_ #[25, 25] 25 #[.slice nu is.length nc, .slice (some ⟨w7.heap.size, 0, none⟩) 1 1]).run Tryd.prog (w7.alloc (.cells #[.slice q.pu q.ps.length q.pc, .slice q.iu q.is.length q.ic, .int .i64 q.t.kind, .int .i64 q.t.a, .int .i64 q.t.x, .int .i64 q.t.y] 41)) = .ok (.slice (some ⟨g9, 0, none⟩) (is.length + 1) cap9) w9 := hrun
    have s9 : SSt w w9 X 27 #[.slice u0 d.params.length c0, .int .i64 d.ret, .slice u2 d.blocks.length c2] #[.slice u d.params.length c, .int .i64 d.ret, .slice nu is.length nc] #[.slice none 0 0, .int .i64 0, .slice none 0 0] := HS7.out.low b9 (by omega)
    have HSa : Hid (SSt w (w9.setCell ⟨X, 2, none⟩ (.slice (some ⟨g9, 0, none⟩) (is.length + 1) cap9)) X 27 #[.slice u0 d.params.length c0, .int .i64 d.ret, .slice u2 d.blocks.length c2] #[.slice u d.params.length c, .int .i64 d.ret, (.slice (some ⟨g9, 0, none⟩) (is.length + 1) cap9)] #[.slice none 0 0, .int .i64 0, .slice none 0 0]) := s9.set 2 _
    have HWa : Hid (OwnI (w9.setCell ⟨X, 2, none⟩ (.slice (some ⟨g9, 0, none⟩) (is.length + 1) cap9)) (w.heap.size + 2) m u d.params) := OwnI.still HW7.out sta (by decide)
    have HRa : Hid (RowS 41 6 bkC (w9.setCell ⟨X, 2, none⟩ (.slice (some ⟨g9, 0, none⟩) (is.length + 1) cap9)) m (.slice (some ⟨g9, 0, none⟩) (is.length + 1) cap9) (is ++ [q])) := hra
    have HUa : Hid (Sub OwnBk (w9.setCell ⟨X, 2, none⟩ (.slice (some ⟨g9, 0, none⟩) (is.length + 1) cap9)) m ((w9.setCell ⟨X, 2, none⟩ (.slice (some ⟨g9, 0, none⟩) (is.length + 1) cap9))).heap.size (is ++ [q])) := hua
    have c9 : w9.cell? ⟨X, 2, none⟩ = some (.slice nu is.length nc) := s9.box.cell 2
    have fz9 : w9.frozen? ⟨X, 2, none⟩ = false := froz_of_heap s9.box
    clear PI b7 b7' hown hq HS HW HR HU HW7 HR7 HU7 b8 b9 kp9 hX9 sta hra hua HM HT' HQ hmz
    refine hK.out _ _ (.inr HS7.out) ?_
    clear hK K HS7
    try simp only [Act.put, sA, sB, sC]
    refine readyX 8 rfl (by kernel_rfl) (fun K hK => ?_)
    go_simp
    refine hK.out _ _ (.inr s8) ?_
    clear hK K s8
    try simp only [Act.put, sA, sB, sC]
    refine readyX 9 rfl (by kernel_rfl) (fun K hK => ?_)
    refine step_runP rfl _ _ _ rfl rfl rfl hrun ?_
    refine hK.out _ _ (.inr s9) ?_
    clear hK K hrun
    try simp only [Act.put, sA, sB, sC]
    refine takeX 10 (v := ?_) rfl rfl (by kernel_rfl) (fun _ _ _ h => h) (yesH (by rfl) ?_) s9 ?_
    rotate_left
    ·intro w9 hS9
     go_simp
     try with_reducible rfl
    try simp only [Act.put, sA, sB, sC]
    clear s9 SRC
    refine readyX 11 rfl (by kernel_rfl) (fun K hK => ?_)
    go_simp
    refine hK.out _ _ (.inl rfl) ?_
    clear hK K
    refine doneX (by kernel_rfl) ?_ _
    go_wp2_with fail
    go_roundw
    case rel => exact ⟨k + 1, _, _, by omega, by go_num, (by have := his.out; show _ = _; rw [List.length_append]; simp; omega), HM7.out, HSa.out, HWa.out, HRa.out, HUa.out⟩
    case measure => simp [intOf]; omega
   ·have hke : k = d.blocks.length := by omega
    have HMi : Hid (is.map BkE.d = d.blocks) := by
     show _ = _
     rw [HM.out, hke, List.take_length]
    have HV : Hid (OwnBks w5 m w5.heap.size nu is) := RowS.own (fun _ => rfl) (by have := his.out; omega) HR.out HU.out (Nat.le_refl _) (Nat.le_refl _)
    have hm5 : m ≤ w5.heap.size := HU.out.le
    have p0 := SP.out _ _ HS.out
    have x0 : w5.cell? ⟨X, 0, none⟩ = some (.slice u d.params.length c) := HS.out.box.cell 0
    have r0 : w5.cell? ⟨w.heap.size + 1, 0, none⟩ = some (.slice none 0 0) := HS.out.res.cell 0
    have x1 : w5.cell? ⟨X, 1, none⟩ = some (.int .i64 d.ret) := HS.out.box.cell 1
    have r1 : w5.cell? ⟨w.heap.size + 1, 1, none⟩ = some (.int .i64 0) := HS.out.res.cell 1
    have x2 : w5.cell? ⟨X, 2, none⟩ = some (.slice nu is.length nc) := HS.out.box.cell 2
    have r2 : w5.cell? ⟨w.heap.size + 1, 2, none⟩ = some (.slice none 0 0) := HS.out.res.cell 2
    have rf : ∀ o, w5.frozen? ⟨w.heap.size + 1, o, none⟩ = false := fun o => froz_of_heap HS.out.res
    have hX0 := HS.out.ltX
    clear HM HR HU
    go_wp2_with fail
    have hr := (heap_set (o := 2) (v := .slice nu is.length nc) (heap_set (o := 1) (v := .int .i64 d.ret) (heap_set (o := 0) (v := .slice u d.params.length c) HS.out.res)))
    have BB : Below w.heap.size w (((w5.setCell ⟨w.heap.size + 1, 0, none⟩ (.slice u d.params.length c)).setCell ⟨w.heap.size + 1, 1, none⟩ (.int .i64 d.ret)).setCell ⟨w.heap.size + 1, 2, none⟩ (.slice nu is.length nc)) := ((((((HS.out.bel).setCell (by dsimp only; omega) _)).setCell (by dsimp only; omega) _)).setCell (by dsimp only; omega) _)
    have hzr : w5.heap.size ≤ ((((w5.setCell ⟨w.heap.size + 1, 0, none⟩ (.slice u d.params.length c)).setCell ⟨w.heap.size + 1, 1, none⟩ (.int .i64 d.ret)).setCell ⟨w.heap.size + 1, 2, none⟩ (.slice nu is.length nc))).heap.size := by simp only [World.size_setCell]; exact Nat.le_refl _
    have SS : Still 4 w5 (((w5.setCell ⟨w.heap.size + 1, 0, none⟩ (.slice u d.params.length c)).setCell ⟨w.heap.size + 1, 1, none⟩ (.int .i64 d.ret)).setCell ⟨w.heap.size + 1, 2, none⟩ (.slice nu is.length nc)) := (Still.trans (Still.set (k := 4) (o := 0) (v := .slice u d.params.length c) HS.out.res (by decide)) (Still.trans (Still.set (k := 4) (o := 1) (v := .int .i64 d.ret) (heap_set (o := 0) (v := .slice u d.params.length c) HS.out.res) (by decide)) (Still.set (k := 4) (o := 2) (v := .slice nu is.length nc) (heap_set (o := 1) (v := .int .i64 d.ret) (heap_set (o := 0) (v := .slice u d.params.length c) HS.out.res)) (by decide))))
    generalize (((w5.setCell ⟨w.heap.size + 1, 0, none⟩ (.slice u d.params.length c)).setCell ⟨w.heap.size + 1, 1, none⟩ (.int .i64 d.ret)).setCell ⟨w.heap.size + 1, 2, none⟩ (.slice nu is.length nc)) = W9 at *
    have UU : OwnFn W9 w.heap.size W9.heap.size ⟨d.params, u, c, d.ret, is, nu, nc⟩ := ⟨m, by omega, by omega, (HW.out.still SS (by decide)).wide (by omega) (Nat.le_refl _), (OwnBks.still HV.out SS (by decide)).wide (Nat.le_refl _) (by omega)⟩
    exact bodyPost_ret (v := .agg #[.slice u d.params.length c, .int .i64 d.ret, .slice nu is.length nc]) ((results_cell_row Tryd.results51 _ _ (w.heap.size + 1) 27 _ (0, 0) _ rfl hr Tryd.underlying27 rfl (by kernel_rfl)).trans (by rfl)) rfl ⟨⟨d.params, u, c, d.ret, is, nu, nc⟩, (by unfold FnE.d; dsimp only; rw [HMi.out]), rfl, UU, BB⟩
end Go.Proofs.YtenbodghkpbghaaDoor
namespace Go.Proofs.YtenbodghkpbghaaDoor
open Go.RowKit
set_option linter.unusedVariables false
set_option linter.unusedSimpArgs false
def InT (tt : List Int) (l : List Int) : Prop := ∀ x ∈ l, 0 ≤ x ∧ x < tt.length
theorem rho_at {tt : List Int} {n : Nat} (h : n < tt.length) : rhoT tt (n : Int) = tt.getD n 0 := by
 unfold rhoT
 rw [if_pos ⟨by omega, by omega⟩]
 rfl
theorem nat_of {tt : List Int} {x : Int} (h : 0 ≤ x ∧ x < tt.length) : ∃ n : Nat, x = n ∧ n < tt.length := ⟨x.toNat, by omega, by omega⟩
theorem set_mid {α : Type} (f : α → α) (z : α) (l : List α) (k : Nat) (h : k < l.length) : ((l.take k).map f ++ l.drop k).set k (f (l.getD k z)) = (l.take (k + 1)).map f ++ l.drop (k + 1) := by
 have e : ((l.take k).map f).length = k := by simp; omega
 rw [List.set_append_right _ _ (by omega), e, Nat.sub_self, take_go f z l k h, drop_get z l k h, List.set_cons_zero]
 simp
theorem mid_len {α : Type} (f : α → α) (l : List α) (k : Nat) : ((l.take k).map f ++ l.drop k).length = l.length := by simp; omega
theorem mid_get {α : Type} (f : α → α) (l : List α) (k : Nat) (h : k < l.length) : ((l.take k).map f ++ l.drop k)[k]? = l[k]? := by
 have e : ((l.take k).map f).length = k := by simp; omega
 rw [List.getElem?_append_right (by omega), e, Nat.sub_self]
 simp
theorem ints_get {w : World} {lo : Nat} {u : Option Addr} {l : List Int} (h : IntsAt w lo u l) {n : Nat} (hn : n < l.length) : ∃ ga off, u = some ⟨ga, off, none⟩ ∧ ga < w.heap.size ∧ w.cell? ⟨ga, off + n, none⟩ = some (.int .i64 (l.getD n 0)) := by
 rcases h.2 with h | ⟨ga, off, ha, _, hb, hc⟩
 ·rw [h] at hn; simp at hn
 ·exact ⟨ga, off, ha, hb, hc n hn⟩
theorem ops_shape (p : InstD) (ho : ¬ p.op = 26) : opsD p = [] ∨ opsD p = [p.a] ∨ opsD p = [p.a, p.b] ∨ opsD p = [p.a, p.b, p.c] := by
 unfold opsD
 split
 ·exact .inr (.inr (.inl rfl))
 ·split
  ·exact .inr (.inl rfl)
  ·split
   ·exact .inr (.inr (.inr rfl))
   ·first | exact .inl rfl | (rw [if_neg ho]; exact .inl rfl)
set_option maxHeartbeats 4000000 in
set_option maxRecDepth 100000 in
theorem l8TermS (lo : Nat) (t : TermD) (tt : List Int) (ut : Option Addr) (ct : Nat) (w : World) (mt : IntsAt w lo ut tt) (ht : InT tt (namesT t)) :
  Calls Tryd.prog 53 #[.agg #[.int .i64 t.kind, .int .i64 t.a, .int .i64 t.x, .int .i64 t.y], .slice ut tt.length ct] w fun e w' => e = .returned (.agg #[.int .i64 (sbTerm (rhoT tt) t).kind, .int .i64 (sbTerm (rhoT tt) t).a, .int .i64 (sbTerm (rhoT tt) t).x, .int .i64 (sbTerm (rhoT tt) t).y]) ∧ Below w.heap.size w w' := by
 obtain ⟨kind, a, x, y⟩ := t
 dsimp only
 have b0 : Below w.heap.size w ((w.alloc (.cells #[.int .i64 kind, .int .i64 a, .int .i64 x, .int .i64 y] 39)).alloc (.cells #[.int .i64 0, .int .i64 0, .int .i64 0, .int .i64 0] 39)) := ((Below.refl _ _).alloc (Nat.le_refl _) _).alloc (by simp) _
 have A0 : At ((w.alloc (.cells #[.int .i64 kind, .int .i64 a, .int .i64 x, .int .i64 y] 39)).alloc (.cells #[.int .i64 0, .int .i64 0, .int .i64 0, .int .i64 0] 39)) w.heap.size #[.int .i64 kind, .int .i64 a, .int .i64 x, .int .i64 y] 39 := (Below.heap_alloc _ _ _ (by simp)).trans (heap_alloc_last _ _)
 have A1 : At ((w.alloc (.cells #[.int .i64 kind, .int .i64 a, .int .i64 x, .int .i64 y] 39)).alloc (.cells #[.int .i64 0, .int .i64 0, .int .i64 0, .int .i64 0] 39)) (w.heap.size + 1) #[.int .i64 0, .int .i64 0, .int .i64 0, .int .i64 0] 39 := heap_two2 _ _ _
 have MT := mt.keep (agree_of_below b0 lo)
 have HB : Hid (Below w.heap.size w ((w.alloc (.cells #[.int .i64 kind, .int .i64 a, .int .i64 x, .int .i64 y] 39)).alloc (.cells #[.int .i64 0, .int .i64 0, .int .i64 0, .int .i64 0] 39))) := b0
 have HZ : Hid (At ((w.alloc (.cells #[.int .i64 kind, .int .i64 a, .int .i64 x, .int .i64 y] 39)).alloc (.cells #[.int .i64 0, .int .i64 0, .int .i64 0, .int .i64 0] 39)) (w.heap.size + 1) #[.int .i64 0, .int .i64 0, .int .i64 0, .int .i64 0] 39) := A1
 have HA : Hid (At ((w.alloc (.cells #[.int .i64 kind, .int .i64 a, .int .i64 x, .int .i64 y] 39)).alloc (.cells #[.int .i64 0, .int .i64 0, .int .i64 0, .int .i64 0] 39)) w.heap.size #[.int .i64 kind, .int .i64 a, .int .i64 x, .int .i64 y] 39) := A0
 clear b0 A0 A1
 by_cases hk : kind = 1 ∨ kind = 3
 ·have hn : namesT ⟨kind, a, x, y⟩ = [a] := by unfold namesT; rw [if_pos hk]
  obtain ⟨n, rfl, hnl⟩ := nat_of (ht a (by rw [hn]; exact List.mem_singleton.2 rfl))
  obtain ⟨ga, off, rfl, hga, e1⟩ := ints_get MT hnl
  have HS : Hid (sbTerm (rhoT tt) ⟨kind, (n : Int), x, y⟩ = ⟨kind, tt.getD n 0, x, y⟩) := by
   show _ = _
   unfold sbTerm
   rw [if_pos hk]
   dsimp only
   rw [rho_at hnl]
  have hnI : (n : Int) < tt.length := by omega
  generalize tt.getD n 0 = v at *
  have K1 : (kind == 1) = true ∨ ((kind == 1) = false ∧ (kind == 3) = true) := by
   rcases hk with h | h
   ·exact .inl (by simp [h])
   ·exact .inr (by simp [h])
  clear hk hn ht MT mt
  rcases K1 with k1 | ⟨k1, k3⟩
  all_goals
   have x0 : (((w.alloc (.cells #[.int .i64 kind, .int .i64 (n : Int), .int .i64 x, .int .i64 y] 39)).alloc (.cells #[.int .i64 0, .int .i64 0, .int .i64 0, .int .i64 0] 39))).cell? ⟨w.heap.size, 0, none⟩ = some (.int .i64 kind) := HA.out.cell 0
   have x1 : (((w.alloc (.cells #[.int .i64 kind, .int .i64 (n : Int), .int .i64 x, .int .i64 y] 39)).alloc (.cells #[.int .i64 0, .int .i64 0, .int .i64 0, .int .i64 0] 39))).cell? ⟨w.heap.size, 1, none⟩ = some (.int .i64 (n : Int)) := HA.out.cell 1
   have x2 : (((w.alloc (.cells #[.int .i64 kind, .int .i64 (n : Int), .int .i64 x, .int .i64 y] 39)).alloc (.cells #[.int .i64 0, .int .i64 0, .int .i64 0, .int .i64 0] 39))).cell? ⟨w.heap.size, 2, none⟩ = some (.int .i64 x) := HA.out.cell 2
   have x3 : (((w.alloc (.cells #[.int .i64 kind, .int .i64 (n : Int), .int .i64 x, .int .i64 y] 39)).alloc (.cells #[.int .i64 0, .int .i64 0, .int .i64 0, .int .i64 0] 39))).cell? ⟨w.heap.size, 3, none⟩ = some (.int .i64 y) := HA.out.cell 3
   have xf : ∀ o, (((w.alloc (.cells #[.int .i64 kind, .int .i64 (n : Int), .int .i64 x, .int .i64 y] 39)).alloc (.cells #[.int .i64 0, .int .i64 0, .int .i64 0, .int .i64 0] 39))).frozen? ⟨w.heap.size, o, none⟩ = false := fun o => froz_of_heap HA.out
   go_enter Tryd.func53, Tryd.ntmps53
   go_upto_region 1 with fail
   generalize ((w.alloc (.cells #[.int .i64 kind, .int .i64 (n : Int), .int .i64 x, .int .i64 y] 39)).alloc (.cells #[.int .i64 0, .int .i64 0, .int .i64 0, .int .i64 0] 39)) = W1 at *
   go_upto_region 3 with fail
   have HB5 : Hid (Below w.heap.size w (W1.setCell ⟨w.heap.size, 1, none⟩ (.int .i64 v))) := HB.out.setCell (by dsimp only; omega) _
   have HZ5 : Hid (At (W1.setCell ⟨w.heap.size, 1, none⟩ (.int .i64 v)) (w.heap.size + 1) #[.int .i64 0, .int .i64 0, .int .i64 0, .int .i64 0] 39) := HZ.out.setOther (by omega)
   have HA5 : Hid (At (W1.setCell ⟨w.heap.size, 1, none⟩ (.int .i64 v)) w.heap.size #[.int .i64 kind, .int .i64 v, .int .i64 x, .int .i64 y] 39) := heap_set (o := 1) HA.out
   clear x0 x1 x2 x3 xf HB HZ HA e1 k1
   generalize (W1.setCell ⟨w.heap.size, 1, none⟩ (.int .i64 v)) = W5 at *
   have x0 : (W5).cell? ⟨w.heap.size, 0, none⟩ = some (.int .i64 kind) := HA5.out.cell 0
   have x1 : (W5).cell? ⟨w.heap.size, 1, none⟩ = some (.int .i64 v) := HA5.out.cell 1
   have x2 : (W5).cell? ⟨w.heap.size, 2, none⟩ = some (.int .i64 x) := HA5.out.cell 2
   have x3 : (W5).cell? ⟨w.heap.size, 3, none⟩ = some (.int .i64 y) := HA5.out.cell 3
   have r0 : (W5).cell? ⟨w.heap.size + 1, 0, none⟩ = some (.int .i64 0) := HZ5.out.cell 0
   have r1 : (W5).cell? ⟨w.heap.size + 1, 1, none⟩ = some (.int .i64 0) := HZ5.out.cell 1
   have r2 : (W5).cell? ⟨w.heap.size + 1, 2, none⟩ = some (.int .i64 0) := HZ5.out.cell 2
   have r3 : (W5).cell? ⟨w.heap.size + 1, 3, none⟩ = some (.int .i64 0) := HZ5.out.cell 3
   have rf : ∀ o, (W5).frozen? ⟨w.heap.size + 1, o, none⟩ = false := fun o => froz_of_heap HZ5.out
   go_wp2_with fail
   have hr := (heap_set (o := 3) (v := .int .i64 y) (heap_set (o := 2) (v := .int .i64 x) (heap_set (o := 1) (v := .int .i64 v) (heap_set (o := 0) (v := .int .i64 kind) HZ5.out))))
   refine bodyPost_ret (v := .agg #[.int .i64 kind, .int .i64 v, .int .i64 x, .int .i64 y]) ((results_cell_row Tryd.results53 _ _ (w.heap.size + 1) 39 _ (0, 0) _ rfl hr Tryd.underlying39 rfl (by kernel_rfl)).trans (by rfl)) rfl ⟨by rw [HS.out], ?_⟩
   exact ((((((((HB5.out).setCell (by dsimp only; omega) _)).setCell (by dsimp only; omega) _)).setCell (by dsimp only; omega) _)).setCell (by dsimp only; omega) _)
 ·have HS : Hid (sbTerm (rhoT tt) ⟨kind, a, x, y⟩ = ⟨kind, a, x, y⟩) := by
   show _ = _
   unfold sbTerm
   rw [if_neg hk]
  have k1 : (kind == 1) = false := by simp; exact fun h => hk (.inl h)
  have k3 : (kind == 3) = false := by simp; exact fun h => hk (.inr h)
  clear hk ht MT mt
  have HB5 := HB
  have HZ5 := HZ
  have HA5 := HA
  go_enter Tryd.func53, Tryd.ntmps53
  go_upto_region 1 with fail
  generalize ((w.alloc (.cells #[.int .i64 kind, .int .i64 a, .int .i64 x, .int .i64 y] 39)).alloc (.cells #[.int .i64 0, .int .i64 0, .int .i64 0, .int .i64 0] 39)) = W5 at *
  have x0 : (W5).cell? ⟨w.heap.size, 0, none⟩ = some (.int .i64 kind) := HA5.out.cell 0
  have x1 : (W5).cell? ⟨w.heap.size, 1, none⟩ = some (.int .i64 a) := HA5.out.cell 1
  have x2 : (W5).cell? ⟨w.heap.size, 2, none⟩ = some (.int .i64 x) := HA5.out.cell 2
  have x3 : (W5).cell? ⟨w.heap.size, 3, none⟩ = some (.int .i64 y) := HA5.out.cell 3
  have r0 : (W5).cell? ⟨w.heap.size + 1, 0, none⟩ = some (.int .i64 0) := HZ5.out.cell 0
  have r1 : (W5).cell? ⟨w.heap.size + 1, 1, none⟩ = some (.int .i64 0) := HZ5.out.cell 1
  have r2 : (W5).cell? ⟨w.heap.size + 1, 2, none⟩ = some (.int .i64 0) := HZ5.out.cell 2
  have r3 : (W5).cell? ⟨w.heap.size + 1, 3, none⟩ = some (.int .i64 0) := HZ5.out.cell 3
  have rf : ∀ o, (W5).frozen? ⟨w.heap.size + 1, o, none⟩ = false := fun o => froz_of_heap HZ5.out
  go_wp2_with fail
  have hr := (heap_set (o := 3) (v := .int .i64 y) (heap_set (o := 2) (v := .int .i64 x) (heap_set (o := 1) (v := .int .i64 a) (heap_set (o := 0) (v := .int .i64 kind) HZ5.out))))
  refine bodyPost_ret (v := .agg #[.int .i64 kind, .int .i64 a, .int .i64 x, .int .i64 y]) ((results_cell_row Tryd.results53 _ _ (w.heap.size + 1) 39 _ (0, 0) _ rfl hr Tryd.underlying39 rfl (by kernel_rfl)).trans (by rfl)) rfl ⟨by rw [HS.out], ?_⟩
  exact ((((((((HB5.out).setCell (by dsimp only; omega) _)).setCell (by dsimp only; omega) _)).setCell (by dsimp only; omega) _)).setCell (by dsimp only; omega) _)
end Go.Proofs.YtenbodghkpbghaaDoor
