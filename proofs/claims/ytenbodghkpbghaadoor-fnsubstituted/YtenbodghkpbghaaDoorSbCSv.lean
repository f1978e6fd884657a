import Derived.Test.YtenbodghkpbghaaDoorOwASv
import Derived.Deep.CutBlock
import Derived.Deep.DeepCutAuto
namespace Go.Proofs.YtenbodghkpbghaaDoor
open Go.RowKit
set_option linter.unusedVariables false
set_option linter.unusedSimpArgs false
theorem take_go {α β : Type} (f : α → β) (z : α) (l : List α) (j : Nat) (h : j < l.length) : (l.take (j + 1)).map f = (l.take j).map f ++ [f (l.getD j z)] := by
 rw [List.take_succ_eq_append_getElem h, List.map_append]
 simp [List.getD, h]
theorem undrew {w w2 : World} (h : Below w.drew.heap.size w.drew w2) : Below w.heap.size w w2 := ⟨h.os, h.tape, h.output, h.size, h.block⟩
set_option maxHeartbeats 8000000 in
set_option maxRecDepth 100000 in
theorem ofBlockI (B lo : Nat) (ρ : Int → Int) (d : BlockD) (u0 : Option Addr) (c0 : Nat) (u1 : Option Addr) (c1 : Nat) (w : World) (hR : RenAt w B ρ) (m0 : PhisAt w lo u0 d.phis) (m1 : InstsAt w lo u1 d.insts) (hd : OkBk d) :
  Calls Tryd.prog 47 #[.map (some B), .agg #[.slice u0 d.phis.length c0, .slice u1 d.insts.length c1, .int .i64 d.term.kind, .int .i64 d.term.a, .int .i64 d.term.x, .int .i64 d.term.y]] w fun e w' => ∃ b : BkE, b.d = sbBlock ρ d ∧ e = .returned (.agg #[.slice b.pu b.ps.length b.pc, .slice b.iu b.is.length b.ic, .int .i64 b.t.kind, .int .i64 b.t.a, .int .i64 b.t.x, .int .i64 b.t.y]) ∧ OwnBk w' w.heap.size w'.heap.size b ∧ Below w.heap.size w w' := by
 have HRN : Hid (RenAt w B ρ) := hR
 have HD : Hid (OkBk d) := hd
 have b0 : Below w.heap.size w ((w.alloc (.cells #[.slice u0 d.phis.length c0, .slice u1 d.insts.length c1, .int .i64 d.term.kind, .int .i64 d.term.a, .int .i64 d.term.x, .int .i64 d.term.y] 41)).alloc (.cells #[.slice none 0 0, .slice none 0 0, .int .i64 0, .int .i64 0, .int .i64 0, .int .i64 0] 41)) := ((Below.refl _ _).alloc (Nat.le_refl _) _).alloc (by simp) _
 have A0 : At ((w.alloc (.cells #[.slice u0 d.phis.length c0, .slice u1 d.insts.length c1, .int .i64 d.term.kind, .int .i64 d.term.a, .int .i64 d.term.x, .int .i64 d.term.y] 41)).alloc (.cells #[.slice none 0 0, .slice none 0 0, .int .i64 0, .int .i64 0, .int .i64 0, .int .i64 0] 41)) w.heap.size #[.slice u0 d.phis.length c0, .slice u1 d.insts.length c1, .int .i64 d.term.kind, .int .i64 d.term.a, .int .i64 d.term.x, .int .i64 d.term.y] 41 := (Below.heap_alloc _ _ _ (by simp)).trans (heap_alloc_last _ _)
 have A1 : At ((w.alloc (.cells #[.slice u0 d.phis.length c0, .slice u1 d.insts.length c1, .int .i64 d.term.kind, .int .i64 d.term.a, .int .i64 d.term.x, .int .i64 d.term.y] 41)).alloc (.cells #[.slice none 0 0, .slice none 0 0, .int .i64 0, .int .i64 0, .int .i64 0, .int .i64 0] 41)) (w.heap.size + 1) #[.slice none 0 0, .slice none 0 0, .int .i64 0, .int .i64 0, .int .i64 0, .int .i64 0] 41 := heap_two2 _ _ _
 have H0 : Hid (Below w.heap.size w ((w.alloc (.cells #[.slice u0 d.phis.length c0, .slice u1 d.insts.length c1, .int .i64 d.term.kind, .int .i64 d.term.a, .int .i64 d.term.x, .int .i64 d.term.y] 41)).alloc (.cells #[.slice none 0 0, .slice none 0 0, .int .i64 0, .int .i64 0, .int .i64 0, .int .i64 0] 41))) := b0
 have HA : Hid (At ((w.alloc (.cells #[.slice u0 d.phis.length c0, .slice u1 d.insts.length c1, .int .i64 d.term.kind, .int .i64 d.term.a, .int .i64 d.term.x, .int .i64 d.term.y] 41)).alloc (.cells #[.slice none 0 0, .slice none 0 0, .int .i64 0, .int .i64 0, .int .i64 0, .int .i64 0] 41)) w.heap.size #[.slice u0 d.phis.length c0, .slice u1 d.insts.length c1, .int .i64 d.term.kind, .int .i64 d.term.a, .int .i64 d.term.x, .int .i64 d.term.y] 41) := A0
 have HZ : Hid (At ((w.alloc (.cells #[.slice u0 d.phis.length c0, .slice u1 d.insts.length c1, .int .i64 d.term.kind, .int .i64 d.term.a, .int .i64 d.term.x, .int .i64 d.term.y] 41)).alloc (.cells #[.slice none 0 0, .slice none 0 0, .int .i64 0, .int .i64 0, .int .i64 0, .int .i64 0] 41)) (w.heap.size + 1) #[.slice none 0 0, .slice none 0 0, .int .i64 0, .int .i64 0, .int .i64 0, .int .i64 0] 41) := A1
 have hz : (((w.alloc (.cells #[.slice u0 d.phis.length c0, .slice u1 d.insts.length c1, .int .i64 d.term.kind, .int .i64 d.term.a, .int .i64 d.term.x, .int .i64 d.term.y] 41)).alloc (.cells #[.slice none 0 0, .slice none 0 0, .int .i64 0, .int .i64 0, .int .i64 0, .int .i64 0] 41))).heap.size = w.heap.size + 2 := by simp
 have P := ofTermI B ρ d.term ((w.alloc (.cells #[.slice u0 d.phis.length c0, .slice u1 d.insts.length c1, .int .i64 d.term.kind, .int .i64 d.term.a, .int .i64 d.term.x, .int .i64 d.term.y] 41)).alloc (.cells #[.slice none 0 0, .slice none 0 0, .int .i64 0, .int .i64 0, .int .i64 0, .int .i64 0] 41)) (hR.below b0) hd.tm
 have x2 : (((w.alloc (.cells #[.slice u0 d.phis.length c0, .slice u1 d.insts.length c1, .int .i64 d.term.kind, .int .i64 d.term.a, .int .i64 d.term.x, .int .i64 d.term.y] 41)).alloc (.cells #[.slice none 0 0, .slice none 0 0, .int .i64 0, .int .i64 0, .int .i64 0, .int .i64 0] 41))).cell? ⟨w.heap.size, 2, none⟩ = some (.int .i64 d.term.kind) := A0.cell 2
 have x3 : (((w.alloc (.cells #[.slice u0 d.phis.length c0, .slice u1 d.insts.length c1, .int .i64 d.term.kind, .int .i64 d.term.a, .int .i64 d.term.x, .int .i64 d.term.y] 41)).alloc (.cells #[.slice none 0 0, .slice none 0 0, .int .i64 0, .int .i64 0, .int .i64 0, .int .i64 0] 41))).cell? ⟨w.heap.size, 3, none⟩ = some (.int .i64 d.term.a) := A0.cell 3
 have x4 : (((w.alloc (.cells #[.slice u0 d.phis.length c0, .slice u1 d.insts.length c1, .int .i64 d.term.kind, .int .i64 d.term.a, .int .i64 d.term.x, .int .i64 d.term.y] 41)).alloc (.cells #[.slice none 0 0, .slice none 0 0, .int .i64 0, .int .i64 0, .int .i64 0, .int .i64 0] 41))).cell? ⟨w.heap.size, 4, none⟩ = some (.int .i64 d.term.x) := A0.cell 4
 have x5 : (((w.alloc (.cells #[.slice u0 d.phis.length c0, .slice u1 d.insts.length c1, .int .i64 d.term.kind, .int .i64 d.term.a, .int .i64 d.term.x, .int .i64 d.term.y] 41)).alloc (.cells #[.slice none 0 0, .slice none 0 0, .int .i64 0, .int .i64 0, .int .i64 0, .int .i64 0] 41))).cell? ⟨w.heap.size, 5, none⟩ = some (.int .i64 d.term.y) := A0.cell 5
 clear b0 A0 A1 hR hd
 go_enter Tryd.func47, Tryd.ntmps47
 go_upto_region 1 with fail
 generalize ((w.alloc (.cells #[.slice u0 d.phis.length c0, .slice u1 d.insts.length c1, .int .i64 d.term.kind, .int .i64 d.term.a, .int .i64 d.term.x, .int .i64 d.term.y] 41)).alloc (.cells #[.slice none 0 0, .slice none 0 0, .int .i64 0, .int .i64 0, .int .i64 0, .int .i64 0] 41)) = W1 at *
 go_wp2_with fail
 refine P.mono ?_
 rintro e w2 ⟨rfl, b2⟩
 obtain ⟨tm, htm⟩ : ∃ tm, sbTerm ρ d.term = tm := ⟨_, rfl⟩
 have HTM : Hid (sbTerm ρ d.term = tm) := htm
 rw [htm]
 have HB2 : Hid (Below w.heap.size w w2) := H0.out.trans (b2.mono (by omega))
 have HA2 : Hid (At w2 w.heap.size #[.slice u0 d.phis.length c0, .slice u1 d.insts.length c1, .int .i64 d.term.kind, .int .i64 d.term.a, .int .i64 d.term.x, .int .i64 d.term.y] 41) := HA.out.below b2
 have HZ2 : Hid (At w2 (w.heap.size + 1) #[.slice none 0 0, .slice none 0 0, .int .i64 0, .int .i64 0, .int .i64 0, .int .i64 0] 41) := HZ.out.below b2
 have hz2 : w.heap.size + 2 ≤ w2.heap.size := by have := b2.size; omega
 clear P b2 H0 HA HZ hz htm x2 x3 x4 x5
 go_upto_region 2 with fail
 have b3 : Below w2.heap.size w2 (w2.alloc (.cells #[.slice none 0 0, .slice none 0 0, .int .i64 tm.kind, .int .i64 tm.a, .int .i64 tm.x, .int .i64 tm.y] 41)) := (Below.refl _ _).alloc (Nat.le_refl _) _
 have HS3 : Hid (SSt w (w2.alloc (.cells #[.slice none 0 0, .slice none 0 0, .int .i64 tm.kind, .int .i64 tm.a, .int .i64 tm.x, .int .i64 tm.y] 41)) w2.heap.size 41 #[.slice u0 d.phis.length c0, .slice u1 d.insts.length c1, .int .i64 d.term.kind, .int .i64 d.term.a, .int .i64 d.term.x, .int .i64 d.term.y] #[.slice none 0 0, .slice none 0 0, .int .i64 tm.kind, .int .i64 tm.a, .int .i64 tm.x, .int .i64 tm.y] #[.slice none 0 0, .slice none 0 0, .int .i64 0, .int .i64 0, .int .i64 0, .int .i64 0]) := ⟨HA2.out.below b3, HZ2.out.below b3, At.new _ _ _, HB2.out.trans (b3.mono (by omega)), by omega⟩
 have hX3 : w2.heap.size + 1 ≤ (w2.alloc (.cells #[.slice none 0 0, .slice none 0 0, .int .i64 tm.kind, .int .i64 tm.a, .int .i64 tm.x, .int .i64 tm.y] 41)).heap.size := by simp
 clear b3 HB2 HA2 HZ2 hz2
 generalize (w2.alloc (.cells #[.slice none 0 0, .slice none 0 0, .int .i64 tm.kind, .int .i64 tm.a, .int .i64 tm.x, .int .i64 tm.y] 41)) = W3 at *
 generalize w2.heap.size = X at *
 clear w2
 have p0 : W3.cell? ⟨w.heap.size, 0, none⟩ = some (.slice u0 d.phis.length c0) := HS3.out.par.cell 0
 obtain ⟨ps, hps⟩ : ∃ ps : Array Value, #[.slice u0 d.phis.length c0, .slice u1 d.insts.length c1, .int .i64 d.term.kind, .int .i64 d.term.a, .int .i64 d.term.x, .int .i64 d.term.y] = ps := ⟨_, rfl⟩
 have HP1 : Hid (ps[1]? = some (.slice u1 d.insts.length c1)) := by show _ = _; rw [← hps]; rfl
 rw [hps] at HS3
 clear hps
 go_wp2_with fail
 clear p0
 go_loopw [18] (fun i wr => ∃ (j : Nat) (v : Value) (es : List PhE), j ≤ d.phis.length ∧ i = .int .i64 j ∧ Hid (es.length = j) ∧ Hid (es.map (·.1) = (d.phis.take j).map (sbPhi ρ)) ∧ Hid (SSt w wr X 41 ps #[v, .slice none 0 0, .int .i64 tm.kind, .int .i64 tm.a, .int .i64 tm.x, .int .i64 tm.y] #[.slice none 0 0, .slice none 0 0, .int .i64 0, .int .i64 0, .int .i64 0, .int .i64 0]) ∧ Hid (RowS 89 2 phC wr (X + 1) v es) ∧ Hid (Sub OwnPhE wr (X + 1) wr.heap.size es)) (fun i _ => d.phis.length - (intOf i).toNat)
 case atStart => exact ⟨0, _, [], by omega, rfl, rfl, (by show _ = _; simp), HS3.out, RowS.nil _ _ _ _ _, hX3⟩
 case round =>
  clear HS3 hX3
  obtain ⟨j, v, es, hj, rfl, hes, HM, HS, HR, HU⟩ := hrel
  obtain ⟨w4, hwo⟩ : ∃ w1, w1 = wr := ⟨_, rfl⟩
  subst hwo
  obtain ⟨vu, vc, rfl⟩ := HR.out.slice
  have hp60 := HD.out.pl
  by_cases hjl : j < d.phis.length
  ·rcases m0.2 with hn | ⟨pb, po, rfl, hplo, hpb, hpc⟩
   ·simp [hn] at hjl
   obtain ⟨hi0, ⟨iu, iq, hi1, im⟩⟩ := hpc j hjl
   have hsp := HD.out.ph _ (getD_mem phi0 d.phis j hjl)
   have HT := take_go (sbPhi ρ) phi0 d.phis j hjl
   generalize d.phis.getD j phi0 = p at hi0 hi1 im hsp HT
   have HT' : Hid ((d.phis.take (j + 1)).map (sbPhi ρ) = (d.phis.take j).map (sbPhi ρ) ++ [sbPhi ρ p]) := HT
   have hW := HS.out.bel
   have f0 : w4.cell? ⟨pb, po + j * 2, none⟩ = some (.int .i64 p.w) := (cell_block (hW.block pb hpb)).trans hi0
   have f1 : w4.cell? ⟨pb, po + j * 2 + 1, none⟩ = some (.slice iu p.ins.length iq) := (cell_block (hW.block pb hpb)).trans hi1
   have b5 : Below w4.heap.size w4 (w4.alloc (.cells #[.int .i64 p.w, .slice iu p.ins.length iq] 89)) := (Below.refl _ _).alloc (Nat.le_refl _) _
   have IM : IntsAt ((w4.alloc (.cells #[.int .i64 p.w, .slice iu p.ins.length iq] 89))).drew lo iu p.ins := (im.keep (agree_of_below hW lo)).keep (agree_of_below b5 lo)
   have PI := ofIdsI B lo ρ iu iq p.ins ((w4.alloc (.cells #[.int .i64 p.w, .slice iu p.ins.length iq] 89))).drew ((HRN.out.below hW).below b5.drew) IM hsp.1 hsp.2
   have HS5 : Hid (SSt w (w4.alloc (.cells #[.int .i64 p.w, .slice iu p.ins.length iq] 89)) X 41 ps #[.slice vu es.length vc, .slice none 0 0, .int .i64 tm.kind, .int .i64 tm.a, .int .i64 tm.x, .int .i64 tm.y] #[.slice none 0 0, .slice none 0 0, .int .i64 0, .int .i64 0, .int .i64 0, .int .i64 0]) := HS.out.keep b5
   have HR5 : Hid (RowS 89 2 phC (w4.alloc (.cells #[.int .i64 p.w, .slice iu p.ins.length iq] 89)) (X + 1) (.slice vu es.length vc) es) := HR.out.still (Still.below (k := 9) b5) (by decide)
   have HU5 : Hid (Sub OwnPhE (w4.alloc (.cells #[.int .i64 p.w, .slice iu p.ins.length iq] 89)) (X + 1) ((w4.alloc (.cells #[.int .i64 p.w, .slice iu p.ins.length iq] 89))).heap.size es) := (HU.out.wide (Nat.le_refl _) b5.size).still fun _ _ _ h => OwnI.still h (Still.below (k := 9) b5) (by decide)
   have AP : At (w4.alloc (.cells #[.int .i64 p.w, .slice iu p.ins.length iq] 89)) w4.heap.size #[.int .i64 p.w, .slice iu p.ins.length iq] 89 := At.new _ _ _
   have HAP : Hid (At (w4.alloc (.cells #[.int .i64 p.w, .slice iu p.ins.length iq] 89)) w4.heap.size #[.int .i64 p.w, .slice iu p.ins.length iq] 89) := AP
   have hRP : ∀ g, (Value.slice vu es.length vc).ownBlock = some g → g < w4.heap.size := fun g e => by
    obtain ⟨_, cur, hc⟩ := HR.out.ge e
    exact (Array.getElem?_eq_some_iff.1 hc).1
   have hX5 : X < w4.heap.size := HS.out.box.lt
   have hl1000 := hsp.1
   clear hpc hi0 hi1 im hsp HT m0 HS HR HU b5 IM hW
   go_upto_region 5 with fail
   clear f0 f1
   have hW5 : ((w4.alloc (.cells #[.int .i64 p.w, .slice iu p.ins.length iq] 89))).heap.size = w4.heap.size + 1 := by simp
   generalize (w4.alloc (.cells #[.int .i64 p.w, .slice iu p.ins.length iq] 89)) = w5 at *
   have s0 : w5.cell? ⟨X, 0, none⟩ = some (.slice vu es.length vc) ∧ w5.cell? ⟨w4.heap.size, 0, none⟩ = some (.int .i64 p.w) ∧ w5.cell? ⟨w4.heap.size, 1, none⟩ = some (.slice iu p.ins.length iq) := ⟨HS5.out.box.cell 0, AP.cell 0, AP.cell 1⟩
   clear AP
   go_wp2_with fail
   refine startX (fun w' => w'.cell? ⟨X, 0, none⟩ = some (.slice vu es.length vc) ∧ w'.cell? ⟨w4.heap.size, 0, none⟩ = some (.int .i64 p.w) ∧ w'.cell? ⟨w4.heap.size, 1, none⟩ = some (.slice iu p.ins.length iq)) (fun i => decide (i = 12)) (by kernel_rfl) ?_
   refine takeX 0 (v := ?_) rfl rfl (by kernel_rfl) (fun _ _ _ h => h) (yesH (by rfl) ?_) s0 ?_
   rotate_left
   ·intro w9 hS9
    obtain ⟨g0, g1, g2⟩ := hS9
    go_simp
    try with_reducible rfl
   try simp only [Act.put, sA, sB, sC]
   refine takeX 1 (v := ?_) rfl rfl (by kernel_rfl) (fun _ _ _ h => h) (yesH (by rfl) ?_) s0 ?_
   rotate_left
   ·intro w9 hS9
    obtain ⟨g0, g1, g2⟩ := hS9
    go_simp
    try with_reducible rfl
   try simp only [Act.put, sA, sB, sC]
   refine takeX 2 (v := ?_) rfl rfl (by kernel_rfl) (fun _ _ _ h => h) (yesH (by rfl) ?_) s0 ?_
   rotate_left
   ·intro w9 hS9
    obtain ⟨g0, g1, g2⟩ := hS9
    go_simp
    try with_reducible rfl
   try simp only [Act.put, sA, sB, sC]
   refine takeX 3 (v := ?_) rfl rfl (by kernel_rfl) (fun _ _ _ h => h) (yesH (by rfl) ?_) s0 ?_
   rotate_left
   ·intro w9 hS9
    obtain ⟨g0, g1, g2⟩ := hS9
    go_simp
    try with_reducible rfl
   try simp only [Act.put, sA, sB, sC]
   refine takeX 4 (v := ?_) rfl rfl (by kernel_rfl) (fun _ _ _ h => h) (yesH (by rfl) ?_) s0 ?_
   rotate_left
   ·intro w9 hS9
    obtain ⟨g0, g1, g2⟩ := hS9
    go_simp
    try with_reducible rfl
   try simp only [Act.put, sA, sB, sC]
   refine takeX 5 (v := ?_) rfl rfl (by kernel_rfl) (fun _ _ _ h => h) (yesH (by rfl) ?_) s0 ?_
   rotate_left
   ·intro w9 hS9
    obtain ⟨g0, g1, g2⟩ := hS9
    go_simp
    try with_reducible rfl
   try simp only [Act.put, sA, sB, sC]
   refine takeX 6 (v := ?_) rfl rfl (by kernel_rfl) (fun _ _ _ h => h) (yesH (by rfl) ?_) s0 ?_
   rotate_left
   ·intro w9 hS9
    obtain ⟨g0, g1, g2⟩ := hS9
    go_simp
    try with_reducible rfl
   try simp only [Act.put, sA, sB, sC]
   refine readyX 7 rfl (by kernel_rfl) (fun K hK => ?_)
   go_simp
   go_wp2_with fail
   refine PI.mono ?_
   rintro e w6 ⟨rv, rfl, hrow, b6'⟩
   have b6 : Below w5.heap.size w5 w6 := undrew b6'
   obtain ⟨ru, rc, rfl⟩ := hrow.slice
   have HSB : Hid (sbPhi ρ p = ⟨p.w, p.ins.map ρ⟩) := rfl
   have hLl : (p.ins.map ρ).length ≤ 1000 := by rw [List.length_map]; exact hl1000
   generalize p.ins.map ρ = L at *
   have hown : OwnI w6 w5.heap.size w6.heap.size ru L := OwnI.row (by omega) hrow
   have HS6 : Hid (SSt w w6 X 41 ps #[.slice vu es.length vc, .slice none 0 0, .int .i64 tm.kind, .int .i64 tm.a, .int .i64 tm.x, .int .i64 tm.y] #[.slice none 0 0, .slice none 0 0, .int .i64 0, .int .i64 0, .int .i64 0, .int .i64 0]) := HS5.out.keep b6
   have HR6 : Hid (RowS 89 2 phC w6 (X + 1) (.slice vu es.length vc) es) := HR5.out.still (Still.below (k := 9) b6) (by decide)
   have HU6 : Hid (Sub OwnPhE w6 (X + 1) w6.heap.size (es ++ [(⟨p.w, L⟩, ru, rc)])) := Sub.snoc (HU5.out.still fun _ _ _ h => OwnI.still h (Still.below (k := 9) b6) (by decide)) (Nat.le_refl _) b6.size hown
   have HAP6 : Hid (At w6 w4.heap.size #[.int .i64 p.w, .slice iu p.ins.length iq] 89) := HAP.out.below b6
   have HM6 : Hid ((es ++ [((⟨p.w, L⟩ : PhiD), ru, rc)]).map (·.1) = (d.phis.take (j + 1)).map (sbPhi ρ)) := by
    show _ = _
    rw [HT'.out, List.map_append, HM.out, HSB.out]
    rfl
   have s6 : w6.cell? ⟨X, 0, none⟩ = some (.slice vu es.length vc) ∧ w6.cell? ⟨w4.heap.size, 0, none⟩ = some (.int .i64 p.w) ∧ w6.cell? ⟨w4.heap.size, 1, none⟩ = some (.slice iu p.ins.length iq) := ⟨HS6.out.box.cell 0, HAP6.out.cell 0, HAP6.out.cell 1⟩
   have b7 : Below w6.heap.size w6 (w6.alloc (.cells #[.int .i64 p.w, .slice ru L.length rc] 89)) := (Below.refl _ _).alloc (Nat.le_refl _) _
   have s7 : (w6.alloc (.cells #[.int .i64 p.w, .slice ru L.length rc] 89)).cell? ⟨X, 0, none⟩ = some (.slice vu es.length vc) ∧ (w6.alloc (.cells #[.int .i64 p.w, .slice ru L.length rc] 89)).cell? ⟨w4.heap.size, 0, none⟩ = some (.int .i64 p.w) ∧ (w6.alloc (.cells #[.int .i64 p.w, .slice ru L.length rc] 89)).cell? ⟨w4.heap.size, 1, none⟩ = some (.slice iu p.ins.length iq) := ⟨(HS6.out.box.below b7).cell 0, (HAP6.out.below b7).cell 0, (HAP6.out.below b7).cell 1⟩
   obtain ⟨g8, cap8, w8, hrun, b8, kp8, hX8, st9, hr9, hu9⟩ := app_box appPh 36 (C := phC) (O := OwnPhE) (TB := 41) (fun _ => rfl) (fun e v hv => by simp only [phC, List.mem_cons, List.not_mem_nil, or_false] at hv; rcases hv with rfl | rfl <;> rfl) (by decide) (fun _ _ _ _ _ st h => OwnI.still h st (by decide)) 0 HR6.out HU6.out HS6.out.box (by have := hes.out; omega)
   have hrun : (Builtin.append_ #[36, 36] 36 #[.slice vu es.length vc, .slice (some ⟨w6.heap.size, 0, none⟩) 1 1]).run Tryd.prog (w6.alloc (.cells #[.int .i64 p.w, .slice ru L.length rc] 89)) = .ok (.slice (some ⟨g8, 0, none⟩) (es.length + 1) cap8) w8 := hrun
   have HS8 : Hid (SSt w w8 X 41 ps #[.slice vu es.length vc, .slice none 0 0, .int .i64 tm.kind, .int .i64 tm.a, .int .i64 tm.x, .int .i64 tm.y] #[.slice none 0 0, .slice none 0 0, .int .i64 0, .int .i64 0, .int .i64 0, .int .i64 0]) := HS6.out.low b8 (by omega)
   have HAP8 : At w8 w4.heap.size #[.int .i64 p.w, .slice iu p.ins.length iq] 89 := (kp8 _ HAP6.out.lt (fun e => by have := hRP _ e; omega)).trans HAP6.out
   have s8 : w8.cell? ⟨X, 0, none⟩ = some (.slice vu es.length vc) ∧ w8.cell? ⟨w4.heap.size, 0, none⟩ = some (.int .i64 p.w) ∧ w8.cell? ⟨w4.heap.size, 1, none⟩ = some (.slice iu p.ins.length iq) := ⟨HS8.out.box.cell 0, HAP8.cell 0, HAP8.cell 1⟩
   have HS9 : Hid (SSt w (w8.setCell ⟨X, 0, none⟩ (.slice (some ⟨g8, 0, none⟩) (es.length + 1) cap8)) X 41 ps #[(.slice (some ⟨g8, 0, none⟩) (es.length + 1) cap8), .slice none 0 0, .int .i64 tm.kind, .int .i64 tm.a, .int .i64 tm.x, .int .i64 tm.y] #[.slice none 0 0, .slice none 0 0, .int .i64 0, .int .i64 0, .int .i64 0, .int .i64 0]) := HS8.out.set 0 _
   have HR9 : Hid (RowS 89 2 phC (w8.setCell ⟨X, 0, none⟩ (.slice (some ⟨g8, 0, none⟩) (es.length + 1) cap8)) (X + 1) (.slice (some ⟨g8, 0, none⟩) (es.length + 1) cap8) (es ++ [(⟨p.w, L⟩, ru, rc)])) := hr9
   have HU9 : Hid (Sub OwnPhE (w8.setCell ⟨X, 0, none⟩ (.slice (some ⟨g8, 0, none⟩) (es.length + 1) cap8)) (X + 1) (w8.setCell ⟨X, 0, none⟩ (.slice (some ⟨g8, 0, none⟩) (es.length + 1) cap8)).heap.size (es ++ [(⟨p.w, L⟩, ru, rc)])) := hu9
   have c8 := s8.1
   have f8 : w8.frozen? ⟨X, 0, none⟩ = false := froz_of_heap HS8.out.box
   clear PI hrow b6 b6' hown HS5 HR5 HU5 HAP HS6 HR6 HU6 HAP6 HAP8 b7 b8 kp8 hX8 st9 hr9 hu9 HS8 hRP HM HT' HSB hLl hl1000 hW5 s0
   refine hK.out _ _ (.inr s6) ?_
   clear hK K
   try simp only [Act.put, sA, sB, sC]
   refine takeX 8 (v := ?_) rfl rfl (by kernel_rfl) (fun _ _ _ h => h) (yesH (by rfl) ?_) s6 ?_
   rotate_left
   ·intro w9 hS9
    go_simp
    try with_reducible rfl
   try simp only [Act.put, sA, sB, sC]
   refine readyX 9 rfl (by kernel_rfl) (fun K hK => ?_)
   go_simp
   refine hK.out _ _ (.inr s7) ?_
   clear hK K
   try simp only [Act.put, sA, sB, sC]
   refine readyX 10 rfl (by kernel_rfl) (fun K hK => ?_)
   refine step_runP rfl _ _ _ rfl rfl rfl hrun ?_
   refine hK.out _ _ (.inr s8) ?_
   clear hK K hrun s6 s7
   try simp only [Act.put, sA, sB, sC]
   refine takeX 11 (v := ?_) rfl rfl (by kernel_rfl) (fun _ _ _ h => h) (yesH (by rfl) ?_) s8 ?_
   rotate_left
   ·intro w9 hS9
    go_simp
    try with_reducible rfl
   try simp only [Act.put, sA, sB, sC]
   clear s8
   refine readyX 12 rfl (by kernel_rfl) (fun K hK => ?_)
   go_simp
   refine hK.out _ _ (.inl rfl) ?_
   clear hK K
   refine doneX (by kernel_rfl) ?_ _
   go_wp2_with fail
   go_roundw
   case rel => exact ⟨j + 1, _, _, by omega, by go_num, (by have := hes.out; show _ = _; rw [List.length_append]; simp; omega), HM6.out, HS9.out, HR9.out, HU9.out⟩
   case measure => simp [intOf]; omega
  ·have hje : j = d.phis.length := by omega
   have HMe : Hid (es.map (·.1) = d.phis.map (sbPhi ρ)) := by
    show _ = _
    rw [HM.out, hje, List.take_length]
   have HW : Hid (OwnPhs w4 (X + 1) w4.heap.size vu es) := RowS.own (fun _ => rfl) (by have := hes.out; omega) HR.out HU.out (Nat.le_refl _) (Nat.le_refl _)
   have hm4 : X + 1 ≤ w4.heap.size := HU.out.le
   have p1 : w4.cell? ⟨w.heap.size, 1, none⟩ = some (.slice u1 d.insts.length c1) := (HS.out.par.cell 1).trans HP1.out
   clear HM HR HU
   go_wp2_with fail
   clear p1
   obtain ⟨m, hmm⟩ : ∃ m, w4.heap.size = m := ⟨_, rfl⟩
   rw [hmm] at HW hm4
   have hmm' : m ≤ w4.heap.size := by omega
   clear hmm
   go_loopw [38] (fun i wr => ∃ (j : Nat) (v : Value) (is : List InE), j ≤ d.insts.length ∧ i = .int .i64 j ∧ Hid (is.length = j) ∧ Hid (is.map (·.1) = (d.insts.take j).map (sbInst ρ)) ∧ Hid (SSt w wr X 41 ps #[.slice vu es.length vc, v, .int .i64 tm.kind, .int .i64 tm.a, .int .i64 tm.x, .int .i64 tm.y] #[.slice none 0 0, .slice none 0 0, .int .i64 0, .int .i64 0, .int .i64 0, .int .i64 0]) ∧ Hid (OwnPhs wr (X + 1) m vu es) ∧ Hid (RowS 44 7 inC wr m v is) ∧ Hid (Sub OwnInE wr m wr.heap.size is)) (fun i _ => d.insts.length - (intOf i).toNat)
   case atStart => exact ⟨0, _, [], by omega, rfl, rfl, (by show _ = _; simp), HS.out, HW.out, RowS.nil _ _ _ _ _, hmm'⟩
   case round =>
    clear HS HW hmm' hjl hje m0
    obtain ⟨k, v, is, hk, rfl, his, HM, HS, HW, HR, HU⟩ := hrel
    obtain ⟨w5, hwo⟩ : ∃ w1, w1 = wr := ⟨_, rfl⟩
    subst hwo
    obtain ⟨nu, nc, rfl⟩ := HR.out.slice
    have hi60 := HD.out.il
    by_cases hkl : k < d.insts.length
    ·rcases m1.2 with hn | ⟨pb, po, rfl, hplo, hpb, hpc⟩
     ·simp [hn] at hkl
     obtain ⟨hi0, hi1, hi2, hi3, hi4, hi5, ⟨iu, iq, hi6, im⟩⟩ := hpc k hkl
     have hsp := HD.out.is _ (getD_mem inst0 d.insts k hkl)
     have HT := take_go (sbInst ρ) inst0 d.insts k hkl
     generalize d.insts.getD k inst0 = p at hi0 hi1 hi2 hi3 hi4 hi5 hi6 im hsp HT
     have HT' : Hid ((d.insts.take (k + 1)).map (sbInst ρ) = (d.insts.take k).map (sbInst ρ) ++ [sbInst ρ p]) := HT
     have hW := HS.out.bel
     have f0 : w5.cell? ⟨pb, po + k * 7, none⟩ = some (.int .i64 p.op) := (cell_block (hW.block pb hpb)).trans hi0
     have f1 : w5.cell? ⟨pb, po + k * 7 + 1, none⟩ = some (.int .i64 p.w) := (cell_block (hW.block pb hpb)).trans hi1
     have f2 : w5.cell? ⟨pb, po + k * 7 + 2, none⟩ = some (.int .i64 p.a) := (cell_block (hW.block pb hpb)).trans hi2
     have f3 : w5.cell? ⟨pb, po + k * 7 + 3, none⟩ = some (.int .i64 p.b) := (cell_block (hW.block pb hpb)).trans hi3
     have f4 : w5.cell? ⟨pb, po + k * 7 + 4, none⟩ = some (.int .i64 p.c) := (cell_block (hW.block pb hpb)).trans hi4
     have f5 : w5.cell? ⟨pb, po + k * 7 + 5, none⟩ = some (.int .i64 p.imm) := (cell_block (hW.block pb hpb)).trans hi5
     have f6 : w5.cell? ⟨pb, po + k * 7 + 6, none⟩ = some (.slice iu p.args.length iq) := (cell_block (hW.block pb hpb)).trans hi6
     have b5 : Below w5.heap.size w5 (w5.alloc (.cells #[.int .i64 p.op, .int .i64 p.w, .int .i64 p.a, .int .i64 p.b, .int .i64 p.c, .int .i64 p.imm, .slice iu p.args.length iq] 44)) := (Below.refl _ _).alloc (Nat.le_refl _) _
     have IM : IntsAt ((w5.alloc (.cells #[.int .i64 p.op, .int .i64 p.w, .int .i64 p.a, .int .i64 p.b, .int .i64 p.c, .int .i64 p.imm, .slice iu p.args.length iq] 44))).drew lo iu p.args := (im.keep (agree_of_below hW lo)).keep (agree_of_below b5 lo)
     have PI := ofInstI B lo ρ p iu iq ((w5.alloc (.cells #[.int .i64 p.op, .int .i64 p.w, .int .i64 p.a, .int .i64 p.b, .int .i64 p.c, .int .i64 p.imm, .slice iu p.args.length iq] 44))).drew ((HRN.out.below hW).below b5.drew) IM hsp.1 hsp.2.1 hsp.2.2 (ops_back p ρ)
     have HS5 : Hid (SSt w (w5.alloc (.cells #[.int .i64 p.op, .int .i64 p.w, .int .i64 p.a, .int .i64 p.b, .int .i64 p.c, .int .i64 p.imm, .slice iu p.args.length iq] 44)) X 41 ps #[.slice vu es.length vc, .slice nu is.length nc, .int .i64 tm.kind, .int .i64 tm.a, .int .i64 tm.x, .int .i64 tm.y] #[.slice none 0 0, .slice none 0 0, .int .i64 0, .int .i64 0, .int .i64 0, .int .i64 0]) := HS.out.keep b5
     have HW5 : Hid (OwnPhs (w5.alloc (.cells #[.int .i64 p.op, .int .i64 p.w, .int .i64 p.a, .int .i64 p.b, .int .i64 p.c, .int .i64 p.imm, .slice iu p.args.length iq] 44)) (X + 1) m vu es) := OwnPhs.still HW.out (Still.below (k := 9) b5) (by decide)
     have HR5 : Hid (RowS 44 7 inC (w5.alloc (.cells #[.int .i64 p.op, .int .i64 p.w, .int .i64 p.a, .int .i64 p.b, .int .i64 p.c, .int .i64 p.imm, .slice iu p.args.length iq] 44)) m (.slice nu is.length nc) is) := HR.out.still (Still.below (k := 9) b5) (by decide)
     have HU5 : Hid (Sub OwnInE (w5.alloc (.cells #[.int .i64 p.op, .int .i64 p.w, .int .i64 p.a, .int .i64 p.b, .int .i64 p.c, .int .i64 p.imm, .slice iu p.args.length iq] 44)) m ((w5.alloc (.cells #[.int .i64 p.op, .int .i64 p.w, .int .i64 p.a, .int .i64 p.b, .int .i64 p.c, .int .i64 p.imm, .slice iu p.args.length iq] 44))).heap.size is) := (HU.out.wide (Nat.le_refl _) b5.size).still fun _ _ _ h => OwnI.still h (Still.below (k := 9) b5) (by decide)
     have HAP : Hid (At (w5.alloc (.cells #[.int .i64 p.op, .int .i64 p.w, .int .i64 p.a, .int .i64 p.b, .int .i64 p.c, .int .i64 p.imm, .slice iu p.args.length iq] 44)) w5.heap.size #[.int .i64 p.op, .int .i64 p.w, .int .i64 p.a, .int .i64 p.b, .int .i64 p.c, .int .i64 p.imm, .slice iu p.args.length iq] 44) := At.new _ _ _
     have hRP : ∀ g, (Value.slice nu is.length nc).ownBlock = some g → g < w5.heap.size := fun g e => by
      obtain ⟨_, cur, hc⟩ := HR.out.ge e
      exact (Array.getElem?_eq_some_iff.1 hc).1
     have hX5 : X < w5.heap.size := HS.out.box.lt
     have hXm : X + 1 ≤ m := hm4
     have HA1000 : Hid (p.args.length ≤ 1000 ∧ (opsD p).length ≤ 1000) := ⟨hsp.1, hsp.2.1⟩
     clear hpc hi0 hi1 hi2 hi3 hi4 hi5 hi6 im hsp HT m1 HS HW HR HU b5 IM hW
     go_upto_region 10 with fail
     clear f0 f1 f2 f3 f4 f5 f6
     generalize (w5.alloc (.cells #[.int .i64 p.op, .int .i64 p.w, .int .i64 p.a, .int .i64 p.b, .int .i64 p.c, .int .i64 p.imm, .slice iu p.args.length iq] 44)) = w6 at *
     have s0 : w6.cell? ⟨X, 1, none⟩ = some (.slice nu is.length nc) ∧ w6.heap[w5.heap.size]? = some (.cells #[.int .i64 p.op, .int .i64 p.w, .int .i64 p.a, .int .i64 p.b, .int .i64 p.c, .int .i64 p.imm, .slice iu p.args.length iq] 44 (0, 0)) := ⟨HS5.out.box.cell 1, HAP.out⟩
     go_wp2_with fail
     refine startX (fun w' => w'.cell? ⟨X, 1, none⟩ = some (.slice nu is.length nc) ∧ w'.heap[w5.heap.size]? = some (.cells #[.int .i64 p.op, .int .i64 p.w, .int .i64 p.a, .int .i64 p.b, .int .i64 p.c, .int .i64 p.imm, .slice iu p.args.length iq] 44 (0, 0))) (fun i => decide (i = 8)) (by kernel_rfl) ?_
     refine takeX 0 (v := ?_) rfl rfl (by kernel_rfl) (fun _ _ _ h => h) (yesH (by rfl) ?_) s0 ?_
     rotate_left
     ·intro w9 hS9
      obtain ⟨g0, g1⟩ := hS9
      obtain ⟨k0, k1, k2, k3, k4, k5, k6⟩ := row7 g1
      go_simp
      try with_reducible rfl
     try simp only [Act.put, sA, sB, sC]
     refine takeX 1 (v := ?_) rfl rfl (by kernel_rfl) (fun _ _ _ h => h) (yesH (by rfl) ?_) s0 ?_
     rotate_left
     ·intro w9 hS9
      obtain ⟨g0, g1⟩ := hS9
      obtain ⟨k0, k1, k2, k3, k4, k5, k6⟩ := row7 g1
      go_simp
      try with_reducible rfl
     try simp only [Act.put, sA, sB, sC]
     refine takeX 2 (v := ?_) rfl rfl (by kernel_rfl) (fun _ _ _ h => h) (yesH (by rfl) ?_) s0 ?_
     rotate_left
     ·intro w9 hS9
      obtain ⟨g0, g1⟩ := hS9
      obtain ⟨k0, k1, k2, k3, k4, k5, k6⟩ := row7 g1
      go_simp
      try with_reducible rfl
     try simp only [Act.put, sA, sB, sC]
     refine takeX 3 (v := ?_) rfl rfl (by kernel_rfl) (fun _ _ _ h => h) (yesH (by rfl) ?_) s0 ?_
     rotate_left
     ·intro w9 hS9
      obtain ⟨g0, g1⟩ := hS9
      obtain ⟨k0, k1, k2, k3, k4, k5, k6⟩ := row7 g1
      go_simp
      try with_reducible rfl
     try simp only [Act.put, sA, sB, sC]
     refine readyX 4 rfl (by kernel_rfl) (fun K hK => ?_)
     go_simp
     go_wp2_with fail
     refine PI.mono ?_
     rintro e w7 ⟨⟨ru, rc, rfl, hrow⟩, b7'⟩
     have b7 : Below w6.heap.size w6 w7 := undrew b7'
     have HSB : Hid (sbInst ρ p = mkD p.op p.w p.imm ((opsD p).map ρ)) := rfl
     have hLl : (mkD p.op p.w p.imm ((opsD p).map ρ)).args.length ≤ 1000 := by
      unfold mkD
      split
      ·show ((opsD p).map ρ).length ≤ 1000
       rw [List.length_map]; exact HA1000.out.2
      ·exact Nat.zero_le _
     generalize mkD p.op p.w p.imm ((opsD p).map ρ) = q at *
     have hown : OwnI w7 w6.heap.size w7.heap.size ru q.args := OwnI.row (by omega) hrow
     have HS7 : Hid (SSt w w7 X 41 ps #[.slice vu es.length vc, .slice nu is.length nc, .int .i64 tm.kind, .int .i64 tm.a, .int .i64 tm.x, .int .i64 tm.y] #[.slice none 0 0, .slice none 0 0, .int .i64 0, .int .i64 0, .int .i64 0, .int .i64 0]) := HS5.out.keep b7
     have HW7 : Hid (OwnPhs w7 (X + 1) m vu es) := OwnPhs.still HW5.out (Still.below (k := 9) b7) (by decide)
     have HR7 : Hid (RowS 44 7 inC w7 m (.slice nu is.length nc) is) := HR5.out.still (Still.below (k := 9) b7) (by decide)
     have HU7 : Hid (Sub OwnInE w7 m w7.heap.size (is ++ [(q, ru, rc)])) := Sub.snoc (HU5.out.still fun _ _ _ h => OwnI.still h (Still.below (k := 9) b7) (by decide)) (Nat.le_refl _) b7.size hown
     have HAP7 : Hid (At w7 w5.heap.size #[.int .i64 p.op, .int .i64 p.w, .int .i64 p.a, .int .i64 p.b, .int .i64 p.c, .int .i64 p.imm, .slice iu p.args.length iq] 44) := HAP.out.below b7
     have HM7 : Hid ((is ++ [(q, ru, rc)]).map (·.1) = (d.insts.take (k + 1)).map (sbInst ρ)) := by
      show _ = _
      rw [HT'.out, List.map_append, HM.out, HSB.out]
      rfl
     have s7 : w7.cell? ⟨X, 1, none⟩ = some (.slice nu is.length nc) ∧ w7.heap[w5.heap.size]? = some (.cells #[.int .i64 p.op, .int .i64 p.w, .int .i64 p.a, .int .i64 p.b, .int .i64 p.c, .int .i64 p.imm, .slice iu p.args.length iq] 44 (0, 0)) := ⟨HS7.out.box.cell 1, HAP7.out⟩
     have b8 : Below w7.heap.size w7 (w7.alloc (.cells #[.int .i64 q.op, .int .i64 q.w, .int .i64 q.a, .int .i64 q.b, .int .i64 q.c, .int .i64 q.imm, .slice ru q.args.length rc] 44)) := (Below.refl _ _).alloc (Nat.le_refl _) _
     have s8 : ((w7.alloc (.cells #[.int .i64 q.op, .int .i64 q.w, .int .i64 q.a, .int .i64 q.b, .int .i64 q.c, .int .i64 q.imm, .slice ru q.args.length rc] 44))).cell? ⟨X, 1, none⟩ = some (.slice nu is.length nc) ∧ ((w7.alloc (.cells #[.int .i64 q.op, .int .i64 q.w, .int .i64 q.a, .int .i64 q.b, .int .i64 q.c, .int .i64 q.imm, .slice ru q.args.length rc] 44))).heap[w5.heap.size]? = some (.cells #[.int .i64 p.op, .int .i64 p.w, .int .i64 p.a, .int .i64 p.b, .int .i64 p.c, .int .i64 p.imm, .slice iu p.args.length iq] 44 (0, 0)) := ⟨(HS7.out.box.below b8).cell 1, HAP7.out.below b8⟩
     obtain ⟨g9, cap9, w9, hrun, b9, kp9, hX9, sta, hra, hua⟩ := app_box appIn 37 (C := inC) (O := OwnInE) (TB := 41) (fun _ => rfl) (fun e v hv => by simp only [inC, List.mem_cons, List.not_mem_nil, or_false] at hv; rcases hv with rfl | rfl | rfl | rfl | rfl | rfl | rfl <;> rfl) (by decide) (fun _ _ _ _ _ st h => OwnI.still h st (by decide)) 1 HR7.out HU7.out HS7.out.box (by have := his.out; omega)
     have hrun : (Builtin.append_ #[37, 37] 37 #[.slice nu is.length nc, .slice (some ⟨w7.heap.size, 0, none⟩) 1 1]).run Tryd.prog (w7.alloc (.cells #[.int .i64 q.op, .int .i64 q.w, .int .i64 q.a, .int .i64 q.b, .int .i64 q.c, .int .i64 q.imm, .slice ru q.args.length rc] 44)) = .ok (.slice (some ⟨g9, 0, none⟩) (is.length + 1) cap9) w9 := hrun
     have HS9 : Hid (SSt w w9 X 41 ps #[.slice vu es.length vc, .slice nu is.length nc, .int .i64 tm.kind, .int .i64 tm.a, .int .i64 tm.x, .int .i64 tm.y] #[.slice none 0 0, .slice none 0 0, .int .i64 0, .int .i64 0, .int .i64 0, .int .i64 0]) := HS7.out.low b9 (by omega)
     have HAP9 : At w9 w5.heap.size #[.int .i64 p.op, .int .i64 p.w, .int .i64 p.a, .int .i64 p.b, .int .i64 p.c, .int .i64 p.imm, .slice iu p.args.length iq] 44 := (kp9 _ HAP7.out.lt (fun e => by have := hRP _ e; omega)).trans HAP7.out
     have s9 : w9.cell? ⟨X, 1, none⟩ = some (.slice nu is.length nc) ∧ w9.heap[w5.heap.size]? = some (.cells #[.int .i64 p.op, .int .i64 p.w, .int .i64 p.a, .int .i64 p.b, .int .i64 p.c, .int .i64 p.imm, .slice iu p.args.length iq] 44 (0, 0)) := ⟨HS9.out.box.cell 1, HAP9⟩
     have HSa : Hid (SSt w (w9.setCell ⟨X, 1, none⟩ (.slice (some ⟨g9, 0, none⟩) (is.length + 1) cap9)) X 41 ps #[.slice vu es.length vc, (.slice (some ⟨g9, 0, none⟩) (is.length + 1) cap9), .int .i64 tm.kind, .int .i64 tm.a, .int .i64 tm.x, .int .i64 tm.y] #[.slice none 0 0, .slice none 0 0, .int .i64 0, .int .i64 0, .int .i64 0, .int .i64 0]) := HS9.out.set 1 _
     have HWa : Hid (OwnPhs (w9.setCell ⟨X, 1, none⟩ (.slice (some ⟨g9, 0, none⟩) (is.length + 1) cap9)) (X + 1) m vu es) := OwnPhs.still HW7.out sta (by decide)
     have HRa : Hid (RowS 44 7 inC (w9.setCell ⟨X, 1, none⟩ (.slice (some ⟨g9, 0, none⟩) (is.length + 1) cap9)) m (.slice (some ⟨g9, 0, none⟩) (is.length + 1) cap9) (is ++ [(q, ru, rc)])) := hra
     have HUa : Hid (Sub OwnInE (w9.setCell ⟨X, 1, none⟩ (.slice (some ⟨g9, 0, none⟩) (is.length + 1) cap9)) m (w9.setCell ⟨X, 1, none⟩ (.slice (some ⟨g9, 0, none⟩) (is.length + 1) cap9)).heap.size (is ++ [(q, ru, rc)])) := hua
     have c9 := s9.1
     have fz9 : w9.frozen? ⟨X, 1, none⟩ = false := froz_of_heap HS9.out.box
     clear PI hrow b7 b7' hown HS5 HW5 HR5 HU5 HAP HS7 HW7 HR7 HU7 HAP7 HAP9 b8 b9 kp9 hX9 sta hra hua HS9 hRP HM HT' HSB hLl HA1000 s0
     refine hK.out _ _ (.inr s7) ?_
     clear hK K
     try simp only [Act.put, sA, sB, sC]
     refine readyX 5 rfl (by kernel_rfl) (fun K hK => ?_)
     go_simp
     refine hK.out _ _ (.inr s8) ?_
     clear hK K
     try simp only [Act.put, sA, sB, sC]
     refine readyX 6 rfl (by kernel_rfl) (fun K hK => ?_)
     refine step_runP rfl _ _ _ rfl rfl rfl hrun ?_
     refine hK.out _ _ (.inr s9) ?_
     clear hK K hrun s7 s8
     try simp only [Act.put, sA, sB, sC]
     refine takeX 7 (v := ?_) rfl rfl (by kernel_rfl) (fun _ _ _ h => h) (yesH (by rfl) ?_) s9 ?_
     rotate_left
     ·intro w9 hS9
      go_simp
      try with_reducible rfl
     try simp only [Act.put, sA, sB, sC]
     clear s9
     refine readyX 8 rfl (by kernel_rfl) (fun K hK => ?_)
     go_simp
     refine hK.out _ _ (.inl rfl) ?_
     clear hK K
     refine doneX (by kernel_rfl) ?_ _
     go_wp2_with fail
     go_roundw
     case rel => exact ⟨k + 1, _, _, by omega, by go_num, (by have := his.out; show _ = _; rw [List.length_append]; simp; omega), HM7.out, HSa.out, HWa.out, HRa.out, HUa.out⟩
     case measure => simp [intOf]; omega
    ·have hke : k = d.insts.length := by omega
     have HMi : Hid (is.map (·.1) = d.insts.map (sbInst ρ)) := by
      show _ = _
      rw [HM.out, hke, List.take_length]
     have HV : Hid (OwnIns w5 m w5.heap.size nu is) := RowS.own (fun _ => rfl) (by have := his.out; omega) HR.out HU.out (Nat.le_refl _) (Nat.le_refl _)
     have hm5 : m ≤ w5.heap.size := HU.out.le
     have x0 : w5.cell? ⟨X, 0, none⟩ = some (.slice vu es.length vc) := HS.out.box.cell 0
     have x1 : w5.cell? ⟨X, 1, none⟩ = some (.slice nu is.length nc) := HS.out.box.cell 1
     have x2 : w5.cell? ⟨X, 2, none⟩ = some (.int .i64 tm.kind) := HS.out.box.cell 2
     have x3 : w5.cell? ⟨X, 3, none⟩ = some (.int .i64 tm.a) := HS.out.box.cell 3
     have x4 : w5.cell? ⟨X, 4, none⟩ = some (.int .i64 tm.x) := HS.out.box.cell 4
     have x5 : w5.cell? ⟨X, 5, none⟩ = some (.int .i64 tm.y) := HS.out.box.cell 5
     have r0 : w5.cell? ⟨w.heap.size + 1, 0, none⟩ = some (.slice none 0 0) := HS.out.res.cell 0
     have r1 : w5.cell? ⟨w.heap.size + 1, 1, none⟩ = some (.slice none 0 0) := HS.out.res.cell 1
     have r2 : w5.cell? ⟨w.heap.size + 1, 2, none⟩ = some (.int .i64 0) := HS.out.res.cell 2
     have r3 : w5.cell? ⟨w.heap.size + 1, 3, none⟩ = some (.int .i64 0) := HS.out.res.cell 3
     have r4 : w5.cell? ⟨w.heap.size + 1, 4, none⟩ = some (.int .i64 0) := HS.out.res.cell 4
     have r5 : w5.cell? ⟨w.heap.size + 1, 5, none⟩ = some (.int .i64 0) := HS.out.res.cell 5
     have rf : ∀ o, w5.frozen? ⟨w.heap.size + 1, o, none⟩ = false := fun o => froz_of_heap HS.out.res
     have hX0 := HS.out.ltX
     clear HM HR HU
     go_wp2_with fail
     have hr := heap_set (o := 5) (v := .int .i64 tm.y) (heap_set (o := 4) (v := .int .i64 tm.x) (heap_set (o := 3) (v := .int .i64 tm.a) (heap_set (o := 2) (v := .int .i64 tm.kind) (heap_set (o := 1) (v := .slice nu is.length nc) (heap_set (o := 0) (v := .slice vu es.length vc) HS.out.res)))))
     have BB : Below w.heap.size w ((((((w5.setCell ⟨w.heap.size + 1, 0, none⟩ (.slice vu es.length vc)).setCell ⟨w.heap.size + 1, 1, none⟩ (.slice nu is.length nc)).setCell ⟨w.heap.size + 1, 2, none⟩ (.int .i64 tm.kind)).setCell ⟨w.heap.size + 1, 3, none⟩ (.int .i64 tm.a)).setCell ⟨w.heap.size + 1, 4, none⟩ (.int .i64 tm.x)).setCell ⟨w.heap.size + 1, 5, none⟩ (.int .i64 tm.y)) := (((((HS.out.bel.setCell (by dsimp only; omega) _).setCell (by dsimp only; omega) _).setCell (by dsimp only; omega) _).setCell (by dsimp only; omega) _).setCell (by dsimp only; omega) _).setCell (by dsimp only; omega) _
     have hzr : w5.heap.size ≤ (((((((w5.setCell ⟨w.heap.size + 1, 0, none⟩ (.slice vu es.length vc)).setCell ⟨w.heap.size + 1, 1, none⟩ (.slice nu is.length nc)).setCell ⟨w.heap.size + 1, 2, none⟩ (.int .i64 tm.kind)).setCell ⟨w.heap.size + 1, 3, none⟩ (.int .i64 tm.a)).setCell ⟨w.heap.size + 1, 4, none⟩ (.int .i64 tm.x)).setCell ⟨w.heap.size + 1, 5, none⟩ (.int .i64 tm.y))).heap.size := by simp only [World.size_setCell]; exact Nat.le_refl _
     have SS : Still 3 w5 ((((((w5.setCell ⟨w.heap.size + 1, 0, none⟩ (.slice vu es.length vc)).setCell ⟨w.heap.size + 1, 1, none⟩ (.slice nu is.length nc)).setCell ⟨w.heap.size + 1, 2, none⟩ (.int .i64 tm.kind)).setCell ⟨w.heap.size + 1, 3, none⟩ (.int .i64 tm.a)).setCell ⟨w.heap.size + 1, 4, none⟩ (.int .i64 tm.x)).setCell ⟨w.heap.size + 1, 5, none⟩ (.int .i64 tm.y)) := (Still.set (k := 3) (o := 0) (v := .slice vu es.length vc) HS.out.res (by decide)).trans ((Still.set (k := 3) (o := 1) (v := .slice nu is.length nc) (heap_set (o := 0) (v := .slice vu es.length vc) HS.out.res) (by decide)).trans ((Still.set (k := 3) (o := 2) (v := .int .i64 tm.kind) (heap_set (o := 1) (v := .slice nu is.length nc) (heap_set (o := 0) (v := .slice vu es.length vc) HS.out.res)) (by decide)).trans ((Still.set (k := 3) (o := 3) (v := .int .i64 tm.a) (heap_set (o := 2) (v := .int .i64 tm.kind) (heap_set (o := 1) (v := .slice nu is.length nc) (heap_set (o := 0) (v := .slice vu es.length vc) HS.out.res))) (by decide)).trans ((Still.set (k := 3) (o := 4) (v := .int .i64 tm.x) (heap_set (o := 3) (v := .int .i64 tm.a) (heap_set (o := 2) (v := .int .i64 tm.kind) (heap_set (o := 1) (v := .slice nu is.length nc) (heap_set (o := 0) (v := .slice vu es.length vc) HS.out.res)))) (by decide)).trans (Still.set (k := 3) (o := 5) (v := .int .i64 tm.y) (heap_set (o := 4) (v := .int .i64 tm.x) (heap_set (o := 3) (v := .int .i64 tm.a) (heap_set (o := 2) (v := .int .i64 tm.kind) (heap_set (o := 1) (v := .slice nu is.length nc) (heap_set (o := 0) (v := .slice vu es.length vc) HS.out.res))))) (by decide))))))
     generalize ((((((w5.setCell ⟨w.heap.size + 1, 0, none⟩ (.slice vu es.length vc)).setCell ⟨w.heap.size + 1, 1, none⟩ (.slice nu is.length nc)).setCell ⟨w.heap.size + 1, 2, none⟩ (.int .i64 tm.kind)).setCell ⟨w.heap.size + 1, 3, none⟩ (.int .i64 tm.a)).setCell ⟨w.heap.size + 1, 4, none⟩ (.int .i64 tm.x)).setCell ⟨w.heap.size + 1, 5, none⟩ (.int .i64 tm.y)) = W9 at *
     have UU : OwnBk W9 w.heap.size W9.heap.size ⟨es, vu, vc, is, nu, nc, tm⟩ := ⟨m, by omega, by omega, (OwnPhs.still HW.out SS (by decide)).wide (by omega) (Nat.le_refl _), (OwnIns.still HV.out SS (by decide)).wide (Nat.le_refl _) (by omega)⟩
     exact bodyPost_ret (v := .agg #[.slice vu es.length vc, .slice nu is.length nc, .int .i64 tm.kind, .int .i64 tm.a, .int .i64 tm.x, .int .i64 tm.y]) ((results_cell_row Tryd.results47 _ _ (w.heap.size + 1) 41 _ (0, 0) _ rfl hr Tryd.underlying41 rfl (by kernel_rfl)).trans (by rfl)) rfl ⟨⟨es, vu, vc, is, nu, nc, tm⟩, (by unfold BkE.d sbBlock; dsimp only; rw [HMe.out, HMi.out, HTM.out]), rfl, UU, BB⟩
end Go.Proofs.YtenbodghkpbghaaDoor
