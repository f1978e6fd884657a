import Derived.Test.YtgojlnclpebdcaaGreatDoorMemR
import Derived.Test.YtgojlnclpebdcaaGreatDoorGnZR
import Derived.Deep.RegionHeld2
import Derived.Deep.DeepCutAuto
import Derived.Deep.CutBlock
namespace Go.Proofs.YtgojlnclpebdcaaGreatDoor
open Go.RowKit Go.Deep
set_option linter.unusedVariables false
set_option linter.unusedSimpArgs false
theorem grown_drw {w w1 : World} {r : Option Nat} (k : w.grownBy w1 r) : w.grownBy w1.drew r := ⟨k.os, k.tape, k.output, k.size, k.block⟩
theorem rd_drw {g : Nat} {a0 : Option Addr} {len cap : Nat} {w : World} (h : Rd g a0 len cap w) : Rd g a0 len cap w.drew := h
theorem at_grown {V V' : World} {R G : Nat} {cs : Array Value} {T : TypeId} (h : At V R cs T) (k : V.grownBy V' (some G)) (hn : R ≠ G) : At V' R cs T :=
 (k.block R h.lt (by intro e; exact hn (Option.some.inj e))).trans h
theorem at_off {V : World} {R b o : Nat} {x : Value} {cs : Array Value} {T : TypeId} (h : At V R cs T) (hn : R ≠ b) : At (V.setCell ⟨b, o, none⟩ x) R cs T :=
 (Below.heap_setCell _ _ _ _ hn).trans h
theorem ty_block {w : World} {lo q : Nat} {d : FuncD} {up ub : Option Addr} (h : Ty2 w lo d up ub) (hq : q < d.blocks.length) : ∃ (M : Tmap) (m bb : Nat) (pu : Option Addr) (pn pc : Nat) (iu : Option Addr) (jn ic : Nat) (k2 k3 k4 k5 : Int), ub = some ⟨bb, 0, none⟩ ∧ TH lo M 400 w ∧ M bb = some (43, m) ∧ d.blocks.length ≤ m ∧ w.cell? ⟨bb, q * 6, none⟩ = some (.slice pu pn pc) ∧ w.cell? ⟨bb, q * 6 + 1, none⟩ = some (.slice iu jn ic) ∧ w.cell? ⟨bb, q * 6 + 2, none⟩ = some (.int .i64 k2) ∧ w.cell? ⟨bb, q * 6 + 3, none⟩ = some (.int .i64 k3) ∧ w.cell? ⟨bb, q * 6 + 4, none⟩ = some (.int .i64 k4) ∧ w.cell? ⟨bb, q * 6 + 5, none⟩ = some (.int .i64 k5) ∧ SlN M 45 (.slice pu pn pc) pn ∧ SlN M 54 (.slice iu jn ic) jn ∧ pn ≤ 400 ∧ jn ≤ 400 := by
 obtain ⟨M, th, _, h2, _⟩ := h
 obtain ⟨u, c, e, h3⟩ := h2
 cases e
 rcases h3 with h3 | ⟨bb, m, rfl, hM, hm⟩
 ·omega
 obtain ⟨_, cur, hc, hel⟩ := th bb _ m hM
 have hs : szT 43 = 6 := by decide
 obtain ⟨⟨v1, e1, s1⟩, ⟨v2, e2, s2⟩, hz⟩ := (hel q (by omega)).2.2.2.2 rfl
 obtain ⟨pu, pn, pc, rfl, hp, sp⟩ := slv_form s1
 obtain ⟨iu, jn, ic, rfl, hj, sj⟩ := slv_form s2
 obtain ⟨k2, z2⟩ := hz 2 (by omega) (by omega)
 obtain ⟨k3, z3⟩ := hz 3 (by omega) (by omega)
 obtain ⟨k4, z4⟩ := hz 4 (by omega) (by omega)
 obtain ⟨k5, z5⟩ := hz 5 (by omega) (by omega)
 simp only [hs] at e1 e2 z2 z3 z4 z5
 exact ⟨M, m, bb, pu, pn, pc, iu, jn, ic, k2, k3, k4, k5, rfl, th, hM, hm, (cell_of_heap hc).trans e1, (cell_of_heap hc).trans e2, (cell_of_heap hc).trans z2, (cell_of_heap hc).trans z3, (cell_of_heap hc).trans z4, (cell_of_heap hc).trans z5, sp, sj, hp, hj⟩
def BrTold (g : Nat) (a0 : Option Addr) (len cap : Nat) (v : World) (e : Ending) (w : World) : Prop := ∃ gm n cm, e = .returned (.agg #[.slice (some ⟨gm, 0, none⟩) n cm]) ∧ 1 ≤ n ∧ n ≤ 2 ∧ v.heap.size ≤ gm ∧ ModR v.heap.size gm n w ∧ Rd g a0 len cap w ∧ (∀ b, b < v.heap.size → b ≠ g → w.heap[b]? = v.heap[b]?) ∧ v.heap.size ≤ w.heap.size ∧ w.os = v.os ∧ w.tape = v.tape ∧ w.output = v.output
structure BrS (W4 : World) (R g ms Fx bb gm n : Nat) (a0 : Option Addr) (len cap : Nat) (V : World) : Prop where
 rd : Rd g a0 len cap V
 mr : ModR (R + 1) gm n V
 keep : ∀ b, (b < R ∧ b ≠ g) ∨ b = R ∨ b = ms ∨ b = Fx ∨ b = bb → b < W4.heap.size → V.heap[b]? = W4.heap[b]?
 os : V.os = W4.os
 tape : V.tape = W4.tape
 output : V.output = W4.output
 size : W4.heap.size ≤ V.heap.size
variable {W4 V V' : World} {R g ms Fx bb gm n len cap t o : Nat} {a0 : Option Addr} {x y : Value}
theorem BrS.start (hr : Rd g a0 len cap W4) (hm : ModR (R + 1) gm n W4) : BrS W4 R g ms Fx bb gm n a0 len cap W4 := ⟨hr, hm, fun _ _ _ => rfl, rfl, rfl, rfl, Nat.le_refl _⟩
theorem BrS.grown (h : BrS W4 R g ms Fx bb gm n a0 len cap V) (k : V.grownBy V' (some g)) (hr : Rd g a0 len cap V') (hn : g < R ∧ R + 1 ≤ gm ∧ R ≤ ms ∧ R ≤ Fx ∧ R ≤ bb) : BrS W4 R g ms Fx bb gm n a0 len cap V' :=
 ⟨hr, h.mr.same hn.2.1 fun b h1 h2 => k.block b h2 (by intro e; have := Option.some.inj e; omega), fun b h1 h2 => (k.block b (by have := h.size; omega) (by intro e; have := Option.some.inj e; omega)).trans (h.keep b h1 h2), k.os.trans h.os, k.tape.trans h.tape, k.output.trans h.output, Nat.le_trans h.size k.size⟩
theorem BrS.set (h : BrS W4 R g ms Fx bb gm n a0 len cap V) (n1 : R < t) (n2 : t ≠ ms) (n3 : t ≠ Fx) (n4 : t ≠ bb) (n5 : t ≠ gm) (hy : V.cell? ⟨t, o, none⟩ = some y) (hx : ((∃ z : Int, y = .int .i64 z) ∧ ∃ z : Int, x = .int .i64 z) ∨ x = y ∨ ((∃ cur, V.heap[t]? = some (.cells cur 45 (0, 0))) ∧ o % 2 = 1 ∧ ∀ M, SlW M 400 y → SlW M 400 x)) (hg : g < R) : BrS W4 R g ms Fx bb gm n a0 len cap (V.setCell ⟨t, o, none⟩ x) := by
 have hs : ∀ c, c ≠ t → (V.setCell ⟨t, o, none⟩ x).heap[c]? = V.heap[c]? := fun c hc => Below.heap_setCell _ _ _ _ hc
 exact ⟨rd_keep h.rd (by simp only [World.size_setCell]; exact Nat.le_refl _) fun b hb => hs b (by omega), h.mr.set n5 hy hx, fun b h1 h2 => (hs b (by omega)).trans (h.keep b h1 h2), (set_os _ _ _).trans h.os, (set_tape _ _ _).trans h.tape, (set_output _ _ _).trans h.output, by simp only [World.size_setCell]; exact h.size⟩
theorem inst_cell {w : World} {lo ig mi i : Nat} {M : Tmap} (th : TH lo M 400 w) (hM : M ig = some (54, mi)) (hi : i < mi) (F : Nat) (hF : F < 6) : (∃ z : Int, w.cell? ⟨ig, i * 7 + F, none⟩ = some (.int .i64 z)) ∧ ∃ cur, w.heap[ig]? = some (.cells cur 54 (0, 0)) := by
 obtain ⟨_, cur, hc, hel⟩ := th ig _ mi hM
 have hs : szT 54 = 7 := by decide
 obtain ⟨z, hz⟩ := ((hel i hi).2.2.2.1 rfl).1 F hF
 simp only [hs] at hz
 exact ⟨⟨z, (cell_of_heap hc).trans hz⟩, cur, hc⟩
theorem phi_cell {w : World} {lo pg mp : Nat} {M : Tmap} (th : TH lo M 400 w) (hM : M pg = some (45, mp)) (hi : 0 < mp) : ∃ cur, w.heap[pg]? = some (.cells cur 45 (0, 0)) ∧ ∃ sg sn sc ms, w.cell? ⟨pg, 1, none⟩ = some (.slice (some ⟨sg, 0, none⟩) sn sc) ∧ 1 ≤ sn ∧ M sg = some (2, ms) ∧ sn ≤ ms := by
 obtain ⟨_, cur, hc, hel⟩ := th pg _ mp hM
 have hs : szT 45 = 2 := by decide
 obtain ⟨_, v, hv, n, h1, h2, u, c, rfl, h3⟩ := (hel 0 hi).2.2.1 rfl
 simp only [hs] at hv
 rcases h3 with h3 | ⟨sg, ms, rfl, h4, h5⟩
 ·omega
 ·exact ⟨cur, hc, sg, n, c, ms, (cell_of_heap hc).trans hv, h1, h4, h5⟩
theorem int_cell {w : World} {lo sg ms : Nat} {M : Tmap} (th : TH lo M 400 w) (hM : M sg = some (2, ms)) (hi : 0 < ms) : ∃ (z : Int) (cur : Array Value), w.cell? ⟨sg, 0, none⟩ = some (.int .i64 z) ∧ w.heap[sg]? = some (.cells cur 2 (0, 0)) := by
 obtain ⟨_, cur, hc, hel⟩ := th sg _ ms hM
 have hs : szT 2 = 1 := by decide
 obtain ⟨z, hz⟩ := (hel 0 hi).1 rfl
 simp only [hs] at hz
 exact ⟨z, cur, (cell_of_heap hc).trans hz, hc⟩
theorem ModR.row {lo gm n bb k : Nat} {w : World} {p i : Value} {a b c d a' b' c' d' : Int} (h : ModR lo gm n w) (hb : bb ≠ gm) (h0 : w.cell? ⟨bb, k, none⟩ = some p) (h1 : w.cell? ⟨bb, k + 1, none⟩ = some i) (h2 : w.cell? ⟨bb, k + 2, none⟩ = some (.int .i64 a)) (h3 : w.cell? ⟨bb, k + 3, none⟩ = some (.int .i64 b)) (h4 : w.cell? ⟨bb, k + 4, none⟩ = some (.int .i64 c)) (h5 : w.cell? ⟨bb, k + 5, none⟩ = some (.int .i64 d)) :
  ModR lo gm n ((((((w.setCell ⟨bb, k, none⟩ p).setCell ⟨bb, k + 1, none⟩ i).setCell ⟨bb, k + 2, none⟩ (.int .i64 a')).setCell ⟨bb, k + 3, none⟩ (.int .i64 b')).setCell ⟨bb, k + 4, none⟩ (.int .i64 c')).setCell ⟨bb, k + 5, none⟩ (.int .i64 d')) := by
 have s0 := h.set hb h0 (x := p) (.inr (.inl rfl))
 have s1 := s0.set hb (cell_off h1 (by omega)) (x := i) (.inr (.inl rfl))
 have s2 := s1.set hb (cell_off (cell_off h2 (by omega)) (by omega)) (x := .int .i64 a') (.inl ⟨⟨_, rfl⟩, ⟨_, rfl⟩⟩)
 have s3 := s2.set hb (cell_off (cell_off (cell_off h3 (by omega)) (by omega)) (by omega)) (x := .int .i64 b') (.inl ⟨⟨_, rfl⟩, ⟨_, rfl⟩⟩)
 have s4 := s3.set hb (cell_off (cell_off (cell_off (cell_off h4 (by omega)) (by omega)) (by omega)) (by omega)) (x := .int .i64 c') (.inl ⟨⟨_, rfl⟩, ⟨_, rfl⟩⟩)
 exact s4.set hb (cell_off (cell_off (cell_off (cell_off (cell_off h5 (by omega)) (by omega)) (by omega)) (by omega)) (by omega)) (.inl ⟨⟨_, rfl⟩, ⟨_, rfl⟩⟩)
theorem slw_tail0 {M : Tmap} {sg sn sc : Nat} (h : SlW M 400 (.slice (some ⟨sg, 0, none⟩) sn sc)) (h1 : 1 ≤ sn) : SlW M 400 (.slice (some ⟨sg, 0, none⟩) (sn - 1) 0) := by
 obtain ⟨u, n, c, e, h2, h3⟩ := h
 cases e
 refine ⟨_, _, _, rfl, by omega, ?_⟩
 rcases h3 with h3 | ⟨g, o, m, e, h4, h5⟩
 ·omega
 ·cases e
  exact .inr ⟨sg, 0, m, rfl, h4, by omega⟩
theorem slw_tail {M : Tmap} {sg sn sc : Nat} (h : SlW M 400 (.slice (some ⟨sg, 0, none⟩) sn sc)) (h1 : 1 ≤ sn) : SlW M 400 (.slice (some ⟨sg, 1, none⟩) (sn - 1) (sc - 1)) := by
 obtain ⟨u, n, c, e, h2, h3⟩ := h
 cases e
 refine ⟨_, _, _, rfl, by omega, ?_⟩
 rcases h3 with h3 | ⟨g, o, m, e, h4, h5⟩
 ·omega
 ·cases e
  exact .inr ⟨sg, 1, m, rfl, h4, by omega⟩
set_option maxHeartbeats 8000000 in
set_option maxRecDepth 100000 in
theorem broken_any (g : Nat) (a0 : Option Addr) (len cap : Nat) (v : World) (h : Rd g a0 len cap v) : Calls Tryz.prog 26 #[.pointer (some ⟨g, 0, none⟩)] v fun e w => BrTold g a0 len cap v e w := by
 have hgR : g < v.heap.size := h.lt
 have PM := module_all g a0 len cap _ (h.alloc (.cells #[.slice none 0 0] 26))
 have hsz : (v.alloc (.cells #[.slice none 0 0] 26)).heap.size = v.heap.size + 1 := by simp
 have hR0 : (v.alloc (.cells #[.slice none 0 0] 26)).heap[v.heap.size]? = some (.cells #[.slice none 0 0] 26 (0, 0)) := heap_alloc_last _ _
 have hv1 : ∀ b, b < v.heap.size → (v.alloc (.cells #[.slice none 0 0] 26)).heap[b]? = v.heap[b]? := fun b hb => Below.heap_alloc _ _ _ hb
 unfold ModAll at PM
 rw [hsz] at PM
 go_enter Tryz.func26, Tryz.ntmps26
 go_wp2_with (first | (go_at_call 25; refine PM.mono ?_; rintro e w2 ⟨gm, n, cm, rfl, hn1, hn2, hgm, hcur, hfs, hrd2, hold, hs2, o1, o2, o3⟩))
 have hR2 : w2.heap[v.heap.size]? = some (.cells #[.slice none 0 0] 26 (0, 0)) := (hold v.heap.size (by omega) (by omega)).trans hR0
 have hW2 : ∀ b, b < v.heap.size → b ≠ g → w2.heap[b]? = v.heap[b]? := fun b hb hn => (hold b (by omega) hn).trans (hv1 b hb)
 obtain ⟨wT, hwT⟩ : ∃ wT, wT = w2.alloc (.cells #[.slice (some ⟨gm, 0, none⟩) n cm] 26) := ⟨_, rfl⟩
 have hT : At wT w2.heap.size #[.slice (some ⟨gm, 0, none⟩) n cm] 26 := by rw [hwT]; exact heap_alloc_last _ _
 have hBT : Below w2.heap.size w2 wT := by rw [hwT]; exact (Below.refl _ _).alloc (Nat.le_refl _) _
 have hrdT : Rd g a0 len cap wT := rd_keep hrd2 hBT.size fun b hb => hBT.block b (by omega)
 have hgl : gm < w2.heap.size := by obtain ⟨cur, hc⟩ := hcur; exact (Array.getElem?_eq_some_iff.1 hc).1
 have hmrT : ModR (v.heap.size + 1) gm n wT := (ModAll.r hcur hfs).same hgm fun b h1 h2 => hBT.block b h2
 have hfsT : ∀ i, i < n → ∃ (d : FuncD) (up ub : Option Addr) (cp cb : Nat), wT.cell? ⟨gm, i * 3, none⟩ = some (.slice up d.params.length cp) ∧ wT.cell? ⟨gm, i * 3 + 1, none⟩ = some (.int .i64 d.ret) ∧ wT.cell? ⟨gm, i * 3 + 2, none⟩ = some (.slice ub d.blocks.length cb) ∧ Ty2 wT (v.heap.size + 1) d up ub := fun i hi => by
  obtain ⟨d, up, ub, cp, cb, h0, h1, h2, h3⟩ := hfs i hi
  exact ⟨d, up, ub, cp, cb, (cell_blk (hBT.block gm hgl)).trans h0, (cell_blk (hBT.block gm hgl)).trans h1, (cell_blk (hBT.block gm hgl)).trans h2, h3.keep (g := 0) (fun b hb _ => hBT.block b hb) (by omega)⟩
 have hcurT : ∃ cur, wT.heap[gm]? = some (.cells cur 36 (0, 0)) := by obtain ⟨cur, hc⟩ := hcur; exact ⟨cur, (hBT.block gm hgl).trans hc⟩
 have hglT : gm < wT.heap.size := Nat.lt_of_lt_of_le hgl hBT.size
 have hz2T : w2.heap.size < wT.heap.size := hT.lt
 have hRT : At wT v.heap.size #[.slice none 0 0] 26 := (hBT.block _ (by omega)).trans hR2
 have hWT : ∀ b, b < v.heap.size → b ≠ g → wT.heap[b]? = v.heap[b]? := fun b hb hn => (hBT.block b (by omega)).trans (hW2 b hb hn)
 have ho1 : wT.os = v.os := hBT.os.trans o1
 have ho2 : wT.tape = v.tape := hBT.tape.trans o2
 have ho3 : wT.output = v.output := hBT.output.trans o3
 have HM : ∀ W, wT.grownBy W (some g) → W.cell? ⟨w2.heap.size, 0, none⟩ = some (.slice (some ⟨gm, 0, none⟩) n cm) := fun W k => (cell_of_heap ((k.block _ hz2T (by intro e; have := Option.some.inj e; omega)).trans hT)).trans rfl
 have HC : ∀ W, wT.grownBy W (some g) → ∀ {o : Nat} {x : Value}, (wT.cell? ⟨gm, o, none⟩ = some x) → W.cell? ⟨gm, o, none⟩ = some x := fun W k o x h => (cell_block (k.block gm hglT (by intro e; have := Option.some.inj e; omega))).trans h
 rw [← hwT]
 clear hwT PM hsz hR0 hv1 hcur hfs hrd2 hold o1 o2 o3 hR2 hW2 hBT h
 go_cut [4] (fun s4 wc => ∃ (d : FuncD) (up ub : Option Addr) (cp cb Fx : Nat), s4 = .pointer (some ⟨Fx, 0, none⟩) ∧ wT.heap.size ≤ Fx ∧ At wc Fx #[.slice up d.params.length cp, .int .i64 d.ret, .slice ub d.blocks.length cb] 36 ∧ Rd g a0 len cap wc ∧ wT.grownBy wc (some g) ∧ Ty2 wT (v.heap.size + 1) d up ub)
 case first =>
  refine wp_region_held_drew (S := fun w' => Rd g a0 len cap w' ∧ wT.grownBy w' (some g)) (by kernel_rfl) (⟨rd_drw hrdT, grown_drw (World.grownBy.refl _ _)⟩) (fun hHeld => ?_)
  refine tkh 0 (v := ?_) rfl rfl (by kernel_rfl) (fun _ _ _ h => h) (yesH (by rfl) ?_) hHeld ?_
  rotate_left
  ·intro w9 hS9
   go_simp
   try with_reducible rfl
  simp only [sA, sB, sC]
  refine tkh 1 (v := ?_) rfl rfl (by kernel_rfl) (fun _ _ _ h => h) (yesH (by rfl) ?_) hHeld ?_
  rotate_left
  ·intro w9 hS9
   have g0 := HM w9 hS9.2
   go_simp
   try with_reducible rfl
  simp only [sA, sB, sC]
  refine tkh 2 (v := ?_) rfl rfl (by kernel_rfl) (fun _ _ _ h => h) (yesH (by rfl) ?_) hHeld ?_
  rotate_left
  ·intro w9 hS9
   go_simp
   try with_reducible rfl
  simp only [sA, sB, sC]
  refine tkh 3 (v := ?_) rfl rfl (by kernel_rfl) (fun _ _ _ h => h) (yesH (by rfl) ?_) hHeld ?_
  rotate_left
  ·intro w9 hS9
   go_simp
   try with_reducible rfl
  simp only [sA, sB, sC]
  refine tkh 4 (v := ?_) rfl rfl (by kernel_rfl) (fun _ _ _ h => h) (yesH (by rfl) ?_) hHeld ?_
  rotate_left
  ·intro w9 hS9
   have g0 := HM w9 hS9.2
   go_simp
   try with_reducible rfl
  simp only [sA, sB, sC]
  refine tkh 5 (v := ?_) rfl rfl (by kernel_rfl) (fun _ _ _ h => h) (yesH (by rfl) ?_) hHeld ?_
  rotate_left
  ·intro w9 hS9
   go_simp
   try with_reducible rfl
  simp only [sA, sB, sC]
  refine wpAnyH_ready (rs := [6, 9]) (by kernel_rfl) (by simp) ?_
  refine AllReadyH.cons rfl (fun K hK => ?_) (AllReadyH.cons rfl (fun K hK => ?_) AllReadyH.nil)
  ·go_simp
   go_wp2_with (go_at_call 43; refine (below_any g a0 len cap _ _ hHeld.1).mono ?_; rintro e w5 ⟨n5, rfl, p0, p1, hr5, hg5⟩)
   have hg6 : wT.grownBy w5 (some g) := grown_trans hHeld.2 hg5
   have hnl : n5.toNat < n := by omega
   have hnI : n5 < (n : Int) := by omega
   clear p1
   obtain ⟨d, up, ub, cp, cb, k0, k1, k2, hty⟩ := hfsT n5.toNat hnl
   refine hK.out _ _ ?_ (fun hHeld2 => ?_)
   ·exact ⟨hr5, hg6⟩
   clear hK K
   have hPrev := hHeld
   clear hHeld
   have hHeld := hHeld2
   clear hHeld2
   try simp only [Act.put, sA, sB, sC]
   refine tkh 7 (v := ?_) rfl rfl (by kernel_rfl) (fun _ _ _ h => h) (yesH (by rfl) ?_) hHeld ?_
   rotate_left
   ·intro w9 hS9
    go_simp
    try with_reducible rfl
   simp only [sA, sB, sC]
   refine tkh 8 (v := ?_) rfl rfl (by kernel_rfl) (fun _ _ _ h => h) (yesH (by rfl) ?_) hHeld ?_
   rotate_left
   ·intro w9 hS9
    have g0 := HC w9 hS9.2 k0
    have g1 := HC w9 hS9.2 k1
    have g2 := HC w9 hS9.2 k2
    go_simp
    try with_reducible rfl
   simp only [sA, sB, sC]
   refine wpAnyH_ready (rs := [9]) (by kernel_rfl) (by simp) ?_
   refine AllReadyH.cons rfl (fun K hK => ?_) AllReadyH.nil
   go_simp
   go_wp2_with fail
   refine hK.out _ _ ?_ (fun hHeld2 => ?_)
   ·exact ⟨hHeld.1.alloc _, grown_trans hHeld.2 (World.grownBy_alloc _ _ _)⟩
   clear hK K
   have hPrev := hHeld
   clear hHeld
   have hHeld := hHeld2
   clear hHeld2
   try simp only [Act.put, sA, sB, sC]
   refine wpAnyH_ready (rs := [10]) (by kernel_rfl) (by simp) ?_
   refine AllReadyH.cons rfl (fun K hK => ?_) AllReadyH.nil
   go_simp
   go_wp2_with fail
   refine hK.out _ _ ?_ (fun hHeld2 => ?_)
   ·exact ⟨hPrev.1.alloc _, grown_trans hPrev.2 (World.grownBy_alloc _ _ _)⟩
   clear hK K hHeld
   have hHeld := hHeld2
   clear hHeld2
   try simp only [Act.put, sA, sB, sC]
   refine wpAnyH_done (by kernel_rfl) ?_ _
   have X8 := At.new w5 #[.slice up d.params.length cp, .int .i64 d.ret, .slice ub d.blocks.length cb] 36
   have hRd8 := hHeld.1
   have hG8 := hHeld.2
   go_wp2_with fail
   go_meet
   case rel => exact ⟨d, up, ub, cp, cb, _, rfl, hg6.size, X8, hRd8, hG8, hty⟩
  ·go_simp
   go_wp2_with fail
   refine hK.out _ _ ?_ (fun hHeld2 => ?_)
   ·exact ⟨hHeld.1.alloc _, grown_trans hHeld.2 (World.grownBy_alloc _ _ _)⟩
   clear hK K
   have hPrev := hHeld
   clear hHeld
   have hHeld := hHeld2
   clear hHeld2
   try simp only [Act.put, sA, sB, sC]
   refine wpAnyH_ready (rs := [6]) (by kernel_rfl) (by simp) ?_
   refine AllReadyH.cons rfl (fun K hK => ?_) AllReadyH.nil
   go_simp
   go_wp2_with (go_at_call 43; refine (below_any g a0 len cap _ _ (hPrev.1.alloc _)).mono ?_; rintro e w5 ⟨n5, rfl, p0, p1, hr5, hg5⟩)
   have hg6 : wT.grownBy w5 (some g) := grown_trans (grown_trans hPrev.2 (World.grownBy_alloc _ _ _)) hg5
   have hnl : n5.toNat < n := by omega
   have hnI : n5 < (n : Int) := by omega
   clear p1
   obtain ⟨d, up, ub, cp, cb, k0, k1, k2, hty⟩ := hfsT n5.toNat hnl
   have X5 := hg5.block wT.heap.size (by simp) (by intro e; have := Option.some.inj e; omega)
   have X6 : At w5 wT.heap.size #[.slice none 0 0, .int .i64 0, .slice none 0 0] 36 := X5.trans (At.new wT.drew #[.slice none 0 0, .int .i64 0, .slice none 0 0] 36)
   clear X5
   have y0 : w5.cell? ⟨wT.heap.size, 0, none⟩ = some (.slice none 0 0) := X6.cell 0
   have y1 : w5.cell? ⟨wT.heap.size, 1, none⟩ = some (.int .i64 0) := X6.cell 1
   have y2 : w5.cell? ⟨wT.heap.size, 2, none⟩ = some (.slice none 0 0) := X6.cell 2
   have yf : ∀ o, w5.frozen? ⟨wT.heap.size, o, none⟩ = false := fun o => froz_of_heap X6
   refine hK.out _ _ ?_ (fun hHeld2 => ?_)
   ·exact ⟨hr5, hg6⟩
   clear hK K
   have hPrev := hHeld
   clear hHeld
   have hHeld := hHeld2
   clear hHeld2
   try simp only [Act.put, sA, sB, sC]
   refine tkh 7 (v := ?_) rfl rfl (by kernel_rfl) (fun _ _ _ h => h) (yesH (by rfl) ?_) hHeld ?_
   rotate_left
   ·intro w9 hS9
    go_simp
    try with_reducible rfl
   simp only [sA, sB, sC]
   refine tkh 8 (v := ?_) rfl rfl (by kernel_rfl) (fun _ _ _ h => h) (yesH (by rfl) ?_) hHeld ?_
   rotate_left
   ·intro w9 hS9
    have g0 := HC w9 hS9.2 k0
    have g1 := HC w9 hS9.2 k1
    have g2 := HC w9 hS9.2 k2
    go_simp
    try with_reducible rfl
   simp only [sA, sB, sC]
   refine wpAnyH_ready (rs := [10]) (by kernel_rfl) (by simp) ?_
   refine AllReadyH.cons rfl (fun K hK => ?_) AllReadyH.nil
   go_simp
   go_wp2_with fail
   have X8 : At (((w5.setCell ⟨wT.heap.size, 0, none⟩ (.slice up d.params.length cp)).setCell ⟨wT.heap.size, 1, none⟩ (.int .i64 d.ret)).setCell ⟨wT.heap.size, 2, none⟩ (.slice ub d.blocks.length cb)) wT.heap.size #[.slice up d.params.length cp, .int .i64 d.ret, .slice ub d.blocks.length cb] 36 := (heap_set (o := 2) (v := .slice ub d.blocks.length cb) (heap_set (o := 1) (v := .int .i64 d.ret) (heap_set (o := 0) (v := .slice up d.params.length cp) X6)))
   have hset : ∀ b, b ≠ wT.heap.size → (((w5.setCell ⟨wT.heap.size, 0, none⟩ (.slice up d.params.length cp)).setCell ⟨wT.heap.size, 1, none⟩ (.int .i64 d.ret)).setCell ⟨wT.heap.size, 2, none⟩ (.slice ub d.blocks.length cb)).heap[b]? = w5.heap[b]? := fun b hb => by rw [Below.heap_setCell _ _ _ _ hb, Below.heap_setCell _ _ _ _ hb, Below.heap_setCell _ _ _ _ hb]
   have hRd8 : Rd g a0 len cap (((w5.setCell ⟨wT.heap.size, 0, none⟩ (.slice up d.params.length cp)).setCell ⟨wT.heap.size, 1, none⟩ (.int .i64 d.ret)).setCell ⟨wT.heap.size, 2, none⟩ (.slice ub d.blocks.length cb)) := rd_keep hr5 (by simp only [World.size_setCell]; exact Nat.le_refl _) (fun b hb => hset b (by omega))
   have hG8 : wT.grownBy (((w5.setCell ⟨wT.heap.size, 0, none⟩ (.slice up d.params.length cp)).setCell ⟨wT.heap.size, 1, none⟩ (.int .i64 d.ret)).setCell ⟨wT.heap.size, 2, none⟩ (.slice ub d.blocks.length cb)) (some g) := ⟨by simp only [set_os]; exact hg6.os, by simp only [set_tape]; exact hg6.tape, by simp only [set_output]; exact hg6.output, by simp only [World.size_setCell]; exact hg6.size, fun b hb hn => (hset b (by omega)).trans (hg6.block b hb hn)⟩
   refine hK.out _ _ ?_ (fun hHeld2 => ?_)
   ·exact ⟨hRd8, hG8⟩
   clear hK K hHeld
   have hHeld := hHeld2
   clear hHeld2
   try simp only [Act.put, sA, sB, sC]
   refine wpAnyH_done (by kernel_rfl) ?_ _
   go_wp2_with fail
   go_meet
   case rel => exact ⟨d, up, ub, cp, cb, _, rfl, Nat.le_refl _, X8, hRd8, hG8, hty⟩
 case rest =>
  obtain ⟨W1, hW1⟩ : ∃ W, W = wc := ⟨_, rfl⟩
  subst hW1
  obtain ⟨d, up, ub, cp, cb, Fx, rfl, hFx, X1, hr1, hg1, hty⟩ := hcut
  clear HC HM hfsT
  have hone : 1 ≤ d.blocks.length := by obtain ⟨_, _, _, _, _, h, _⟩ := hty; exact h
  have x2 : W1.cell? ⟨Fx, 2, none⟩ = some (.slice ub d.blocks.length cb) := X1.cell 2
  have HX1 : Hid (At W1 Fx #[.slice up d.params.length cp, .int .i64 d.ret, .slice ub d.blocks.length cb] 36) := X1
  have HG1 : Hid (wT.grownBy W1 (some g)) := hg1
  have hFl : Fx < W1.heap.size := X1.lt
  clear X1 hg1
  go_wp2_with fail
  refine (below_any g a0 len cap _ W1 hr1).mono ?_
  rintro e W2 ⟨q, rfl, p0, p1, hr2, hg2⟩
  have hqI : q < (d.blocks.length : Int) := by omega
  have hql : q.toNat < d.blocks.length := by omega
  clear p1 x2
  have HX2 : Hid (At W2 Fx #[.slice up d.params.length cp, .int .i64 d.ret, .slice ub d.blocks.length cb] 36) := at_grown HX1.out hg2 (by omega)
  have hgT2 : wT.grownBy W2 (some g) := grown_trans HG1.out hg2
  clear HX1 HG1 hr1 hg2
  obtain ⟨M, m, bb, pu, pn, pc, iu, jn, ic, k2, k3, k4, k5, rfl, th, hMb, hmb, c0, c1, c2, c3, c4, c5, slp, sli, hpn, hjn⟩ := ty_block hty hql
  have hbl : bb < wT.heap.size ∧ (v.heap.size + 1) ≤ bb := ⟨(th.blk hMb).2, (th.blk hMb).1⟩
  have HB2 : ∀ {o : Nat} {x : Value}, wT.cell? ⟨bb, o, none⟩ = some x → W2.cell? ⟨bb, o, none⟩ = some x := fun {o x} h => (cell_block (hgT2.block bb hbl.1 (by intro e; have := Option.some.inj e; omega))).trans h
  have y0 := HB2 c0
  have y1 := HB2 c1
  have y2 := HB2 c2
  have y3 := HB2 c3
  have y4 := HB2 c4
  have y5 := HB2 c5
  have x2 : W2.cell? ⟨Fx, 2, none⟩ = some (.slice (some ⟨bb, 0, none⟩) d.blocks.length cb) := HX2.out.cell 2
  go_wp2_with fail
  refine (below_any g a0 len cap _ (W2.alloc (.cells #[.slice pu pn pc, .slice iu jn ic, .int .i64 k2, .int .i64 k3, .int .i64 k4, .int .i64 k5] 43)) (hr2.alloc _)).mono ?_
  rintro e W4 ⟨k, rfl, k0, k9, hr4, hg4⟩
  have hk9 : k < 9 := by omega
  clear k9
  have hz2 : wT.heap.size ≤ W2.heap.size := hgT2.size
  have hgT4 : wT.grownBy W4 (some g) := grown_trans hgT2 (grown_trans (World.grownBy_alloc _ _ _) hg4)
  have HX4 : Hid (At W4 W2.heap.size #[.slice pu pn pc, .slice iu jn ic, .int .i64 k2, .int .i64 k3, .int .i64 k4, .int .i64 k5] 43) := at_grown (At.new _ _ _) hg4 (by omega)
  have hB4 : BrS W4 v.heap.size g w2.heap.size Fx bb gm n a0 len cap W4 := BrS.start hr4 (hmrT.same hgm fun b h1 h2 => hgT4.block b h2 (by intro e; have := Option.some.inj e; omega))
  have HB4 : Hid (BrS W4 v.heap.size g w2.heap.size Fx bb gm n a0 len cap W4) := hB4
  have hz4 : W2.heap.size < W4.heap.size := HX4.out.lt
  have hF2 : Fx < W2.heap.size := HX2.out.lt
  have hth4 : TH (v.heap.size + 1) M 400 W4 := th.same fun b h1 h2 _ => hgT4.block b h2 (by intro e; have := Option.some.inj e; omega)
  have HF4 : Hid (At W4 Fx #[.slice up d.params.length cp, .int .i64 d.ret, .slice (some ⟨bb, 0, none⟩) d.blocks.length cb] 36) := at_grown (HX2.out.below ((Below.refl _ _).alloc (Nat.le_refl _) _)) hg4 (by omega)
  have HB4b : Hid (∃ cur, W4.heap[bb]? = some (.cells cur 43 (0, 0))) := by obtain ⟨_, cur, hc, _⟩ := hth4 bb _ m hMb; exact ⟨cur, hc⟩
  have Hgm4 : Hid (∃ cur, W4.heap[gm]? = some (.cells cur 36 (0, 0))) := by obtain ⟨cur, hc⟩ := hcurT; exact ⟨cur, (hgT4.block gm hglT (by intro e; have := Option.some.inj e; omega)).trans hc⟩
  have HT4 : Hid (At W4 w2.heap.size #[.slice (some ⟨gm, 0, none⟩) n cm] 26) := at_grown hT hgT4 (by omega)
  have HTH4 : Hid (TH (v.heap.size + 1) M 400 W4) := hth4
  have HGT : Hid (wT.grownBy W4 (some g)) := hgT4
  have Hap : Hid (∀ (t mt : Nat) (T : TypeId), M t = some (T, mt) → T ≠ 43 → T ≠ 36 → T ≠ 26 → v.heap.size < t ∧ t ≠ w2.heap.size ∧ t ≠ Fx ∧ t ≠ bb ∧ t ≠ gm ∧ t ≠ W2.heap.size ∧ t ≠ g ∧ t < W4.heap.size) := fun t mt T hM n1 n2 n3 => by
   obtain ⟨k1, cur, k2, _⟩ := hth4 t T mt hM
   obtain ⟨_, cur0, k3, _⟩ := th t T mt hM
   have k4 := (Array.getElem?_eq_some_iff.1 k3).1
   obtain ⟨c1, e1⟩ := HB4b.out
   obtain ⟨c2, e2⟩ := Hgm4.out
   exact ⟨by omega, blk_ne k2 HT4.out n3, by omega, blk_ne k2 e1 n1, blk_ne k2 e2 n2, by omega, by omega, by omega⟩
  have HSP : Hid (SlN M 45 (.slice pu pn pc) pn) := slp
  have HSI : Hid (SlN M 54 (.slice iu jn ic) jn) := sli
  clear hB4 hth4 hr4 hg4 hgT4 hmrT HX2 HB2 y0 y1 y2 y3 y4 y5 x2 slp sli th hgT2 hr2 hcurT hT hrdT hty
  go_upto_block 0 with fail
  go_cut [5] (fun s5 wz => s5 = .int .i64 q ∧ ∃ j2 j3 j4 j5 : Int, BrS W4 v.heap.size g w2.heap.size Fx bb gm n a0 len cap wz ∧ At wz W2.heap.size #[.slice pu pn pc, .slice iu jn ic, .int .i64 j2, .int .i64 j3, .int .i64 j4, .int .i64 j5] 43)
  case first =>
   have hk : k = 0 ∨ k = 1 ∨ k = 2 ∨ k = 3 ∨ k = 4 ∨ k = 5 ∨ k = 6 ∨ k = 7 ∨ k = 8 := by omega
   clear k0 hk9
   rcases hk with rfl | rfl | rfl | rfl | rfl | rfl | rfl | rfl | rfl
   ·by_cases hj : jn = 0
    ·subst hj
     have x0 : W4.cell? ⟨W2.heap.size, 0, none⟩ = some (.slice pu pn pc) := HX4.out.cell 0
     have x1 : W4.cell? ⟨W2.heap.size, 1, none⟩ = some (.slice iu 0 ic) := HX4.out.cell 1
     have x2 : W4.cell? ⟨W2.heap.size, 2, none⟩ = some (.int .i64 k2) := HX4.out.cell 2
     have x3 : W4.cell? ⟨W2.heap.size, 3, none⟩ = some (.int .i64 k3) := HX4.out.cell 3
     have x4 : W4.cell? ⟨W2.heap.size, 4, none⟩ = some (.int .i64 k4) := HX4.out.cell 4
     have x5 : W4.cell? ⟨W2.heap.size, 5, none⟩ = some (.int .i64 k5) := HX4.out.cell 5
     go_wp2_with fail
     go_meet
     case rel => exact ⟨rfl, k2, k3, k4, k5, HB4.out, HX4.out⟩
    ·have hj1 : (0 : Int) < (jn : Int) := by omega
     obtain ⟨ig, mi, hiu, hMi, hmi⟩ : ∃ ig mi, iu = some ⟨ig, 0, none⟩ ∧ M ig = some (54, mi) ∧ jn ≤ mi := by
      obtain ⟨u, c, e, h3⟩ := HSI.out
      cases e
      rcases h3 with h3 | ⟨ig, mi, e, h4, h5⟩
      ·exact absurd h3 hj
      ·exact ⟨ig, mi, e, h4, h5⟩
     subst hiu
     obtain ⟨a1, a2, a3, a4, a5, a6, a7, a8⟩ := Hap.out ig mi _ hMi (by decide) (by decide) (by decide)
     have HXc : ∀ V : World, V.heap[W2.heap.size]? = W4.heap[W2.heap.size]? → ∀ (o : Nat) (x : Value), (#[.slice pu pn pc, .slice (some ⟨ig, 0, none⟩) jn ic, .int .i64 k2, .int .i64 k3, .int .i64 k4, .int .i64 k5] : Array Value)[o]? = some x → V.cell? ⟨W2.heap.size, o, none⟩ = some x := fun V k o x hx => (cell_of_heap (k.trans HX4.out)).trans hx
     have x0 : W4.cell? ⟨W2.heap.size, 0, none⟩ = some (.slice pu pn pc) := HX4.out.cell 0
     have x1 : W4.cell? ⟨W2.heap.size, 1, none⟩ = some (.slice (some ⟨ig, 0, none⟩) jn ic) := HX4.out.cell 1
     have x2 : W4.cell? ⟨W2.heap.size, 2, none⟩ = some (.int .i64 k2) := HX4.out.cell 2
     have x3 : W4.cell? ⟨W2.heap.size, 3, none⟩ = some (.int .i64 k3) := HX4.out.cell 3
     have x4 : W4.cell? ⟨W2.heap.size, 4, none⟩ = some (.int .i64 k4) := HX4.out.cell 4
     have x5 : W4.cell? ⟨W2.heap.size, 5, none⟩ = some (.int .i64 k5) := HX4.out.cell 5
     go_wp2_with fail
     clear x0 x1 x2 x3 x4 x5
     refine wp_region_held_drew (S := fun w' => Rd g a0 len cap w' ∧ ∀ b, b < W4.heap.size → b ≠ g → b ≠ ig → w'.heap[b]? = W4.heap[b]?) (by kernel_rfl) (⟨rd_drw HB4.out.rd, fun _ _ _ _ => rfl⟩) (fun hHeld => ?_)
     have hV : W4.grownBy W4.drew (some g) := grown_drw (World.grownBy.refl _ _)
     have hr : Rd g a0 len cap W4.drew := rd_drw HB4.out.rd
     refine tkh 0 (v := ?_) rfl rfl (by kernel_rfl) (fun _ _ _ h => h) (yesH (by rfl) ?_) hHeld ?_
     rotate_left
     ·intro w9 hS9
      go_simp
      try with_reducible rfl
     simp only [sA, sB, sC]
     refine tkh 1 (v := ?_) rfl rfl (by kernel_rfl) (fun _ _ _ h => h) (yesH (by rfl) ?_) hHeld ?_
     rotate_left
     ·intro w9 hS9
      have g0 := HXc w9 (hS9.2 W2.heap.size hz4 (by omega) (by omega)) 1 _ rfl
      go_simp
      try with_reducible rfl
     simp only [sA, sB, sC]
     refine tkh 2 (v := ?_) rfl rfl (by kernel_rfl) (fun _ _ _ h => h) (yesH (by rfl) ?_) hHeld ?_
     rotate_left
     ·intro w9 hS9
      go_simp
      try with_reducible rfl
     simp only [sA, sB, sC]
     refine tkh 3 (v := ?_) rfl rfl (by kernel_rfl) (fun _ _ _ h => h) (yesH (by rfl) ?_) hHeld ?_
     rotate_left
     ·intro w9 hS9
      go_simp
      try with_reducible rfl
     simp only [sA, sB, sC]
     refine tkh 4 (v := ?_) rfl rfl (by kernel_rfl) (fun _ _ _ h => h) (yesH (by rfl) ?_) hHeld ?_
     rotate_left
     ·intro w9 hS9
      have g0 := HXc w9 (hS9.2 W2.heap.size hz4 (by omega) (by omega)) 1 _ rfl
      go_simp
      try with_reducible rfl
     simp only [sA, sB, sC]
     refine tkh 5 (v := ?_) rfl rfl (by kernel_rfl) (fun _ _ _ h => h) (yesH (by rfl) ?_) hHeld ?_
     rotate_left
     ·intro w9 hS9
      go_simp
      try with_reducible rfl
     simp only [sA, sB, sC]
     refine tkh 7 (v := ?_) rfl rfl (by kernel_rfl) (fun _ _ _ h => h) (yesH (by rfl) ?_) hHeld ?_
     rotate_left
     ·intro w9 hS9
      go_simp
      try with_reducible rfl
     simp only [sA, sB, sC]
     refine wpAnyH_ready (rs := [6]) (by kernel_rfl) (by simp) ?_
     refine AllReadyH.cons rfl (fun K hK => ?_) AllReadyH.nil
     go_simp
     go_wp2_with (go_at_call 43; refine (below_any g a0 len cap _ _ hr).mono ?_; rintro e V1 ⟨n8, rfl, p8, q8, hr9, hg9⟩)
     have gV : W4.grownBy V1 (some g) := grown_trans hV hg9
     have hnl8 : n8.toNat < jn := by omega
     have hnI8 : n8 < (jn : Int) := by omega
     clear q8
     obtain ⟨⟨z, hz⟩, zc, hzc⟩ := inst_cell HTH4.out hMi (show n8.toNat < mi by omega) 2 (by omega)
     refine hK.out _ _ ?_ (fun hHeld2 => ?_)
     ·exact ⟨hr9, fun b h1 h2 _ => gV.block b h1 (by intro e; exact h2 (Option.some.inj e))⟩
     clear hr hV
     clear hK K hHeld
     have hHeld := hHeld2
     clear hHeld2
     try simp only [Act.put, sA, sB, sC]
     have hV := gV
     have hr := hr9
     clear gV hr9 hg9
     refine wpAnyH_ready (rs := [8]) (by kernel_rfl) (by simp) ?_
     refine AllReadyH.cons rfl (fun K hK => ?_) AllReadyH.nil
     go_simp
     go_wp2_with (go_at_call 30; refine (off_any g a0 len cap 0 12 _ hr (by omega) (by omega) (by omega)).mono ?_; rintro e V2 ⟨m8, rfl, _, _, hr9, hg9⟩)
     have gV : W4.grownBy V2 (some g) := grown_trans hV hg9
     have y9 : V2.cell? ⟨ig, n8.toNat * 7 + 2, none⟩ = some (.int .i64 z) := (cell_block (gV.block ig a8 (by intro e; have := Option.some.inj e; omega))).trans hz
     have yf : V2.frozen? ⟨ig, n8.toNat * 7 + 2, none⟩ = false := froz_of_heap ((gV.block ig a8 (by intro e; have := Option.some.inj e; omega)).trans hzc)
     refine hK.out _ _ ?_ (fun hHeld2 => ?_)
     ·exact ⟨hr9, fun b h1 h2 _ => gV.block b h1 (by intro e; exact h2 (Option.some.inj e))⟩
     clear hr hV
     clear hK K hHeld
     have hHeld := hHeld2
     clear hHeld2
     try simp only [Act.put, sA, sB, sC]
     have hV := gV
     have hr := hr9
     clear gV hr9 hg9
     refine tkh 9 (v := ?_) rfl rfl (by kernel_rfl) (fun _ _ _ h => h) (yesH (by rfl) ?_) hHeld ?_
     rotate_left
     ·intro w9 hS9
      go_simp
      try with_reducible rfl
     simp only [sA, sB, sC]
     refine tkh 10 (v := ?_) rfl rfl (by kernel_rfl) (fun _ _ _ h => h) (yesH (by rfl) ?_) hHeld ?_
     rotate_left
     ·intro w9 hS9
      go_simp
      try with_reducible rfl
     simp only [sA, sB, sC]
     refine wpAnyH_ready (rs := [11]) (by kernel_rfl) (by simp) ?_
     refine AllReadyH.cons rfl (fun K hK => ?_) AllReadyH.nil
     go_simp
     go_wp2_with fail
     have gB : BrS W4 v.heap.size g w2.heap.size Fx bb gm n a0 len cap (V2.setCell ⟨ig, n8.toNat * 7 + 2, none⟩ (.int .i64 m8)) := (BrS.grown HB4.out hV hr (by omega)).set a1 a2 a3 a4 a5 y9 (.inl ⟨⟨_, rfl⟩, ⟨_, rfl⟩⟩) (by omega)
     have gX : At (V2.setCell ⟨ig, n8.toNat * 7 + 2, none⟩ (.int .i64 m8)) W2.heap.size #[.slice pu pn pc, .slice (some ⟨ig, 0, none⟩) jn ic, .int .i64 k2, .int .i64 k3, .int .i64 k4, .int .i64 k5] 43 := at_off (at_grown HX4.out hV (by omega)) (by omega)
     refine hK.out _ _ ?_ (fun hHeld2 => ?_)
     ·exact ⟨gB.rd, fun b h1 h2 h3 => (Below.heap_setCell _ _ _ _ h3).trans (hV.block b h1 (by intro e; exact h2 (Option.some.inj e)))⟩
     clear hK K hHeld
     have hHeld := hHeld2
     clear hHeld2
     try simp only [Act.put, sA, sB, sC]
     refine wpAnyH_done (by kernel_rfl) ?_ _
     go_wp2_with fail
     go_meet
     case rel => exact ⟨rfl, k2, k3, k4, k5, gB, gX⟩
   ·by_cases hj : jn = 0
    ·subst hj
     have x0 : W4.cell? ⟨W2.heap.size, 0, none⟩ = some (.slice pu pn pc) := HX4.out.cell 0
     have x1 : W4.cell? ⟨W2.heap.size, 1, none⟩ = some (.slice iu 0 ic) := HX4.out.cell 1
     have x2 : W4.cell? ⟨W2.heap.size, 2, none⟩ = some (.int .i64 k2) := HX4.out.cell 2
     have x3 : W4.cell? ⟨W2.heap.size, 3, none⟩ = some (.int .i64 k3) := HX4.out.cell 3
     have x4 : W4.cell? ⟨W2.heap.size, 4, none⟩ = some (.int .i64 k4) := HX4.out.cell 4
     have x5 : W4.cell? ⟨W2.heap.size, 5, none⟩ = some (.int .i64 k5) := HX4.out.cell 5
     go_wp2_with fail
     go_meet
     case rel => exact ⟨rfl, k2, k3, k4, k5, HB4.out, HX4.out⟩
    ·have hj1 : (0 : Int) < (jn : Int) := by omega
     obtain ⟨ig, mi, hiu, hMi, hmi⟩ : ∃ ig mi, iu = some ⟨ig, 0, none⟩ ∧ M ig = some (54, mi) ∧ jn ≤ mi := by
      obtain ⟨u, c, e, h3⟩ := HSI.out
      cases e
      rcases h3 with h3 | ⟨ig, mi, e, h4, h5⟩
      ·exact absurd h3 hj
      ·exact ⟨ig, mi, e, h4, h5⟩
     subst hiu
     obtain ⟨a1, a2, a3, a4, a5, a6, a7, a8⟩ := Hap.out ig mi _ hMi (by decide) (by decide) (by decide)
     have HXc : ∀ V : World, V.heap[W2.heap.size]? = W4.heap[W2.heap.size]? → ∀ (o : Nat) (x : Value), (#[.slice pu pn pc, .slice (some ⟨ig, 0, none⟩) jn ic, .int .i64 k2, .int .i64 k3, .int .i64 k4, .int .i64 k5] : Array Value)[o]? = some x → V.cell? ⟨W2.heap.size, o, none⟩ = some x := fun V k o x hx => (cell_of_heap (k.trans HX4.out)).trans hx
     have x0 : W4.cell? ⟨W2.heap.size, 0, none⟩ = some (.slice pu pn pc) := HX4.out.cell 0
     have x1 : W4.cell? ⟨W2.heap.size, 1, none⟩ = some (.slice (some ⟨ig, 0, none⟩) jn ic) := HX4.out.cell 1
     have x2 : W4.cell? ⟨W2.heap.size, 2, none⟩ = some (.int .i64 k2) := HX4.out.cell 2
     have x3 : W4.cell? ⟨W2.heap.size, 3, none⟩ = some (.int .i64 k3) := HX4.out.cell 3
     have x4 : W4.cell? ⟨W2.heap.size, 4, none⟩ = some (.int .i64 k4) := HX4.out.cell 4
     have x5 : W4.cell? ⟨W2.heap.size, 5, none⟩ = some (.int .i64 k5) := HX4.out.cell 5
     go_wp2_with fail
     clear x0 x1 x2 x3 x4 x5
     refine wp_region_held_drew (S := fun w' => Rd g a0 len cap w' ∧ ∀ b, b < W4.heap.size → b ≠ g → b ≠ ig → w'.heap[b]? = W4.heap[b]?) (by kernel_rfl) (⟨rd_drw HB4.out.rd, fun _ _ _ _ => rfl⟩) (fun hHeld => ?_)
     have hV : W4.grownBy W4.drew (some g) := grown_drw (World.grownBy.refl _ _)
     have hr : Rd g a0 len cap W4.drew := rd_drw HB4.out.rd
     refine tkh 0 (v := ?_) rfl rfl (by kernel_rfl) (fun _ _ _ h => h) (yesH (by rfl) ?_) hHeld ?_
     rotate_left
     ·intro w9 hS9
      go_simp
      try with_reducible rfl
     simp only [sA, sB, sC]
     refine tkh 1 (v := ?_) rfl rfl (by kernel_rfl) (fun _ _ _ h => h) (yesH (by rfl) ?_) hHeld ?_
     rotate_left
     ·intro w9 hS9
      have g0 := HXc w9 (hS9.2 W2.heap.size hz4 (by omega) (by omega)) 1 _ rfl
      go_simp
      try with_reducible rfl
     simp only [sA, sB, sC]
     refine tkh 2 (v := ?_) rfl rfl (by kernel_rfl) (fun _ _ _ h => h) (yesH (by rfl) ?_) hHeld ?_
     rotate_left
     ·intro w9 hS9
      go_simp
      try with_reducible rfl
     simp only [sA, sB, sC]
     refine tkh 3 (v := ?_) rfl rfl (by kernel_rfl) (fun _ _ _ h => h) (yesH (by rfl) ?_) hHeld ?_
     rotate_left
     ·intro w9 hS9
      go_simp
      try with_reducible rfl
     simp only [sA, sB, sC]
     refine tkh 4 (v := ?_) rfl rfl (by kernel_rfl) (fun _ _ _ h => h) (yesH (by rfl) ?_) hHeld ?_
     rotate_left
     ·intro w9 hS9
      have g0 := HXc w9 (hS9.2 W2.heap.size hz4 (by omega) (by omega)) 1 _ rfl
      go_simp
      try with_reducible rfl
     simp only [sA, sB, sC]
     refine tkh 5 (v := ?_) rfl rfl (by kernel_rfl) (fun _ _ _ h => h) (yesH (by rfl) ?_) hHeld ?_
     rotate_left
     ·intro w9 hS9
      go_simp
      try with_reducible rfl
     simp only [sA, sB, sC]
     refine tkh 7 (v := ?_) rfl rfl (by kernel_rfl) (fun _ _ _ h => h) (yesH (by rfl) ?_) hHeld ?_
     rotate_left
     ·intro w9 hS9
      go_simp
      try with_reducible rfl
     simp only [sA, sB, sC]
     refine wpAnyH_ready (rs := [6]) (by kernel_rfl) (by simp) ?_
     refine AllReadyH.cons rfl (fun K hK => ?_) AllReadyH.nil
     go_simp
     go_wp2_with (go_at_call 43; refine (below_any g a0 len cap _ _ hr).mono ?_; rintro e V1 ⟨n8, rfl, p8, q8, hr9, hg9⟩)
     have gV : W4.grownBy V1 (some g) := grown_trans hV hg9
     have hnl8 : n8.toNat < jn := by omega
     have hnI8 : n8 < (jn : Int) := by omega
     clear q8
     obtain ⟨⟨z, hz⟩, zc, hzc⟩ := inst_cell HTH4.out hMi (show n8.toNat < mi by omega) 1 (by omega)
     refine hK.out _ _ ?_ (fun hHeld2 => ?_)
     ·exact ⟨hr9, fun b h1 h2 _ => gV.block b h1 (by intro e; exact h2 (Option.some.inj e))⟩
     clear hr hV
     clear hK K hHeld
     have hHeld := hHeld2
     clear hHeld2
     try simp only [Act.put, sA, sB, sC]
     have hV := gV
     have hr := hr9
     clear gV hr9 hg9
     refine wpAnyH_ready (rs := [8]) (by kernel_rfl) (by simp) ?_
     refine AllReadyH.cons rfl (fun K hK => ?_) AllReadyH.nil
     go_simp
     go_wp2_with (go_at_call 30; refine (off_any g a0 len cap 0 33 _ hr (by omega) (by omega) (by omega)).mono ?_; rintro e V2 ⟨m8, rfl, _, _, hr9, hg9⟩)
     have gV : W4.grownBy V2 (some g) := grown_trans hV hg9
     have y9 : V2.cell? ⟨ig, n8.toNat * 7 + 1, none⟩ = some (.int .i64 z) := (cell_block (gV.block ig a8 (by intro e; have := Option.some.inj e; omega))).trans hz
     have yf : V2.frozen? ⟨ig, n8.toNat * 7 + 1, none⟩ = false := froz_of_heap ((gV.block ig a8 (by intro e; have := Option.some.inj e; omega)).trans hzc)
     refine hK.out _ _ ?_ (fun hHeld2 => ?_)
     ·exact ⟨hr9, fun b h1 h2 _ => gV.block b h1 (by intro e; exact h2 (Option.some.inj e))⟩
     clear hr hV
     clear hK K hHeld
     have hHeld := hHeld2
     clear hHeld2
     try simp only [Act.put, sA, sB, sC]
     have hV := gV
     have hr := hr9
     clear gV hr9 hg9
     refine tkh 9 (v := ?_) rfl rfl (by kernel_rfl) (fun _ _ _ h => h) (yesH (by rfl) ?_) hHeld ?_
     rotate_left
     ·intro w9 hS9
      go_simp
      try with_reducible rfl
     simp only [sA, sB, sC]
     refine tkh 10 (v := ?_) rfl rfl (by kernel_rfl) (fun _ _ _ h => h) (yesH (by rfl) ?_) hHeld ?_
     rotate_left
     ·intro w9 hS9
      go_simp
      try with_reducible rfl
     simp only [sA, sB, sC]
     refine wpAnyH_ready (rs := [11]) (by kernel_rfl) (by simp) ?_
     refine AllReadyH.cons rfl (fun K hK => ?_) AllReadyH.nil
     go_simp
     go_wp2_with fail
     have gB : BrS W4 v.heap.size g w2.heap.size Fx bb gm n a0 len cap (V2.setCell ⟨ig, n8.toNat * 7 + 1, none⟩ (.int .i64 m8)) := (BrS.grown HB4.out hV hr (by omega)).set a1 a2 a3 a4 a5 y9 (.inl ⟨⟨_, rfl⟩, ⟨_, rfl⟩⟩) (by omega)
     have gX : At (V2.setCell ⟨ig, n8.toNat * 7 + 1, none⟩ (.int .i64 m8)) W2.heap.size #[.slice pu pn pc, .slice (some ⟨ig, 0, none⟩) jn ic, .int .i64 k2, .int .i64 k3, .int .i64 k4, .int .i64 k5] 43 := at_off (at_grown HX4.out hV (by omega)) (by omega)
     refine hK.out _ _ ?_ (fun hHeld2 => ?_)
     ·exact ⟨gB.rd, fun b h1 h2 h3 => (Below.heap_setCell _ _ _ _ h3).trans (hV.block b h1 (by intro e; exact h2 (Option.some.inj e)))⟩
     clear hK K hHeld
     have hHeld := hHeld2
     clear hHeld2
     try simp only [Act.put, sA, sB, sC]
     refine wpAnyH_done (by kernel_rfl) ?_ _
     go_wp2_with fail
     go_meet
     case rel => exact ⟨rfl, k2, k3, k4, k5, gB, gX⟩
   ·have x0 : W4.cell? ⟨W2.heap.size, 0, none⟩ = some (.slice pu pn pc) := HX4.out.cell 0
    have x1 : W4.cell? ⟨W2.heap.size, 1, none⟩ = some (.slice iu jn ic) := HX4.out.cell 1
    have x2 : W4.cell? ⟨W2.heap.size, 2, none⟩ = some (.int .i64 k2) := HX4.out.cell 2
    have x3 : W4.cell? ⟨W2.heap.size, 3, none⟩ = some (.int .i64 k3) := HX4.out.cell 3
    have x4 : W4.cell? ⟨W2.heap.size, 4, none⟩ = some (.int .i64 k4) := HX4.out.cell 4
    have x5 : W4.cell? ⟨W2.heap.size, 5, none⟩ = some (.int .i64 k5) := HX4.out.cell 5
    go_wp2_with (first | (go_at_call 30; refine (off_any g a0 len cap 0 4 _ HB4.out.rd (by omega) (by omega) (by omega)).mono ?_; rintro e V2 ⟨m8, rfl, _, _, hr9, hg9⟩; have hX2 := at_grown HX4.out hg9 (by omega); have y9 : V2.cell? ⟨W2.heap.size, 4, none⟩ = some (.int .i64 k4) := hX2.cell 4; have yf : V2.frozen? ⟨W2.heap.size, 4, none⟩ = false := froz_of_heap hX2))
    go_meet
    case rel => exact ⟨rfl, k2, k3, m8, k5, (BrS.grown HB4.out hg9 hr9 (by omega)).set (by omega) (by omega) (by omega) (by omega) (by omega) y9 (.inl ⟨⟨_, rfl⟩, ⟨_, rfl⟩⟩) (by omega), heap_set hX2⟩
   ·have x0 : W4.cell? ⟨W2.heap.size, 0, none⟩ = some (.slice pu pn pc) := HX4.out.cell 0
    have x1 : W4.cell? ⟨W2.heap.size, 1, none⟩ = some (.slice iu jn ic) := HX4.out.cell 1
    have x2 : W4.cell? ⟨W2.heap.size, 2, none⟩ = some (.int .i64 k2) := HX4.out.cell 2
    have x3 : W4.cell? ⟨W2.heap.size, 3, none⟩ = some (.int .i64 k3) := HX4.out.cell 3
    have x4 : W4.cell? ⟨W2.heap.size, 4, none⟩ = some (.int .i64 k4) := HX4.out.cell 4
    have x5 : W4.cell? ⟨W2.heap.size, 5, none⟩ = some (.int .i64 k5) := HX4.out.cell 5
    go_wp2_with (first | (go_at_call 30; refine (off_any g a0 len cap 0 12 _ HB4.out.rd (by omega) (by omega) (by omega)).mono ?_; rintro e V2 ⟨m8, rfl, _, _, hr9, hg9⟩; have hX2 := at_grown HX4.out hg9 (by omega); have y9 : V2.cell? ⟨W2.heap.size, 3, none⟩ = some (.int .i64 k3) := hX2.cell 3; have yf : V2.frozen? ⟨W2.heap.size, 3, none⟩ = false := froz_of_heap hX2))
    go_meet
    case rel => exact ⟨rfl, k2, m8, k4, k5, (BrS.grown HB4.out hg9 hr9 (by omega)).set (by omega) (by omega) (by omega) (by omega) (by omega) y9 (.inl ⟨⟨_, rfl⟩, ⟨_, rfl⟩⟩) (by omega), heap_set hX2⟩
   ·by_cases hj : pn = 0
    ·subst hj
     have x0 : W4.cell? ⟨W2.heap.size, 0, none⟩ = some (.slice pu 0 pc) := HX4.out.cell 0
     have x1 : W4.cell? ⟨W2.heap.size, 1, none⟩ = some (.slice iu jn ic) := HX4.out.cell 1
     have x2 : W4.cell? ⟨W2.heap.size, 2, none⟩ = some (.int .i64 k2) := HX4.out.cell 2
     have x3 : W4.cell? ⟨W2.heap.size, 3, none⟩ = some (.int .i64 k3) := HX4.out.cell 3
     have x4 : W4.cell? ⟨W2.heap.size, 4, none⟩ = some (.int .i64 k4) := HX4.out.cell 4
     have x5 : W4.cell? ⟨W2.heap.size, 5, none⟩ = some (.int .i64 k5) := HX4.out.cell 5
     go_wp2_with fail
     go_meet
     case rel => exact ⟨rfl, k2, k3, k4, k5, HB4.out, HX4.out⟩
    ·have hj1 : (0 : Int) < (pn : Int) := by omega
     obtain ⟨pg, mp, hpu, hMp, hmp⟩ : ∃ pg mp, pu = some ⟨pg, 0, none⟩ ∧ M pg = some (45, mp) ∧ pn ≤ mp := by
      obtain ⟨u, c, e, h3⟩ := HSP.out
      cases e
      rcases h3 with h3 | ⟨pg, mp, e, h4, h5⟩
      ·exact absurd h3 hj
      ·exact ⟨pg, mp, e, h4, h5⟩
     subst hpu
     obtain ⟨a1, a2, a3, a4, a5, a6, a7, a8⟩ := Hap.out pg mp _ hMp (by decide) (by decide) (by decide)
     obtain ⟨curP, hcP, sg, sn, sc, ms, hsc, hsn, hMs, hms⟩ := phi_cell HTH4.out hMp (show 0 < mp by omega)
     have HXc : ∀ V : World, V.heap[W2.heap.size]? = W4.heap[W2.heap.size]? → ∀ (o : Nat) (x : Value), (#[.slice (some ⟨pg, 0, none⟩) pn pc, .slice iu jn ic, .int .i64 k2, .int .i64 k3, .int .i64 k4, .int .i64 k5] : Array Value)[o]? = some x → V.cell? ⟨W2.heap.size, o, none⟩ = some x := fun V k o x hx => (cell_of_heap (k.trans HX4.out)).trans hx
     have x0 : W4.cell? ⟨W2.heap.size, 0, none⟩ = some (.slice (some ⟨pg, 0, none⟩) pn pc) := HX4.out.cell 0
     have x1 : W4.cell? ⟨W2.heap.size, 1, none⟩ = some (.slice iu jn ic) := HX4.out.cell 1
     have x2 : W4.cell? ⟨W2.heap.size, 2, none⟩ = some (.int .i64 k2) := HX4.out.cell 2
     have x3 : W4.cell? ⟨W2.heap.size, 3, none⟩ = some (.int .i64 k3) := HX4.out.cell 3
     have x4 : W4.cell? ⟨W2.heap.size, 4, none⟩ = some (.int .i64 k4) := HX4.out.cell 4
     have x5 : W4.cell? ⟨W2.heap.size, 5, none⟩ = some (.int .i64 k5) := HX4.out.cell 5
     have z1 : W4.cell? ⟨pg, 1, none⟩ = some (.slice (some ⟨sg, 0, none⟩) sn sc) := hsc
     have HPc : ∀ V : World, V.heap[pg]? = W4.heap[pg]? → V.cell? ⟨pg, 1, none⟩ = some (.slice (some ⟨sg, 0, none⟩) sn sc) := fun V k => (cell_block k).trans hsc
     go_wp2_with fail
     clear x0 x1 x2 x3 x4 x5
     have hsn1 : (1 : Int) ≤ (sn : Int) := by omega
     refine wp_region_held_drew (S := fun w' => Rd g a0 len cap w' ∧ ∀ b, b < W4.heap.size → b ≠ g → b ≠ pg → w'.heap[b]? = W4.heap[b]?) (by kernel_rfl) (⟨rd_drw HB4.out.rd, fun _ _ _ _ => rfl⟩) (fun hHeld => ?_)
     have hV : W4.grownBy W4.drew (some g) := grown_drw (World.grownBy.refl _ _)
     have hr : Rd g a0 len cap W4.drew := rd_drw HB4.out.rd
     have q1 : W4.drew.cell? ⟨pg, 1, none⟩ = some (.slice (some ⟨sg, 0, none⟩) sn sc) := hsc
     refine tkh 0 (v := ?_) rfl rfl (by kernel_rfl) (fun _ _ _ h => h) (yesH (by rfl) ?_) hHeld ?_
     rotate_left
     ·intro w9 hS9
      go_simp
      try with_reducible rfl
     simp only [sA, sB, sC]
     refine tkh 1 (v := ?_) rfl rfl (by kernel_rfl) (fun _ _ _ h => h) (yesH (by rfl) ?_) hHeld ?_
     rotate_left
     ·intro w9 hS9
      have g0 := HXc w9 (hS9.2 W2.heap.size hz4 (by omega) (by omega)) 0 _ rfl
      go_simp
      try with_reducible rfl
     simp only [sA, sB, sC]
     refine tkh 2 (v := ?_) rfl rfl (by kernel_rfl) (fun _ _ _ h => h) (yesH (by rfl) ?_) hHeld ?_
     rotate_left
     ·intro w9 hS9
      go_simp
      try with_reducible rfl
     simp only [sA, sB, sC]
     refine tkh 3 (v := ?_) rfl rfl (by kernel_rfl) (fun _ _ _ h => h) (yesH (by rfl) ?_) hHeld ?_
     rotate_left
     ·intro w9 hS9
      have g0 := HXc w9 (hS9.2 W2.heap.size hz4 (by omega) (by omega)) 0 _ rfl
      go_simp
      try with_reducible rfl
     simp only [sA, sB, sC]
     refine tkh 4 (v := ?_) rfl rfl (by kernel_rfl) (fun _ _ _ h => h) (yesH (by rfl) ?_) hHeld ?_
     rotate_left
     ·intro w9 hS9
      go_simp
      try with_reducible rfl
     simp only [sA, sB, sC]
     refine tkh 5 (v := ?_) rfl rfl (by kernel_rfl) (fun _ _ _ h => h) (yesH (by rfl) ?_) hHeld ?_
     rotate_left
     ·intro w9 hS9
      go_simp
      try with_reducible rfl
     simp only [sA, sB, sC]
     refine wpAnyH_ready (rs := [6]) (by kernel_rfl) (by simp) ?_
     refine AllReadyH.cons rfl (fun K hK => ?_) AllReadyH.nil
     go_simp
     go_wp2_with fail
     refine hK.out _ _ ?_ (fun hHeld2 => ?_)
     ·exact hHeld
     clear hK K hHeld
     have hHeld := hHeld2
     clear hHeld2
     try simp only [Act.put, sA, sB, sC]
     refine tkh 7 (v := ?_) rfl rfl (by kernel_rfl) (fun _ _ _ h => h) (yesH (by rfl) ?_) hHeld ?_
     rotate_left
     ·intro w9 hS9
      go_simp
      try with_reducible rfl
     simp only [sA, sB, sC]
     refine tkh 8 (v := ?_) rfl rfl (by kernel_rfl) (fun _ _ _ h => h) (yesH (by rfl) ?_) hHeld ?_
     rotate_left
     ·intro w9 hS9
      go_simp
      try with_reducible rfl
     simp only [sA, sB, sC]
     refine tkh 9 (v := ?_) rfl rfl (by kernel_rfl) (fun _ _ _ h => h) (yesH (by rfl) ?_) hHeld ?_
     rotate_left
     ·intro w9 hS9
      go_simp
      try with_reducible rfl
     simp only [sA, sB, sC]
     have y9 : W4.drew.cell? ⟨pg, 1, none⟩ = some (.slice (some ⟨sg, 0, none⟩) sn sc) := hsc
     have yf : W4.drew.frozen? ⟨pg, 1, none⟩ = false := froz_of_heap hcP
     refine wpAnyH_ready (rs := [10]) (by kernel_rfl) (by simp) ?_
     refine AllReadyH.cons rfl (fun K hK => ?_) AllReadyH.nil
     go_simp
     go_wp2_with fail
     ·have gB : BrS W4 v.heap.size g w2.heap.size Fx bb gm n a0 len cap (W4.drew.setCell ⟨pg, 1, none⟩ (.slice (some ⟨sg, 0, none⟩) (sn - 1) 0)) := (BrS.grown HB4.out hV hr (by omega)).set a1 a2 a3 a4 a5 y9 (.inr (.inr ⟨⟨curP, hcP⟩, rfl, fun M' h => slw_tail0 h hsn⟩)) (by omega)
      have gX : At (W4.drew.setCell ⟨pg, 1, none⟩ (.slice (some ⟨sg, 0, none⟩) (sn - 1) 0)) W2.heap.size #[.slice (some ⟨pg, 0, none⟩) pn pc, .slice iu jn ic, .int .i64 k2, .int .i64 k3, .int .i64 k4, .int .i64 k5] 43 := at_off (at_grown HX4.out hV (by omega)) (by omega)
      refine hK.out _ _ ?_ (fun hHeld2 => ?_)
      ·exact ⟨gB.rd, fun b h1 h2 h3 => (Below.heap_setCell _ _ _ _ h3).trans (hV.block b h1 (by intro e; exact h2 (Option.some.inj e)))⟩
      clear hK K hHeld
      have hHeld := hHeld2
      clear hHeld2
      try simp only [Act.put, sA, sB, sC]
      refine wpAnyH_done (by kernel_rfl) ?_ _
      go_wp2_with fail
      go_meet
      case rel => exact ⟨rfl, k2, k3, k4, k5, gB, gX⟩
     ·have gB : BrS W4 v.heap.size g w2.heap.size Fx bb gm n a0 len cap (W4.drew.setCell ⟨pg, 1, none⟩ (.slice (some ⟨sg, 1, none⟩) (sn - 1) (sc - 1))) := (BrS.grown HB4.out hV hr (by omega)).set a1 a2 a3 a4 a5 y9 (.inr (.inr ⟨⟨curP, hcP⟩, rfl, fun M' h => slw_tail h hsn⟩)) (by omega)
      have gX : At (W4.drew.setCell ⟨pg, 1, none⟩ (.slice (some ⟨sg, 1, none⟩) (sn - 1) (sc - 1))) W2.heap.size #[.slice (some ⟨pg, 0, none⟩) pn pc, .slice iu jn ic, .int .i64 k2, .int .i64 k3, .int .i64 k4, .int .i64 k5] 43 := at_off (at_grown HX4.out hV (by omega)) (by omega)
      refine hK.out _ _ ?_ (fun hHeld2 => ?_)
      ·exact ⟨gB.rd, fun b h1 h2 h3 => (Below.heap_setCell _ _ _ _ h3).trans (hV.block b h1 (by intro e; exact h2 (Option.some.inj e)))⟩
      clear hK K hHeld
      have hHeld := hHeld2
      clear hHeld2
      try simp only [Act.put, sA, sB, sC]
      refine wpAnyH_done (by kernel_rfl) ?_ _
      go_wp2_with fail
      go_meet
      case rel => exact ⟨rfl, k2, k3, k4, k5, gB, gX⟩
   ·by_cases hj : jn = 0
    ·subst hj
     have x0 : W4.cell? ⟨W2.heap.size, 0, none⟩ = some (.slice pu pn pc) := HX4.out.cell 0
     have x1 : W4.cell? ⟨W2.heap.size, 1, none⟩ = some (.slice iu 0 ic) := HX4.out.cell 1
     have x2 : W4.cell? ⟨W2.heap.size, 2, none⟩ = some (.int .i64 k2) := HX4.out.cell 2
     have x3 : W4.cell? ⟨W2.heap.size, 3, none⟩ = some (.int .i64 k3) := HX4.out.cell 3
     have x4 : W4.cell? ⟨W2.heap.size, 4, none⟩ = some (.int .i64 k4) := HX4.out.cell 4
     have x5 : W4.cell? ⟨W2.heap.size, 5, none⟩ = some (.int .i64 k5) := HX4.out.cell 5
     go_wp2_with fail
     go_meet
     case rel => exact ⟨rfl, k2, k3, k4, k5, HB4.out, HX4.out⟩
    ·have hj1 : (0 : Int) < (jn : Int) := by omega
     obtain ⟨ig, mi, hiu, hMi, hmi⟩ : ∃ ig mi, iu = some ⟨ig, 0, none⟩ ∧ M ig = some (54, mi) ∧ jn ≤ mi := by
      obtain ⟨u, c, e, h3⟩ := HSI.out
      cases e
      rcases h3 with h3 | ⟨ig, mi, e, h4, h5⟩
      ·exact absurd h3 hj
      ·exact ⟨ig, mi, e, h4, h5⟩
     subst hiu
     obtain ⟨a1, a2, a3, a4, a5, a6, a7, a8⟩ := Hap.out ig mi _ hMi (by decide) (by decide) (by decide)
     have HXc : ∀ V : World, V.heap[W2.heap.size]? = W4.heap[W2.heap.size]? → ∀ (o : Nat) (x : Value), (#[.slice pu pn pc, .slice (some ⟨ig, 0, none⟩) jn ic, .int .i64 k2, .int .i64 k3, .int .i64 k4, .int .i64 k5] : Array Value)[o]? = some x → V.cell? ⟨W2.heap.size, o, none⟩ = some x := fun V k o x hx => (cell_of_heap (k.trans HX4.out)).trans hx
     have x0 : W4.cell? ⟨W2.heap.size, 0, none⟩ = some (.slice pu pn pc) := HX4.out.cell 0
     have x1 : W4.cell? ⟨W2.heap.size, 1, none⟩ = some (.slice (some ⟨ig, 0, none⟩) jn ic) := HX4.out.cell 1
     have x2 : W4.cell? ⟨W2.heap.size, 2, none⟩ = some (.int .i64 k2) := HX4.out.cell 2
     have x3 : W4.cell? ⟨W2.heap.size, 3, none⟩ = some (.int .i64 k3) := HX4.out.cell 3
     have x4 : W4.cell? ⟨W2.heap.size, 4, none⟩ = some (.int .i64 k4) := HX4.out.cell 4
     have x5 : W4.cell? ⟨W2.heap.size, 5, none⟩ = some (.int .i64 k5) := HX4.out.cell 5
     go_wp2_with fail
     clear x0 x1 x2 x3 x4 x5
     refine wp_region_held_drew (S := fun w' => Rd g a0 len cap w' ∧ ∀ b, b < W4.heap.size → b ≠ g → b ≠ ig → w'.heap[b]? = W4.heap[b]?) (by kernel_rfl) (⟨rd_drw HB4.out.rd, fun _ _ _ _ => rfl⟩) (fun hHeld => ?_)
     have hV : W4.grownBy W4.drew (some g) := grown_drw (World.grownBy.refl _ _)
     have hr : Rd g a0 len cap W4.drew := rd_drw HB4.out.rd
     refine tkh 0 (v := ?_) rfl rfl (by kernel_rfl) (fun _ _ _ h => h) (yesH (by rfl) ?_) hHeld ?_
     rotate_left
     ·intro w9 hS9
      go_simp
      try with_reducible rfl
     simp only [sA, sB, sC]
     refine tkh 1 (v := ?_) rfl rfl (by kernel_rfl) (fun _ _ _ h => h) (yesH (by rfl) ?_) hHeld ?_
     rotate_left
     ·intro w9 hS9
      have g0 := HXc w9 (hS9.2 W2.heap.size hz4 (by omega) (by omega)) 1 _ rfl
      go_simp
      try with_reducible rfl
     simp only [sA, sB, sC]
     refine tkh 2 (v := ?_) rfl rfl (by kernel_rfl) (fun _ _ _ h => h) (yesH (by rfl) ?_) hHeld ?_
     rotate_left
     ·intro w9 hS9
      go_simp
      try with_reducible rfl
     simp only [sA, sB, sC]
     refine tkh 3 (v := ?_) rfl rfl (by kernel_rfl) (fun _ _ _ h => h) (yesH (by rfl) ?_) hHeld ?_
     rotate_left
     ·intro w9 hS9
      go_simp
      try with_reducible rfl
     simp only [sA, sB, sC]
     refine tkh 4 (v := ?_) rfl rfl (by kernel_rfl) (fun _ _ _ h => h) (yesH (by rfl) ?_) hHeld ?_
     rotate_left
     ·intro w9 hS9
      have g0 := HXc w9 (hS9.2 W2.heap.size hz4 (by omega) (by omega)) 1 _ rfl
      go_simp
      try with_reducible rfl
     simp only [sA, sB, sC]
     refine tkh 5 (v := ?_) rfl rfl (by kernel_rfl) (fun _ _ _ h => h) (yesH (by rfl) ?_) hHeld ?_
     rotate_left
     ·intro w9 hS9
      go_simp
      try with_reducible rfl
     simp only [sA, sB, sC]
     refine tkh 7 (v := ?_) rfl rfl (by kernel_rfl) (fun _ _ _ h => h) (yesH (by rfl) ?_) hHeld ?_
     rotate_left
     ·intro w9 hS9
      go_simp
      try with_reducible rfl
     simp only [sA, sB, sC]
     refine wpAnyH_ready (rs := [6]) (by kernel_rfl) (by simp) ?_
     refine AllReadyH.cons rfl (fun K hK => ?_) AllReadyH.nil
     go_simp
     go_wp2_with (go_at_call 43; refine (below_any g a0 len cap _ _ hr).mono ?_; rintro e V1 ⟨n8, rfl, p8, q8, hr9, hg9⟩)
     have gV : W4.grownBy V1 (some g) := grown_trans hV hg9
     have hnl8 : n8.toNat < jn := by omega
     have hnI8 : n8 < (jn : Int) := by omega
     clear q8
     obtain ⟨⟨z, hz⟩, zc, hzc⟩ := inst_cell HTH4.out hMi (show n8.toNat < mi by omega) 0 (by omega)
     refine hK.out _ _ ?_ (fun hHeld2 => ?_)
     ·exact ⟨hr9, fun b h1 h2 _ => gV.block b h1 (by intro e; exact h2 (Option.some.inj e))⟩
     clear hr hV
     clear hK K hHeld
     have hHeld := hHeld2
     clear hHeld2
     try simp only [Act.put, sA, sB, sC]
     have hV := gV
     have hr := hr9
     clear gV hr9 hg9
     refine wpAnyH_ready (rs := [8]) (by kernel_rfl) (by simp) ?_
     refine AllReadyH.cons rfl (fun K hK => ?_) AllReadyH.nil
     go_simp
     go_wp2_with (go_at_call 30; refine (off_any g a0 len cap 1 27 _ hr (by omega) (by omega) (by omega)).mono ?_; rintro e V2 ⟨m8, rfl, _, _, hr9, hg9⟩)
     have gV : W4.grownBy V2 (some g) := grown_trans hV hg9
     have y9 : V2.cell? ⟨ig, n8.toNat * 7 + 0, none⟩ = some (.int .i64 z) := (cell_block (gV.block ig a8 (by intro e; have := Option.some.inj e; omega))).trans hz
     have yf : V2.frozen? ⟨ig, n8.toNat * 7 + 0, none⟩ = false := froz_of_heap ((gV.block ig a8 (by intro e; have := Option.some.inj e; omega)).trans hzc)
     refine hK.out _ _ ?_ (fun hHeld2 => ?_)
     ·exact ⟨hr9, fun b h1 h2 _ => gV.block b h1 (by intro e; exact h2 (Option.some.inj e))⟩
     clear hr hV
     clear hK K hHeld
     have hHeld := hHeld2
     clear hHeld2
     try simp only [Act.put, sA, sB, sC]
     have hV := gV
     have hr := hr9
     clear gV hr9 hg9
     have y9b : V2.cell? ⟨ig, n8.toNat * 7, none⟩ = some (.int .i64 z) := y9
     have yfb : V2.frozen? ⟨ig, n8.toNat * 7, none⟩ = false := yf
     refine tkh 9 (v := ?_) rfl rfl (by kernel_rfl) (fun _ _ _ h => h) (yesH (by rfl) ?_) hHeld ?_
     rotate_left
     ·intro w9 hS9
      go_simp
      try with_reducible rfl
     simp only [sA, sB, sC]
     refine tkh 10 (v := ?_) rfl rfl (by kernel_rfl) (fun _ _ _ h => h) (yesH (by rfl) ?_) hHeld ?_
     rotate_left
     ·intro w9 hS9
      go_simp
      try with_reducible rfl
     simp only [sA, sB, sC]
     refine wpAnyH_ready (rs := [11]) (by kernel_rfl) (by simp) ?_
     refine AllReadyH.cons rfl (fun K hK => ?_) AllReadyH.nil
     go_simp
     go_wp2_with fail
     have gB : BrS W4 v.heap.size g w2.heap.size Fx bb gm n a0 len cap (V2.setCell ⟨ig, n8.toNat * 7 + 0, none⟩ (.int .i64 m8)) := (BrS.grown HB4.out hV hr (by omega)).set a1 a2 a3 a4 a5 y9 (.inl ⟨⟨_, rfl⟩, ⟨_, rfl⟩⟩) (by omega)
     have gX : At (V2.setCell ⟨ig, n8.toNat * 7 + 0, none⟩ (.int .i64 m8)) W2.heap.size #[.slice pu pn pc, .slice (some ⟨ig, 0, none⟩) jn ic, .int .i64 k2, .int .i64 k3, .int .i64 k4, .int .i64 k5] 43 := at_off (at_grown HX4.out hV (by omega)) (by omega)
     refine hK.out _ _ ?_ (fun hHeld2 => ?_)
     ·exact ⟨gB.rd, fun b h1 h2 h3 => (Below.heap_setCell _ _ _ _ h3).trans (hV.block b h1 (by intro e; exact h2 (Option.some.inj e)))⟩
     clear hK K hHeld
     have hHeld := hHeld2
     clear hHeld2
     try simp only [Act.put, sA, sB, sC]
     refine wpAnyH_done (by kernel_rfl) ?_ _
     go_wp2_with fail
     go_meet
     case rel => exact ⟨rfl, k2, k3, k4, k5, gB, gX⟩
   ·by_cases hj : pn = 0
    ·subst hj
     have x0 : W4.cell? ⟨W2.heap.size, 0, none⟩ = some (.slice pu 0 pc) := HX4.out.cell 0
     have x1 : W4.cell? ⟨W2.heap.size, 1, none⟩ = some (.slice iu jn ic) := HX4.out.cell 1
     have x2 : W4.cell? ⟨W2.heap.size, 2, none⟩ = some (.int .i64 k2) := HX4.out.cell 2
     have x3 : W4.cell? ⟨W2.heap.size, 3, none⟩ = some (.int .i64 k3) := HX4.out.cell 3
     have x4 : W4.cell? ⟨W2.heap.size, 4, none⟩ = some (.int .i64 k4) := HX4.out.cell 4
     have x5 : W4.cell? ⟨W2.heap.size, 5, none⟩ = some (.int .i64 k5) := HX4.out.cell 5
     go_wp2_with fail
     go_meet
     case rel => exact ⟨rfl, k2, k3, k4, k5, HB4.out, HX4.out⟩
    ·have hj1 : (0 : Int) < (pn : Int) := by omega
     obtain ⟨pg, mp, hpu, hMp, hmp⟩ : ∃ pg mp, pu = some ⟨pg, 0, none⟩ ∧ M pg = some (45, mp) ∧ pn ≤ mp := by
      obtain ⟨u, c, e, h3⟩ := HSP.out
      cases e
      rcases h3 with h3 | ⟨pg, mp, e, h4, h5⟩
      ·exact absurd h3 hj
      ·exact ⟨pg, mp, e, h4, h5⟩
     subst hpu
     obtain ⟨a1, a2, a3, a4, a5, a6, a7, a8⟩ := Hap.out pg mp _ hMp (by decide) (by decide) (by decide)
     obtain ⟨curP, hcP, sg, sn, sc, ms, hsc, hsn, hMs, hms⟩ := phi_cell HTH4.out hMp (show 0 < mp by omega)
     have HXc : ∀ V : World, V.heap[W2.heap.size]? = W4.heap[W2.heap.size]? → ∀ (o : Nat) (x : Value), (#[.slice (some ⟨pg, 0, none⟩) pn pc, .slice iu jn ic, .int .i64 k2, .int .i64 k3, .int .i64 k4, .int .i64 k5] : Array Value)[o]? = some x → V.cell? ⟨W2.heap.size, o, none⟩ = some x := fun V k o x hx => (cell_of_heap (k.trans HX4.out)).trans hx
     have x0 : W4.cell? ⟨W2.heap.size, 0, none⟩ = some (.slice (some ⟨pg, 0, none⟩) pn pc) := HX4.out.cell 0
     have x1 : W4.cell? ⟨W2.heap.size, 1, none⟩ = some (.slice iu jn ic) := HX4.out.cell 1
     have x2 : W4.cell? ⟨W2.heap.size, 2, none⟩ = some (.int .i64 k2) := HX4.out.cell 2
     have x3 : W4.cell? ⟨W2.heap.size, 3, none⟩ = some (.int .i64 k3) := HX4.out.cell 3
     have x4 : W4.cell? ⟨W2.heap.size, 4, none⟩ = some (.int .i64 k4) := HX4.out.cell 4
     have x5 : W4.cell? ⟨W2.heap.size, 5, none⟩ = some (.int .i64 k5) := HX4.out.cell 5
     have z1 : W4.cell? ⟨pg, 1, none⟩ = some (.slice (some ⟨sg, 0, none⟩) sn sc) := hsc
     have HPc : ∀ V : World, V.heap[pg]? = W4.heap[pg]? → V.cell? ⟨pg, 1, none⟩ = some (.slice (some ⟨sg, 0, none⟩) sn sc) := fun V k => (cell_block k).trans hsc
     go_wp2_with fail
     clear x0 x1 x2 x3 x4 x5
     have hsn1 : (0 : Int) < (sn : Int) := by omega
     have hsn2 : 0 < sn := by omega
     obtain ⟨b1, b2, b3, b4, b5, b6, b7, b8⟩ := Hap.out sg ms _ hMs (by decide) (by decide) (by decide)
     obtain ⟨z, zc, hz, hzc⟩ := int_cell HTH4.out hMs (show 0 < ms by omega)
     have hps : pg ≠ sg := blk_ne hcP hzc (by decide)
     refine wp_region_held_drew (S := fun w' => Rd g a0 len cap w' ∧ ∀ b, b < W4.heap.size → b ≠ g → b ≠ sg → w'.heap[b]? = W4.heap[b]?) (by kernel_rfl) (⟨rd_drw HB4.out.rd, fun _ _ _ _ => rfl⟩) (fun hHeld => ?_)
     have hV : W4.grownBy W4.drew (some g) := grown_drw (World.grownBy.refl _ _)
     have hr : Rd g a0 len cap W4.drew := rd_drw HB4.out.rd
     refine tkh 0 (v := ?_) rfl rfl (by kernel_rfl) (fun _ _ _ h => h) (yesH (by rfl) ?_) hHeld ?_
     rotate_left
     ·intro w9 hS9
      go_simp
      try with_reducible rfl
     simp only [sA, sB, sC]
     refine tkh 1 (v := ?_) rfl rfl (by kernel_rfl) (fun _ _ _ h => h) (yesH (by rfl) ?_) hHeld ?_
     rotate_left
     ·intro w9 hS9
      have g0 := HXc w9 (hS9.2 W2.heap.size hz4 (by omega) (by omega)) 0 _ rfl
      go_simp
      try with_reducible rfl
     simp only [sA, sB, sC]
     refine tkh 2 (v := ?_) rfl rfl (by kernel_rfl) (fun _ _ _ h => h) (yesH (by rfl) ?_) hHeld ?_
     rotate_left
     ·intro w9 hS9
      go_simp
      try with_reducible rfl
     simp only [sA, sB, sC]
     refine tkh 3 (v := ?_) rfl rfl (by kernel_rfl) (fun _ _ _ h => h) (yesH (by rfl) ?_) hHeld ?_
     rotate_left
     ·intro w9 hS9
      go_simp
      try with_reducible rfl
     simp only [sA, sB, sC]
     refine tkh 4 (v := ?_) rfl rfl (by kernel_rfl) (fun _ _ _ h => h) (yesH (by rfl) ?_) hHeld ?_
     rotate_left
     ·intro w9 hS9
      have g0 := HPc w9 (hS9.2 pg a8 (by omega) (by omega))
      go_simp
      try with_reducible rfl
     simp only [sA, sB, sC]
     refine tkh 5 (v := ?_) rfl rfl (by kernel_rfl) (fun _ _ _ h => h) (yesH (by rfl) ?_) hHeld ?_
     rotate_left
     ·intro w9 hS9
      go_simp
      try with_reducible rfl
     simp only [sA, sB, sC]
     refine wpAnyH_ready (rs := [6]) (by kernel_rfl) (by simp) ?_
     refine AllReadyH.cons rfl (fun K hK => ?_) AllReadyH.nil
     go_simp
     go_wp2_with (go_at_call 30; refine (off_any g a0 len cap 0 20 _ hr (by omega) (by omega) (by omega)).mono ?_; rintro e V2 ⟨m8, rfl, _, _, hr9, hg9⟩)
     have gV : W4.grownBy V2 (some g) := grown_trans hV hg9
     have y9 : V2.cell? ⟨sg, 0, none⟩ = some (.int .i64 z) := (cell_block (gV.block sg b8 (by intro e; have := Option.some.inj e; omega))).trans hz
     have yf : V2.frozen? ⟨sg, 0, none⟩ = false := froz_of_heap ((gV.block sg b8 (by intro e; have := Option.some.inj e; omega)).trans hzc)
     refine hK.out _ _ ?_ (fun hHeld2 => ?_)
     ·exact ⟨hr9, fun b h1 h2 _ => gV.block b h1 (by intro e; exact h2 (Option.some.inj e))⟩
     clear hr hV
     clear hK K hHeld
     have hHeld := hHeld2
     clear hHeld2
     try simp only [Act.put, sA, sB, sC]
     have hV := gV
     have hr := hr9
     clear gV hr9 hg9
     refine tkh 7 (v := ?_) rfl rfl (by kernel_rfl) (fun _ _ _ h => h) (yesH (by rfl) ?_) hHeld ?_
     rotate_left
     ·intro w9 hS9
      go_simp
      try with_reducible rfl
     simp only [sA, sB, sC]
     refine wpAnyH_ready (rs := [8]) (by kernel_rfl) (by simp) ?_
     refine AllReadyH.cons rfl (fun K hK => ?_) AllReadyH.nil
     go_simp
     go_wp2_with fail
     have gB : BrS W4 v.heap.size g w2.heap.size Fx bb gm n a0 len cap (V2.setCell ⟨sg, 0, none⟩ (.int .i64 m8)) := (BrS.grown HB4.out hV hr (by omega)).set b1 b2 b3 b4 b5 y9 (.inl ⟨⟨_, rfl⟩, ⟨_, rfl⟩⟩) (by omega)
     have gX : At (V2.setCell ⟨sg, 0, none⟩ (.int .i64 m8)) W2.heap.size #[.slice (some ⟨pg, 0, none⟩) pn pc, .slice iu jn ic, .int .i64 k2, .int .i64 k3, .int .i64 k4, .int .i64 k5] 43 := at_off (at_grown HX4.out hV (by omega)) (by omega)
     refine hK.out _ _ ?_ (fun hHeld2 => ?_)
     ·exact ⟨gB.rd, fun b h1 h2 h3 => (Below.heap_setCell _ _ _ _ h3).trans (hV.block b h1 (by intro e; exact h2 (Option.some.inj e)))⟩
     clear hK K hHeld
     have hHeld := hHeld2
     clear hHeld2
     try simp only [Act.put, sA, sB, sC]
     refine wpAnyH_done (by kernel_rfl) ?_ _
     go_wp2_with fail
     go_meet
     case rel => exact ⟨rfl, k2, k3, k4, k5, gB, gX⟩
   ·have x0 : W4.cell? ⟨W2.heap.size, 0, none⟩ = some (.slice pu pn pc) := HX4.out.cell 0
    have x1 : W4.cell? ⟨W2.heap.size, 1, none⟩ = some (.slice iu jn ic) := HX4.out.cell 1
    have x2 : W4.cell? ⟨W2.heap.size, 2, none⟩ = some (.int .i64 k2) := HX4.out.cell 2
    have x3 : W4.cell? ⟨W2.heap.size, 3, none⟩ = some (.int .i64 k3) := HX4.out.cell 3
    have x4 : W4.cell? ⟨W2.heap.size, 4, none⟩ = some (.int .i64 k4) := HX4.out.cell 4
    have x5 : W4.cell? ⟨W2.heap.size, 5, none⟩ = some (.int .i64 k5) := HX4.out.cell 5
    go_wp2_with (first | (go_at_call 30; refine (off_any g a0 len cap 1 4 _ HB4.out.rd (by omega) (by omega) (by omega)).mono ?_; rintro e V2 ⟨m8, rfl, _, _, hr9, hg9⟩; have hX2 := at_grown HX4.out hg9 (by omega); have y9 : V2.cell? ⟨W2.heap.size, 2, none⟩ = some (.int .i64 k2) := hX2.cell 2; have yf : V2.frozen? ⟨W2.heap.size, 2, none⟩ = false := froz_of_heap hX2))
    go_meet
    case rel => exact ⟨rfl, m8, k3, k4, k5, (BrS.grown HB4.out hg9 hr9 (by omega)).set (by omega) (by omega) (by omega) (by omega) (by omega) y9 (.inl ⟨⟨_, rfl⟩, ⟨_, rfl⟩⟩) (by omega), heap_set hX2⟩
   ·have x0 : W4.cell? ⟨W2.heap.size, 0, none⟩ = some (.slice pu pn pc) := HX4.out.cell 0
    have x1 : W4.cell? ⟨W2.heap.size, 1, none⟩ = some (.slice iu jn ic) := HX4.out.cell 1
    have x2 : W4.cell? ⟨W2.heap.size, 2, none⟩ = some (.int .i64 k2) := HX4.out.cell 2
    have x3 : W4.cell? ⟨W2.heap.size, 3, none⟩ = some (.int .i64 k3) := HX4.out.cell 3
    have x4 : W4.cell? ⟨W2.heap.size, 4, none⟩ = some (.int .i64 k4) := HX4.out.cell 4
    have x5 : W4.cell? ⟨W2.heap.size, 5, none⟩ = some (.int .i64 k5) := HX4.out.cell 5
    go_wp2_with fail
    go_meet
    case rel => exact ⟨rfl, k2, k3, k4, k5, HB4.out, HX4.out⟩
  case rest =>
   obtain ⟨WZ, hWZ⟩ : ∃ W, W = wc := ⟨_, rfl⟩
   subst hWZ
   obtain ⟨rfl, j2, j3, j4, j5, hB, hX⟩ := hcut
   have hbZ : WZ.heap[bb]? = W4.heap[bb]? := hB.keep bb (by omega) (by have := HGT.out.size; omega)
   have hbT : W4.heap[bb]? = wT.heap[bb]? := HGT.out.block bb hbl.1 (by intro e; have := Option.some.inj e; omega)
   have hFZ : At WZ Fx #[.slice up d.params.length cp, .int .i64 d.ret, .slice (some ⟨bb, 0, none⟩) d.blocks.length cb] 36 := (hB.keep Fx (by omega) (by omega)).trans HF4.out
   have hTZ : At WZ w2.heap.size #[.slice (some ⟨gm, 0, none⟩) n cm] 26 := (hB.keep w2.heap.size (by omega) (by have := HT4.out.lt; omega)).trans HT4.out
   have hRZ : At WZ v.heap.size #[.slice none 0 0] 26 := (hB.keep v.heap.size (by omega) (by omega)).trans (at_grown hRT HGT.out (by omega))
   have d0 : WZ.cell? ⟨bb, q.toNat * 6, none⟩ = some (.slice pu pn pc) := (cell_blk (hbZ.trans hbT)).trans c0
   have d1 : WZ.cell? ⟨bb, q.toNat * 6 + 1, none⟩ = some (.slice iu jn ic) := (cell_blk (hbZ.trans hbT)).trans c1
   have d2 : WZ.cell? ⟨bb, q.toNat * 6 + 2, none⟩ = some (.int .i64 k2) := (cell_blk (hbZ.trans hbT)).trans c2
   have d3 : WZ.cell? ⟨bb, q.toNat * 6 + 3, none⟩ = some (.int .i64 k3) := (cell_blk (hbZ.trans hbT)).trans c3
   have d4 : WZ.cell? ⟨bb, q.toNat * 6 + 4, none⟩ = some (.int .i64 k4) := (cell_blk (hbZ.trans hbT)).trans c4
   have d5 : WZ.cell? ⟨bb, q.toNat * 6 + 5, none⟩ = some (.int .i64 k5) := (cell_blk (hbZ.trans hbT)).trans c5
   obtain ⟨cb4, hcb4⟩ := HB4b.out
   have df : ∀ o, WZ.frozen? ⟨bb, o, none⟩ = false := fun o => froz_of_heap (hbZ.trans hcb4)
   have x2 : WZ.cell? ⟨Fx, 2, none⟩ = some (.slice (some ⟨bb, 0, none⟩) d.blocks.length cb) := hFZ.cell 2
   have e0 : WZ.cell? ⟨W2.heap.size, 0, none⟩ = some (.slice pu pn pc) := hX.cell 0
   have e1 : WZ.cell? ⟨W2.heap.size, 1, none⟩ = some (.slice iu jn ic) := hX.cell 1
   have e2 : WZ.cell? ⟨W2.heap.size, 2, none⟩ = some (.int .i64 j2) := hX.cell 2
   have e3 : WZ.cell? ⟨W2.heap.size, 3, none⟩ = some (.int .i64 j3) := hX.cell 3
   have e4 : WZ.cell? ⟨W2.heap.size, 4, none⟩ = some (.int .i64 j4) := hX.cell 4
   have e5 : WZ.cell? ⟨W2.heap.size, 5, none⟩ = some (.int .i64 j5) := hX.cell 5
   have hbm : bb ≠ w2.heap.size := blk_ne hcb4 HT4.out (by decide)
   have hbg : bb ≠ gm := by obtain ⟨c9, h9⟩ := Hgm4.out; exact blk_ne hcb4 h9 (by decide)
   have hmr := hB.mr.row hbg d0 d1 d2 d3 d4 d5 (a' := j2) (b' := j3) (c' := j4) (d' := j5)
   have hset : ∀ b, b ≠ bb → ((((((WZ.setCell ⟨bb, q.toNat * 6, none⟩ (.slice pu pn pc)).setCell ⟨bb, q.toNat * 6 + 1, none⟩ (.slice iu jn ic)).setCell ⟨bb, q.toNat * 6 + 2, none⟩ (.int .i64 j2)).setCell ⟨bb, q.toNat * 6 + 3, none⟩ (.int .i64 j3)).setCell ⟨bb, q.toNat * 6 + 4, none⟩ (.int .i64 j4)).setCell ⟨bb, q.toNat * 6 + 5, none⟩ (.int .i64 j5)).heap[b]? = WZ.heap[b]? := fun b hb => by rw [Below.heap_setCell _ _ _ _ hb, Below.heap_setCell _ _ _ _ hb, Below.heap_setCell _ _ _ _ hb, Below.heap_setCell _ _ _ _ hb, Below.heap_setCell _ _ _ _ hb, Below.heap_setCell _ _ _ _ hb]
   have hsS : ((((((WZ.setCell ⟨bb, q.toNat * 6, none⟩ (.slice pu pn pc)).setCell ⟨bb, q.toNat * 6 + 1, none⟩ (.slice iu jn ic)).setCell ⟨bb, q.toNat * 6 + 2, none⟩ (.int .i64 j2)).setCell ⟨bb, q.toNat * 6 + 3, none⟩ (.int .i64 j3)).setCell ⟨bb, q.toNat * 6 + 4, none⟩ (.int .i64 j4)).setCell ⟨bb, q.toNat * 6 + 5, none⟩ (.int .i64 j5)).heap.size = WZ.heap.size := by simp only [World.size_setCell]
   have hoS : ((((((WZ.setCell ⟨bb, q.toNat * 6, none⟩ (.slice pu pn pc)).setCell ⟨bb, q.toNat * 6 + 1, none⟩ (.slice iu jn ic)).setCell ⟨bb, q.toNat * 6 + 2, none⟩ (.int .i64 j2)).setCell ⟨bb, q.toNat * 6 + 3, none⟩ (.int .i64 j3)).setCell ⟨bb, q.toNat * 6 + 4, none⟩ (.int .i64 j4)).setCell ⟨bb, q.toNat * 6 + 5, none⟩ (.int .i64 j5)).os = WZ.os ∧ ((((((WZ.setCell ⟨bb, q.toNat * 6, none⟩ (.slice pu pn pc)).setCell ⟨bb, q.toNat * 6 + 1, none⟩ (.slice iu jn ic)).setCell ⟨bb, q.toNat * 6 + 2, none⟩ (.int .i64 j2)).setCell ⟨bb, q.toNat * 6 + 3, none⟩ (.int .i64 j3)).setCell ⟨bb, q.toNat * 6 + 4, none⟩ (.int .i64 j4)).setCell ⟨bb, q.toNat * 6 + 5, none⟩ (.int .i64 j5)).tape = WZ.tape ∧ ((((((WZ.setCell ⟨bb, q.toNat * 6, none⟩ (.slice pu pn pc)).setCell ⟨bb, q.toNat * 6 + 1, none⟩ (.slice iu jn ic)).setCell ⟨bb, q.toNat * 6 + 2, none⟩ (.int .i64 j2)).setCell ⟨bb, q.toNat * 6 + 3, none⟩ (.int .i64 j3)).setCell ⟨bb, q.toNat * 6 + 4, none⟩ (.int .i64 j4)).setCell ⟨bb, q.toNat * 6 + 5, none⟩ (.int .i64 j5)).output = WZ.output := ⟨by simp only [set_os], by simp only [set_tape], by simp only [set_output]⟩
   go_upto_region 28 with fail
   generalize ((((((WZ.setCell ⟨bb, q.toNat * 6, none⟩ (.slice pu pn pc)).setCell ⟨bb, q.toNat * 6 + 1, none⟩ (.slice iu jn ic)).setCell ⟨bb, q.toNat * 6 + 2, none⟩ (.int .i64 j2)).setCell ⟨bb, q.toNat * 6 + 3, none⟩ (.int .i64 j3)).setCell ⟨bb, q.toNat * 6 + 4, none⟩ (.int .i64 j4)).setCell ⟨bb, q.toNat * 6 + 5, none⟩ (.int .i64 j5)) = WS at hmr hset hsS hoS ⊢
   have hTS : At WS w2.heap.size #[.slice (some ⟨gm, 0, none⟩) n cm] 26 := (hset _ (by omega)).trans hTZ
   have hRS : At WS v.heap.size #[.slice none 0 0] 26 := (hset _ (by omega)).trans hRZ
   have hrS : Rd g a0 len cap WS := rd_keep hB.rd (by omega) fun b hb => hset b (by omega)
   clear d0 d1 d2 d3 d4 d5 df x2 e0 e1 e2 e3 e4 e5
   have t0 : WS.cell? ⟨w2.heap.size, 0, none⟩ = some (.slice (some ⟨gm, 0, none⟩) n cm) := hTS.cell 0
   have r0 : WS.cell? ⟨v.heap.size, 0, none⟩ = some (.slice none 0 0) := hRS.cell 0
   have rf : WS.frozen? ⟨v.heap.size, 0, none⟩ = false := froz_of_heap hRS
   have hrr := heap_set (o := 0) (v := .slice (some ⟨gm, 0, none⟩) n cm) hRS
   go_wp2_with fail
   have hset2 : ∀ b, b ≠ v.heap.size → (WS.setCell ⟨v.heap.size, 0, none⟩ (.slice (some ⟨gm, 0, none⟩) n cm)).heap[b]? = WS.heap[b]? := fun b hb => Below.heap_setCell _ _ _ _ hb
   have hz9 := HGT.out.size
   refine bodyPost_ret (v := .agg #[.slice (some ⟨gm, 0, none⟩) n cm]) ((results_cell_row Tryz.results26 _ _ v.heap.size 26 _ (0, 0) _ rfl hrr Tryz.underlying26 rfl (by kernel_rfl)).trans (by rfl)) rfl ⟨gm, n, cm, rfl, hn1, hn2, by omega, ?_, rd_keep hrS (by simp only [World.size_setCell]; exact Nat.le_refl _) fun b hb => hset2 b (by omega), fun b h1 h2 => ?_, ?_, ?_, ?_, ?_⟩
   ·exact (hmr.same hgm fun b h1 h2 => hset2 b (by omega)).low (by omega)
   ·exact (hset2 b (by omega)).trans ((hset b (by omega)).trans ((hB.keep b (.inl ⟨h1, h2⟩) (by omega)).trans ((HGT.out.block b (by omega) (by intro e; exact h2 (Option.some.inj e))).trans (hWT b h1 h2))))
   ·have := hB.size; simp only [World.size_setCell]; omega
   ·exact (set_os _ _ _).trans (hoS.1.trans (hB.os.trans (HGT.out.os.trans ho1)))
   ·exact (set_tape _ _ _).trans (hoS.2.1.trans (hB.tape.trans (HGT.out.tape.trans ho2)))
   ·exact (set_output _ _ _).trans (hoS.2.2.trans (hB.output.trans (HGT.out.output.trans ho3)))
end Go.Proofs.YtgojlnclpebdcaaGreatDoor
