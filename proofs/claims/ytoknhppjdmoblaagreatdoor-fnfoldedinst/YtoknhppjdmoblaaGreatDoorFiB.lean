import Derived.Test.YtoknhppjdmoblaaGreatDoorDrFQ
import Derived.Test.YtoknhppjdmoblaaGreatDoorGnZ
import Derived.Test.YtoknhppjdmoblaaGreatDoorAttQ
import Derived.Deep.RegionHeld2
import Derived.Deep.DeepCutAuto
namespace Go.Proofs.YtoknhppjdmoblaaGreatDoor
set_option linter.unusedVariables false
set_option linter.unusedSimpArgs false
open Go.RowKit Go.Deep
def InstCells (w : World) (b o lo : Nat) (i : InstD) : Prop := w.cell? ⟨b, o, none⟩ = some (.int .i64 i.op) ∧ w.cell? ⟨b, o + 1, none⟩ = some (.int .i64 i.w) ∧ w.cell? ⟨b, o + 2, none⟩ = some (.int .i64 i.a) ∧ w.cell? ⟨b, o + 3, none⟩ = some (.int .i64 i.b) ∧ w.cell? ⟨b, o + 4, none⟩ = some (.int .i64 i.c) ∧ w.cell? ⟨b, o + 5, none⟩ = some (.int .i64 i.imm) ∧ ∃ u c, w.cell? ⟨b, o + 6, none⟩ = some (.slice u i.args.length c) ∧ IntsAt w lo u i.args
theorem insts_open {w : World} {lo : Nat} {a : Option Addr} {l : List InstD} (h : InstsAt w lo a l) (hl : l.length ≠ 0) : ∃ b off, a = some ⟨b, off, none⟩ ∧ lo ≤ b ∧ b < w.heap.size ∧ ∀ j, j < l.length → InstCells w b (off + j * 7) lo (l.getD j inst0) := by
 rcases h.2 with e | ⟨b, off, h1, h2, h3, h4⟩
 ·rw [e] at hl; simp at hl
 ·exact ⟨b, off, h1, h2, h3, fun j hj => h4 j hj⟩
theorem results_two {P : Program} {fn : Func} {p r : Tmp} {ty tb : TypeId} (h : fn.results = #[.cell p ty, .cell r tb]) (tmps : Array Value) (w : World) (g k : Nat) (v1 v2 : Value)
  (hp : tmps.getD p undef = .pointer (some ⟨g, 0, none⟩)) (hr : tmps.getD r undef = .pointer (some ⟨k, 0, none⟩)) (h1 : (loadVar ty ⟨g, 0, none⟩).run P w = .ok v1 w) (h2 : (loadVar tb ⟨k, 0, none⟩).run P w = .ok v2 w) :
  (results fn tmps).run P w = .ok (.tuple #[v1, v2]) w := by
 have hp' : tmps[p]?.getD undef = .pointer (some ⟨g, 0, none⟩) := by simpa using hp
 have hr' : tmps[r]?.getD undef = .pointer (some ⟨k, 0, none⟩) := by simpa using hr
 simp [results, h, hp', hr', asAddr, h1, h2, Result.andThen]
theorem cntL_big : ∀ (l : List BlockD), (∀ b ∈ l, SmBlock b) → cntL l ≤ l.length * 2097152
 | [], _ => by simp [cntL]
 | a :: l, h => by
  have h1 := h a (by simp)
  have h2 := cntL_big l fun b hb => h b (by simp [hb])
  have h3 := h1.1.1
  have h4 := h1.2.1
  simp only [cntL, cntB, List.length_cons, Nat.succ_mul]
  omega
theorem cnt_le {d : FuncD} (h : SmFunc d) : (cntF d : Int) ≤ 10000000000000 := by
 have h1 := h.1
 have h2 := h.2.1
 have h3 := cntL_big d.blocks h.2.2
 unfold cntF
 omega
set_option maxHeartbeats 8000000 in
set_option maxRecDepth 100000 in
theorem drawFolded (a0 : Option Addr) (len cap : Nat) (w : World) (hl : len ≤ 1048576) (hc : Code a0 len w.heap.size w) :
  Calls Tryz.prog 6 #[.slice a0 len cap] w fun e w' => ∃ (d : FuncD) (i : InstD) (up ub au : Option Addr) (cp cb ac : Nat), e = .returned (.tuple #[.agg #[.slice up d.params.length cp, .int .i64 d.ret, .slice ub d.blocks.length cb], .agg #[.int .i64 i.op, .int .i64 i.w, .int .i64 i.a, .int .i64 i.b, .int .i64 i.c, .int .i64 i.imm, .slice au i.args.length ac]]) ∧ SmFunc d ∧ i.args.length ≤ 1048576 ∧ IntsAt w' w.heap.size up d.params ∧ BlocksAt w' w.heap.size ub d.blocks ∧ IntsAt w' w.heap.size au i.args ∧ Below w.heap.size w w' := by
 have hb0 : Below w.heap.size w ((w.alloc (.cells #[.slice none 0 0, .int .i64 0, .slice none 0 0] 27)).alloc (.cells #[.int .i64 0, .int .i64 0, .int .i64 0, .int .i64 0, .int .i64 0, .int .i64 0, .slice none 0 0] 29)) := ((Below.refl _ _).alloc (Nat.le_refl _) _).alloc (by simp) _
 have hrd := rd_open (cap := cap) hl (hc.below hb0)
 have PM := module_any _ a0 len cap _ hrd
 have hsz : ((w.alloc (.cells #[.slice none 0 0, .int .i64 0, .slice none 0 0] 27)).alloc (.cells #[.int .i64 0, .int .i64 0, .int .i64 0, .int .i64 0, .int .i64 0, .int .i64 0, .slice none 0 0] 29)).heap.size = w.heap.size + 2 := by simp
 have hq0 : ((w.alloc (.cells #[.slice none 0 0, .int .i64 0, .slice none 0 0] 27)).alloc (.cells #[.int .i64 0, .int .i64 0, .int .i64 0, .int .i64 0, .int .i64 0, .int .i64 0, .slice none 0 0] 29)).heap[w.heap.size]? = some (.cells #[.slice none 0 0, .int .i64 0, .slice none 0 0] 27 (0, 0)) := heap_alloc2_old _ _ _
 have hq1 : ((w.alloc (.cells #[.slice none 0 0, .int .i64 0, .slice none 0 0] 27)).alloc (.cells #[.int .i64 0, .int .i64 0, .int .i64 0, .int .i64 0, .int .i64 0, .int .i64 0, .slice none 0 0] 29)).heap[w.heap.size + 1]? = some (.cells #[.int .i64 0, .int .i64 0, .int .i64 0, .int .i64 0, .int .i64 0, .int .i64 0, .slice none 0 0] 29 (0, 0)) := heap_alloc2_new _ _ _
 go_enter Tryz.func6, Tryz.ntmps6
 rw [hsz] at PM
 go_wp2_with (first | (go_at_call 22; refine (open_any _ _ _ _).mono ?_; rintro e w0 ⟨rfl, rfl⟩; simp only [hsz]) | (go_at_call 23; refine PM.mono ?_; rintro e w2 ⟨gm, n, cm, rfl, hn1, d, up, ub, cp, cb, r0, r1, r2, hsm, hone, hin, hbl, hrd2, hold, hs2, o1, o2, o3⟩; have hi0 : (0 : Int) < (n : Int) := (by omega); have hfld := field_mod (some ⟨gm, 0, none⟩) n cm w2))
 have hlo : ((((w.alloc (.cells #[.slice none 0 0, .int .i64 0, .slice none 0 0] 27)).alloc (.cells #[.int .i64 0, .int .i64 0, .int .i64 0, .int .i64 0, .int .i64 0, .int .i64 0, .slice none 0 0] 29)).alloc (.cells #[.slice a0 len cap, .int .i64 0] 87))).heap.size = w.heap.size + 3 := by simp
 rw [hlo] at hin hbl
 have hz2 : w.heap.size + 3 ≤ w2.heap.size := by rw [hlo] at hs2; exact hs2
 have hold2 : ∀ b, b < w.heap.size + 2 → w2.heap[b]? = ((w.alloc (.cells #[.slice none 0 0, .int .i64 0, .slice none 0 0] 27)).alloc (.cells #[.int .i64 0, .int .i64 0, .int .i64 0, .int .i64 0, .int .i64 0, .int .i64 0, .slice none 0 0] 29)).heap[b]? := fun b hb => (hold b (by omega) (by omega)).trans (Below.heap_alloc _ _ _ (by omega))
 have hR0 := (hold2 w.heap.size (by omega)).trans hq0
 have hR1 := (hold2 (w.heap.size + 1) (by omega)).trans hq1
 have hW2 : ∀ b, b < w.heap.size → w2.heap[b]? = w.heap[b]? := fun b hb => (hold2 b (by omega)).trans (hb0.block b hb)
 obtain ⟨bb, bo, rfl, hbb, hbl2⟩ : ∃ b off, ub = some ⟨b, off, none⟩ ∧ w.heap.size + 3 ≤ b ∧ b < w2.heap.size := by
  rcases hbl.2 with h | ⟨b, off, h1, h2, h3, _⟩
  ·rw [h] at hone; simp at hone
  ·exact ⟨b, off, h1, h2, h3⟩
 obtain ⟨wT, hwT⟩ : ∃ wT, wT = w2.alloc (.cells #[.slice up d.params.length cp, .int .i64 d.ret, .slice (some ⟨bb, bo, none⟩) d.blocks.length cb] 27) := ⟨_, rfl⟩
 have hT : At wT w2.heap.size #[.slice up d.params.length cp, .int .i64 d.ret, .slice (some ⟨bb, bo, none⟩) d.blocks.length cb] 27 := by rw [hwT]; exact heap_alloc_last _ _
 have hBT : Below w2.heap.size w2 wT := by rw [hwT]; exact (Below.refl _ _).alloc (Nat.le_refl _) _
 have hrdT : Rd (w.heap.size + 2) a0 len cap wT := rd_keep hrd2 hBT.size fun b hb => hBT.block b (by omega)
 have HB := hbl.keep (agree_of_below hBT (w.heap.size + 3))
 have HI := hin.keep (agree_of_below hBT (w.heap.size + 3))
 have hbbT : bb < wT.heap.size := Nat.lt_of_lt_of_le hbl2 hBT.size
 have hzT : w.heap.size + 3 ≤ wT.heap.size := Nat.le_trans hz2 hBT.size
 have hRF : At wT w.heap.size #[.slice none 0 0, .int .i64 0, .slice none 0 0] 27 := (hBT.block _ (by omega)).trans hR0
 have hRI : At wT (w.heap.size + 1) #[.int .i64 0, .int .i64 0, .int .i64 0, .int .i64 0, .int .i64 0, .int .i64 0, .slice none 0 0] 29 := (hBT.block _ (by omega)).trans hR1
 have hWT : ∀ b, b < w.heap.size → wT.heap[b]? = w.heap[b]? := fun b hb => (hBT.block b (by omega)).trans (hW2 b hb)
 have hcT : Code a0 len w.heap.size wT := code_part hc hWT
 have ho1 : wT.os = w.os := hBT.os.trans o1
 have ho2 : wT.tape = w.tape := hBT.tape.trans o2
 have ho3 : wT.output = w.output := hBT.output.trans o3
 have hcells : ∀ i, i < d.blocks.length → ∃ Bk : BlockD, SmBlock Bk ∧ (∃ u c, wT.cell? ⟨bb, bo + i * 6, none⟩ = some (.slice u Bk.phis.length c) ∧ PhisAt wT (w.heap.size + 3) u Bk.phis) ∧ (∃ u c, wT.cell? ⟨bb, bo + i * 6 + 1, none⟩ = some (.slice u Bk.insts.length c) ∧ InstsAt wT (w.heap.size + 3) u Bk.insts) ∧ wT.cell? ⟨bb, bo + i * 6 + 2, none⟩ = some (.int .i64 Bk.term.kind) ∧ wT.cell? ⟨bb, bo + i * 6 + 3, none⟩ = some (.int .i64 Bk.term.a) ∧ wT.cell? ⟨bb, bo + i * 6 + 4, none⟩ = some (.int .i64 Bk.term.x) ∧ wT.cell? ⟨bb, bo + i * 6 + 5, none⟩ = some (.int .i64 Bk.term.y) := by
  rcases HB.2 with h | ⟨b, off, h1, h2, h3, h4⟩
  ·rw [h] at hone; simp at hone
  ·cases h1; exact fun i hi => ⟨_, hsm.2.2 _ (getD_mem block0 d.blocks i hi), h4 i hi⟩
 rw [← hwT]
 clear hwT PM hrd hfld r0 r1 r2 hin hbl hold hold2 hR0 hR1 hq0 hq1 hW2 hrd2 o1 o2 o3 hlo hb0 hc hBT hs2
 have hltT : w2.heap.size < wT.heap.size := (Array.getElem?_eq_some_iff.1 hT).1
 have HF : ∀ W, wT.grownBy W (some (w.heap.size + 2)) → W.cell? ⟨w2.heap.size, 2, none⟩ = some (.slice (some ⟨bb, bo, none⟩) d.blocks.length cb) := fun W k => (cell_of_heap ((k.block _ hltT (by intro e; have := Option.some.inj e; omega)).trans hT)).trans rfl
 have HC : ∀ W, wT.grownBy W (some (w.heap.size + 2)) → ∀ {o : Nat} {v : Value}, (wT.cell? ⟨bb, o, none⟩ = some v) → W.cell? ⟨bb, o, none⟩ = some v := fun W k o v h => (cell_block (k.block bb hbbT (by intro e; have := Option.some.inj e; omega))).trans h
 go_cut [6] (fun s6 wc => ∃ (Bk : BlockD) (pu iu : Option Addr) (pc ic Bx : Nat), s6 = .pointer (some ⟨Bx, 0, none⟩) ∧ wT.heap.size ≤ Bx ∧ At wc Bx #[.slice pu Bk.phis.length pc, .slice iu Bk.insts.length ic, .int .i64 Bk.term.kind, .int .i64 Bk.term.a, .int .i64 Bk.term.x, .int .i64 Bk.term.y] 61 ∧ Rd (w.heap.size + 2) a0 len cap wc ∧ wT.grownBy wc (some (w.heap.size + 2)) ∧ SmBlock Bk ∧ InstsAt wT (w.heap.size + 3) iu Bk.insts)
 case first =>
  refine wp_region_held_drew (S := fun w' => Rd (w.heap.size + 2) a0 len cap w' ∧ wT.grownBy w' (some (w.heap.size + 2))) (by kernel_rfl) (⟨rd_drw hrdT, grown_drw (World.grownBy.refl _ _)⟩) (fun hHeld => ?_)
  refine wpAnyH_take (i := 0) (v := ?_) rfl (by kernel_rfl) (by kernel_rfl) (by kernel_rfl) (fun _ _ _ h => h) (Or.inl ⟨by rfl, ?_⟩) hHeld ?_
  rotate_left
  ·intro w9 hS9
   go_simp
   try with_reducible rfl
  show wpAnyH _ _ _ _ _ _ _ (Act.put _ (some _) _) _
  simp only [Act.put, List.setIfInBounds_toArray, List.set_cons_zero, List.set_cons_succ]
  refine wpAnyH_take (i := 1) (v := ?_) rfl (by kernel_rfl) (by kernel_rfl) (by kernel_rfl) (fun _ _ _ h => h) (Or.inl ⟨by rfl, ?_⟩) hHeld ?_
  rotate_left
  ·intro w9 hS9
   have g0 := HF w9 hS9.2
   go_simp
   try with_reducible rfl
  show wpAnyH _ _ _ _ _ _ _ (Act.put _ (some _) _) _
  simp only [Act.put, List.setIfInBounds_toArray, List.set_cons_zero, List.set_cons_succ]
  refine wpAnyH_take (i := 2) (v := ?_) rfl (by kernel_rfl) (by kernel_rfl) (by kernel_rfl) (fun _ _ _ h => h) (Or.inl ⟨by rfl, ?_⟩) hHeld ?_
  rotate_left
  ·intro w9 hS9
   go_simp
   try with_reducible rfl
  show wpAnyH _ _ _ _ _ _ _ (Act.put _ (some _) _) _
  simp only [Act.put, List.setIfInBounds_toArray, List.set_cons_zero, List.set_cons_succ]
  refine wpAnyH_take (i := 3) (v := ?_) rfl (by kernel_rfl) (by kernel_rfl) (by kernel_rfl) (fun _ _ _ h => h) (Or.inl ⟨by rfl, ?_⟩) hHeld ?_
  rotate_left
  ·intro w9 hS9
   go_simp
   try with_reducible rfl
  show wpAnyH _ _ _ _ _ _ _ (Act.put _ (some _) _) _
  simp only [Act.put, List.setIfInBounds_toArray, List.set_cons_zero, List.set_cons_succ]
  refine wpAnyH_take (i := 4) (v := ?_) rfl (by kernel_rfl) (by kernel_rfl) (by kernel_rfl) (fun _ _ _ h => h) (Or.inl ⟨by rfl, ?_⟩) hHeld ?_
  rotate_left
  ·intro w9 hS9
   have g0 := HF w9 hS9.2
   go_simp
   try with_reducible rfl
  show wpAnyH _ _ _ _ _ _ _ (Act.put _ (some _) _) _
  simp only [Act.put, List.setIfInBounds_toArray, List.set_cons_zero, List.set_cons_succ]
  refine wpAnyH_take (i := 5) (v := ?_) rfl (by kernel_rfl) (by kernel_rfl) (by kernel_rfl) (fun _ _ _ h => h) (Or.inl ⟨by rfl, ?_⟩) hHeld ?_
  rotate_left
  ·intro w9 hS9
   go_simp
   try with_reducible rfl
  show wpAnyH _ _ _ _ _ _ _ (Act.put _ (some _) _) _
  simp only [Act.put, List.setIfInBounds_toArray, List.set_cons_zero, List.set_cons_succ]
  refine wpAnyH_ready (rs := [6, 9]) (by kernel_rfl) (by simp) ?_
  refine AllReadyH.cons rfl (fun K hK => ?_) (AllReadyH.cons rfl (fun K hK => ?_) AllReadyH.nil)
  ·go_simp
   go_wp2_with (go_at_call 24; refine (below_any (w.heap.size + 2) a0 len cap _ _ hHeld.1).mono ?_; rintro e w5 ⟨n5, rfl, p0, p1, hr5, hg5⟩)
   have hg6 : wT.grownBy w5 (some (w.heap.size + 2)) := grown_trans hHeld.2 hg5
   have hnl : n5.toNat < d.blocks.length := by omega
   have hnI : n5 < (d.blocks.length : Int) := by omega
   obtain ⟨Bk, hSB, ⟨pu, pc, k0, hph⟩, ⟨iu, ic, k1, hit⟩, k2, k3, k4, k5⟩ := hcells n5.toNat hnl
   refine hK.out _ _ ?_ (fun hHeld2 => ?_)
   ·exact ⟨hr5, hg6⟩
   clear hK K
   have hPrev := hHeld
   clear hHeld
   have hHeld := hHeld2
   clear hHeld2
   try simp only [Act.put, List.setIfInBounds_toArray, List.set_cons_zero, List.set_cons_succ]
   refine wpAnyH_take (i := 7) (v := ?_) rfl (by kernel_rfl) (by kernel_rfl) (by kernel_rfl) (fun _ _ _ h => h) (Or.inl ⟨by rfl, ?_⟩) hHeld ?_
   rotate_left
   ·intro w9 hS9
    go_simp
    try with_reducible rfl
   show wpAnyH _ _ _ _ _ _ _ (Act.put _ (some _) _) _
   simp only [Act.put, List.setIfInBounds_toArray, List.set_cons_zero, List.set_cons_succ]
   refine wpAnyH_take (i := 8) (v := ?_) rfl (by kernel_rfl) (by kernel_rfl) (by kernel_rfl) (fun _ _ _ h => h) (Or.inl ⟨by rfl, ?_⟩) hHeld ?_
   rotate_left
   ·intro w9 hS9
    have g0 := HC w9 hS9.2 k0
    have g1 := HC w9 hS9.2 k1
    have g2 := HC w9 hS9.2 k2
    have g3 := HC w9 hS9.2 k3
    have g4 := HC w9 hS9.2 k4
    have g5 := HC w9 hS9.2 k5
    go_simp
    try with_reducible rfl
   show wpAnyH _ _ _ _ _ _ _ (Act.put _ (some _) _) _
   simp only [Act.put, List.setIfInBounds_toArray, List.set_cons_zero, List.set_cons_succ]
   refine wpAnyH_ready (rs := [9]) (by kernel_rfl) (by simp) ?_
   refine AllReadyH.cons rfl (fun K hK => ?_) AllReadyH.nil
   go_simp
   go_wp2_with fail
   refine hK.out _ _ ?_ (fun hHeld2 => ?_)
   ·exact ⟨hHeld.1.alloc _, grown_trans hHeld.2 (World.grownBy_alloc _ _ _)⟩
   clear hK K
   have hPrev := hHeld
   clear hHeld
   have hHeld := hHeld2
   clear hHeld2
   try simp only [Act.put, List.setIfInBounds_toArray, List.set_cons_zero, List.set_cons_succ]
   refine wpAnyH_ready (rs := [10]) (by kernel_rfl) (by simp) ?_
   refine AllReadyH.cons rfl (fun K hK => ?_) AllReadyH.nil
   go_simp
   go_wp2_with fail
   refine hK.out _ _ ?_ (fun hHeld2 => ?_)
   ·exact ⟨hPrev.1.alloc _, grown_trans hPrev.2 (World.grownBy_alloc _ _ _)⟩
   clear hK K hHeld
   have hHeld := hHeld2
   clear hHeld2
   try simp only [Act.put, List.setIfInBounds_toArray, List.set_cons_zero, List.set_cons_succ]
   refine wpAnyH_done (by kernel_rfl) ?_ _
   have X8 := At.new w5 #[.slice pu Bk.phis.length pc, .slice iu Bk.insts.length ic, .int .i64 Bk.term.kind, .int .i64 Bk.term.a, .int .i64 Bk.term.x, .int .i64 Bk.term.y] 61
   have hRd8 := hHeld.1
   have hG8 := hHeld.2
   go_wp2_with fail
   go_meet
   case rel => exact ⟨Bk, pu, iu, pc, ic, _, rfl, hg6.size, X8, hRd8, hG8, hSB, hit⟩
  ·go_simp
   go_wp2_with fail
   refine hK.out _ _ ?_ (fun hHeld2 => ?_)
   ·exact ⟨hHeld.1.alloc _, grown_trans hHeld.2 (World.grownBy_alloc _ _ _)⟩
   clear hK K
   have hPrev := hHeld
   clear hHeld
   have hHeld := hHeld2
   clear hHeld2
   try simp only [Act.put, List.setIfInBounds_toArray, List.set_cons_zero, List.set_cons_succ]
   refine wpAnyH_ready (rs := [6]) (by kernel_rfl) (by simp) ?_
   refine AllReadyH.cons rfl (fun K hK => ?_) AllReadyH.nil
   go_simp
   go_wp2_with (go_at_call 24; refine (below_any (w.heap.size + 2) a0 len cap _ _ (hPrev.1.alloc _)).mono ?_; rintro e w5 ⟨n5, rfl, p0, p1, hr5, hg5⟩)
   have hg6 : wT.grownBy w5 (some (w.heap.size + 2)) := grown_trans (grown_trans hPrev.2 (World.grownBy_alloc _ _ _)) hg5
   have hnl : n5.toNat < d.blocks.length := by omega
   have hnI : n5 < (d.blocks.length : Int) := by omega
   obtain ⟨Bk, hSB, ⟨pu, pc, k0, hph⟩, ⟨iu, ic, k1, hit⟩, k2, k3, k4, k5⟩ := hcells n5.toNat hnl
   have X5 := hg5.block wT.heap.size (by simp) (by intro e; have := Option.some.inj e; omega)
   have X6 : At w5 wT.heap.size #[.slice none 0 0, .slice none 0 0, .int .i64 0, .int .i64 0, .int .i64 0, .int .i64 0] 61 := X5.trans (At.new wT.drew #[.slice none 0 0, .slice none 0 0, .int .i64 0, .int .i64 0, .int .i64 0, .int .i64 0] 61)
   clear X5
   have y0 : w5.cell? ⟨wT.heap.size, 0, none⟩ = some (.slice none 0 0) := X6.cell 0
   have y1 : w5.cell? ⟨wT.heap.size, 1, none⟩ = some (.slice none 0 0) := X6.cell 1
   have y2 : w5.cell? ⟨wT.heap.size, 2, none⟩ = some (.int .i64 0) := X6.cell 2
   have y3 : w5.cell? ⟨wT.heap.size, 3, none⟩ = some (.int .i64 0) := X6.cell 3
   have y4 : w5.cell? ⟨wT.heap.size, 4, none⟩ = some (.int .i64 0) := X6.cell 4
   have y5 : w5.cell? ⟨wT.heap.size, 5, none⟩ = some (.int .i64 0) := X6.cell 5
   have yf : ∀ o, w5.frozen? ⟨wT.heap.size, o, none⟩ = false := fun o => froz_of_heap X6
   refine hK.out _ _ ?_ (fun hHeld2 => ?_)
   ·exact ⟨hr5, hg6⟩
   clear hK K
   have hPrev := hHeld
   clear hHeld
   have hHeld := hHeld2
   clear hHeld2
   try simp only [Act.put, List.setIfInBounds_toArray, List.set_cons_zero, List.set_cons_succ]
   refine wpAnyH_take (i := 7) (v := ?_) rfl (by kernel_rfl) (by kernel_rfl) (by kernel_rfl) (fun _ _ _ h => h) (Or.inl ⟨by rfl, ?_⟩) hHeld ?_
   rotate_left
   ·intro w9 hS9
    go_simp
    try with_reducible rfl
   show wpAnyH _ _ _ _ _ _ _ (Act.put _ (some _) _) _
   simp only [Act.put, List.setIfInBounds_toArray, List.set_cons_zero, List.set_cons_succ]
   refine wpAnyH_take (i := 8) (v := ?_) rfl (by kernel_rfl) (by kernel_rfl) (by kernel_rfl) (fun _ _ _ h => h) (Or.inl ⟨by rfl, ?_⟩) hHeld ?_
   rotate_left
   ·intro w9 hS9
    have g0 := HC w9 hS9.2 k0
    have g1 := HC w9 hS9.2 k1
    have g2 := HC w9 hS9.2 k2
    have g3 := HC w9 hS9.2 k3
    have g4 := HC w9 hS9.2 k4
    have g5 := HC w9 hS9.2 k5
    go_simp
    try with_reducible rfl
   show wpAnyH _ _ _ _ _ _ _ (Act.put _ (some _) _) _
   simp only [Act.put, List.setIfInBounds_toArray, List.set_cons_zero, List.set_cons_succ]
   refine wpAnyH_ready (rs := [10]) (by kernel_rfl) (by simp) ?_
   refine AllReadyH.cons rfl (fun K hK => ?_) AllReadyH.nil
   go_simp
   go_wp2_with fail
   have X8 : At ((((((w5.setCell ⟨wT.heap.size, 0, none⟩ (.slice pu Bk.phis.length pc)).setCell ⟨wT.heap.size, 1, none⟩ (.slice iu Bk.insts.length ic)).setCell ⟨wT.heap.size, 2, none⟩ (.int .i64 Bk.term.kind)).setCell ⟨wT.heap.size, 3, none⟩ (.int .i64 Bk.term.a)).setCell ⟨wT.heap.size, 4, none⟩ (.int .i64 Bk.term.x)).setCell ⟨wT.heap.size, 5, none⟩ (.int .i64 Bk.term.y)) wT.heap.size #[.slice pu Bk.phis.length pc, .slice iu Bk.insts.length ic, .int .i64 Bk.term.kind, .int .i64 Bk.term.a, .int .i64 Bk.term.x, .int .i64 Bk.term.y] 61 := (heap_set (o := 5) (v := .int .i64 Bk.term.y) (heap_set (o := 4) (v := .int .i64 Bk.term.x) (heap_set (o := 3) (v := .int .i64 Bk.term.a) (heap_set (o := 2) (v := .int .i64 Bk.term.kind) (heap_set (o := 1) (v := .slice iu Bk.insts.length ic) (heap_set (o := 0) (v := .slice pu Bk.phis.length pc) X6))))))
   have hset : ∀ b, b ≠ wT.heap.size → ((((((w5.setCell ⟨wT.heap.size, 0, none⟩ (.slice pu Bk.phis.length pc)).setCell ⟨wT.heap.size, 1, none⟩ (.slice iu Bk.insts.length ic)).setCell ⟨wT.heap.size, 2, none⟩ (.int .i64 Bk.term.kind)).setCell ⟨wT.heap.size, 3, none⟩ (.int .i64 Bk.term.a)).setCell ⟨wT.heap.size, 4, none⟩ (.int .i64 Bk.term.x)).setCell ⟨wT.heap.size, 5, none⟩ (.int .i64 Bk.term.y)).heap[b]? = w5.heap[b]? := fun b hb => by rw [Below.heap_setCell _ _ _ _ hb, Below.heap_setCell _ _ _ _ hb, Below.heap_setCell _ _ _ _ hb, Below.heap_setCell _ _ _ _ hb, Below.heap_setCell _ _ _ _ hb, Below.heap_setCell _ _ _ _ hb]
   have hRd8 : Rd (w.heap.size + 2) a0 len cap ((((((w5.setCell ⟨wT.heap.size, 0, none⟩ (.slice pu Bk.phis.length pc)).setCell ⟨wT.heap.size, 1, none⟩ (.slice iu Bk.insts.length ic)).setCell ⟨wT.heap.size, 2, none⟩ (.int .i64 Bk.term.kind)).setCell ⟨wT.heap.size, 3, none⟩ (.int .i64 Bk.term.a)).setCell ⟨wT.heap.size, 4, none⟩ (.int .i64 Bk.term.x)).setCell ⟨wT.heap.size, 5, none⟩ (.int .i64 Bk.term.y)) := rd_keep hr5 (by simp only [World.size_setCell]; exact Nat.le_refl _) (fun b hb => hset b (by omega))
   have hG8 : wT.grownBy ((((((w5.setCell ⟨wT.heap.size, 0, none⟩ (.slice pu Bk.phis.length pc)).setCell ⟨wT.heap.size, 1, none⟩ (.slice iu Bk.insts.length ic)).setCell ⟨wT.heap.size, 2, none⟩ (.int .i64 Bk.term.kind)).setCell ⟨wT.heap.size, 3, none⟩ (.int .i64 Bk.term.a)).setCell ⟨wT.heap.size, 4, none⟩ (.int .i64 Bk.term.x)).setCell ⟨wT.heap.size, 5, none⟩ (.int .i64 Bk.term.y)) (some (w.heap.size + 2)) := ⟨by simp only [set_os]; exact hg6.os, by simp only [set_tape]; exact hg6.tape, by simp only [set_output]; exact hg6.output, by simp only [World.size_setCell]; exact hg6.size, fun b hb hn => (hset b (by omega)).trans (hg6.block b hb hn)⟩
   refine hK.out _ _ ?_ (fun hHeld2 => ?_)
   ·exact ⟨hRd8, hG8⟩
   clear hK K hHeld
   have hHeld := hHeld2
   clear hHeld2
   try simp only [Act.put, List.setIfInBounds_toArray, List.set_cons_zero, List.set_cons_succ]
   refine wpAnyH_done (by kernel_rfl) ?_ _
   go_wp2_with fail
   go_meet
   case rel => exact ⟨Bk, pu, iu, pc, ic, _, rfl, Nat.le_refl _, X8, hRd8, hG8, hSB, hit⟩
 case rest =>
  obtain ⟨WC, hWC⟩ : ∃ W, W = wc := ⟨_, rfl⟩
  subst hWC
  obtain ⟨Bk, pu, iu, pc, ic, Bx, rfl, hBx, X8, hRd8, hG8, hSB, hit⟩ := hcut
  clear hcells HC HF
  have y1 : WC.cell? ⟨Bx, 1, none⟩ = some (.slice iu Bk.insts.length ic) := X8.cell 1
  have HX8 : Hid (At WC Bx #[.slice pu Bk.phis.length pc, .slice iu Bk.insts.length ic, .int .i64 Bk.term.kind, .int .i64 Bk.term.a, .int .i64 Bk.term.x, .int .i64 Bk.term.y] 61) := X8
  have HR8 : Hid (Rd (w.heap.size + 2) a0 len cap WC) := hRd8
  have HG8 : Hid (wT.grownBy WC (some (w.heap.size + 2))) := hG8
  have HIT : Hid (InstsAt wT (w.heap.size + 3) iu Bk.insts) := hit
  have HSB : Hid (SmBlock Bk) := hSB
  clear X8 hRd8 hG8 hit hSB
  go_upto_region 4 with fail
  go_cut [31] (fun s31 wd => ∃ b : Bool, s31 = .bool b ∧ (b = false → Bk.insts.length ≠ 0) ∧ At wd Bx #[.slice pu Bk.phis.length pc, .slice iu Bk.insts.length ic, .int .i64 Bk.term.kind, .int .i64 Bk.term.a, .int .i64 Bk.term.x, .int .i64 Bk.term.y] 61 ∧ Rd (w.heap.size + 2) a0 len cap wd ∧ wT.grownBy wd (some (w.heap.size + 2)))
  case first =>
   by_cases hn0 : Bk.insts.length = 0
   ·have hn1 : ((Bk.insts.length : Int) == 0) = true := by simp; exact List.length_eq_zero_iff.1 hn0
    have hn2 : (Bk.insts.length : Int) = 0 := by omega
    go_wp2_with fail
    go_meet
    case rel => exact ⟨true, rfl, fun e => (by cases e), HX8.out, HR8.out, HG8.out⟩
   ·have hn1 : ((Bk.insts.length : Int) == 0) = false := by simp; exact fun e => hn0 (by rw [e]; rfl)
    go_wp2_with fail
    refine (once_any (w.heap.size + 2) a0 len cap 8 WC HR8.out (by omega)).mono ?_
    rintro e W7 ⟨b7, rfl, hr7, hg7⟩
    go_wp2_with fail
    go_meet
    case rel => exact ⟨b7, rfl, fun _ => hn0, at_grown HX8.out hg7 (by omega), hr7, grown_trans HG8.out hg7⟩
  case rest =>
   obtain ⟨WD, hWD⟩ : ∃ W, W = wc := ⟨_, rfl⟩
   subst hWD
   obtain ⟨b7, rfl, hb7, X8, hr8, hg8⟩ := hcut
   clear HX8 HR8 HG8 y1
   have hzd : wT.heap.size ≤ WD.heap.size := hg8.size
   have hF8 : At WD w2.heap.size #[.slice up d.params.length cp, .int .i64 d.ret, .slice (some ⟨bb, bo, none⟩) d.blocks.length cb] 27 := at_grown hT hg8 (by omega)
   have h28 : At WD w.heap.size #[.slice none 0 0, .int .i64 0, .slice none 0 0] 27 := at_grown hRF hg8 (by omega)
   have h38 : At WD (w.heap.size + 1) #[.int .i64 0, .int .i64 0, .int .i64 0, .int .i64 0, .int .i64 0, .int .i64 0, .slice none 0 0] 29 := at_grown hRI hg8 (by omega)
   have hc8 : Code a0 len w.heap.size WD := code_part hcT fun b hb => hg8.block b (by omega) (by intro e; have := Option.some.inj e; omega)
   have hB8 : BlocksAt WD (w.heap.size + 3) (some ⟨bb, bo, none⟩) d.blocks := HB.keep ⟨hg8.size, fun b h1 h2 => hg8.block b h2 (by intro e; have := Option.some.inj e; omega)⟩
   have hI8 : IntsAt WD (w.heap.size + 3) up d.params := HI.keep ⟨hg8.size, fun b h1 h2 => hg8.block b h2 (by intro e; have := Option.some.inj e; omega)⟩
   have hW8 : ∀ b, b < w.heap.size → WD.heap[b]? = w.heap[b]? := fun b hb => (hg8.block b (by omega) (by intro e; have := Option.some.inj e; omega)).trans (hWT b hb)
   have ho8 : WD.os = w.os := hg8.os.trans ho1
   have ht8 : WD.tape = w.tape := hg8.tape.trans ho2
   have hp8 : WD.output = w.output := hg8.output.trans ho3
   have hIT8 : InstsAt WD (w.heap.size + 3) iu Bk.insts := HIT.out.keep ⟨hg8.size, fun b h1 h2 => hg8.block b h2 (by intro e; have := Option.some.inj e; omega)⟩
   clear hg8 HIT hRF hRI hcT HB HI hWT ho1 ho2 ho3 hT
   have x0 : WD.cell? ⟨w2.heap.size, 0, none⟩ = some (.slice up d.params.length cp) := hF8.cell 0
   have x1 : WD.cell? ⟨w2.heap.size, 1, none⟩ = some (.int .i64 d.ret) := hF8.cell 1
   have x2 : WD.cell? ⟨w2.heap.size, 2, none⟩ = some (.slice (some ⟨bb, bo, none⟩) d.blocks.length cb) := hF8.cell 2
   cases b7
   ·have hbn : Bk.insts.length ≠ 0 := hb7 rfl
    obtain ⟨ib, io, hib, hib0, hib1, hcl⟩ := insts_open hIT8 hbn
    subst hib
    have hF9b := hF8
    have h29 := h28
    have h39 := h38
    have hc9 := hc8
    have hr9 := hr8
    have hB9 := hB8
    have hI9 := hI8
    have hWD := hW8
    have ho9 := ho8
    have ht9 := ht8
    have hp9 := hp8
    have X9 := X8
    clear hF8 h28 h38 hc8 hr8 hB8 hI8 hW8 ho8 ht8 hp8 X8
    have hF9 : ∀ V, FiS WD w.heap.size (w.heap.size + 2) a0 len cap V → ∀ (o : Nat) (v : Value), (#[.slice up d.params.length cp, .int .i64 d.ret, .slice (some ⟨bb, bo, none⟩) d.blocks.length cb] : Array Value)[o]? = some v → V.cell? ⟨w2.heap.size, o, none⟩ = some v := fun V k o v hv => (cell_of_heap ((k.blk w2.heap.size (by omega) (by omega) (by omega) (by omega)).trans hF9b)).trans hv
    have hY9 : ∀ V, FiS WD w.heap.size (w.heap.size + 2) a0 len cap V → V.cell? ⟨Bx, 1, none⟩ = some (.slice (some ⟨ib, io, none⟩) Bk.insts.length ic) := fun V k => (cell_of_heap ((k.blk Bx X9.lt (by omega) (by omega) (by omega)).trans X9)).trans rfl
    have hC9 : ∀ V, FiS WD w.heap.size (w.heap.size + 2) a0 len cap V → ∀ {o : Nat} {v : Value}, (WD.cell? ⟨ib, o, none⟩ = some v) → V.cell? ⟨ib, o, none⟩ = some v := fun V k o v h => (cell_block (k.blk ib hib1 (by omega) (by omega) (by omega))).trans h
    clear x0 x1 x2
    go_wp2_with fail
    go_cut [2] (fun s2 wz => s2 = .pointer (some ⟨w.heap.size, 0, none⟩) ∧ ∃ (i : InstD) (au : Option Addr) (ac : Nat), i.args.length ≤ 1048576 ∧ FiS WD w.heap.size (w.heap.size + 2) a0 len cap wz ∧ At wz w.heap.size #[.slice up d.params.length cp, .int .i64 d.ret, .slice (some ⟨bb, bo, none⟩) d.blocks.length cb] 27 ∧ At wz (w.heap.size + 1) #[.int .i64 i.op, .int .i64 i.w, .int .i64 i.a, .int .i64 i.b, .int .i64 i.c, .int .i64 i.imm, .slice au i.args.length ac] 29 ∧ IntsAt wz (w.heap.size + 3) au i.args)
    case first =>
     refine wp_region_held_drew (S := fun w' => FiS WD w.heap.size (w.heap.size + 2) a0 len cap w') (by kernel_rfl) (FiS.drew (FiS.start (V := WD) hr9 hc9)) (fun hHeld => ?_)
     have hS : FiS WD w.heap.size (w.heap.size + 2) a0 len cap WD.drew := FiS.drew (FiS.start (V := WD) hr9 hc9)
     have h2 : At WD.drew w.heap.size #[.slice none 0 0, .int .i64 0, .slice none 0 0] 27 := h29
     have h3 : At WD.drew (w.heap.size + 1) #[.int .i64 0, .int .i64 0, .int .i64 0, .int .i64 0, .int .i64 0, .int .i64 0, .slice none 0 0] 29 := h39
     refine wpAnyH_take (i := 0) (v := ?_) rfl (by kernel_rfl) (by kernel_rfl) (by kernel_rfl) (fun _ _ _ h => h) (Or.inl ⟨by rfl, ?_⟩) hHeld ?_
     rotate_left
     ·intro w9 hS9
      have g0 := hF9 w9 hS9 0 _ rfl
      have g1 := hF9 w9 hS9 1 _ rfl
      have g2 := hF9 w9 hS9 2 _ rfl
      go_simp
      try with_reducible rfl
     show wpAnyH _ _ _ _ _ _ _ (Act.put _ (some _) _) _
     simp only [Act.put, List.setIfInBounds_toArray, List.set_cons_zero, List.set_cons_succ]
     refine wpAnyH_take (i := 1) (v := ?_) rfl (by kernel_rfl) (by kernel_rfl) (by kernel_rfl) (fun _ _ _ h => h) (Or.inl ⟨by rfl, ?_⟩) hHeld ?_
     rotate_left
     ·intro w9 hS9
      go_simp
      try with_reducible rfl
     show wpAnyH _ _ _ _ _ _ _ (Act.put _ (some _) _) _
     simp only [Act.put, List.setIfInBounds_toArray, List.set_cons_zero, List.set_cons_succ]
     refine wpAnyH_take (i := 2) (v := ?_) rfl (by kernel_rfl) (by kernel_rfl) (by kernel_rfl) (fun _ _ _ h => h) (Or.inl ⟨by rfl, ?_⟩) hHeld ?_
     rotate_left
     ·intro w9 hS9
      have g0 := hY9 w9 hS9
      go_simp
      try with_reducible rfl
     show wpAnyH _ _ _ _ _ _ _ (Act.put _ (some _) _) _
     simp only [Act.put, List.setIfInBounds_toArray, List.set_cons_zero, List.set_cons_succ]
     refine wpAnyH_take (i := 3) (v := ?_) rfl (by kernel_rfl) (by kernel_rfl) (by kernel_rfl) (fun _ _ _ h => h) (Or.inl ⟨by rfl, ?_⟩) hHeld ?_
     rotate_left
     ·intro w9 hS9
      go_simp
      try with_reducible rfl
     show wpAnyH _ _ _ _ _ _ _ (Act.put _ (some _) _) _
     simp only [Act.put, List.setIfInBounds_toArray, List.set_cons_zero, List.set_cons_succ]
     refine wpAnyH_take (i := 4) (v := ?_) rfl (by kernel_rfl) (by kernel_rfl) (by kernel_rfl) (fun _ _ _ h => h) (Or.inl ⟨by rfl, ?_⟩) hHeld ?_
     rotate_left
     ·intro w9 hS9
      go_simp
      try with_reducible rfl
     show wpAnyH _ _ _ _ _ _ _ (Act.put _ (some _) _) _
     simp only [Act.put, List.setIfInBounds_toArray, List.set_cons_zero, List.set_cons_succ]
     refine wpAnyH_take (i := 5) (v := ?_) rfl (by kernel_rfl) (by kernel_rfl) (by kernel_rfl) (fun _ _ _ h => h) (Or.inl ⟨by rfl, ?_⟩) hHeld ?_
     rotate_left
     ·intro w9 hS9
      have g0 := hY9 w9 hS9
      go_simp
      try with_reducible rfl
     show wpAnyH _ _ _ _ _ _ _ (Act.put _ (some _) _) _
     simp only [Act.put, List.setIfInBounds_toArray, List.set_cons_zero, List.set_cons_succ]
     refine wpAnyH_take (i := 6) (v := ?_) rfl (by kernel_rfl) (by kernel_rfl) (by kernel_rfl) (fun _ _ _ h => h) (Or.inl ⟨by rfl, ?_⟩) hHeld ?_
     rotate_left
     ·intro w9 hS9
      go_simp
      try with_reducible rfl
     show wpAnyH _ _ _ _ _ _ _ (Act.put _ (some _) _) _
     simp only [Act.put, List.setIfInBounds_toArray, List.set_cons_zero, List.set_cons_succ]
     refine wpAnyH_ready (rs := [7]) (by kernel_rfl) (by simp) ?_
     refine AllReadyH.cons rfl (fun K hK => ?_) AllReadyH.nil
     go_simp
     go_wp2_with (go_at_call 24; refine (below_any (w.heap.size + 2) a0 len cap _ _ hS.rd).mono ?_; rintro e v6 ⟨n8, rfl, p8, q8, hr, hg⟩)
     have hnl8 : n8.toNat < Bk.insts.length := by omega
     have hnI8 : n8 < (Bk.insts.length : Int) := by omega
     obtain ⟨i, hSI, hIC⟩ : ∃ i, i.args.length ≤ 1048576 ∧ InstCells WD ib (io + n8.toNat * 7) (w.heap.size + 3) i := ⟨_, HSB.out.2.2 _ (getD_mem inst0 Bk.insts n8.toNat hnl8), hcl n8.toNat hnl8⟩
     obtain ⟨m0, m1, m2, m3, m4, m5, au, ac, m6, hai⟩ := hIC
     have HAI : Hid (IntsAt WD (w.heap.size + 3) au i.args) := hai
     clear hai q8
     have gS : FiS WD w.heap.size (w.heap.size + 2) a0 len cap v6 := hS.grown (by omega) hr hg
     have g2 := at_grown h2 hg (by omega)
     have g3 := at_grown h3 hg (by omega)
     refine hK.out _ _ ?_ (fun hHeld2 => ?_)
     ·exact gS
     clear h2 h3 hS hr hg
     clear hK K hHeld
     have hHeld := hHeld2
     clear hHeld2
     try simp only [Act.put, List.setIfInBounds_toArray, List.set_cons_zero, List.set_cons_succ]
     have h2 := g2
     have h3 := g3
     have hS := gS
     clear g2 g3 gS
     refine wpAnyH_take (i := 8) (v := ?_) rfl (by kernel_rfl) (by kernel_rfl) (by kernel_rfl) (fun _ _ _ h => h) (Or.inl ⟨by rfl, ?_⟩) hHeld ?_
     rotate_left
     ·intro w9 hS9
      go_simp
      try with_reducible rfl
     show wpAnyH _ _ _ _ _ _ _ (Act.put _ (some _) _) _
     simp only [Act.put, List.setIfInBounds_toArray, List.set_cons_zero, List.set_cons_succ]
     refine wpAnyH_take (i := 9) (v := ?_) rfl (by kernel_rfl) (by kernel_rfl) (by kernel_rfl) (fun _ _ _ h => h) (Or.inl ⟨by rfl, ?_⟩) hHeld ?_
     rotate_left
     ·intro w9 hS9
      have g0 := hC9 w9 hS9 m0
      have g1 := hC9 w9 hS9 m1
      have g2 := hC9 w9 hS9 m2
      have g3 := hC9 w9 hS9 m3
      have g4 := hC9 w9 hS9 m4
      have g5 := hC9 w9 hS9 m5
      have g6 := hC9 w9 hS9 m6
      go_simp
      try with_reducible rfl
     show wpAnyH _ _ _ _ _ _ _ (Act.put _ (some _) _) _
     simp only [Act.put, List.setIfInBounds_toArray, List.set_cons_zero, List.set_cons_succ]
     have y0 : v6.cell? ⟨w.heap.size, 0, none⟩ = some (.slice none 0 0) := h2.cell 0
     have y1 : v6.cell? ⟨w.heap.size, 1, none⟩ = some (.int .i64 0) := h2.cell 1
     have y2 : v6.cell? ⟨w.heap.size, 2, none⟩ = some (.slice none 0 0) := h2.cell 2
     have yf : ∀ o, v6.frozen? ⟨w.heap.size, o, none⟩ = false := fun o => froz_of_heap h2
     refine wpAnyH_ready (rs := [10]) (by kernel_rfl) (by simp) ?_
     refine AllReadyH.cons rfl (fun K hK => ?_) AllReadyH.nil
     go_simp
     go_wp2_with fail
     have g2 : At (((v6.setCell ⟨w.heap.size, 0, none⟩ (.slice up d.params.length cp)).setCell ⟨w.heap.size, 1, none⟩ (.int .i64 d.ret)).setCell ⟨w.heap.size, 2, none⟩ (.slice (some ⟨bb, bo, none⟩) d.blocks.length cb)) w.heap.size #[.slice up d.params.length cp, .int .i64 d.ret, .slice (some ⟨bb, bo, none⟩) d.blocks.length cb] 27 := (heap_set (o := 2) (v := .slice (some ⟨bb, bo, none⟩) d.blocks.length cb) (heap_set (o := 1) (v := .int .i64 d.ret) (heap_set (o := 0) (v := .slice up d.params.length cp) h2)))
     have g3 : At (((v6.setCell ⟨w.heap.size, 0, none⟩ (.slice up d.params.length cp)).setCell ⟨w.heap.size, 1, none⟩ (.int .i64 d.ret)).setCell ⟨w.heap.size, 2, none⟩ (.slice (some ⟨bb, bo, none⟩) d.blocks.length cb)) (w.heap.size + 1) #[.int .i64 0, .int .i64 0, .int .i64 0, .int .i64 0, .int .i64 0, .int .i64 0, .slice none 0 0] 29 := (at_off (at_off (at_off h3 (by omega)) (by omega)) (by omega))
     have gS : FiS WD w.heap.size (w.heap.size + 2) a0 len cap (((v6.setCell ⟨w.heap.size, 0, none⟩ (.slice up d.params.length cp)).setCell ⟨w.heap.size, 1, none⟩ (.int .i64 d.ret)).setCell ⟨w.heap.size, 2, none⟩ (.slice (some ⟨bb, bo, none⟩) d.blocks.length cb)) := (FiS.set (FiS.set (FiS.set hS (by omega) (.inl rfl)) (by omega) (.inl rfl)) (by omega) (.inl rfl))
     refine hK.out _ _ ?_ (fun hHeld2 => ?_)
     ·exact gS
     clear y0 y1 y2 yf
     clear h2 h3 hS
     clear hK K hHeld
     have hHeld := hHeld2
     clear hHeld2
     try simp only [Act.put, List.setIfInBounds_toArray, List.set_cons_zero, List.set_cons_succ]
     generalize (((v6.setCell ⟨w.heap.size, 0, none⟩ (.slice up d.params.length cp)).setCell ⟨w.heap.size, 1, none⟩ (.int .i64 d.ret)).setCell ⟨w.heap.size, 2, none⟩ (.slice (some ⟨bb, bo, none⟩) d.blocks.length cb)) = v7 at g2 g3 gS hHeld ⊢
     have h2 := g2
     have h3 := g3
     have hS := gS
     clear g2 g3 gS
     have y0 : v7.cell? ⟨(w.heap.size + 1), 0, none⟩ = some (.int .i64 0) := h3.cell 0
     have y1 : v7.cell? ⟨(w.heap.size + 1), 1, none⟩ = some (.int .i64 0) := h3.cell 1
     have y2 : v7.cell? ⟨(w.heap.size + 1), 2, none⟩ = some (.int .i64 0) := h3.cell 2
     have y3 : v7.cell? ⟨(w.heap.size + 1), 3, none⟩ = some (.int .i64 0) := h3.cell 3
     have y4 : v7.cell? ⟨(w.heap.size + 1), 4, none⟩ = some (.int .i64 0) := h3.cell 4
     have y5 : v7.cell? ⟨(w.heap.size + 1), 5, none⟩ = some (.int .i64 0) := h3.cell 5
     have y6 : v7.cell? ⟨(w.heap.size + 1), 6, none⟩ = some (.slice none 0 0) := h3.cell 6
     have yf : ∀ o, v7.frozen? ⟨(w.heap.size + 1), o, none⟩ = false := fun o => froz_of_heap h3
     refine wpAnyH_ready (rs := [11]) (by kernel_rfl) (by simp) ?_
     refine AllReadyH.cons rfl (fun K hK => ?_) AllReadyH.nil
     go_simp
     go_wp2_with fail
     have g3 : At (((((((v7.setCell ⟨(w.heap.size + 1), 0, none⟩ (.int .i64 i.op)).setCell ⟨(w.heap.size + 1), 1, none⟩ (.int .i64 i.w)).setCell ⟨(w.heap.size + 1), 2, none⟩ (.int .i64 i.a)).setCell ⟨(w.heap.size + 1), 3, none⟩ (.int .i64 i.b)).setCell ⟨(w.heap.size + 1), 4, none⟩ (.int .i64 i.c)).setCell ⟨(w.heap.size + 1), 5, none⟩ (.int .i64 i.imm)).setCell ⟨(w.heap.size + 1), 6, none⟩ (.slice au i.args.length ac)) (w.heap.size + 1) #[.int .i64 i.op, .int .i64 i.w, .int .i64 i.a, .int .i64 i.b, .int .i64 i.c, .int .i64 i.imm, .slice au i.args.length ac] 29 := (heap_set (o := 6) (v := .slice au i.args.length ac) (heap_set (o := 5) (v := .int .i64 i.imm) (heap_set (o := 4) (v := .int .i64 i.c) (heap_set (o := 3) (v := .int .i64 i.b) (heap_set (o := 2) (v := .int .i64 i.a) (heap_set (o := 1) (v := .int .i64 i.w) (heap_set (o := 0) (v := .int .i64 i.op) h3)))))))
     have g2 : At (((((((v7.setCell ⟨(w.heap.size + 1), 0, none⟩ (.int .i64 i.op)).setCell ⟨(w.heap.size + 1), 1, none⟩ (.int .i64 i.w)).setCell ⟨(w.heap.size + 1), 2, none⟩ (.int .i64 i.a)).setCell ⟨(w.heap.size + 1), 3, none⟩ (.int .i64 i.b)).setCell ⟨(w.heap.size + 1), 4, none⟩ (.int .i64 i.c)).setCell ⟨(w.heap.size + 1), 5, none⟩ (.int .i64 i.imm)).setCell ⟨(w.heap.size + 1), 6, none⟩ (.slice au i.args.length ac)) w.heap.size #[.slice up d.params.length cp, .int .i64 d.ret, .slice (some ⟨bb, bo, none⟩) d.blocks.length cb] 27 := (at_off (at_off (at_off (at_off (at_off (at_off (at_off h2 (by omega)) (by omega)) (by omega)) (by omega)) (by omega)) (by omega)) (by omega))
     have gS : FiS WD w.heap.size (w.heap.size + 2) a0 len cap (((((((v7.setCell ⟨(w.heap.size + 1), 0, none⟩ (.int .i64 i.op)).setCell ⟨(w.heap.size + 1), 1, none⟩ (.int .i64 i.w)).setCell ⟨(w.heap.size + 1), 2, none⟩ (.int .i64 i.a)).setCell ⟨(w.heap.size + 1), 3, none⟩ (.int .i64 i.b)).setCell ⟨(w.heap.size + 1), 4, none⟩ (.int .i64 i.c)).setCell ⟨(w.heap.size + 1), 5, none⟩ (.int .i64 i.imm)).setCell ⟨(w.heap.size + 1), 6, none⟩ (.slice au i.args.length ac)) := (FiS.set (FiS.set (FiS.set (FiS.set (FiS.set (FiS.set (FiS.set hS (by omega) (.inr rfl)) (by omega) (.inr rfl)) (by omega) (.inr rfl)) (by omega) (.inr rfl)) (by omega) (.inr rfl)) (by omega) (.inr rfl)) (by omega) (.inr rfl))
     refine hK.out _ _ ?_ (fun hHeld2 => ?_)
     ·exact gS
     clear y0 y1 y2 y3 y4 y5 y6 yf
     clear h2 h3 hS
     clear hK K hHeld
     have hHeld := hHeld2
     clear hHeld2
     try simp only [Act.put, List.setIfInBounds_toArray, List.set_cons_zero, List.set_cons_succ]
     refine wpAnyH_done (by kernel_rfl) ?_ _
     go_wp2_with fail
     go_meet
     case rel => exact ⟨rfl, i, au, ac, hSI, gS, g2, g3, HAI.out.keep ⟨gS.size, fun b h1 h2 => gS.blk b h2 (by omega) (by omega) (by omega)⟩⟩
    case rest =>
     obtain ⟨WZ, hWZ⟩ : ∃ W, W = wc := ⟨_, rfl⟩
     subst hWZ
     obtain ⟨rfl, i, au, ac, hil, kS, k2, k3, ki⟩ := hcut
     go_wp2_with fail
     have hz9 := kS.size
     have hag : Agree (w.heap.size + 3) WD WZ := ⟨kS.size, fun b h1 h2 => kS.blk b h2 (by omega) (by omega) (by omega)⟩
     refine bodyPost_ret (v := .tuple #[.agg #[.slice up d.params.length cp, .int .i64 d.ret, .slice (some ⟨bb, bo, none⟩) d.blocks.length cb], .agg #[.int .i64 i.op, .int .i64 i.w, .int .i64 i.a, .int .i64 i.b, .int .i64 i.c, .int .i64 i.imm, .slice au i.args.length ac]]) (results_two Tryz.results6 _ _ w.heap.size (w.heap.size + 1) _ _ rfl rfl (run_loadVar_row _ _ 27 _ _ (0, 0) _ k2 Tryz.underlying27 rfl (by kernel_rfl)) (run_loadVar_row _ _ 29 _ _ (0, 0) _ k3 Tryz.underlying29 rfl (by kernel_rfl))) rfl ⟨d, i, up, some ⟨bb, bo, none⟩, au, cp, cb, ac, rfl, hsm, hil, (hI9.keep hag).low (by omega), (hB9.keep hag).low (by omega), ki.low (by omega), kS.os.trans ho9, kS.tape.trans ht9, kS.output.trans hp9, by omega, fun b hb => (kS.blk b (by omega) (by omega) (by omega) (by omega)).trans (hWD b hb)⟩
   ·have PC := countS_any (w.heap.size + 3) d up cp (some ⟨bb, bo, none⟩) cb WD hsm hB8
    have hcnt : (cntF d : Int) ≤ 10000000000000 := cnt_le hsm
    go_wp2_with fail
    refine PC.mono ?_
    rintro e W9 ⟨rfl, b9⟩
    have hz9 : WD.heap.size ≤ W9.heap.size := b9.size
    have hF9b := hF8.below b9
    have h29 := h28.below b9
    have h39 := h38.below b9
    have hc9 : Code a0 len w.heap.size W9 := code_part hc8 fun b hb => b9.block b (by omega)
    have hr9 : Rd (w.heap.size + 2) a0 len cap W9 := rd_keep hr8 b9.size (fun b hb => b9.block b (by omega))
    have hB9 : BlocksAt W9 (w.heap.size + 3) (some ⟨bb, bo, none⟩) d.blocks := hB8.keep (agree_of_below b9 _)
    have hI9 : IntsAt W9 (w.heap.size + 3) up d.params := hI8.keep (agree_of_below b9 _)
    have hW9 : ∀ b, b < w.heap.size → W9.heap[b]? = w.heap[b]? := fun b hb => (b9.block b (by omega)).trans (hW8 b hb)
    have ho9 : W9.os = w.os := b9.os.trans ho8
    have ht9 : W9.tape = w.tape := b9.tape.trans ht8
    have hp9 : W9.output = w.output := b9.output.trans hp8
    clear PC b9 hF8 h28 h38 hc8 hr8 hB8 hI8 hW8 ho8 ht8 hp8 x0 x1 x2 X8 hIT8
    have hF9 : ∀ V, FiS W9 w.heap.size (w.heap.size + 2) a0 len cap V → ∀ (o : Nat) (v : Value), (#[.slice up d.params.length cp, .int .i64 d.ret, .slice (some ⟨bb, bo, none⟩) d.blocks.length cb] : Array Value)[o]? = some v → V.cell? ⟨w2.heap.size, o, none⟩ = some v := fun V k o v hv => (cell_of_heap ((k.blk w2.heap.size (by omega) (by omega) (by omega) (by omega)).trans hF9b)).trans hv
    go_wp2_with fail
    go_cut [2] (fun s2 wz => s2 = .pointer (some ⟨w.heap.size, 0, none⟩) ∧ ∃ (i : InstD) (au : Option Addr) (ac : Nat), i.args.length ≤ 1048576 ∧ FiS W9 w.heap.size (w.heap.size + 2) a0 len cap wz ∧ At wz w.heap.size #[.slice up d.params.length cp, .int .i64 d.ret, .slice (some ⟨bb, bo, none⟩) d.blocks.length cb] 27 ∧ At wz (w.heap.size + 1) #[.int .i64 i.op, .int .i64 i.w, .int .i64 i.a, .int .i64 i.b, .int .i64 i.c, .int .i64 i.imm, .slice au i.args.length ac] 29 ∧ IntsAt wz (w.heap.size + 3) au i.args)
    case first =>
     refine wp_region_held_drew (S := fun w' => FiS W9 w.heap.size (w.heap.size + 2) a0 len cap w') (by kernel_rfl) (FiS.drew (FiS.start (V := W9) hr9 hc9)) (fun hHeld => ?_)
     have hS : FiS W9 w.heap.size (w.heap.size + 2) a0 len cap W9.drew := FiS.drew (FiS.start (V := W9) hr9 hc9)
     have h2 : At W9.drew w.heap.size #[.slice none 0 0, .int .i64 0, .slice none 0 0] 27 := h29
     have h3 : At W9.drew (w.heap.size + 1) #[.int .i64 0, .int .i64 0, .int .i64 0, .int .i64 0, .int .i64 0, .int .i64 0, .slice none 0 0] 29 := h39
     refine wpAnyH_take (i := 0) (v := ?_) rfl (by kernel_rfl) (by kernel_rfl) (by kernel_rfl) (fun _ _ _ h => h) (Or.inl ⟨by rfl, ?_⟩) hHeld ?_
     rotate_left
     ·intro w9 hS9
      have g0 := hF9 w9 hS9 0 _ rfl
      have g1 := hF9 w9 hS9 1 _ rfl
      have g2 := hF9 w9 hS9 2 _ rfl
      go_simp
      try with_reducible rfl
     show wpAnyH _ _ _ _ _ _ _ (Act.put _ (some _) _) _
     simp only [Act.put, List.setIfInBounds_toArray, List.set_cons_zero, List.set_cons_succ]
     refine wpAnyH_take (i := 1) (v := ?_) rfl (by kernel_rfl) (by kernel_rfl) (by kernel_rfl) (fun _ _ _ h => h) (Or.inl ⟨by rfl, ?_⟩) hHeld ?_
     rotate_left
     ·intro w9 hS9
      go_simp
      try with_reducible rfl
     show wpAnyH _ _ _ _ _ _ _ (Act.put _ (some _) _) _
     simp only [Act.put, List.setIfInBounds_toArray, List.set_cons_zero, List.set_cons_succ]
     refine wpAnyH_take (i := 4) (v := ?_) rfl (by kernel_rfl) (by kernel_rfl) (by kernel_rfl) (fun _ _ _ h => h) (Or.inl ⟨by rfl, ?_⟩) hHeld ?_
     rotate_left
     ·intro w9 hS9
      go_simp
      try with_reducible rfl
     show wpAnyH _ _ _ _ _ _ _ (Act.put _ (some _) _) _
     simp only [Act.put, List.setIfInBounds_toArray, List.set_cons_zero, List.set_cons_succ]
     refine wpAnyH_take (i := 6) (v := ?_) rfl (by kernel_rfl) (by kernel_rfl) (by kernel_rfl) (fun _ _ _ h => h) (Or.inl ⟨by rfl, ?_⟩) hHeld ?_
     rotate_left
     ·intro w9 hS9
      go_simp
      try with_reducible rfl
     show wpAnyH _ _ _ _ _ _ _ (Act.put _ (some _) _) _
     simp only [Act.put, List.setIfInBounds_toArray, List.set_cons_zero, List.set_cons_succ]
     refine wpAnyH_take (i := 7) (v := ?_) rfl (by kernel_rfl) (by kernel_rfl) (by kernel_rfl) (fun _ _ _ h => h) (Or.inl ⟨by rfl, ?_⟩) hHeld ?_
     rotate_left
     ·intro w9 hS9
      go_simp
      try with_reducible rfl
     show wpAnyH _ _ _ _ _ _ _ (Act.put _ (some _) _) _
     simp only [Act.put, List.setIfInBounds_toArray, List.set_cons_zero, List.set_cons_succ]
     refine wpAnyH_take (i := 9) (v := ?_) rfl (by kernel_rfl) (by kernel_rfl) (by kernel_rfl) (fun _ _ _ h => h) (Or.inl ⟨by rfl, ?_⟩) hHeld ?_
     rotate_left
     ·intro w9 hS9
      go_simp
      try with_reducible rfl
     show wpAnyH _ _ _ _ _ _ _ (Act.put _ (some _) _) _
     simp only [Act.put, List.setIfInBounds_toArray, List.set_cons_zero, List.set_cons_succ]
     refine wpAnyH_take (i := 10) (v := ?_) rfl (by kernel_rfl) (by kernel_rfl) (by kernel_rfl) (fun _ _ _ h => h) (Or.inl ⟨by rfl, ?_⟩) hHeld ?_
     rotate_left
     ·intro w9 hS9
      go_simp
      try with_reducible rfl
     show wpAnyH _ _ _ _ _ _ _ (Act.put _ (some _) _) _
     simp only [Act.put, List.setIfInBounds_toArray, List.set_cons_zero, List.set_cons_succ]
     refine wpAnyH_ready (rs := [2]) (by kernel_rfl) (by simp) ?_
     refine AllReadyH.cons rfl (fun K hK => ?_) AllReadyH.nil
     go_simp
     go_wp2_with (go_at_call 24; refine (below_any (w.heap.size + 2) a0 len cap _ _ hS.rd).mono ?_; rintro e v1 ⟨m0, rfl, p8, q8, hr, hg⟩)
     clear q8
     clear p8
     have gS : FiS W9 w.heap.size (w.heap.size + 2) a0 len cap v1 := hS.grown (by omega) hr hg
     have g2 := at_grown h2 hg (by omega)
     have g3 := at_grown h3 hg (by omega)
     refine hK.out _ _ ?_ (fun hHeld2 => ?_)
     ·exact gS
     clear h2 h3 hS hr hg
     clear hK K hHeld
     have hHeld := hHeld2
     clear hHeld2
     try simp only [Act.put, List.setIfInBounds_toArray, List.set_cons_zero, List.set_cons_succ]
     have h2 := g2
     have h3 := g3
     have hS := gS
     clear g2 g3 gS
     refine wpAnyH_take (i := 3) (v := ?_) rfl (by kernel_rfl) (by kernel_rfl) (by kernel_rfl) (fun _ _ _ h => h) (Or.inl ⟨by rfl, ?_⟩) hHeld ?_
     rotate_left
     ·intro w9 hS9
      go_simp
      try with_reducible rfl
     show wpAnyH _ _ _ _ _ _ _ (Act.put _ (some _) _) _
     simp only [Act.put, List.setIfInBounds_toArray, List.set_cons_zero, List.set_cons_succ]
     refine wpAnyH_ready (rs := [5]) (by kernel_rfl) (by simp) ?_
     refine AllReadyH.cons rfl (fun K hK => ?_) AllReadyH.nil
     go_simp
     go_wp2_with (go_at_call 27; refine (width_any (w.heap.size + 2) a0 len cap _ hS.rd).mono ?_; rintro e v2 ⟨m1, rfl, p8, hr, hg⟩)
     clear p8
     have gS : FiS W9 w.heap.size (w.heap.size + 2) a0 len cap v2 := hS.grown (by omega) hr hg
     have g2 := at_grown h2 hg (by omega)
     have g3 := at_grown h3 hg (by omega)
     refine hK.out _ _ ?_ (fun hHeld2 => ?_)
     ·exact gS
     clear h2 h3 hS hr hg
     clear hK K hHeld
     have hHeld := hHeld2
     clear hHeld2
     try simp only [Act.put, List.setIfInBounds_toArray, List.set_cons_zero, List.set_cons_succ]
     have h2 := g2
     have h3 := g3
     have hS := gS
     clear g2 g3 gS
     refine wpAnyH_ready (rs := [8]) (by kernel_rfl) (by simp) ?_
     refine AllReadyH.cons rfl (fun K hK => ?_) AllReadyH.nil
     go_simp
     go_wp2_with (go_at_call 28; refine (off_w (w.heap.size + 2) a0 len cap _ _ hS.rd (by omega) (by omega)).mono ?_; rintro e v3 ⟨m2, rfl, hr, hg⟩)
     have gS : FiS W9 w.heap.size (w.heap.size + 2) a0 len cap v3 := hS.grown (by omega) hr hg
     have g2 := at_grown h2 hg (by omega)
     have g3 := at_grown h3 hg (by omega)
     refine hK.out _ _ ?_ (fun hHeld2 => ?_)
     ·exact gS
     clear h2 h3 hS hr hg
     clear hK K hHeld
     have hHeld := hHeld2
     clear hHeld2
     try simp only [Act.put, List.setIfInBounds_toArray, List.set_cons_zero, List.set_cons_succ]
     have h2 := g2
     have h3 := g3
     have hS := gS
     clear g2 g3 gS
     refine wpAnyH_ready (rs := [11]) (by kernel_rfl) (by simp) ?_
     refine AllReadyH.cons rfl (fun K hK => ?_) AllReadyH.nil
     go_simp
     go_wp2_with (go_at_call 28; refine (off_w (w.heap.size + 2) a0 len cap _ _ hS.rd (by omega) (by omega)).mono ?_; rintro e v4 ⟨m3, rfl, hr, hg⟩)
     have gS : FiS W9 w.heap.size (w.heap.size + 2) a0 len cap v4 := hS.grown (by omega) hr hg
     have g2 := at_grown h2 hg (by omega)
     have g3 := at_grown h3 hg (by omega)
     refine hK.out _ _ ?_ (fun hHeld2 => ?_)
     ·exact gS
     clear h2 h3 hS hr hg
     clear hK K hHeld
     have hHeld := hHeld2
     clear hHeld2
     try simp only [Act.put, List.setIfInBounds_toArray, List.set_cons_zero, List.set_cons_succ]
     have h2 := g2
     have h3 := g3
     have hS := gS
     clear g2 g3 gS
     refine wpAnyH_take (i := 12) (v := ?_) rfl (by kernel_rfl) (by kernel_rfl) (by kernel_rfl) (fun _ _ _ h => h) (Or.inl ⟨by rfl, ?_⟩) hHeld ?_
     rotate_left
     ·intro w9 hS9
      go_simp
      try with_reducible rfl
     show wpAnyH _ _ _ _ _ _ _ (Act.put _ (some _) _) _
     simp only [Act.put, List.setIfInBounds_toArray, List.set_cons_zero, List.set_cons_succ]
     have y0 : v4.cell? ⟨w.heap.size, 0, none⟩ = some (.slice none 0 0) := h2.cell 0
     have y1 : v4.cell? ⟨w.heap.size, 1, none⟩ = some (.int .i64 0) := h2.cell 1
     have y2 : v4.cell? ⟨w.heap.size, 2, none⟩ = some (.slice none 0 0) := h2.cell 2
     have yf : ∀ o, v4.frozen? ⟨w.heap.size, o, none⟩ = false := fun o => froz_of_heap h2
     refine wpAnyH_ready (rs := [13]) (by kernel_rfl) (by simp) ?_
     refine AllReadyH.cons rfl (fun K hK => ?_) AllReadyH.nil
     go_simp
     go_wp2_with fail
     have g2 : At (((v4.setCell ⟨w.heap.size, 0, none⟩ (.slice up d.params.length cp)).setCell ⟨w.heap.size, 1, none⟩ (.int .i64 d.ret)).setCell ⟨w.heap.size, 2, none⟩ (.slice (some ⟨bb, bo, none⟩) d.blocks.length cb)) w.heap.size #[.slice up d.params.length cp, .int .i64 d.ret, .slice (some ⟨bb, bo, none⟩) d.blocks.length cb] 27 := (heap_set (o := 2) (v := .slice (some ⟨bb, bo, none⟩) d.blocks.length cb) (heap_set (o := 1) (v := .int .i64 d.ret) (heap_set (o := 0) (v := .slice up d.params.length cp) h2)))
     have g3 : At (((v4.setCell ⟨w.heap.size, 0, none⟩ (.slice up d.params.length cp)).setCell ⟨w.heap.size, 1, none⟩ (.int .i64 d.ret)).setCell ⟨w.heap.size, 2, none⟩ (.slice (some ⟨bb, bo, none⟩) d.blocks.length cb)) (w.heap.size + 1) #[.int .i64 0, .int .i64 0, .int .i64 0, .int .i64 0, .int .i64 0, .int .i64 0, .slice none 0 0] 29 := (at_off (at_off (at_off h3 (by omega)) (by omega)) (by omega))
     have gS : FiS W9 w.heap.size (w.heap.size + 2) a0 len cap (((v4.setCell ⟨w.heap.size, 0, none⟩ (.slice up d.params.length cp)).setCell ⟨w.heap.size, 1, none⟩ (.int .i64 d.ret)).setCell ⟨w.heap.size, 2, none⟩ (.slice (some ⟨bb, bo, none⟩) d.blocks.length cb)) := (FiS.set (FiS.set (FiS.set hS (by omega) (.inl rfl)) (by omega) (.inl rfl)) (by omega) (.inl rfl))
     refine hK.out _ _ ?_ (fun hHeld2 => ?_)
     ·exact gS
     clear y0 y1 y2 yf
     clear h2 h3 hS
     clear hK K hHeld
     have hHeld := hHeld2
     clear hHeld2
     try simp only [Act.put, List.setIfInBounds_toArray, List.set_cons_zero, List.set_cons_succ]
     generalize (((v4.setCell ⟨w.heap.size, 0, none⟩ (.slice up d.params.length cp)).setCell ⟨w.heap.size, 1, none⟩ (.int .i64 d.ret)).setCell ⟨w.heap.size, 2, none⟩ (.slice (some ⟨bb, bo, none⟩) d.blocks.length cb)) = v5 at g2 g3 gS hHeld ⊢
     have h2 := g2
     have h3 := g3
     have hS := gS
     clear g2 g3 gS
     have y0 : v5.cell? ⟨(w.heap.size + 1), 0, none⟩ = some (.int .i64 0) := h3.cell 0
     have y1 : v5.cell? ⟨(w.heap.size + 1), 1, none⟩ = some (.int .i64 0) := h3.cell 1
     have y2 : v5.cell? ⟨(w.heap.size + 1), 2, none⟩ = some (.int .i64 0) := h3.cell 2
     have y3 : v5.cell? ⟨(w.heap.size + 1), 3, none⟩ = some (.int .i64 0) := h3.cell 3
     have y4 : v5.cell? ⟨(w.heap.size + 1), 4, none⟩ = some (.int .i64 0) := h3.cell 4
     have y5 : v5.cell? ⟨(w.heap.size + 1), 5, none⟩ = some (.int .i64 0) := h3.cell 5
     have y6 : v5.cell? ⟨(w.heap.size + 1), 6, none⟩ = some (.slice none 0 0) := h3.cell 6
     have yf : ∀ o, v5.frozen? ⟨(w.heap.size + 1), o, none⟩ = false := fun o => froz_of_heap h3
     refine wpAnyH_ready (rs := [14]) (by kernel_rfl) (by simp) ?_
     refine AllReadyH.cons rfl (fun K hK => ?_) AllReadyH.nil
     go_simp
     go_wp2_with fail
     have g3 : At (((((((v5.setCell ⟨(w.heap.size + 1), 0, none⟩ (.int .i64 (IntKind.i64.wrap (1 + m0)))).setCell ⟨(w.heap.size + 1), 1, none⟩ (.int .i64 m1)).setCell ⟨(w.heap.size + 1), 2, none⟩ (.int .i64 m2)).setCell ⟨(w.heap.size + 1), 3, none⟩ (.int .i64 m3)).setCell ⟨(w.heap.size + 1), 4, none⟩ (.int .i64 0)).setCell ⟨(w.heap.size + 1), 5, none⟩ (.int .i64 0)).setCell ⟨(w.heap.size + 1), 6, none⟩ (.slice none 0 0)) (w.heap.size + 1) #[.int .i64 (IntKind.i64.wrap (1 + m0)), .int .i64 m1, .int .i64 m2, .int .i64 m3, .int .i64 0, .int .i64 0, .slice none 0 0] 29 := (heap_set (o := 6) (v := .slice none 0 0) (heap_set (o := 5) (v := .int .i64 0) (heap_set (o := 4) (v := .int .i64 0) (heap_set (o := 3) (v := .int .i64 m3) (heap_set (o := 2) (v := .int .i64 m2) (heap_set (o := 1) (v := .int .i64 m1) (heap_set (o := 0) (v := .int .i64 (IntKind.i64.wrap (1 + m0))) h3)))))))
     have g2 : At (((((((v5.setCell ⟨(w.heap.size + 1), 0, none⟩ (.int .i64 (IntKind.i64.wrap (1 + m0)))).setCell ⟨(w.heap.size + 1), 1, none⟩ (.int .i64 m1)).setCell ⟨(w.heap.size + 1), 2, none⟩ (.int .i64 m2)).setCell ⟨(w.heap.size + 1), 3, none⟩ (.int .i64 m3)).setCell ⟨(w.heap.size + 1), 4, none⟩ (.int .i64 0)).setCell ⟨(w.heap.size + 1), 5, none⟩ (.int .i64 0)).setCell ⟨(w.heap.size + 1), 6, none⟩ (.slice none 0 0)) w.heap.size #[.slice up d.params.length cp, .int .i64 d.ret, .slice (some ⟨bb, bo, none⟩) d.blocks.length cb] 27 := (at_off (at_off (at_off (at_off (at_off (at_off (at_off h2 (by omega)) (by omega)) (by omega)) (by omega)) (by omega)) (by omega)) (by omega))
     have gS : FiS W9 w.heap.size (w.heap.size + 2) a0 len cap (((((((v5.setCell ⟨(w.heap.size + 1), 0, none⟩ (.int .i64 (IntKind.i64.wrap (1 + m0)))).setCell ⟨(w.heap.size + 1), 1, none⟩ (.int .i64 m1)).setCell ⟨(w.heap.size + 1), 2, none⟩ (.int .i64 m2)).setCell ⟨(w.heap.size + 1), 3, none⟩ (.int .i64 m3)).setCell ⟨(w.heap.size + 1), 4, none⟩ (.int .i64 0)).setCell ⟨(w.heap.size + 1), 5, none⟩ (.int .i64 0)).setCell ⟨(w.heap.size + 1), 6, none⟩ (.slice none 0 0)) := (FiS.set (FiS.set (FiS.set (FiS.set (FiS.set (FiS.set (FiS.set hS (by omega) (.inr rfl)) (by omega) (.inr rfl)) (by omega) (.inr rfl)) (by omega) (.inr rfl)) (by omega) (.inr rfl)) (by omega) (.inr rfl)) (by omega) (.inr rfl))
     refine hK.out _ _ ?_ (fun hHeld2 => ?_)
     ·exact gS
     clear y0 y1 y2 y3 y4 y5 y6 yf
     clear h2 h3 hS
     clear hK K hHeld
     have hHeld := hHeld2
     clear hHeld2
     try simp only [Act.put, List.setIfInBounds_toArray, List.set_cons_zero, List.set_cons_succ]
     refine wpAnyH_done (by kernel_rfl) ?_ _
     go_wp2_with fail
     go_meet
     case rel => exact ⟨rfl, ⟨IntKind.i64.wrap (1 + m0), m1, m2, m3, 0, 0, []⟩, none, 0, by simp, gS, g2, g3, ⟨by simp, .inl rfl⟩⟩
    case rest =>
     obtain ⟨WZ, hWZ⟩ : ∃ W, W = wc := ⟨_, rfl⟩
     subst hWZ
     obtain ⟨rfl, i, au, ac, hil, kS, k2, k3, ki⟩ := hcut
     go_wp2_with fail
     have hz9 := kS.size
     have hag : Agree (w.heap.size + 3) W9 WZ := ⟨kS.size, fun b h1 h2 => kS.blk b h2 (by omega) (by omega) (by omega)⟩
     refine bodyPost_ret (v := .tuple #[.agg #[.slice up d.params.length cp, .int .i64 d.ret, .slice (some ⟨bb, bo, none⟩) d.blocks.length cb], .agg #[.int .i64 i.op, .int .i64 i.w, .int .i64 i.a, .int .i64 i.b, .int .i64 i.c, .int .i64 i.imm, .slice au i.args.length ac]]) (results_two Tryz.results6 _ _ w.heap.size (w.heap.size + 1) _ _ rfl rfl (run_loadVar_row _ _ 27 _ _ (0, 0) _ k2 Tryz.underlying27 rfl (by kernel_rfl)) (run_loadVar_row _ _ 29 _ _ (0, 0) _ k3 Tryz.underlying29 rfl (by kernel_rfl))) rfl ⟨d, i, up, some ⟨bb, bo, none⟩, au, cp, cb, ac, rfl, hsm, hil, (hI9.keep hag).low (by omega), (hB9.keep hag).low (by omega), ki.low (by omega), kS.os.trans ho9, kS.tape.trans ht9, kS.output.trans hp9, by omega, fun b hb => (kS.blk b (by omega) (by omega) (by omega) (by omega)).trans (hW9 b hb)⟩
end Go.Proofs.YtoknhppjdmoblaaGreatDoor
