/- The draw of an instruction. -/
import Derived.Test.YtjmoonbpfieifaaGreatDoorRiV
import Derived.Test.YtjmoonbpfieifaaGreatDoorGnZQ
import Derived.Deep.RegionHeld2
namespace Go.Proofs.YtjmoonbpfieifaaGreatDoor
open Go.RowKit
set_option linter.unusedVariables false
set_option linter.unusedSimpArgs false
def InstCells (w : World) (b o lo : Nat) (i : InstD) : Prop := w.cell? ⟨b, o, none⟩ = some (.int .i64 i.op) ∧ w.cell? ⟨b, o + 1, none⟩ = some (.int .i64 i.w) ∧ w.cell? ⟨b, o + 2, none⟩ = some (.int .i64 i.a) ∧ w.cell? ⟨b, o + 3, none⟩ = some (.int .i64 i.b) ∧ w.cell? ⟨b, o + 4, none⟩ = some (.int .i64 i.c) ∧ w.cell? ⟨b, o + 5, none⟩ = some (.int .i64 i.imm) ∧ ∃ u c, w.cell? ⟨b, o + 6, none⟩ = some (.slice u i.args.length c) ∧ IntsAt w lo u i.args
theorem insts_open {w : World} {lo : Nat} {a : Option Addr} {l : List InstD} (h : InstsAt w lo a l) (hl : l.length ≠ 0) : ∃ b off, a = some ⟨b, off, none⟩ ∧ lo ≤ b ∧ b < w.heap.size ∧ ∀ j, j < l.length → InstCells w b (off + j * 7) lo (l.getD j inst0) := by
  rcases h.2 with e | ⟨b, off, h1, h2, h3, h4⟩
  · rw [e] at hl; simp at hl
  · exact ⟨b, off, h1, h2, h3, fun j hj => h4 j hj⟩
theorem ints_lit2 (w : World) : IntsAt (w.alloc (.cells #[.int .i64 1, .int .i64 2] 2)) w.heap.size (some ⟨w.heap.size, 0, none⟩) [1, 2] := by
  refine ⟨by simp, .inr ⟨w.heap.size, 0, rfl, Nat.le_refl _, by simp, fun i hi => ?_⟩⟩
  have h := At.new w #[.int .i64 1, .int .i64 2] 2
  match i, hi with
  | 0, _ => exact h.cell 0
  | 1, _ => exact h.cell 1
set_option maxHeartbeats 4000000 in
set_option maxRecDepth 100000 in
theorem drawOp (a0 : Option Addr) (len cap : Nat) (w : World) (hl : len ≤ 1048576) (hc : Code a0 len w.heap.size w) :
    Calls Tryz.prog 16 #[.slice a0 len cap] w fun e w' => InstDrawn w.heap.size w' e ∧ Below w.heap.size w w' := by
  have hb0 : Below w.heap.size w (w.alloc (.cells #[.int .i64 0, .int .i64 0, .int .i64 0, .int .i64 0, .int .i64 0, .int .i64 0, .slice none 0 0] 26)) := (Below.refl _ _).alloc (Nat.le_refl _) _
  have hrd := rd_open (cap := cap) hl (hc.below hb0)
  have PM := module_any _ a0 len cap _ hrd
  have hsz : (w.alloc (.cells #[.int .i64 0, .int .i64 0, .int .i64 0, .int .i64 0, .int .i64 0, .int .i64 0, .slice none 0 0] 26)).heap.size = w.heap.size + 1 := by simp
  go_enter Tryz.func16, Tryz.ntmps16
  rw [hsz] at PM
  go_wp2_with (first | (go_at_call 27; refine (open_any _ _ _ _).mono ?_; rintro e w0 ⟨rfl, rfl⟩; simp only [hsz]) | (go_at_call 35; refine PM.mono ?_; rintro e w2 ⟨gm, n, cm, rfl, hn1, d, up, ub, cp, cb, r0, r1, r2, hsm, hone, hin, hbl, hrd2, hold, hs2, o1, o2, o3⟩; have hi0 : (0 : Int) < (n : Int) := (by omega); have hfld := field_mod (some ⟨gm, 0, none⟩) n cm w2))
  have hlo : (((w.alloc (.cells #[.int .i64 0, .int .i64 0, .int .i64 0, .int .i64 0, .int .i64 0, .int .i64 0, .slice none 0 0] 26)).alloc (.cells #[.slice a0 len cap, .int .i64 0] 91))).heap.size = w.heap.size + 2 := by simp
  rw [hlo] at hin hbl
  obtain ⟨bb, bo, rfl, hbb, hbl2, hcl⟩ : ∃ b off, ub = some ⟨b, off, none⟩ ∧ w.heap.size + 2 ≤ b ∧ b < w2.heap.size ∧ True := by
    rcases hbl.2 with h | ⟨b, off, h1, h2, h3, _⟩
    · rw [h] at hone; simp at hone
    · exact ⟨b, off, h1, h2, h3, trivial⟩
  have hz2 : w.heap.size + 2 ≤ w2.heap.size := by have := hs2; simp at this; omega
  have hRb : w2.heap[w.heap.size]? = some (.cells #[.int .i64 0, .int .i64 0, .int .i64 0, .int .i64 0, .int .i64 0, .int .i64 0, .slice none 0 0] 26 (0, 0)) := (hold w.heap.size (by simp; omega) (by omega)).trans (heap_alloc2_old _ _ _)
  have hW2 : ∀ b, b < w.heap.size → w2.heap[b]? = w.heap[b]? := fun b hb => (hold b (by simp; omega) (by omega)).trans ((Below.heap_alloc _ _ _ (by simp; omega)).trans (Below.heap_alloc _ _ _ hb))
  obtain ⟨wT, hwT⟩ : ∃ wT, wT = w2.alloc (.cells #[.slice up d.params.length cp, .int .i64 d.ret, .slice (some ⟨bb, bo, none⟩) d.blocks.length cb] 59) := ⟨_, rfl⟩
  have hT : wT.heap[w2.heap.size]? = some (.cells #[.slice up d.params.length cp, .int .i64 d.ret, .slice (some ⟨bb, bo, none⟩) d.blocks.length cb] 59 (0, 0)) := by rw [hwT]; exact heap_alloc_last _ _
  have hBT : Below w2.heap.size w2 wT := by rw [hwT]; exact (Below.refl _ _).alloc (Nat.le_refl _) _
  have hrdT : Rd (w.heap.size + 1) a0 len cap wT := rd_keep hrd2 hBT.size fun b hb => hBT.block b (by omega)
  have HB := hbl.keep (agree_of_below hBT (w.heap.size + 2))
  have hbbT : bb < wT.heap.size := Nat.lt_of_lt_of_le hbl2 hBT.size
  have hzT : w.heap.size + 2 ≤ wT.heap.size := Nat.le_trans hz2 hBT.size
  have hRT : At wT w.heap.size #[.int .i64 0, .int .i64 0, .int .i64 0, .int .i64 0, .int .i64 0, .int .i64 0, .slice none 0 0] 26 := (hBT.block _ (by omega)).trans hRb
  have hWT : ∀ b, b < w.heap.size → wT.heap[b]? = w.heap[b]? := fun b hb => (hBT.block b (by omega)).trans (hW2 b hb)
  have ho1 : wT.os = w.os := hBT.os.trans o1
  have ho2 : wT.tape = w.tape := hBT.tape.trans o2
  have ho3 : wT.output = w.output := hBT.output.trans o3
  have hcells : ∀ i, i < d.blocks.length → ∃ Bk : BlockD, SmBlock Bk ∧ (∃ u c, wT.cell? ⟨bb, bo + i * 6, none⟩ = some (.slice u Bk.phis.length c) ∧ PhisAt wT (w.heap.size + 2) u Bk.phis) ∧ (∃ u c, wT.cell? ⟨bb, bo + i * 6 + 1, none⟩ = some (.slice u Bk.insts.length c) ∧ InstsAt wT (w.heap.size + 2) u Bk.insts) ∧ wT.cell? ⟨bb, bo + i * 6 + 2, none⟩ = some (.int .i64 Bk.term.kind) ∧ wT.cell? ⟨bb, bo + i * 6 + 3, none⟩ = some (.int .i64 Bk.term.a) ∧ wT.cell? ⟨bb, bo + i * 6 + 4, none⟩ = some (.int .i64 Bk.term.x) ∧ wT.cell? ⟨bb, bo + i * 6 + 5, none⟩ = some (.int .i64 Bk.term.y) := by
    rcases HB.2 with h | ⟨b, off, h1, h2, h3, h4⟩
    · rw [h] at hone; simp at hone
    · cases h1; exact fun i hi => ⟨_, hsm.2.2 _ (getD_mem block0 d.blocks i hi), h4 i hi⟩
  rw [← hwT]
  clear hwT PM hrd hfld r0 r1 r2 hin hbl HB hcl hold hRb hW2 hrd2 o1 o2 o3 hlo
  have hltT : w2.heap.size < wT.heap.size := (Array.getElem?_eq_some_iff.1 hT).1
  have HF : ∀ W, wT.grownBy W (some (w.heap.size + 1)) → W.cell? ⟨w2.heap.size, 2, none⟩ = some (.slice (some ⟨bb, bo, none⟩) d.blocks.length cb) := fun W k => (cell_of_heap ((k.block _ hltT (by intro e; have := Option.some.inj e; omega)).trans hT)).trans rfl
  have HC : ∀ W, wT.grownBy W (some (w.heap.size + 1)) → ∀ {o : Nat} {v : Value}, (wT.cell? ⟨bb, o, none⟩ = some v) → W.cell? ⟨bb, o, none⟩ = some v := fun W k o v h => (cell_block (k.block bb hbbT (by intro e; have := Option.some.inj e; omega))).trans h
  refine wp_region_held_drew (S := fun w' => Rd (w.heap.size + 1) a0 len cap w' ∧ wT.grownBy w' (some (w.heap.size + 1))) (by kernel_rfl) (⟨rd_drew hrdT, grown_drew (World.grownBy.refl _ _)⟩) (fun hHeld => ?_)
  refine wpAnyH_take (i := 0) (v := ?_) rfl (by kernel_rfl) (by kernel_rfl) (by kernel_rfl) (fun _ _ _ h => h) (Or.inl ⟨by rfl, ?_⟩) hHeld ?_
  rotate_left
  · intro w9 hS9
    go_simp
    try with_reducible rfl
  show wpAnyH _ _ _ _ _ _ _ (Act.put _ (some _) _) _
  simp only [Act.put, List.setIfInBounds_toArray, List.set_cons_zero, List.set_cons_succ]
  refine wpAnyH_take (i := 1) (v := ?_) rfl (by kernel_rfl) (by kernel_rfl) (by kernel_rfl) (fun _ _ _ h => h) (Or.inl ⟨by rfl, ?_⟩) hHeld ?_
  rotate_left
  · intro w9 hS9
    have g0 := HF w9 hS9.2
    go_simp
    try with_reducible rfl
  show wpAnyH _ _ _ _ _ _ _ (Act.put _ (some _) _) _
  simp only [Act.put, List.setIfInBounds_toArray, List.set_cons_zero, List.set_cons_succ]
  refine wpAnyH_take (i := 2) (v := ?_) rfl (by kernel_rfl) (by kernel_rfl) (by kernel_rfl) (fun _ _ _ h => h) (Or.inl ⟨by rfl, ?_⟩) hHeld ?_
  rotate_left
  · intro w9 hS9
    go_simp
    try with_reducible rfl
  show wpAnyH _ _ _ _ _ _ _ (Act.put _ (some _) _) _
  simp only [Act.put, List.setIfInBounds_toArray, List.set_cons_zero, List.set_cons_succ]
  refine wpAnyH_take (i := 3) (v := ?_) rfl (by kernel_rfl) (by kernel_rfl) (by kernel_rfl) (fun _ _ _ h => h) (Or.inl ⟨by rfl, ?_⟩) hHeld ?_
  rotate_left
  · intro w9 hS9
    go_simp
    try with_reducible rfl
  show wpAnyH _ _ _ _ _ _ _ (Act.put _ (some _) _) _
  simp only [Act.put, List.setIfInBounds_toArray, List.set_cons_zero, List.set_cons_succ]
  refine wpAnyH_take (i := 4) (v := ?_) rfl (by kernel_rfl) (by kernel_rfl) (by kernel_rfl) (fun _ _ _ h => h) (Or.inl ⟨by rfl, ?_⟩) hHeld ?_
  rotate_left
  · intro w9 hS9
    have g0 := HF w9 hS9.2
    go_simp
    try with_reducible rfl
  show wpAnyH _ _ _ _ _ _ _ (Act.put _ (some _) _) _
  simp only [Act.put, List.setIfInBounds_toArray, List.set_cons_zero, List.set_cons_succ]
  refine wpAnyH_take (i := 5) (v := ?_) rfl (by kernel_rfl) (by kernel_rfl) (by kernel_rfl) (fun _ _ _ h => h) (Or.inl ⟨by rfl, ?_⟩) hHeld ?_
  rotate_left
  · intro w9 hS9
    go_simp
    try with_reducible rfl
  show wpAnyH _ _ _ _ _ _ _ (Act.put _ (some _) _) _
  simp only [Act.put, List.setIfInBounds_toArray, List.set_cons_zero, List.set_cons_succ]
  refine wpAnyH_ready (rs := [6, 9]) (by kernel_rfl) (by simp) ?_
  refine AllReadyH.cons rfl (fun K hK => ?_) (AllReadyH.cons rfl (fun K hK => ?_) AllReadyH.nil)
  · go_simp
    go_wp2_with (go_at_call 36; refine (below_any (w.heap.size + 1) a0 len cap _ _ hHeld.1).mono ?_; rintro e w5 ⟨n5, rfl, p0, p1, hr5, hg5⟩)
    have hg6 : wT.grownBy w5 (some (w.heap.size + 1)) := grown_trans hHeld.2 hg5
    have hnl : n5.toNat < d.blocks.length := by omega
    have hnI : n5 < (d.blocks.length : Int) := by omega
    obtain ⟨Bk, hSB, ⟨pu, pc, k0, hph⟩, ⟨iu, ic, k1, hit⟩, k2, k3, k4, k5⟩ := hcells n5.toNat hnl
    refine hK.out _ _ ?_ (fun hHeld2 => ?_)
    · exact ⟨hr5, hg6⟩
    clear hK K
    have hPrev := hHeld
    clear hHeld
    have hHeld := hHeld2
    clear hHeld2
    try simp only [Act.put, List.setIfInBounds_toArray, List.set_cons_zero, List.set_cons_succ]
    refine wpAnyH_take (i := 7) (v := ?_) rfl (by kernel_rfl) (by kernel_rfl) (by kernel_rfl) (fun _ _ _ h => h) (Or.inl ⟨by rfl, ?_⟩) hHeld ?_
    rotate_left
    · intro w9 hS9
      go_simp
      try with_reducible rfl
    show wpAnyH _ _ _ _ _ _ _ (Act.put _ (some _) _) _
    simp only [Act.put, List.setIfInBounds_toArray, List.set_cons_zero, List.set_cons_succ]
    refine wpAnyH_take (i := 8) (v := ?_) rfl (by kernel_rfl) (by kernel_rfl) (by kernel_rfl) (fun _ _ _ h => h) (Or.inl ⟨by rfl, ?_⟩) hHeld ?_
    rotate_left
    · intro w9 hS9
      have g0 := HC w9 hS9.2 k0
      have g1 := HC w9 hS9.2 k1
      have g2 := HC w9 hS9.2 k2
      have g3 := HC w9 hS9.2 k3
      have g4 := HC w9 hS9.2 k4
      have g5 := HC w9 hS9.2 k5
      go_simp
      try with_reducible rfl
    show wpAnyH _ _ _ _ _ _ _ (Act.put _ (some _) _) _
    simp only [Act.put, List.setIfInBounds_toArray, List.set_cons_zero, List.set_cons_succ]
    refine wpAnyH_ready (rs := [9]) (by kernel_rfl) (by simp) ?_
    refine AllReadyH.cons rfl (fun K hK => ?_) AllReadyH.nil
    go_simp
    go_wp2_with fail
    refine hK.out _ _ ?_ (fun hHeld2 => ?_)
    · exact ⟨hHeld.1.alloc _, grown_trans hHeld.2 (World.grownBy_alloc _ _ _)⟩
    clear hK K
    have hPrev := hHeld
    clear hHeld
    have hHeld := hHeld2
    clear hHeld2
    try simp only [Act.put, List.setIfInBounds_toArray, List.set_cons_zero, List.set_cons_succ]
    refine wpAnyH_ready (rs := [10]) (by kernel_rfl) (by simp) ?_
    refine AllReadyH.cons rfl (fun K hK => ?_) AllReadyH.nil
    go_simp
    go_wp2_with fail
    refine hK.out _ _ ?_ (fun hHeld2 => ?_)
    · exact ⟨hPrev.1.alloc _, grown_trans hPrev.2 (World.grownBy_alloc _ _ _)⟩
    clear hK K
    clear hHeld
    have hHeld := hHeld2
    clear hHeld2
    try simp only [Act.put, List.setIfInBounds_toArray, List.set_cons_zero, List.set_cons_succ]
    refine wpAnyH_done (by kernel_rfl) ?_ _
    have X8 := At.new w5 #[.slice pu Bk.phis.length pc, .slice iu Bk.insts.length ic, .int .i64 Bk.term.kind, .int .i64 Bk.term.a, .int .i64 Bk.term.x, .int .i64 Bk.term.y] 69
    have hB9 : w5.heap.size ≥ wT.heap.size := hg6.size
    have hRd8 := hHeld.1
    have hG8 := hHeld.2
    generalize hBx : w5.heap.size = Bx at X8 hB9 ⊢
    generalize w5.alloc (.cells #[.slice pu Bk.phis.length pc, .slice iu Bk.insts.length ic, .int .i64 Bk.term.kind, .int .i64 Bk.term.a, .int .i64 Bk.term.x, .int .i64 Bk.term.y] 69) = W8 at X8 hRd8 hG8 ⊢
    clear hcells HC HF k0 k1 k2 k3 k4 k5 hph hPrev
    have y1 : W8.cell? ⟨Bx, 1, none⟩ = some (.slice iu Bk.insts.length ic) := X8.cell 1
    have HX8 : Hid (At W8 Bx #[.slice pu Bk.phis.length pc, .slice iu Bk.insts.length ic, .int .i64 Bk.term.kind, .int .i64 Bk.term.a, .int .i64 Bk.term.x, .int .i64 Bk.term.y] 69) := X8
    have HR8 : Hid (Rd (w.heap.size + 1) a0 len cap W8) := hRd8
    have HG8 : Hid (wT.grownBy W8 (some (w.heap.size + 1))) := hG8
    have HIT : Hid (InstsAt wT (w.heap.size + 2) iu Bk.insts) := hit
    clear X8 hRd8 hG8 hit
    by_cases hn0 : Bk.insts.length = 0
    · have hn1 : ((Bk.insts.length : Int) == 0) = true := by simp; exact List.length_eq_zero_iff.1 hn0
      have hn2 : (Bk.insts.length : Int) = 0 := by omega
      go_wp2_with fail
      refine (off_any (w.heap.size + 1) a0 len cap 1 27 _ HR8.out (by omega) (by omega) (by omega)).mono ?_
      rintro e w9 ⟨n9, rfl, hq0, hq1, hr9, hg9⟩
      have hgT : wT.grownBy w9 (some (w.heap.size + 1)) := grown_trans HG8.out hg9
      have hs9 : wT.heap.size ≤ w9.heap.size := hgT.size
      have kR9 : At w9 w.heap.size #[.int .i64 0, .int .i64 0, .int .i64 0, .int .i64 0, .int .i64 0, .int .i64 0, .slice none 0 0] 26 := (hgT.block w.heap.size (by omega) (by intro e; have := Option.some.inj e; omega)).trans hRT
      have kRa : At (w9.alloc (.cells #[.int .i64 1, .int .i64 2] 2)) w.heap.size #[.int .i64 0, .int .i64 0, .int .i64 0, .int .i64 0, .int .i64 0, .int .i64 0, .slice none 0 0] 26 := kR9.below ((Below.refl _ _).alloc (Nat.le_refl _) _)
      have HBW : Hid (Below w.heap.size w (w9.alloc (.cells #[.int .i64 1, .int .i64 2] 2))) := ⟨hgT.os.trans ho1, hgT.tape.trans ho2, hgT.output.trans ho3, by simp; omega, fun b hb => (Below.heap_alloc _ _ _ (by omega)).trans ((hgT.block b (by omega) (by intro e; have := Option.some.inj e; omega)).trans (hWT b hb))⟩
      have KI : IntsAt (w9.alloc (.cells #[.int .i64 1, .int .i64 2] 2)) w9.heap.size (some ⟨w9.heap.size, 0, none⟩) [1, 2] := ints_lit2 w9
      obtain ⟨wA, hwA⟩ : ∃ wA, w9.alloc (.cells #[.int .i64 1, .int .i64 2] 2) = wA := ⟨_, rfl⟩
      rw [hwA] at kRa HBW KI
      have HKI : Hid (IntsAt wA w9.heap.size (some ⟨w9.heap.size, 0, none⟩) [1, 2]) := KI
      clear KI hr9 hg9 hgT kR9
      have kR : At wA w.heap.size #[.int .i64 0, .int .i64 0, .int .i64 0, .int .i64 0, .int .i64 0, .int .i64 0, .slice none 0 0] 26 := kRa
      have z0 : wA.cell? ⟨w.heap.size, 0, none⟩ = some (.int .i64 0) := kR.cell 0
      have z1 : wA.cell? ⟨w.heap.size, 1, none⟩ = some (.int .i64 0) := kR.cell 1
      have z2 : wA.cell? ⟨w.heap.size, 2, none⟩ = some (.int .i64 0) := kR.cell 2
      have z3 : wA.cell? ⟨w.heap.size, 3, none⟩ = some (.int .i64 0) := kR.cell 3
      have z4 : wA.cell? ⟨w.heap.size, 4, none⟩ = some (.int .i64 0) := kR.cell 4
      have z5 : wA.cell? ⟨w.heap.size, 5, none⟩ = some (.int .i64 0) := kR.cell 5
      have z6 : wA.cell? ⟨w.heap.size, 6, none⟩ = some (.slice none 0 0) := kR.cell 6
      have zf : ∀ o, wA.frozen? ⟨w.heap.size, o, none⟩ = false := fun o => froz_of_heap kR
      go_wp2_with fail
      have hrr := (heap_set (o := 6) (v := .slice (some ⟨w9.heap.size, 0, none⟩) 2 2) (heap_set (o := 5) (v := .int .i64 0) (heap_set (o := 4) (v := .int .i64 0) (heap_set (o := 3) (v := .int .i64 0) (heap_set (o := 2) (v := .int .i64 3) (heap_set (o := 1) (v := .int .i64 0) (heap_set (o := 0) (v := .int .i64 n9) kR)))))))
      refine bodyPost_ret (v := .agg #[.int .i64 n9, .int .i64 0, .int .i64 3, .int .i64 0, .int .i64 0, .int .i64 0, .slice (some ⟨w9.heap.size, 0, none⟩) 2 2]) ((results_cell_row Tryz.results16 _ _ w.heap.size 26 _ (0, 0) _ rfl hrr Tryz.underlying26 rfl (by kernel_rfl)).trans (by rfl)) rfl ⟨⟨⟨n9, 0, 3, 0, 0, 0, [1, 2]⟩, some ⟨w9.heap.size, 0, none⟩, 2, rfl, by simp, ?_⟩, ?_⟩
      · exact (ints_set (ints_set (ints_set (ints_set (ints_set (ints_set (ints_set HKI.out (by omega)) (by omega)) (by omega)) (by omega)) (by omega)) (by omega)) (by omega)).low (by omega)
      · exact (by repeat (first | refine Below.setCell ?_ (by dsimp only; omega) _ | exact HBW.out))
    · have hn1 : ((Bk.insts.length : Int) == 0) = false := by simp; exact fun e => hn0 (by rw [e]; rfl)
      go_wp2_with fail
      refine (once_any (w.heap.size + 1) a0 len cap 12 W8 HR8.out (by omega)).mono ?_
      rintro e W7 ⟨b7, rfl, hr7, hg7⟩
      have hG7 : wT.grownBy W7 (some (w.heap.size + 1)) := grown_trans HG8.out hg7
      have HX7 : Hid (At W7 Bx #[.slice pu Bk.phis.length pc, .slice iu Bk.insts.length ic, .int .i64 Bk.term.kind, .int .i64 Bk.term.a, .int .i64 Bk.term.x, .int .i64 Bk.term.y] 69) := (hg7.block Bx HX8.out.lt (by intro e; have := Option.some.inj e; omega)).trans HX8.out
      cases b7
      · obtain ⟨ib, io, hib, hib0, hib1, hcl⟩ : ∃ b off, iu = some ⟨b, off, none⟩ ∧ w.heap.size + 2 ≤ b ∧ b < wT.heap.size ∧ ∀ j, j < Bk.insts.length → InstCells wT b (off + j * 7) (w.heap.size + 2) (Bk.insts.getD j inst0) := insts_open HIT.out (by omega)
        subst hib
        have HGT : Hid (wT.grownBy W7 (some (w.heap.size + 1))) := hG7
        have HR7 : Hid (Rd (w.heap.size + 1) a0 len cap W7) := hr7
        have hz7 : wT.heap.size ≤ W7.heap.size := HGT.out.size
        have HC7 : ∀ W : World, (∀ b, b < W7.heap.size → b ≠ (w.heap.size + 1) → b ≠ w.heap.size → W.heap[b]? = W7.heap[b]?) → ∀ {o : Nat} {v : Value}, (wT.cell? ⟨ib, o, none⟩ = some v) → W.cell? ⟨ib, o, none⟩ = some v := fun W k o v h => (cell_block ((k ib (by omega) (by omega) (by omega)).trans (HGT.out.block ib hib1 (by intro e; have := Option.some.inj e; omega)))).trans h
        have HB7 : ∀ W : World, (∀ b, b < W7.heap.size → b ≠ (w.heap.size + 1) → b ≠ w.heap.size → W.heap[b]? = W7.heap[b]?) → W.cell? ⟨Bx, 1, none⟩ = some (.slice (some ⟨ib, io, none⟩) Bk.insts.length ic) := fun W k => (cell_of_heap ((k Bx HX7.out.lt (by omega) (by omega)).trans HX7.out)).trans rfl
        go_wp2_with fail
        refine wp_region_held_drew (S := fun w' => ∀ b, b < W7.heap.size → b ≠ (w.heap.size + 1) → b ≠ w.heap.size → w'.heap[b]? = W7.heap[b]?) (by kernel_rfl) (fun _ _ _ _ => rfl) (fun hHeld => ?_)
        refine wpAnyH_take (i := 0) (v := ?_) rfl (by kernel_rfl) (by kernel_rfl) (by kernel_rfl) (fun _ _ _ h => h) (Or.inl ⟨by rfl, ?_⟩) hHeld ?_
        rotate_left
        · intro w9 hS9
          go_simp
          try with_reducible rfl
        show wpAnyH _ _ _ _ _ _ _ (Act.put _ (some _) _) _
        simp only [Act.put, List.setIfInBounds_toArray, List.set_cons_zero, List.set_cons_succ]
        refine wpAnyH_take (i := 1) (v := ?_) rfl (by kernel_rfl) (by kernel_rfl) (by kernel_rfl) (fun _ _ _ h => h) (Or.inl ⟨by rfl, ?_⟩) hHeld ?_
        rotate_left
        · intro w9 hS9
          have g0 := HB7 w9 hS9
          go_simp
          try with_reducible rfl
        show wpAnyH _ _ _ _ _ _ _ (Act.put _ (some _) _) _
        simp only [Act.put, List.setIfInBounds_toArray, List.set_cons_zero, List.set_cons_succ]
        refine wpAnyH_take (i := 2) (v := ?_) rfl (by kernel_rfl) (by kernel_rfl) (by kernel_rfl) (fun _ _ _ h => h) (Or.inl ⟨by rfl, ?_⟩) hHeld ?_
        rotate_left
        · intro w9 hS9
          go_simp
          try with_reducible rfl
        show wpAnyH _ _ _ _ _ _ _ (Act.put _ (some _) _) _
        simp only [Act.put, List.setIfInBounds_toArray, List.set_cons_zero, List.set_cons_succ]
        refine wpAnyH_take (i := 3) (v := ?_) rfl (by kernel_rfl) (by kernel_rfl) (by kernel_rfl) (fun _ _ _ h => h) (Or.inl ⟨by rfl, ?_⟩) hHeld ?_
        rotate_left
        · intro w9 hS9
          go_simp
          try with_reducible rfl
        show wpAnyH _ _ _ _ _ _ _ (Act.put _ (some _) _) _
        simp only [Act.put, List.setIfInBounds_toArray, List.set_cons_zero, List.set_cons_succ]
        refine wpAnyH_take (i := 4) (v := ?_) rfl (by kernel_rfl) (by kernel_rfl) (by kernel_rfl) (fun _ _ _ h => h) (Or.inl ⟨by rfl, ?_⟩) hHeld ?_
        rotate_left
        · intro w9 hS9
          have g0 := HB7 w9 hS9
          go_simp
          try with_reducible rfl
        show wpAnyH _ _ _ _ _ _ _ (Act.put _ (some _) _) _
        simp only [Act.put, List.setIfInBounds_toArray, List.set_cons_zero, List.set_cons_succ]
        refine wpAnyH_take (i := 5) (v := ?_) rfl (by kernel_rfl) (by kernel_rfl) (by kernel_rfl) (fun _ _ _ h => h) (Or.inl ⟨by rfl, ?_⟩) hHeld ?_
        rotate_left
        · intro w9 hS9
          go_simp
          try with_reducible rfl
        show wpAnyH _ _ _ _ _ _ _ (Act.put _ (some _) _) _
        simp only [Act.put, List.setIfInBounds_toArray, List.set_cons_zero, List.set_cons_succ]
        refine wpAnyH_ready (rs := [6]) (by kernel_rfl) (by simp) ?_
        refine AllReadyH.cons rfl (fun K hK => ?_) AllReadyH.nil
        go_simp
        go_wp2_with (go_at_call 36; refine (below_any (w.heap.size + 1) a0 len cap _ _ (rd_drew HR7.out)).mono ?_; rintro e w8 ⟨n8, rfl, p8, q8, hr8, hg8⟩)
        have hg9 : W7.grownBy w8 (some (w.heap.size + 1)) := ⟨hg8.os, hg8.tape, hg8.output, hg8.size, hg8.block⟩
        have hnl8 : n8.toNat < Bk.insts.length := by omega
        have hnI8 : n8 < (Bk.insts.length : Int) := by omega
        have hIC0 := hcl n8.toNat hnl8
        obtain ⟨i, hSI, hIC⟩ : ∃ i, i.args.length ≤ 1048576 ∧ InstCells wT ib (io + n8.toNat * 7) (w.heap.size + 2) i := ⟨_, hSB.2.2 _ (getD_mem inst0 Bk.insts n8.toNat hnl8), hIC0⟩
        clear hIC0
        obtain ⟨m0, m1, m2, m3, m4, m5, au, ac, m6, hai⟩ := hIC
        have HAI : Hid (IntsAt wT (w.heap.size + 2) au i.args) := hai
        clear hai
        have kR : At w8 w.heap.size #[.int .i64 0, .int .i64 0, .int .i64 0, .int .i64 0, .int .i64 0, .int .i64 0, .slice none 0 0] 26 := ((grown_trans HGT.out hg9).block w.heap.size (by omega) (by intro e; have := Option.some.inj e; omega)).trans hRT
        refine hK.out _ _ ?_ (fun hHeld2 => ?_)
        · exact fun b h1 h2 h3 => hg9.block b h1 (by intro e; exact h2 (Option.some.inj e))
        clear hK K
        have hPrev := hHeld
        clear hHeld
        have hHeld := hHeld2
        clear hHeld2
        try simp only [Act.put, List.setIfInBounds_toArray, List.set_cons_zero, List.set_cons_succ]
        refine wpAnyH_take (i := 7) (v := ?_) rfl (by kernel_rfl) (by kernel_rfl) (by kernel_rfl) (fun _ _ _ h => h) (Or.inl ⟨by rfl, ?_⟩) hHeld ?_
        rotate_left
        · intro w9 hS9
          go_simp
          try with_reducible rfl
        show wpAnyH _ _ _ _ _ _ _ (Act.put _ (some _) _) _
        simp only [Act.put, List.setIfInBounds_toArray, List.set_cons_zero, List.set_cons_succ]
        refine wpAnyH_take (i := 8) (v := ?_) rfl (by kernel_rfl) (by kernel_rfl) (by kernel_rfl) (fun _ _ _ h => h) (Or.inl ⟨by rfl, ?_⟩) hHeld ?_
        rotate_left
        · intro w9 hS9
          have g0 := HC7 w9 hS9 m0
          have g1 := HC7 w9 hS9 m1
          have g2 := HC7 w9 hS9 m2
          have g3 := HC7 w9 hS9 m3
          have g4 := HC7 w9 hS9 m4
          have g5 := HC7 w9 hS9 m5
          have g6 := HC7 w9 hS9 m6
          go_simp
          try with_reducible rfl
        show wpAnyH _ _ _ _ _ _ _ (Act.put _ (some _) _) _
        simp only [Act.put, List.setIfInBounds_toArray, List.set_cons_zero, List.set_cons_succ]
        have z0 : w8.cell? ⟨w.heap.size, 0, none⟩ = some (.int .i64 0) := kR.cell 0
        have z1 : w8.cell? ⟨w.heap.size, 1, none⟩ = some (.int .i64 0) := kR.cell 1
        have z2 : w8.cell? ⟨w.heap.size, 2, none⟩ = some (.int .i64 0) := kR.cell 2
        have z3 : w8.cell? ⟨w.heap.size, 3, none⟩ = some (.int .i64 0) := kR.cell 3
        have z4 : w8.cell? ⟨w.heap.size, 4, none⟩ = some (.int .i64 0) := kR.cell 4
        have z5 : w8.cell? ⟨w.heap.size, 5, none⟩ = some (.int .i64 0) := kR.cell 5
        have z6 : w8.cell? ⟨w.heap.size, 6, none⟩ = some (.slice none 0 0) := kR.cell 6
        have zf : ∀ o, w8.frozen? ⟨w.heap.size, o, none⟩ = false := fun o => froz_of_heap kR
        refine wpAnyH_ready (rs := [9]) (by kernel_rfl) (by simp) ?_
        refine AllReadyH.cons rfl (fun K hK => ?_) AllReadyH.nil
        go_simp
        go_wp2_with fail
        have hrr := (heap_set (o := 6) (v := .slice au i.args.length ac) (heap_set (o := 5) (v := .int .i64 i.imm) (heap_set (o := 4) (v := .int .i64 i.c) (heap_set (o := 3) (v := .int .i64 i.b) (heap_set (o := 2) (v := .int .i64 i.a) (heap_set (o := 1) (v := .int .i64 i.w) (heap_set (o := 0) (v := .int .i64 i.op) kR)))))))
        have hgT9 : wT.grownBy w8 (some (w.heap.size + 1)) := grown_trans HGT.out hg9
        have HBW : Hid (Below w.heap.size w w8) := ⟨hgT9.os.trans ho1, hgT9.tape.trans ho2, hgT9.output.trans ho3, by have := hgT9.size; omega, fun b hb => (hgT9.block b (by omega) (by intro e; have := Option.some.inj e; omega)).trans (hWT b hb)⟩
        have HKI : Hid (IntsAt w8 (w.heap.size + 2) au i.args) := HAI.out.keep ⟨hgT9.size, fun b h1 h2 => hgT9.block b h2 (by intro e; have := Option.some.inj e; omega)⟩
        refine hK.out _ _ ?_ (fun hHeld2 => ?_)
        · exact fun b h1 h2 h3 => by rw [Below.heap_setCell _ _ _ _ h3, Below.heap_setCell _ _ _ _ h3, Below.heap_setCell _ _ _ _ h3, Below.heap_setCell _ _ _ _ h3, Below.heap_setCell _ _ _ _ h3, Below.heap_setCell _ _ _ _ h3, Below.heap_setCell _ _ _ _ h3]; exact hg9.block b h1 (by intro e; exact h2 (Option.some.inj e))
        clear hK K
        clear hHeld
        have hHeld := hHeld2
        clear hHeld2
        try simp only [Act.put, List.setIfInBounds_toArray, List.set_cons_zero, List.set_cons_succ]
        refine wpAnyH_done (by kernel_rfl) ?_ _
        go_wp2_with fail
        refine bodyPost_ret (v := .agg #[.int .i64 i.op, .int .i64 i.w, .int .i64 i.a, .int .i64 i.b, .int .i64 i.c, .int .i64 i.imm, .slice au i.args.length ac]) ((results_cell_row Tryz.results16 _ _ w.heap.size 26 _ (0, 0) _ rfl hrr Tryz.underlying26 rfl (by kernel_rfl)).trans (by rfl)) rfl ⟨⟨i, au, ac, rfl, hSI, ?_⟩, ?_⟩
        · exact (ints_set (ints_set (ints_set (ints_set (ints_set (ints_set (ints_set HKI.out (by omega)) (by omega)) (by omega)) (by omega)) (by omega)) (by omega)) (by omega)).low (by omega)
        · exact (by repeat (first | refine Below.setCell ?_ (by dsimp only; omega) _ | exact HBW.out))
      · go_wp2_with fail
        refine (off_any (w.heap.size + 1) a0 len cap 1 27 _ hr7 (by omega) (by omega) (by omega)).mono ?_
        rintro e w9 ⟨n9, rfl, hq0, hq1, hr9, hg9⟩
        have hgT : wT.grownBy w9 (some (w.heap.size + 1)) := grown_trans hG7 hg9
        have hs9 : wT.heap.size ≤ w9.heap.size := hgT.size
        have kR9 : At w9 w.heap.size #[.int .i64 0, .int .i64 0, .int .i64 0, .int .i64 0, .int .i64 0, .int .i64 0, .slice none 0 0] 26 := (hgT.block w.heap.size (by omega) (by intro e; have := Option.some.inj e; omega)).trans hRT
        have kRa : At (w9.alloc (.cells #[.int .i64 1, .int .i64 2] 2)) w.heap.size #[.int .i64 0, .int .i64 0, .int .i64 0, .int .i64 0, .int .i64 0, .int .i64 0, .slice none 0 0] 26 := kR9.below ((Below.refl _ _).alloc (Nat.le_refl _) _)
        have HBW : Hid (Below w.heap.size w (w9.alloc (.cells #[.int .i64 1, .int .i64 2] 2))) := ⟨hgT.os.trans ho1, hgT.tape.trans ho2, hgT.output.trans ho3, by simp; omega, fun b hb => (Below.heap_alloc _ _ _ (by omega)).trans ((hgT.block b (by omega) (by intro e; have := Option.some.inj e; omega)).trans (hWT b hb))⟩
        have KI : IntsAt (w9.alloc (.cells #[.int .i64 1, .int .i64 2] 2)) w9.heap.size (some ⟨w9.heap.size, 0, none⟩) [1, 2] := ints_lit2 w9
        obtain ⟨wA, hwA⟩ : ∃ wA, w9.alloc (.cells #[.int .i64 1, .int .i64 2] 2) = wA := ⟨_, rfl⟩
        rw [hwA] at kRa HBW KI
        have HKI : Hid (IntsAt wA w9.heap.size (some ⟨w9.heap.size, 0, none⟩) [1, 2]) := KI
        clear KI hr9 hg9 hgT kR9
        have kR : At wA w.heap.size #[.int .i64 0, .int .i64 0, .int .i64 0, .int .i64 0, .int .i64 0, .int .i64 0, .slice none 0 0] 26 := kRa
        have z0 : wA.cell? ⟨w.heap.size, 0, none⟩ = some (.int .i64 0) := kR.cell 0
        have z1 : wA.cell? ⟨w.heap.size, 1, none⟩ = some (.int .i64 0) := kR.cell 1
        have z2 : wA.cell? ⟨w.heap.size, 2, none⟩ = some (.int .i64 0) := kR.cell 2
        have z3 : wA.cell? ⟨w.heap.size, 3, none⟩ = some (.int .i64 0) := kR.cell 3
        have z4 : wA.cell? ⟨w.heap.size, 4, none⟩ = some (.int .i64 0) := kR.cell 4
        have z5 : wA.cell? ⟨w.heap.size, 5, none⟩ = some (.int .i64 0) := kR.cell 5
        have z6 : wA.cell? ⟨w.heap.size, 6, none⟩ = some (.slice none 0 0) := kR.cell 6
        have zf : ∀ o, wA.frozen? ⟨w.heap.size, o, none⟩ = false := fun o => froz_of_heap kR
        go_wp2_with fail
        have hrr := (heap_set (o := 6) (v := .slice (some ⟨w9.heap.size, 0, none⟩) 2 2) (heap_set (o := 5) (v := .int .i64 0) (heap_set (o := 4) (v := .int .i64 0) (heap_set (o := 3) (v := .int .i64 0) (heap_set (o := 2) (v := .int .i64 3) (heap_set (o := 1) (v := .int .i64 0) (heap_set (o := 0) (v := .int .i64 n9) kR)))))))
        refine bodyPost_ret (v := .agg #[.int .i64 n9, .int .i64 0, .int .i64 3, .int .i64 0, .int .i64 0, .int .i64 0, .slice (some ⟨w9.heap.size, 0, none⟩) 2 2]) ((results_cell_row Tryz.results16 _ _ w.heap.size 26 _ (0, 0) _ rfl hrr Tryz.underlying26 rfl (by kernel_rfl)).trans (by rfl)) rfl ⟨⟨⟨n9, 0, 3, 0, 0, 0, [1, 2]⟩, some ⟨w9.heap.size, 0, none⟩, 2, rfl, by simp, ?_⟩, ?_⟩
        · exact (ints_set (ints_set (ints_set (ints_set (ints_set (ints_set (ints_set HKI.out (by omega)) (by omega)) (by omega)) (by omega)) (by omega)) (by omega)) (by omega)).low (by omega)
        · exact (by repeat (first | refine Below.setCell ?_ (by dsimp only; omega) _ | exact HBW.out))
  · go_simp
    go_wp2_with fail
    refine hK.out _ _ ?_ (fun hHeld2 => ?_)
    · exact ⟨hHeld.1.alloc _, grown_trans hHeld.2 (World.grownBy_alloc _ _ _)⟩
    clear hK K
    have hPrev := hHeld
    clear hHeld
    have hHeld := hHeld2
    clear hHeld2
    try simp only [Act.put, List.setIfInBounds_toArray, List.set_cons_zero, List.set_cons_succ]
    refine wpAnyH_ready (rs := [6]) (by kernel_rfl) (by simp) ?_
    refine AllReadyH.cons rfl (fun K hK => ?_) AllReadyH.nil
    go_simp
    go_wp2_with (go_at_call 36; refine (below_any (w.heap.size + 1) a0 len cap _ _ (hPrev.1.alloc _)).mono ?_; rintro e w5 ⟨n5, rfl, p0, p1, hr5, hg5⟩)
    have hg6 : wT.grownBy w5 (some (w.heap.size + 1)) := grown_trans (grown_trans hPrev.2 (World.grownBy_alloc _ _ _)) hg5
    have hnl : n5.toNat < d.blocks.length := by omega
    have hnI : n5 < (d.blocks.length : Int) := by omega
    obtain ⟨Bk, hSB, ⟨pu, pc, k0, hph⟩, ⟨iu, ic, k1, hit⟩, k2, k3, k4, k5⟩ := hcells n5.toNat hnl
    have X5 := hg5.block wT.heap.size (by simp) (by intro e; have := Option.some.inj e; omega)
    have X6 : At w5 wT.heap.size #[.slice none 0 0, .slice none 0 0, .int .i64 0, .int .i64 0, .int .i64 0, .int .i64 0] 69 := X5.trans (At.new wT.drew #[.slice none 0 0, .slice none 0 0, .int .i64 0, .int .i64 0, .int .i64 0, .int .i64 0] 69)
    clear X5
    have y0 : w5.cell? ⟨wT.heap.size, 0, none⟩ = some (.slice none 0 0) := X6.cell 0
    have y1 : w5.cell? ⟨wT.heap.size, 1, none⟩ = some (.slice none 0 0) := X6.cell 1
    have y2 : w5.cell? ⟨wT.heap.size, 2, none⟩ = some (.int .i64 0) := X6.cell 2
    have y3 : w5.cell? ⟨wT.heap.size, 3, none⟩ = some (.int .i64 0) := X6.cell 3
    have y4 : w5.cell? ⟨wT.heap.size, 4, none⟩ = some (.int .i64 0) := X6.cell 4
    have y5 : w5.cell? ⟨wT.heap.size, 5, none⟩ = some (.int .i64 0) := X6.cell 5
    have yf : ∀ o, w5.frozen? ⟨wT.heap.size, o, none⟩ = false := fun o => froz_of_heap X6
    refine hK.out _ _ ?_ (fun hHeld2 => ?_)
    · exact ⟨hr5, hg6⟩
    clear hK K
    have hPrev := hHeld
    clear hHeld
    have hHeld := hHeld2
    clear hHeld2
    try simp only [Act.put, List.setIfInBounds_toArray, List.set_cons_zero, List.set_cons_succ]
    refine wpAnyH_take (i := 7) (v := ?_) rfl (by kernel_rfl) (by kernel_rfl) (by kernel_rfl) (fun _ _ _ h => h) (Or.inl ⟨by rfl, ?_⟩) hHeld ?_
    rotate_left
    · intro w9 hS9
      go_simp
      try with_reducible rfl
    show wpAnyH _ _ _ _ _ _ _ (Act.put _ (some _) _) _
    simp only [Act.put, List.setIfInBounds_toArray, List.set_cons_zero, List.set_cons_succ]
    refine wpAnyH_take (i := 8) (v := ?_) rfl (by kernel_rfl) (by kernel_rfl) (by kernel_rfl) (fun _ _ _ h => h) (Or.inl ⟨by rfl, ?_⟩) hHeld ?_
    rotate_left
    · intro w9 hS9
      have g0 := HC w9 hS9.2 k0
      have g1 := HC w9 hS9.2 k1
      have g2 := HC w9 hS9.2 k2
      have g3 := HC w9 hS9.2 k3
      have g4 := HC w9 hS9.2 k4
      have g5 := HC w9 hS9.2 k5
      go_simp
      try with_reducible rfl
    show wpAnyH _ _ _ _ _ _ _ (Act.put _ (some _) _) _
    simp only [Act.put, List.setIfInBounds_toArray, List.set_cons_zero, List.set_cons_succ]
    refine wpAnyH_ready (rs := [10]) (by kernel_rfl) (by simp) ?_
    refine AllReadyH.cons rfl (fun K hK => ?_) AllReadyH.nil
    go_simp
    go_wp2_with fail
    have X8 : At ((((((w5.setCell ⟨wT.heap.size, 0, none⟩ (.slice pu Bk.phis.length pc)).setCell ⟨wT.heap.size, 1, none⟩ (.slice iu Bk.insts.length ic)).setCell ⟨wT.heap.size, 2, none⟩ (.int .i64 Bk.term.kind)).setCell ⟨wT.heap.size, 3, none⟩ (.int .i64 Bk.term.a)).setCell ⟨wT.heap.size, 4, none⟩ (.int .i64 Bk.term.x)).setCell ⟨wT.heap.size, 5, none⟩ (.int .i64 Bk.term.y)) wT.heap.size #[.slice pu Bk.phis.length pc, .slice iu Bk.insts.length ic, .int .i64 Bk.term.kind, .int .i64 Bk.term.a, .int .i64 Bk.term.x, .int .i64 Bk.term.y] 69 := (heap_set (o := 5) (v := .int .i64 Bk.term.y) (heap_set (o := 4) (v := .int .i64 Bk.term.x) (heap_set (o := 3) (v := .int .i64 Bk.term.a) (heap_set (o := 2) (v := .int .i64 Bk.term.kind) (heap_set (o := 1) (v := .slice iu Bk.insts.length ic) (heap_set (o := 0) (v := .slice pu Bk.phis.length pc) X6))))))
    have hset : ∀ b, b ≠ wT.heap.size → ((((((w5.setCell ⟨wT.heap.size, 0, none⟩ (.slice pu Bk.phis.length pc)).setCell ⟨wT.heap.size, 1, none⟩ (.slice iu Bk.insts.length ic)).setCell ⟨wT.heap.size, 2, none⟩ (.int .i64 Bk.term.kind)).setCell ⟨wT.heap.size, 3, none⟩ (.int .i64 Bk.term.a)).setCell ⟨wT.heap.size, 4, none⟩ (.int .i64 Bk.term.x)).setCell ⟨wT.heap.size, 5, none⟩ (.int .i64 Bk.term.y)).heap[b]? = w5.heap[b]? := fun b hb => by rw [Below.heap_setCell _ _ _ _ hb, Below.heap_setCell _ _ _ _ hb, Below.heap_setCell _ _ _ _ hb, Below.heap_setCell _ _ _ _ hb, Below.heap_setCell _ _ _ _ hb, Below.heap_setCell _ _ _ _ hb]
    have hRd8 : Rd (w.heap.size + 1) a0 len cap ((((((w5.setCell ⟨wT.heap.size, 0, none⟩ (.slice pu Bk.phis.length pc)).setCell ⟨wT.heap.size, 1, none⟩ (.slice iu Bk.insts.length ic)).setCell ⟨wT.heap.size, 2, none⟩ (.int .i64 Bk.term.kind)).setCell ⟨wT.heap.size, 3, none⟩ (.int .i64 Bk.term.a)).setCell ⟨wT.heap.size, 4, none⟩ (.int .i64 Bk.term.x)).setCell ⟨wT.heap.size, 5, none⟩ (.int .i64 Bk.term.y)) := rd_keep hr5 (by simp only [World.size_setCell]; exact Nat.le_refl _) (fun b hb => hset b (by omega))
    have hG8 : wT.grownBy ((((((w5.setCell ⟨wT.heap.size, 0, none⟩ (.slice pu Bk.phis.length pc)).setCell ⟨wT.heap.size, 1, none⟩ (.slice iu Bk.insts.length ic)).setCell ⟨wT.heap.size, 2, none⟩ (.int .i64 Bk.term.kind)).setCell ⟨wT.heap.size, 3, none⟩ (.int .i64 Bk.term.a)).setCell ⟨wT.heap.size, 4, none⟩ (.int .i64 Bk.term.x)).setCell ⟨wT.heap.size, 5, none⟩ (.int .i64 Bk.term.y)) (some (w.heap.size + 1)) := ⟨by simp only [set_os]; exact hg6.os, by simp only [set_tape]; exact hg6.tape, by simp only [set_output]; exact hg6.output, by simp only [World.size_setCell]; exact hg6.size, fun b hb hn => (hset b (by omega)).trans (hg6.block b hb hn)⟩
    refine hK.out _ _ ?_ (fun hHeld2 => ?_)
    · exact ⟨hRd8, hG8⟩
    clear hK K
    clear hHeld
    have hHeld := hHeld2
    clear hHeld2
    try simp only [Act.put, List.setIfInBounds_toArray, List.set_cons_zero, List.set_cons_succ]
    refine wpAnyH_done (by kernel_rfl) ?_ _
    have hB9 : wT.heap.size ≥ wT.heap.size := Nat.le_refl _
    clear hset yf X6 hHeld y0 y1 y2 y3 y4 y5
    generalize hBx : (wT.heap.size : Nat) = Bx at X8 hRd8 hG8 ⊢
    generalize ((((((w5.setCell ⟨Bx, 0, none⟩ (.slice pu Bk.phis.length pc)).setCell ⟨Bx, 1, none⟩ (.slice iu Bk.insts.length ic)).setCell ⟨Bx, 2, none⟩ (.int .i64 Bk.term.kind)).setCell ⟨Bx, 3, none⟩ (.int .i64 Bk.term.a)).setCell ⟨Bx, 4, none⟩ (.int .i64 Bk.term.x)).setCell ⟨Bx, 5, none⟩ (.int .i64 Bk.term.y)) = W8 at X8 hRd8 hG8 ⊢
    clear hcells HC HF k0 k1 k2 k3 k4 k5 hph hPrev
    have y1 : W8.cell? ⟨Bx, 1, none⟩ = some (.slice iu Bk.insts.length ic) := X8.cell 1
    have HX8 : Hid (At W8 Bx #[.slice pu Bk.phis.length pc, .slice iu Bk.insts.length ic, .int .i64 Bk.term.kind, .int .i64 Bk.term.a, .int .i64 Bk.term.x, .int .i64 Bk.term.y] 69) := X8
    have HR8 : Hid (Rd (w.heap.size + 1) a0 len cap W8) := hRd8
    have HG8 : Hid (wT.grownBy W8 (some (w.heap.size + 1))) := hG8
    have HIT : Hid (InstsAt wT (w.heap.size + 2) iu Bk.insts) := hit
    clear X8 hRd8 hG8 hit
    by_cases hn0 : Bk.insts.length = 0
    · have hn1 : ((Bk.insts.length : Int) == 0) = true := by simp; exact List.length_eq_zero_iff.1 hn0
      have hn2 : (Bk.insts.length : Int) = 0 := by omega
      go_wp2_with fail
      refine (off_any (w.heap.size + 1) a0 len cap 1 27 _ HR8.out (by omega) (by omega) (by omega)).mono ?_
      rintro e w9 ⟨n9, rfl, hq0, hq1, hr9, hg9⟩
      have hgT : wT.grownBy w9 (some (w.heap.size + 1)) := grown_trans HG8.out hg9
      have hs9 : wT.heap.size ≤ w9.heap.size := hgT.size
      have kR9 : At w9 w.heap.size #[.int .i64 0, .int .i64 0, .int .i64 0, .int .i64 0, .int .i64 0, .int .i64 0, .slice none 0 0] 26 := (hgT.block w.heap.size (by omega) (by intro e; have := Option.some.inj e; omega)).trans hRT
      have kRa : At (w9.alloc (.cells #[.int .i64 1, .int .i64 2] 2)) w.heap.size #[.int .i64 0, .int .i64 0, .int .i64 0, .int .i64 0, .int .i64 0, .int .i64 0, .slice none 0 0] 26 := kR9.below ((Below.refl _ _).alloc (Nat.le_refl _) _)
      have HBW : Hid (Below w.heap.size w (w9.alloc (.cells #[.int .i64 1, .int .i64 2] 2))) := ⟨hgT.os.trans ho1, hgT.tape.trans ho2, hgT.output.trans ho3, by simp; omega, fun b hb => (Below.heap_alloc _ _ _ (by omega)).trans ((hgT.block b (by omega) (by intro e; have := Option.some.inj e; omega)).trans (hWT b hb))⟩
      have KI : IntsAt (w9.alloc (.cells #[.int .i64 1, .int .i64 2] 2)) w9.heap.size (some ⟨w9.heap.size, 0, none⟩) [1, 2] := ints_lit2 w9
      obtain ⟨wA, hwA⟩ : ∃ wA, w9.alloc (.cells #[.int .i64 1, .int .i64 2] 2) = wA := ⟨_, rfl⟩
      rw [hwA] at kRa HBW KI
      have HKI : Hid (IntsAt wA w9.heap.size (some ⟨w9.heap.size, 0, none⟩) [1, 2]) := KI
      clear KI hr9 hg9 hgT kR9
      have kR : At wA w.heap.size #[.int .i64 0, .int .i64 0, .int .i64 0, .int .i64 0, .int .i64 0, .int .i64 0, .slice none 0 0] 26 := kRa
      have z0 : wA.cell? ⟨w.heap.size, 0, none⟩ = some (.int .i64 0) := kR.cell 0
      have z1 : wA.cell? ⟨w.heap.size, 1, none⟩ = some (.int .i64 0) := kR.cell 1
      have z2 : wA.cell? ⟨w.heap.size, 2, none⟩ = some (.int .i64 0) := kR.cell 2
      have z3 : wA.cell? ⟨w.heap.size, 3, none⟩ = some (.int .i64 0) := kR.cell 3
      have z4 : wA.cell? ⟨w.heap.size, 4, none⟩ = some (.int .i64 0) := kR.cell 4
      have z5 : wA.cell? ⟨w.heap.size, 5, none⟩ = some (.int .i64 0) := kR.cell 5
      have z6 : wA.cell? ⟨w.heap.size, 6, none⟩ = some (.slice none 0 0) := kR.cell 6
      have zf : ∀ o, wA.frozen? ⟨w.heap.size, o, none⟩ = false := fun o => froz_of_heap kR
      go_wp2_with fail
      have hrr := (heap_set (o := 6) (v := .slice (some ⟨w9.heap.size, 0, none⟩) 2 2) (heap_set (o := 5) (v := .int .i64 0) (heap_set (o := 4) (v := .int .i64 0) (heap_set (o := 3) (v := .int .i64 0) (heap_set (o := 2) (v := .int .i64 3) (heap_set (o := 1) (v := .int .i64 0) (heap_set (o := 0) (v := .int .i64 n9) kR)))))))
      refine bodyPost_ret (v := .agg #[.int .i64 n9, .int .i64 0, .int .i64 3, .int .i64 0, .int .i64 0, .int .i64 0, .slice (some ⟨w9.heap.size, 0, none⟩) 2 2]) ((results_cell_row Tryz.results16 _ _ w.heap.size 26 _ (0, 0) _ rfl hrr Tryz.underlying26 rfl (by kernel_rfl)).trans (by rfl)) rfl ⟨⟨⟨n9, 0, 3, 0, 0, 0, [1, 2]⟩, some ⟨w9.heap.size, 0, none⟩, 2, rfl, by simp, ?_⟩, ?_⟩
      · exact (ints_set (ints_set (ints_set (ints_set (ints_set (ints_set (ints_set HKI.out (by omega)) (by omega)) (by omega)) (by omega)) (by omega)) (by omega)) (by omega)).low (by omega)
      · exact (by repeat (first | refine Below.setCell ?_ (by dsimp only; omega) _ | exact HBW.out))
    · have hn1 : ((Bk.insts.length : Int) == 0) = false := by simp; exact fun e => hn0 (by rw [e]; rfl)
      go_wp2_with fail
      refine (once_any (w.heap.size + 1) a0 len cap 12 W8 HR8.out (by omega)).mono ?_
      rintro e W7 ⟨b7, rfl, hr7, hg7⟩
      have hG7 : wT.grownBy W7 (some (w.heap.size + 1)) := grown_trans HG8.out hg7
      have HX7 : Hid (At W7 Bx #[.slice pu Bk.phis.length pc, .slice iu Bk.insts.length ic, .int .i64 Bk.term.kind, .int .i64 Bk.term.a, .int .i64 Bk.term.x, .int .i64 Bk.term.y] 69) := (hg7.block Bx HX8.out.lt (by intro e; have := Option.some.inj e; omega)).trans HX8.out
      cases b7
      · obtain ⟨ib, io, hib, hib0, hib1, hcl⟩ : ∃ b off, iu = some ⟨b, off, none⟩ ∧ w.heap.size + 2 ≤ b ∧ b < wT.heap.size ∧ ∀ j, j < Bk.insts.length → InstCells wT b (off + j * 7) (w.heap.size + 2) (Bk.insts.getD j inst0) := insts_open HIT.out (by omega)
        subst hib
        have HGT : Hid (wT.grownBy W7 (some (w.heap.size + 1))) := hG7
        have HR7 : Hid (Rd (w.heap.size + 1) a0 len cap W7) := hr7
        have hz7 : wT.heap.size ≤ W7.heap.size := HGT.out.size
        have HC7 : ∀ W : World, (∀ b, b < W7.heap.size → b ≠ (w.heap.size + 1) → b ≠ w.heap.size → W.heap[b]? = W7.heap[b]?) → ∀ {o : Nat} {v : Value}, (wT.cell? ⟨ib, o, none⟩ = some v) → W.cell? ⟨ib, o, none⟩ = some v := fun W k o v h => (cell_block ((k ib (by omega) (by omega) (by omega)).trans (HGT.out.block ib hib1 (by intro e; have := Option.some.inj e; omega)))).trans h
        have HB7 : ∀ W : World, (∀ b, b < W7.heap.size → b ≠ (w.heap.size + 1) → b ≠ w.heap.size → W.heap[b]? = W7.heap[b]?) → W.cell? ⟨Bx, 1, none⟩ = some (.slice (some ⟨ib, io, none⟩) Bk.insts.length ic) := fun W k => (cell_of_heap ((k Bx HX7.out.lt (by omega) (by omega)).trans HX7.out)).trans rfl
        go_wp2_with fail
        refine wp_region_held_drew (S := fun w' => ∀ b, b < W7.heap.size → b ≠ (w.heap.size + 1) → b ≠ w.heap.size → w'.heap[b]? = W7.heap[b]?) (by kernel_rfl) (fun _ _ _ _ => rfl) (fun hHeld => ?_)
        refine wpAnyH_take (i := 0) (v := ?_) rfl (by kernel_rfl) (by kernel_rfl) (by kernel_rfl) (fun _ _ _ h => h) (Or.inl ⟨by rfl, ?_⟩) hHeld ?_
        rotate_left
        · intro w9 hS9
          go_simp
          try with_reducible rfl
        show wpAnyH _ _ _ _ _ _ _ (Act.put _ (some _) _) _
        simp only [Act.put, List.setIfInBounds_toArray, List.set_cons_zero, List.set_cons_succ]
        refine wpAnyH_take (i := 1) (v := ?_) rfl (by kernel_rfl) (by kernel_rfl) (by kernel_rfl) (fun _ _ _ h => h) (Or.inl ⟨by rfl, ?_⟩) hHeld ?_
        rotate_left
        · intro w9 hS9
          have g0 := HB7 w9 hS9
          go_simp
          try with_reducible rfl
        show wpAnyH _ _ _ _ _ _ _ (Act.put _ (some _) _) _
        simp only [Act.put, List.setIfInBounds_toArray, List.set_cons_zero, List.set_cons_succ]
        refine wpAnyH_take (i := 2) (v := ?_) rfl (by kernel_rfl) (by kernel_rfl) (by kernel_rfl) (fun _ _ _ h => h) (Or.inl ⟨by rfl, ?_⟩) hHeld ?_
        rotate_left
        · intro w9 hS9
          go_simp
          try with_reducible rfl
        show wpAnyH _ _ _ _ _ _ _ (Act.put _ (some _) _) _
        simp only [Act.put, List.setIfInBounds_toArray, List.set_cons_zero, List.set_cons_succ]
        refine wpAnyH_take (i := 3) (v := ?_) rfl (by kernel_rfl) (by kernel_rfl) (by kernel_rfl) (fun _ _ _ h => h) (Or.inl ⟨by rfl, ?_⟩) hHeld ?_
        rotate_left
        · intro w9 hS9
          go_simp
          try with_reducible rfl
        show wpAnyH _ _ _ _ _ _ _ (Act.put _ (some _) _) _
        simp only [Act.put, List.setIfInBounds_toArray, List.set_cons_zero, List.set_cons_succ]
        refine wpAnyH_take (i := 4) (v := ?_) rfl (by kernel_rfl) (by kernel_rfl) (by kernel_rfl) (fun _ _ _ h => h) (Or.inl ⟨by rfl, ?_⟩) hHeld ?_
        rotate_left
        · intro w9 hS9
          have g0 := HB7 w9 hS9
          go_simp
          try with_reducible rfl
        show wpAnyH _ _ _ _ _ _ _ (Act.put _ (some _) _) _
        simp only [Act.put, List.setIfInBounds_toArray, List.set_cons_zero, List.set_cons_succ]
        refine wpAnyH_take (i := 5) (v := ?_) rfl (by kernel_rfl) (by kernel_rfl) (by kernel_rfl) (fun _ _ _ h => h) (Or.inl ⟨by rfl, ?_⟩) hHeld ?_
        rotate_left
        · intro w9 hS9
          go_simp
          try with_reducible rfl
        show wpAnyH _ _ _ _ _ _ _ (Act.put _ (some _) _) _
        simp only [Act.put, List.setIfInBounds_toArray, List.set_cons_zero, List.set_cons_succ]
        refine wpAnyH_ready (rs := [6]) (by kernel_rfl) (by simp) ?_
        refine AllReadyH.cons rfl (fun K hK => ?_) AllReadyH.nil
        go_simp
        go_wp2_with (go_at_call 36; refine (below_any (w.heap.size + 1) a0 len cap _ _ (rd_drew HR7.out)).mono ?_; rintro e w8 ⟨n8, rfl, p8, q8, hr8, hg8⟩)
        have hg9 : W7.grownBy w8 (some (w.heap.size + 1)) := ⟨hg8.os, hg8.tape, hg8.output, hg8.size, hg8.block⟩
        have hnl8 : n8.toNat < Bk.insts.length := by omega
        have hnI8 : n8 < (Bk.insts.length : Int) := by omega
        have hIC0 := hcl n8.toNat hnl8
        obtain ⟨i, hSI, hIC⟩ : ∃ i, i.args.length ≤ 1048576 ∧ InstCells wT ib (io + n8.toNat * 7) (w.heap.size + 2) i := ⟨_, hSB.2.2 _ (getD_mem inst0 Bk.insts n8.toNat hnl8), hIC0⟩
        clear hIC0
        obtain ⟨m0, m1, m2, m3, m4, m5, au, ac, m6, hai⟩ := hIC
        have HAI : Hid (IntsAt wT (w.heap.size + 2) au i.args) := hai
        clear hai
        have kR : At w8 w.heap.size #[.int .i64 0, .int .i64 0, .int .i64 0, .int .i64 0, .int .i64 0, .int .i64 0, .slice none 0 0] 26 := ((grown_trans HGT.out hg9).block w.heap.size (by omega) (by intro e; have := Option.some.inj e; omega)).trans hRT
        refine hK.out _ _ ?_ (fun hHeld2 => ?_)
        · exact fun b h1 h2 h3 => hg9.block b h1 (by intro e; exact h2 (Option.some.inj e))
        clear hK K
        have hPrev := hHeld
        clear hHeld
        have hHeld := hHeld2
        clear hHeld2
        try simp only [Act.put, List.setIfInBounds_toArray, List.set_cons_zero, List.set_cons_succ]
        refine wpAnyH_take (i := 7) (v := ?_) rfl (by kernel_rfl) (by kernel_rfl) (by kernel_rfl) (fun _ _ _ h => h) (Or.inl ⟨by rfl, ?_⟩) hHeld ?_
        rotate_left
        · intro w9 hS9
          go_simp
          try with_reducible rfl
        show wpAnyH _ _ _ _ _ _ _ (Act.put _ (some _) _) _
        simp only [Act.put, List.setIfInBounds_toArray, List.set_cons_zero, List.set_cons_succ]
        refine wpAnyH_take (i := 8) (v := ?_) rfl (by kernel_rfl) (by kernel_rfl) (by kernel_rfl) (fun _ _ _ h => h) (Or.inl ⟨by rfl, ?_⟩) hHeld ?_
        rotate_left
        · intro w9 hS9
          have g0 := HC7 w9 hS9 m0
          have g1 := HC7 w9 hS9 m1
          have g2 := HC7 w9 hS9 m2
          have g3 := HC7 w9 hS9 m3
          have g4 := HC7 w9 hS9 m4
          have g5 := HC7 w9 hS9 m5
          have g6 := HC7 w9 hS9 m6
          go_simp
          try with_reducible rfl
        show wpAnyH _ _ _ _ _ _ _ (Act.put _ (some _) _) _
        simp only [Act.put, List.setIfInBounds_toArray, List.set_cons_zero, List.set_cons_succ]
        have z0 : w8.cell? ⟨w.heap.size, 0, none⟩ = some (.int .i64 0) := kR.cell 0
        have z1 : w8.cell? ⟨w.heap.size, 1, none⟩ = some (.int .i64 0) := kR.cell 1
        have z2 : w8.cell? ⟨w.heap.size, 2, none⟩ = some (.int .i64 0) := kR.cell 2
        have z3 : w8.cell? ⟨w.heap.size, 3, none⟩ = some (.int .i64 0) := kR.cell 3
        have z4 : w8.cell? ⟨w.heap.size, 4, none⟩ = some (.int .i64 0) := kR.cell 4
        have z5 : w8.cell? ⟨w.heap.size, 5, none⟩ = some (.int .i64 0) := kR.cell 5
        have z6 : w8.cell? ⟨w.heap.size, 6, none⟩ = some (.slice none 0 0) := kR.cell 6
        have zf : ∀ o, w8.frozen? ⟨w.heap.size, o, none⟩ = false := fun o => froz_of_heap kR
        refine wpAnyH_ready (rs := [9]) (by kernel_rfl) (by simp) ?_
        refine AllReadyH.cons rfl (fun K hK => ?_) AllReadyH.nil
        go_simp
        go_wp2_with fail
        have hrr := (heap_set (o := 6) (v := .slice au i.args.length ac) (heap_set (o := 5) (v := .int .i64 i.imm) (heap_set (o := 4) (v := .int .i64 i.c) (heap_set (o := 3) (v := .int .i64 i.b) (heap_set (o := 2) (v := .int .i64 i.a) (heap_set (o := 1) (v := .int .i64 i.w) (heap_set (o := 0) (v := .int .i64 i.op) kR)))))))
        have hgT9 : wT.grownBy w8 (some (w.heap.size + 1)) := grown_trans HGT.out hg9
        have HBW : Hid (Below w.heap.size w w8) := ⟨hgT9.os.trans ho1, hgT9.tape.trans ho2, hgT9.output.trans ho3, by have := hgT9.size; omega, fun b hb => (hgT9.block b (by omega) (by intro e; have := Option.some.inj e; omega)).trans (hWT b hb)⟩
        have HKI : Hid (IntsAt w8 (w.heap.size + 2) au i.args) := HAI.out.keep ⟨hgT9.size, fun b h1 h2 => hgT9.block b h2 (by intro e; have := Option.some.inj e; omega)⟩
        refine hK.out _ _ ?_ (fun hHeld2 => ?_)
        · exact fun b h1 h2 h3 => by rw [Below.heap_setCell _ _ _ _ h3, Below.heap_setCell _ _ _ _ h3, Below.heap_setCell _ _ _ _ h3, Below.heap_setCell _ _ _ _ h3, Below.heap_setCell _ _ _ _ h3, Below.heap_setCell _ _ _ _ h3, Below.heap_setCell _ _ _ _ h3]; exact hg9.block b h1 (by intro e; exact h2 (Option.some.inj e))
        clear hK K
        clear hHeld
        have hHeld := hHeld2
        clear hHeld2
        try simp only [Act.put, List.setIfInBounds_toArray, List.set_cons_zero, List.set_cons_succ]
        refine wpAnyH_done (by kernel_rfl) ?_ _
        go_wp2_with fail
        refine bodyPost_ret (v := .agg #[.int .i64 i.op, .int .i64 i.w, .int .i64 i.a, .int .i64 i.b, .int .i64 i.c, .int .i64 i.imm, .slice au i.args.length ac]) ((results_cell_row Tryz.results16 _ _ w.heap.size 26 _ (0, 0) _ rfl hrr Tryz.underlying26 rfl (by kernel_rfl)).trans (by rfl)) rfl ⟨⟨i, au, ac, rfl, hSI, ?_⟩, ?_⟩
        · exact (ints_set (ints_set (ints_set (ints_set (ints_set (ints_set (ints_set HKI.out (by omega)) (by omega)) (by omega)) (by omega)) (by omega)) (by omega)) (by omega)).low (by omega)
        · exact (by repeat (first | refine Below.setCell ?_ (by dsimp only; omega) _ | exact HBW.out))
      · go_wp2_with fail
        refine (off_any (w.heap.size + 1) a0 len cap 1 27 _ hr7 (by omega) (by omega) (by omega)).mono ?_
        rintro e w9 ⟨n9, rfl, hq0, hq1, hr9, hg9⟩
        have hgT : wT.grownBy w9 (some (w.heap.size + 1)) := grown_trans hG7 hg9
        have hs9 : wT.heap.size ≤ w9.heap.size := hgT.size
        have kR9 : At w9 w.heap.size #[.int .i64 0, .int .i64 0, .int .i64 0, .int .i64 0, .int .i64 0, .int .i64 0, .slice none 0 0] 26 := (hgT.block w.heap.size (by omega) (by intro e; have := Option.some.inj e; omega)).trans hRT
        have kRa : At (w9.alloc (.cells #[.int .i64 1, .int .i64 2] 2)) w.heap.size #[.int .i64 0, .int .i64 0, .int .i64 0, .int .i64 0, .int .i64 0, .int .i64 0, .slice none 0 0] 26 := kR9.below ((Below.refl _ _).alloc (Nat.le_refl _) _)
        have HBW : Hid (Below w.heap.size w (w9.alloc (.cells #[.int .i64 1, .int .i64 2] 2))) := ⟨hgT.os.trans ho1, hgT.tape.trans ho2, hgT.output.trans ho3, by simp; omega, fun b hb => (Below.heap_alloc _ _ _ (by omega)).trans ((hgT.block b (by omega) (by intro e; have := Option.some.inj e; omega)).trans (hWT b hb))⟩
        have KI : IntsAt (w9.alloc (.cells #[.int .i64 1, .int .i64 2] 2)) w9.heap.size (some ⟨w9.heap.size, 0, none⟩) [1, 2] := ints_lit2 w9
        obtain ⟨wA, hwA⟩ : ∃ wA, w9.alloc (.cells #[.int .i64 1, .int .i64 2] 2) = wA := ⟨_, rfl⟩
        rw [hwA] at kRa HBW KI
        have HKI : Hid (IntsAt wA w9.heap.size (some ⟨w9.heap.size, 0, none⟩) [1, 2]) := KI
        clear KI hr9 hg9 hgT kR9
        have kR : At wA w.heap.size #[.int .i64 0, .int .i64 0, .int .i64 0, .int .i64 0, .int .i64 0, .int .i64 0, .slice none 0 0] 26 := kRa
        have z0 : wA.cell? ⟨w.heap.size, 0, none⟩ = some (.int .i64 0) := kR.cell 0
        have z1 : wA.cell? ⟨w.heap.size, 1, none⟩ = some (.int .i64 0) := kR.cell 1
        have z2 : wA.cell? ⟨w.heap.size, 2, none⟩ = some (.int .i64 0) := kR.cell 2
        have z3 : wA.cell? ⟨w.heap.size, 3, none⟩ = some (.int .i64 0) := kR.cell 3
        have z4 : wA.cell? ⟨w.heap.size, 4, none⟩ = some (.int .i64 0) := kR.cell 4
        have z5 : wA.cell? ⟨w.heap.size, 5, none⟩ = some (.int .i64 0) := kR.cell 5
        have z6 : wA.cell? ⟨w.heap.size, 6, none⟩ = some (.slice none 0 0) := kR.cell 6
        have zf : ∀ o, wA.frozen? ⟨w.heap.size, o, none⟩ = false := fun o => froz_of_heap kR
        go_wp2_with fail
        have hrr := (heap_set (o := 6) (v := .slice (some ⟨w9.heap.size, 0, none⟩) 2 2) (heap_set (o := 5) (v := .int .i64 0) (heap_set (o := 4) (v := .int .i64 0) (heap_set (o := 3) (v := .int .i64 0) (heap_set (o := 2) (v := .int .i64 3) (heap_set (o := 1) (v := .int .i64 0) (heap_set (o := 0) (v := .int .i64 n9) kR)))))))
        refine bodyPost_ret (v := .agg #[.int .i64 n9, .int .i64 0, .int .i64 3, .int .i64 0, .int .i64 0, .int .i64 0, .slice (some ⟨w9.heap.size, 0, none⟩) 2 2]) ((results_cell_row Tryz.results16 _ _ w.heap.size 26 _ (0, 0) _ rfl hrr Tryz.underlying26 rfl (by kernel_rfl)).trans (by rfl)) rfl ⟨⟨⟨n9, 0, 3, 0, 0, 0, [1, 2]⟩, some ⟨w9.heap.size, 0, none⟩, 2, rfl, by simp, ?_⟩, ?_⟩
        · exact (ints_set (ints_set (ints_set (ints_set (ints_set (ints_set (ints_set HKI.out (by omega)) (by omega)) (by omega)) (by omega)) (by omega)) (by omega)) (by omega)).low (by omega)
        · exact (by repeat (first | refine Below.setCell ?_ (by dsimp only; omega) _ | exact HBW.out))
end Go.Proofs.YtjmoonbpfieifaaGreatDoor
