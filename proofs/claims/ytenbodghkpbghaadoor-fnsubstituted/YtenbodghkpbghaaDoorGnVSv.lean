import Derived.Test.YtenbodghkpbghaaDoorGnQSv
import Derived.Test.YtenbodghkpbghaaDoorRdrSv
import Derived.Deep.QuietTactic
import Derived.BigQuiet
import Derived.Deep.RegionWith
import Derived.WalkSmall
namespace Go.Proofs.YtenbodghkpbghaaDoor
open Go.RowKit Go.Deep
set_option linter.unusedVariables false
theorem list_of {α : Type} (z : α) (P : Nat → α → Prop) : ∀ n, (∀ i, i < n → ∃ x, P i x) → ∃ l : List α, l.length = n ∧ ∀ i, i < n → P i (l.getD i z)
 | 0, _ => ⟨[], rfl, fun i hi => by omega⟩
 | n + 1, h => by
  obtain ⟨l, h1, h2⟩ := list_of z P n fun i hi => h i (by omega)
  obtain ⟨x, hx⟩ := h n (by omega)
  refine ⟨l ++ [x], by simp [h1], fun i hi => ?_⟩
  by_cases e : i = n
  ·subst e
   have : (l ++ [x]).getD i z = x := by rw [List.getD, List.getElem?_append_right (by omega), h1, Nat.sub_self]; rfl
   rw [this]; exact hx
  ·have : (l ++ [x]).getD i z = l.getD i z := by rw [List.getD, List.getElem?_append_left (by omega), List.getD]
   rw [this]; exact h2 i (by omega)
theorem mem_getD {α : Type} (z : α) {l : List α} {p : α} (h : p ∈ l) : ∃ i, i < l.length ∧ p = l.getD i z := by
 obtain ⟨i, hi, rfl⟩ := List.getElem_of_mem h
 exact ⟨i, hi, by simp [List.getD, hi]⟩
variable {base N n c : Nat} {M : Tmap} {v : World} {u : Option Addr}
theorem sl_at {T : TypeId} (th : TH base M N v) (h : SlN M T (.slice u n c) n) : n = 0 ∨ ∃ g, u = some ⟨g, 0, none⟩ ∧ base ≤ g ∧ g < v.heap.size ∧ ∀ i, i < n → ElOk M N T (fun j => v.cell? ⟨g, 0 + i * szT T + j, none⟩) := by
 obtain ⟨u', c', e, h⟩ := h
 cases e
 rcases h with h | ⟨g, m, rfl, hM, hm⟩
 ·exact .inl h
 ·obtain ⟨h1, cur, h2, h3⟩ := th g T m hM
  refine .inr ⟨g, rfl, h1, (Array.getElem?_eq_some_iff.1 h2).1, fun i hi => ?_⟩
  have e : (fun j => v.cell? ⟨g, 0 + i * szT T + j, none⟩) = fun j => cur[i * szT T + j]? := by
   funext j
   rw [cell_of_heap h2, Nat.zero_add]
  rw [e]
  exact h3 i (by omega)
theorem ints_of (th : TH base M N v) (h : SlN M 2 (.slice u n c) n) (hn : n ≤ 10000) : ∃ l : List Int, l.length = n ∧ IntsAt v base u l := by
 rcases sl_at th h with rfl | ⟨g, rfl, h1, h2, h3⟩
 ·exact ⟨[], rfl, by simp, .inl rfl⟩
 ·have hs : szT 2 = 1 := by decide
  obtain ⟨l, l1, l2⟩ := list_of 0 (fun i z => v.cell? ⟨g, 0 + i, none⟩ = some (.int .i64 z)) n fun i hi => by
   obtain ⟨z, hz⟩ := (h3 i hi).1 rfl
   exact ⟨z, by simpa [hs] using hz⟩
  exact ⟨l, l1, by omega, .inr ⟨g, 0, rfl, h1, h2, fun i hi => l2 i (by omega)⟩⟩
theorem slv_form {T : TypeId} {s : Value} (h : SlV M N T s) : ∃ u n c, s = .slice u n c ∧ n ≤ N ∧ SlN M T (.slice u n c) n := by
 obtain ⟨n, h1, h2⟩ := h
 obtain ⟨u, c, rfl, h3⟩ := h2
 exact ⟨u, n, c, rfl, h1, u, c, rfl, h3⟩
theorem phis_of (th : TH base M N v) (hN : N ≤ 10000) (h : SlN M 89 (.slice u n c) n) (hn : n ≤ 10000) : ∃ l : List PhiD, l.length = n ∧ PhisAt v base u l ∧ ∀ p ∈ l, SmPhi p := by
 rcases sl_at th h with rfl | ⟨g, rfl, h1, h2, h3⟩
 ·exact ⟨[], rfl, ⟨by simp, .inl rfl⟩, by simp⟩
 ·have hs : szT 89 = 2 := by decide
  obtain ⟨l, l1, l2⟩ := list_of phi0 (fun i p => (v.cell? ⟨g, 0 + i * 2, none⟩ = some (.int .i64 p.w) ∧ ∃ u c, v.cell? ⟨g, 0 + i * 2 + 1, none⟩ = some (.slice u p.ins.length c) ∧ IntsAt v base u p.ins) ∧ p.ins.length ≤ 10000) n fun i hi => by
   obtain ⟨⟨z, hz⟩, s, hs1, hs2⟩ := (h3 i hi).2.2.1 rfl
   obtain ⟨u, k, c, rfl, hk, hs3⟩ := slv_form hs2.slv
   obtain ⟨m, m1, m2⟩ := ints_of th hs3 (by omega)
   exact ⟨⟨z, m⟩, ⟨by simpa [hs] using hz, u, c, by simpa [hs, m1] using hs1, m2⟩, by dsimp only; omega⟩
  refine ⟨l, l1, ⟨by omega, .inr ⟨g, 0, rfl, h1, h2, fun i hi => (l2 i (by omega)).1⟩⟩, fun p hp => ?_⟩
  obtain ⟨i, hi, rfl⟩ := mem_getD phi0 hp
  have := (l2 i (by omega)).2
  show _ ≤ _
  omega
theorem insts_of (th : TH base M N v) (hN : N ≤ 10000) (h : SlN M 44 (.slice u n c) n) (hn : n ≤ 10000) : ∃ l : List InstD, l.length = n ∧ InstsAt v base u l ∧ ∀ p ∈ l, SmInst p := by
 rcases sl_at th h with rfl | ⟨g, rfl, h1, h2, h3⟩
 ·exact ⟨[], rfl, ⟨by simp, .inl rfl⟩, by simp⟩
 ·have hs : szT 44 = 7 := by decide
  obtain ⟨l, l1, l2⟩ := list_of inst0 (fun i p => (v.cell? ⟨g, 0 + i * 7, none⟩ = some (.int .i64 p.op) ∧ v.cell? ⟨g, 0 + i * 7 + 1, none⟩ = some (.int .i64 p.w) ∧ v.cell? ⟨g, 0 + i * 7 + 2, none⟩ = some (.int .i64 p.a) ∧ v.cell? ⟨g, 0 + i * 7 + 3, none⟩ = some (.int .i64 p.b) ∧ v.cell? ⟨g, 0 + i * 7 + 4, none⟩ = some (.int .i64 p.c) ∧ v.cell? ⟨g, 0 + i * 7 + 5, none⟩ = some (.int .i64 p.imm) ∧ ∃ u c, v.cell? ⟨g, 0 + i * 7 + 6, none⟩ = some (.slice u p.args.length c) ∧ IntsAt v base u p.args) ∧ p.args.length ≤ 10000) n fun i hi => by
   obtain ⟨hz, s, hs1, hs2⟩ := (h3 i hi).2.2.2.1 rfl
   obtain ⟨u, k, c, rfl, hk, hs3⟩ := slv_form hs2
   obtain ⟨m, m1, m2⟩ := ints_of th hs3 (by omega)
   obtain ⟨z0, y0⟩ := hz 0 (by omega)
   obtain ⟨z1, y1⟩ := hz 1 (by omega)
   obtain ⟨z2, y2⟩ := hz 2 (by omega)
   obtain ⟨z3, y3⟩ := hz 3 (by omega)
   obtain ⟨z4, y4⟩ := hz 4 (by omega)
   obtain ⟨z5, y5⟩ := hz 5 (by omega)
   simp only [hs] at y0 y1 y2 y3 y4 y5 hs1
   exact ⟨⟨z0, z1, z2, z3, z4, z5, m⟩, ⟨y0, y1, y2, y3, y4, y5, u, c, by rw [hs1, m1], m2⟩, by dsimp only; omega⟩
  refine ⟨l, l1, ⟨by omega, .inr ⟨g, 0, rfl, h1, h2, fun i hi => (l2 i (by omega)).1⟩⟩, fun p hp => ?_⟩
  obtain ⟨i, hi, rfl⟩ := mem_getD inst0 hp
  have := (l2 i (by omega)).2
  show _ ≤ _
  omega
theorem blocks_of (th : TH base M N v) (hN : N ≤ 10000) (h : SlN M 41 (.slice u n c) n) (hn : n ≤ 10000) : ∃ l : List BlockD, l.length = n ∧ BlocksAt v base u l ∧ ∀ p ∈ l, SmBlock p := by
 rcases sl_at th h with rfl | ⟨g, rfl, h1, h2, h3⟩
 ·exact ⟨[], rfl, ⟨by simp, .inl rfl⟩, by simp⟩
 ·have hs : szT 41 = 6 := by decide
  obtain ⟨l, l1, l2⟩ := list_of block0 (fun i p => ((∃ u c, v.cell? ⟨g, 0 + i * 6, none⟩ = some (.slice u p.phis.length c) ∧ PhisAt v base u p.phis) ∧ (∃ u c, v.cell? ⟨g, 0 + i * 6 + 1, none⟩ = some (.slice u p.insts.length c) ∧ InstsAt v base u p.insts) ∧ v.cell? ⟨g, 0 + i * 6 + 2, none⟩ = some (.int .i64 p.term.kind) ∧ v.cell? ⟨g, 0 + i * 6 + 3, none⟩ = some (.int .i64 p.term.a) ∧ v.cell? ⟨g, 0 + i * 6 + 4, none⟩ = some (.int .i64 p.term.x) ∧ v.cell? ⟨g, 0 + i * 6 + 5, none⟩ = some (.int .i64 p.term.y)) ∧ SmBlock p) n fun i hi => by
   obtain ⟨⟨s, hs1, hs2⟩, ⟨s', hs1', hs2'⟩, hz⟩ := (h3 i hi).2.2.2.2 rfl
   obtain ⟨u, k, c, rfl, hk, hs3⟩ := slv_form hs2
   obtain ⟨u', k', c', rfl, hk', hs3'⟩ := slv_form hs2'
   obtain ⟨m, m1, m2, m3⟩ := phis_of th hN hs3 (by omega)
   obtain ⟨m', m1', m2', m3'⟩ := insts_of th hN hs3' (by omega)
   obtain ⟨z2, y2⟩ := hz 2 (by omega) (by omega)
   obtain ⟨z3, y3⟩ := hz 3 (by omega) (by omega)
   obtain ⟨z4, y4⟩ := hz 4 (by omega) (by omega)
   obtain ⟨z5, y5⟩ := hz 5 (by omega) (by omega)
   simp only [hs] at y2 y3 y4 y5 hs1 hs1'
   exact ⟨⟨m, m', ⟨z2, z3, z4, z5⟩⟩, ⟨⟨u, c, by rw [← m1] at hs1; exact hs1, m2⟩, ⟨u', c', by rw [← m1'] at hs1'; exact hs1', m2'⟩, y2, y3, y4, y5⟩, ⟨by dsimp only; omega, m3⟩, ⟨by dsimp only; omega, m3'⟩⟩
  refine ⟨l, l1, ⟨by omega, .inr ⟨g, 0, rfl, h1, h2, fun i hi => (l2 i (by omega)).1⟩⟩, fun p hp => ?_⟩
  obtain ⟨i, hi, rfl⟩ := mem_getD block0 hp
  exact (l2 i (by omega)).2
end Go.Proofs.YtenbodghkpbghaaDoor
namespace Go.Proofs.YtenbodghkpbghaaDoor
open Go.RowKit
end Go.Proofs.YtenbodghkpbghaaDoor
namespace Go.Proofs.YtenbodghkpbghaaDoor
open Go.RowKit
end Go.Proofs.YtenbodghkpbghaaDoor
namespace Go.Proofs.YtenbodghkpbghaaDoor
open Go.RowKit
end Go.Proofs.YtenbodghkpbghaaDoor
namespace Go.Proofs.YtenbodghkpbghaaDoor
open Go.RowKit
def cntB (d : BlockD) : Nat := d.phis.length + d.insts.length
def cntL : List BlockD → Nat
 | [] => 0
 | d :: r => cntB d + cntL r
def cntF (d : FuncD) : Nat := d.params.length + cntL d.blocks
theorem cntL_append (a b : List BlockD) : cntL (a ++ b) = cntL a + cntL b := by
 induction a with
 | nil => simp [cntL]
 | cons d r ih => simp [cntL, ih]; omega
theorem cntL_take (l : List BlockD) (k : Nat) (h : k < l.length) : cntL (l.take (k + 1)) = cntL (l.take k) + cntB (l.getD k block0) := by
 rw [List.take_succ_eq_append_getElem h, cntL_append]
 simp [cntL, List.getD, h]
theorem cntL_le (l : List BlockD) (hs : ∀ d ∈ l, SmBlock d) : cntL l ≤ l.length * 2097152 := by
 induction l with
 | nil => simp [cntL]
 | cons d r ih =>
  have h1 := ih fun x hx => hs x (List.mem_cons_of_mem _ hx)
  have h2 := hs d (List.mem_cons_self ..)
  have h3 := h2.1.1
  have h4 := h2.2.1
  simp only [cntL, cntB, List.length_cons]; omega
theorem cnt_take_le (l : List BlockD) (k : Nat) (hl : l.length ≤ 1048576) (hs : ∀ d ∈ l, SmBlock d) : cntL (l.take k) ≤ 2199023255552 := by
 have h := cntL_le (l.take k) fun d hd => hs d (List.mem_of_mem_take hd)
 have : (l.take k).length ≤ 1048576 := by simp; omega
 omega
set_option maxHeartbeats 2000000 in
theorem countS_any (lo : Nat) (d : FuncD) (u0 : Option Addr) (c0 : Nat) (u2 : Option Addr) (c2 : Nat) (w : World) (hs : SmFunc d) (k2 : BlocksAt w lo u2 d.blocks) :
  Calls Tryd.prog 23 #[.agg #[.slice u0 d.params.length c0, .int .i64 d.ret, .slice u2 d.blocks.length c2]] w fun e w' => e = .returned (.int .i64 (cntF d)) ∧ Below w.heap.size w w' := by
 have hp := hs.1
 have hbl := hs.2.1
 have HS : Hid (∀ p ∈ d.blocks, SmBlock p) := hs.2.2
 clear hs
 go_enter Tryd.func23, Tryd.ntmps23
 go_wp2_with fail
 go_loopw [3, 4] (fun n i wr => ∃ k : Nat, k ≤ d.blocks.length ∧ i = .int .i64 k ∧ n = .int .i64 ((d.params.length : Int) + (cntL (d.blocks.take k) : Int)) ∧ Below (w.heap.size + 1) (w.alloc (.cells #[.slice u0 d.params.length c0, .int .i64 d.ret, .slice u2 d.blocks.length c2] 27)) wr) (fun _ i _ => d.blocks.length - (intOf i).toNat)
 case atStart => exact ⟨0, by omega, rfl, by simp [cntL], Below.refl _ _⟩
 case round =>
  obtain ⟨k, hk, rfl, rfl, hB⟩ := hrel
  have b2 : wr.cell? ⟨w.heap.size, 2, none⟩ = some (.slice u2 d.blocks.length c2) := (cell_block (hB.block w.heap.size (by omega))).trans (by simp)
  have hW : Below w.heap.size w wr := ((Below.refl w.heap.size w).alloc (Nat.le_refl _) _).trans (hB.mono (by omega))
  have hct := cnt_take_le d.blocks k hbl HS.out
  by_cases hlt : k < d.blocks.length
  ·rcases k2.2 with hn | ⟨b, off, rfl, hlo, hb, hcell⟩
   ·simp [hn] at hlt
   obtain ⟨⟨v0, q0, h0, _⟩, ⟨v1, q1, h1, _⟩, _⟩ := hcell k hlt
   have htk := cntL_take d.blocks k hlt
   have hsm := HS.out _ (getD_mem block0 d.blocks k hlt)
   generalize d.blocks.getD k block0 = x at h0 h1 htk hsm
   have e0 : wr.cell? ⟨b, off + k * 6, none⟩ = some (.slice v0 x.phis.length q0) := (cell_block (hW.block b hb)).trans h0
   have e1 : wr.cell? ⟨b, off + k * 6 + 1, none⟩ = some (.slice v1 x.insts.length q1) := (cell_block (hW.block b hb)).trans h1
   have s0 := hsm.1.1
   have s1 := hsm.2.1
   have HT : Hid (cntL (d.blocks.take (k + 1)) = cntL (d.blocks.take k) + cntB x) := htk
   have HB : Hid (Below (w.heap.size + 1) (w.alloc (.cells #[.slice u0 d.params.length c0, .int .i64 d.ret, .slice (some ⟨b, off, none⟩) d.blocks.length c2] 27)) wr) := hB
   clear hcell h0 h1 htk hsm hB hW k2
   go_wp2_with fail
   go_quiet (fail)
   go_wp2_with fail
   go_roundw
   case rel => exact ⟨k + 1, by omega, by go_num, congrArg (Value.int .i64) (by rw [HT.out]; unfold cntB; omega), below_drewN HB.out _⟩
   case measure => simp [intOf]; omega
  ·have hke : k = d.blocks.length := by omega
   clear hB
   go_wp2_with fail
   go_ret
   exact ⟨ret_i (by rw [hke, List.take_length]; unfold cntF; omega), hW⟩
set_option maxHeartbeats 2000000 in
theorem countI_any (lo : Nat) (d : FuncD) (u0 : Option Addr) (c0 : Nat) (u2 : Option Addr) (c2 : Nat) (w : World) (hs : SmFunc d) (k2 : BlocksAt w lo u2 d.blocks) :
  Calls Tryd.prog 10 #[.agg #[.slice u0 d.params.length c0, .int .i64 d.ret, .slice u2 d.blocks.length c2]] w fun e w' => e = .returned (.int .i64 (cntF d)) ∧ Below w.heap.size w w' := by
 have hp := hs.1
 have hbl := hs.2.1
 have HS : Hid (∀ p ∈ d.blocks, SmBlock p) := hs.2.2
 clear hs
 go_enter Tryd.func10, Tryd.ntmps10
 go_wp2_with fail
 go_loopw [3, 12] (fun n i wr => ∃ k : Nat, k ≤ d.blocks.length ∧ i = .int .i64 k ∧ n = .int .i64 ((d.params.length : Int) + (cntL (d.blocks.take k) : Int)) ∧ Below w.heap.size w wr) (fun _ i _ => d.blocks.length - (intOf i).toNat)
 case atStart => exact ⟨0, by omega, rfl, by simp [cntL], (Below.refl _ _).alloc (Nat.le_refl _) _⟩
 case round =>
  obtain ⟨k, hk, rfl, rfl, hW⟩ := hrel
  have hct := cnt_take_le d.blocks k hbl HS.out
  by_cases hlt : k < d.blocks.length
  ·rcases k2.2 with hn | ⟨b, off, rfl, hlo, hb, hcell⟩
   ·simp [hn] at hlt
   obtain ⟨⟨v0, q0, h0, _⟩, ⟨v1, q1, h1, _⟩, h2, h3, h4, h5⟩ := hcell k hlt
   have htk := cntL_take d.blocks k hlt
   have hsm := HS.out _ (getD_mem block0 d.blocks k hlt)
   generalize d.blocks.getD k block0 = x at h0 h1 h2 h3 h4 h5 htk hsm
   have e0 : wr.cell? ⟨b, off + k * 6, none⟩ = some (.slice v0 x.phis.length q0) := (cell_block (hW.block b hb)).trans h0
   have e1 : wr.cell? ⟨b, off + k * 6 + 1, none⟩ = some (.slice v1 x.insts.length q1) := (cell_block (hW.block b hb)).trans h1
   have e2 : wr.cell? ⟨b, off + k * 6 + 2, none⟩ = some (.int .i64 x.term.kind) := (cell_block (hW.block b hb)).trans h2
   have e3 : wr.cell? ⟨b, off + k * 6 + 3, none⟩ = some (.int .i64 x.term.a) := (cell_block (hW.block b hb)).trans h3
   have e4 : wr.cell? ⟨b, off + k * 6 + 4, none⟩ = some (.int .i64 x.term.x) := (cell_block (hW.block b hb)).trans h4
   have e5 : wr.cell? ⟨b, off + k * 6 + 5, none⟩ = some (.int .i64 x.term.y) := (cell_block (hW.block b hb)).trans h5
   have s0 := hsm.1.1
   have s1 := hsm.2.1
   have HT : Hid (cntL (d.blocks.take (k + 1)) = cntL (d.blocks.take k) + cntB x) := htk
   have HB : Hid (Below w.heap.size w wr) := hW
   clear hcell h0 h1 h2 h3 h4 h5 htk hsm hW k2
   go_wp2_with fail
   go_roundw
   case rel => exact ⟨k + 1, by omega, by go_num, congrArg (Value.int .i64) (by rw [HT.out]; unfold cntB; omega), HB.out.alloc HB.out.size _⟩
   case measure => simp [intOf]; omega
  ·have hke : k = d.blocks.length := by omega
   go_wp2_with fail
   go_ret
   exact ⟨ret_i (by rw [hke, List.take_length]; unfold cntF; omega), hW⟩
end Go.Proofs.YtenbodghkpbghaaDoor
namespace Go.Proofs.YtenbodghkpbghaaDoor
open Go.RowKit Go.Deep
set_option linter.unusedVariables false
def FMem (w : World) (lo H : Nat) (d : FuncD) (up ub : Option Addr) : Prop := ∃ w1 : World, w1.heap.size ≤ H ∧ IntsAt w1 lo up d.params ∧ BlocksAt w1 lo ub d.blocks ∧ Agree lo w1 w
theorem FMem.step {w w' : World} {lo H : Nat} {d : FuncD} {up ub : Option Addr} (h : FMem w lo H d up ub) (hs : w.heap.size ≤ w'.heap.size) (hb : ∀ b, lo ≤ b → b < H → w'.heap[b]? = w.heap[b]?) : FMem w' lo H d up ub := by
 obtain ⟨w1, h1, h2, h3, h4, h5⟩ := h
 exact ⟨w1, h1, h2, h3, Nat.le_trans h4 hs, fun b k1 k2 => (hb b k1 (by omega)).trans (h5 b k1 k2)⟩
theorem FMem.read {w : World} {lo H : Nat} {d : FuncD} {up ub : Option Addr} (h : FMem w lo H d up ub) : IntsAt w lo up d.params ∧ BlocksAt w lo ub d.blocks := by
 obtain ⟨w1, h1, h2, h3, h4⟩ := h
 exact ⟨h2.keep h4, h3.keep h4⟩
def Wds (w : World) (lo H : Nat) (up : Option Addr) (np : Nat) : Prop := np ≤ 2 ∧ (0 < np → ∃ gp, up = some ⟨gp, 0, none⟩ ∧ lo ≤ gp ∧ gp < H ∧ (∃ cur, w.heap[gp]? = some (.cells cur 2 (0, 0))) ∧ ∀ i, i < np → ∃ x : Int, w.cell? ⟨gp, i, none⟩ = some (.int .i64 x) ∧ (x = 1 ∨ x = 8 ∨ x = 16 ∨ x = 32))
theorem Wds.step {w w' : World} {lo H np : Nat} {up : Option Addr} (h : Wds w lo H up np) (hb : ∀ b, lo ≤ b → b < H → w'.heap[b]? = w.heap[b]?) : Wds w' lo H up np := by
 refine ⟨h.1, fun hn => ?_⟩
 obtain ⟨gp, h1, h2, h3, ⟨cur, h4⟩, h5⟩ := h.2 hn
 refine ⟨gp, h1, h2, h3, ⟨cur, (hb gp h2 h3).trans h4⟩, fun i hi => ?_⟩
 obtain ⟨x, x1, x2⟩ := h5 i hi
 exact ⟨x, (cell_blk (hb gp h2 h3)).trans x1, x2⟩
structure Fnc (w : World) (lo H : Nat) (d : FuncD) (up ub : Option Addr) : Prop where
 mem : FMem w lo H d up ub
 sm : SmFunc d
 one : 1 ≤ d.blocks.length ∧ d.blocks.length ≤ 400
 wds : Wds w lo H up d.params.length
theorem Fnc.step {w w' : World} {lo H : Nat} {d : FuncD} {up ub : Option Addr} (h : Fnc w lo H d up ub) (hs : w.heap.size ≤ w'.heap.size) (hb : ∀ b, lo ≤ b → b < H → w'.heap[b]? = w.heap[b]?) : Fnc w' lo H d up ub :=
 ⟨h.mem.step hs hb, h.sm, h.one, h.wds.step hb⟩
theorem Fnc.more {w : World} {lo H H' : Nat} {d : FuncD} {up ub : Option Addr} (h : Fnc w lo H d up ub) (hH : H ≤ H') : Fnc w lo H' d up ub := by
 obtain ⟨⟨w1, a1, a2⟩, h2, h3, h4, h5⟩ := h
 refine ⟨⟨w1, by omega, a2⟩, h2, h3, h4, fun hn => ?_⟩
 obtain ⟨gp, b1, b2, b3, b4⟩ := h5 hn
 exact ⟨gp, b1, b2, by omega, b4⟩
theorem Fnc.keep {w w' : World} {lo H g : Nat} {d : FuncD} {up ub : Option Addr} (h : Fnc w lo H d up ub) (hb : ∀ b, b < w.heap.size → b ≠ g → w'.heap[b]? = w.heap[b]?) (hs : w.heap.size ≤ w'.heap.size) (hg : g < lo) : Fnc w' lo H d up ub := by
 obtain ⟨⟨w1, a1, a2, a3, a4, a5⟩, h2, h3, h4, h5⟩ := h
 refine ⟨⟨w1, a1, a2, a3, by omega, fun b b1 b2 => (hb b (by omega) (by omega)).trans (a5 b b1 b2)⟩, h2, h3, h4, fun hn => ?_⟩
 obtain ⟨gp, c1, c2, c3, ⟨cur, c4⟩, c5⟩ := h5 hn
 have hl := (Array.getElem?_eq_some_iff.1 c4).1
 have he := hb gp hl (by omega)
 refine ⟨gp, c1, c2, c3, ⟨cur, he.trans c4⟩, fun i hi => ?_⟩
 obtain ⟨x, x1, x2⟩ := c5 i hi
 exact ⟨x, (cell_blk he).trans x1, x2⟩
theorem fnc_of {base N up np cp ub nb cb : _} {M : Tmap} {w : World} {ret : Int} (th : TH base M N w) (hN : N ≤ 10000) (h1 : SlN M 2 (.slice up np cp) np) (h2 : SlN M 41 (.slice ub nb cb) nb) (hn : np ≤ 2) (hb : 1 ≤ nb ∧ nb ≤ 400) (hw : ∀ k, k < np → ∃ x : Int, rowAt w (.slice up np cp) k = some (.int .i64 x) ∧ (x = 1 ∨ x = 8 ∨ x = 16 ∨ x = 32)) :
  ∃ d : FuncD, d.params.length = np ∧ d.ret = ret ∧ d.blocks.length = nb ∧ Fnc w base w.heap.size d up ub := by
 obtain ⟨l, l1, l2⟩ := ints_of th h1 (by omega)
 obtain ⟨m, m1, m2, m3⟩ := blocks_of th hN h2 (by omega)
 refine ⟨⟨l, ret, m⟩, l1, rfl, m1, ⟨w, Nat.le_refl _, l2, m2, Nat.le_refl _, fun _ _ _ => rfl⟩, ⟨by dsimp only; omega, by dsimp only; omega, m3⟩, ⟨by dsimp only; omega, by dsimp only; omega⟩, by dsimp only; omega, fun hp => ?_⟩
 dsimp only at hp
 rw [l1] at hp
 obtain ⟨u', c', e, h⟩ := h1
 cases e
 rcases h with h | ⟨gp, mp, rfl, hM, hm⟩
 ·omega
 ·obtain ⟨t1, cur, t2, t3⟩ := th gp _ _ hM
  refine ⟨gp, rfl, t1, (Array.getElem?_eq_some_iff.1 t2).1, ⟨cur, t2⟩, fun i hi => ?_⟩
  dsimp only at hi
  rw [l1] at hi
  exact hw i hi
def Two (v : Value) (g H : Nat) (w w' : World) : Prop := (v.ownBlock = some g ∧ w.grownBy w' (some g)) ∨ (H ≤ g ∧ w.grownBy w' none)
theorem Two.grown {v : Value} {g H : Nat} {w w' : World} (h : Two v g H w w') : w.grownBy w' v.ownBlock := by
 rcases h with ⟨h1, h2⟩ | ⟨_, h2⟩
 ·rw [h1]; exact h2
 ·exact ⟨h2.os, h2.tape, h2.output, h2.size, fun b hb _ => h2.block b hb (by simp)⟩
theorem Two.at {v : Value} {g H : Nat} {w w' : World} (h : Two v g H w w') : v.ownBlock = some g ∨ H ≤ g := by
 rcases h with ⟨h1, _⟩ | ⟨h1, _⟩
 ·exact .inl h1
 ·exact .inr h1
theorem Two.blk {v : Value} {g H b : Nat} {w w' : World} (h : Two v g H w w') (hb : b < w.heap.size) : w'.heap[b]? = w.heap[b]? ∨ (v.ownBlock = some b ∧ b = g) := by
 rcases h with ⟨h1, h2⟩ | ⟨_, h2⟩
 ·by_cases e : b = g
  ·exact .inr ⟨e ▸ h1, e⟩
  ·exact .inl (h2.block b hb (by intro k; exact e (Option.some.inj k)))
 ·exact .inl (h2.block b hb (by simp))
theorem run_two {base n sz : Nat} {T t ty : TypeId} {s : Value} {v : World} {xs : List Value} (i : TypeInfo) (z : Value) (bytes : Nat) (ht : Tryd.prog.underlying t = some (.slice T)) (hi : Tryd.prog.info? T = some i) (hz : i.zero = some z) (hsz : i.size = sz) (hby : i.bytes = bytes) (hzs : z.cells.size = sz) (hs0 : 0 < sz)
  (hx : v.ownsRow base T sz s n xs) (hb : base ≤ v.heap.size) (hn : n + 1 ≤ maxLen) (hmul : (n + 1) * bytes ≤ 140737488355328)
  (ad : Addr) (c : Nat) (news : List Value) (hl : news.length = sz) (hnews : ∀ j u, news[j]? = some u → v.cell? (ad.add j) = some u) (h1 : ∀ u ∈ news, u.oneCell' = true) :
  ∃ s' w' g cap, (Builtin.append_ #[t, t] ty #[s, .slice (some ad) 1 c]).run Tryd.prog v = .ok s' w' ∧ s' = .slice (some ⟨g, 0, none⟩) (n + 1) cap ∧ w'.ownsRow base T sz (.slice (some ⟨g, 0, none⟩) (n + 1) cap) (n + 1) (xs ++ news) ∧ Two s g v.heap.size v w' ∧ g < w'.heap.size := by
 rcases hx.2 with ⟨rfl, rfl⟩ | ⟨g, cap, cur, rfl, hg, hc, hnc, hm, hs, hk⟩
 ·have hx0 : xs = [] := by have := hx.1; simpa using this
  subst hx0
  obtain ⟨v', w', hr, h2, h3, _, _⟩ := run_append_own_at (P := Tryd.prog) v v.heap.size t ty T i z sz bytes ht hi hz hsz hby hzs hs0 (.slice none 0 0) 0 [] ⟨by simp, .inl ⟨rfl, rfl⟩⟩ ad 1 c news (by omega) hnews h1 hn hmul (Nat.le_refl _)
  obtain ⟨g', cap', rfl, hg', _⟩ := h2.form (by omega)
  have h4 := own_low (by simpa using h2) hb
  exact ⟨_, w', g', cap', hr, rfl, h4, .inr ⟨hg', h3⟩, (h4.lt g' rfl).2⟩
 ·by_cases hroom : n + 1 ≤ cap
  ·obtain ⟨w', hr, h2, h3⟩ := run_append_own_spare (P := Tryd.prog) v base t ty T i sz ht hi hsz g n cap xs hx ad 1 c news (by omega) hnews h1 hroom
   exact ⟨_, w', g, cap, hr, rfl, h2, .inl ⟨rfl, h3⟩, (h2.lt g rfl).2⟩
  ·have hxl := hx.1
   obtain ⟨v', w', hr, h2, h3⟩ := run_append_arg_grows (P := Tryd.prog) v t ty T i z sz bytes ht hi hz hsz hby hzs hs0 ⟨g, 0, none⟩ n cap xs hxl (hx.cells rfl) ad 1 c news (by omega) hnews (by omega) hn hmul
   obtain ⟨g', cap', rfl, hg', _⟩ := h2.form (by omega)
   have h4 := own_low h2 hb
   exact ⟨_, w', g', cap', hr, rfl, h4, .inr ⟨hg', h3⟩, (h4.lt g' rfl).2⟩
theorem wpList_append_two (w : World) {ops : Array Oper} {rest : List Oper} {o : Oper} {a : Act} {Q : Exit → Act → World → Prop} (hgd : o.guard = none) (s x : Operand) (t : TypeId)
  (ho : o.op = .call { callee := .builtin .append, args := #[s, x], argTypes := #[t, t] })
  (base : Nat) (e : TypeId) (i : TypeInfo) (z : Value) (size bytes : Nat) (ht : Tryd.prog.underlying t = some (.slice e)) (hi : Tryd.prog.info? e = some i) (hz : i.zero = some z)
  (hsize : i.size = size) (hby : i.bytes = bytes) (hzs : z.cells.size = size) (hsz : 0 < size)
  (v : Value) (n : Nat) (xs : List Value) (hs : a.eval s = v) (hown : w.ownsRow base e size v n xs)
  (ad : Addr) (c : Nat) (news : List Value) (hx : a.eval x = .slice (some ad) 1 c) (hl : news.length = size) (hnews : ∀ j u, news[j]? = some u → w.cell? (ad.add j) = some u) (h1 : ∀ u ∈ news, u.oneCell' = true)
  (h63 : n + 1 ≤ maxLen) (hbytes : (n + 1) * bytes ≤ 140737488355328) (hbase : base ≤ w.heap.size)
  (h : ∀ g cap w', w'.ownsRow base e size (.slice (some ⟨g, 0, none⟩) (n + 1) cap) (n + 1) (xs ++ news) → Two v g w.heap.size w w' → g < w'.heap.size → wpList Tryd.prog ops Q rest (a.put o.dst (.slice (some ⟨g, 0, none⟩) (n + 1) cap)) w') : wpList Tryd.prog ops Q (o :: rest) a w := by
 refine wpList_row hgd s x t ho hs hx (R := fun w' s' _ => ∃ g cap, s' = .slice (some ⟨g, 0, none⟩) (n + 1) cap ∧ w'.ownsRow base e size (.slice (some ⟨g, 0, none⟩) (n + 1) cap) (n + 1) (xs ++ news) ∧ Two v g w.heap.size w w' ∧ g < w'.heap.size) (fun ty => ?_) ?_
 ·obtain ⟨s', w', g, cap, k1, k2, k3, k4, k5⟩ := run_two (ty := ty) i z bytes ht hi hz hsize hby hzs hsz hown hbase h63 hbytes ad c news hl hnews h1
  exact ⟨s', w', fun _ => none, k1, g, cap, k2, k3, k4, k5⟩
 ·rintro s' w' M' ⟨g, cap, rfl, k3, k4, k5⟩
  exact h g cap w' k3 k4 k5
def TyM (M : Tmap) (d : FuncD) (up ub : Option Addr) : Prop := SlN M 2 (.slice up d.params.length 0) d.params.length ∧ SlN M 41 (.slice ub d.blocks.length 0) d.blocks.length ∧ d.params.length ≤ 2 ∧ 1 ≤ d.blocks.length ∧ d.blocks.length ≤ 400
def Ty2 (w : World) (lo : Nat) (d : FuncD) (up ub : Option Addr) : Prop := ∃ M, TH lo M 400 w ∧ TyM M d up ub
def TyH (w : World) (lo H : Nat) (d : FuncD) (up ub : Option Addr) : Prop := ∃ M, TH lo M 400 w ∧ (∀ b p, M b = some p → b < H) ∧ TyM M d up ub
def Ty1 (w : World) (lo : Nat) (d : FuncD) (up ub : Option Addr) (r s : Value) (k : Nat) : Prop := ∃ M, TH lo M 400 w ∧ (∀ q T m, (r.ownBlock = some q ∨ s.ownBlock = some q) → M q = some (T, m) → m ≤ k) ∧ TyM M d up ub
theorem TH.same {lo N : Nat} {M : Tmap} {w w' : World} (h : TH lo M N w) (hb : ∀ b, lo ≤ b → b < w.heap.size → (∃ p, M b = some p) → w'.heap[b]? = w.heap[b]?) : TH lo M N w' := fun b T m hm => by
 obtain ⟨h1, cur, h2, h3⟩ := h b T m hm
 exact ⟨h1, cur, (hb b h1 (Array.getElem?_eq_some_iff.1 h2).1 ⟨_, hm⟩).trans h2, h3⟩
theorem TH.blk {lo N b : Nat} {M : Tmap} {w : World} (h : TH lo M N w) {p : TypeId × Nat} (hb : M b = some p) : lo ≤ b ∧ b < w.heap.size := by
 obtain ⟨T, m⟩ := p
 obtain ⟨h1, cur, h2, h3⟩ := h b T m hb
 exact ⟨h1, (Array.getElem?_eq_some_iff.1 h2).1⟩
theorem TH.turn {lo N : Nat} {M : Tmap} {w w' : World} (h : TH lo M N w) (hb : ∀ b T m, M b = some (T, m) → w'.heap[b]? = w.heap[b]? ∨ ∃ cur, w'.heap[b]? = some (.cells cur T (0, 0)) ∧ ∀ i, i < m → ElOk M N T (fun j => cur[i * szT T + j]?)) : TH lo M N w' := fun b T m hm => by
 obtain ⟨h1, cur, h2, h3⟩ := h b T m hm
 rcases hb b T m hm with e | ⟨cur', e1, e2⟩
 ·exact ⟨h1, cur, e.trans h2, h3⟩
 ·exact ⟨h1, cur', e1, e2⟩
theorem Ty2.keep {w w' : World} {lo g : Nat} {d : FuncD} {up ub : Option Addr} (h : Ty2 w lo d up ub) (hb : ∀ b, b < w.heap.size → b ≠ g → w'.heap[b]? = w.heap[b]?) (hg : g < lo) : Ty2 w' lo d up ub := by
 obtain ⟨M, h1, h2⟩ := h
 exact ⟨M, h1.same fun b k1 k2 _ => hb b k2 (by omega), h2⟩
theorem TyH.keep {w w' : World} {lo H g : Nat} {d : FuncD} {up ub : Option Addr} (h : TyH w lo H d up ub) (hb : ∀ b, b < w.heap.size → b ≠ g → w'.heap[b]? = w.heap[b]?) (hg : g < lo) : TyH w' lo H d up ub := by
 obtain ⟨M, h1, h2, h3⟩ := h
 exact ⟨M, h1.same fun b k1 k2 _ => hb b k2 (by omega), h2, h3⟩
theorem TyH.step {w w' : World} {lo H : Nat} {d : FuncD} {up ub : Option Addr} (h : TyH w lo H d up ub) (hb : ∀ b, lo ≤ b → b < H → w'.heap[b]? = w.heap[b]?) : TyH w' lo H d up ub := by
 obtain ⟨M, h1, h2, h3⟩ := h
 refine ⟨M, h1.same fun b k1 _ k3 => ?_, h2, h3⟩
 obtain ⟨p, hp⟩ := k3
 exact hb b k1 (h2 b p hp)
theorem TyH.two {w : World} {lo lo' H : Nat} {d : FuncD} {up ub : Option Addr} (h : TyH w lo H d up ub) (hl : lo' ≤ lo) : Ty2 w lo' d up ub := by
 obtain ⟨M, h1, _, h3⟩ := h
 refine ⟨M, fun b T m hb => ?_, h3⟩
 obtain ⟨k1, k2⟩ := h1 b T m hb
 exact ⟨by omega, k2⟩
theorem Ty1.same {w w' : World} {lo k : Nat} {d : FuncD} {up ub : Option Addr} {r s : Value} (h : Ty1 w lo d up ub r s k) (hb : ∀ b, b < w.heap.size → w'.heap[b]? = w.heap[b]?) : Ty1 w' lo d up ub r s k := by
 obtain ⟨M, h1, h2⟩ := h
 exact ⟨M, h1.same fun b _ k2 _ => hb b k2, h2⟩
theorem sl_cap {M : Tmap} {T : TypeId} {u : Option Addr} {n c c' : Nat} (h : SlN M T (.slice u n c) n) : SlN M T (.slice u n c') n := by
 obtain ⟨u', q, e, h⟩ := h
 cases e
 exact ⟨_, _, rfl, h⟩
theorem own_pre {x y : World} {b n n' sz c c' q : Nat} {T : TypeId} {xs news : List Value} (h : x.ownsRow b T sz (.slice (some ⟨q, 0, none⟩) n c) n xs) (k : y.ownsRow b T sz (.slice (some ⟨q, 0, none⟩) n' c') n' (xs ++ news)) : ∃ cur cur', x.heap[q]? = some (.cells cur T (0, 0)) ∧ y.heap[q]? = some (.cells cur' T (0, 0)) ∧ ∀ j, j < n * sz → cur'[j]? = cur[j]? := by
 have hl := h.1
 rcases h.2 with ⟨e, _⟩ | ⟨g, cap, cur, e, _, hc, _, _, _, ht⟩
 ·cases e
 cases e
 rcases k.2 with ⟨e, _⟩ | ⟨g', cap', cur', e, _, hc', _, _, _, ht'⟩
 ·cases e
 cases e
 have hl' := k.1
 simp only [List.length_append] at hl'
 refine ⟨cur, cur', hc, hc', fun j hj => ?_⟩
 have e1 : (cur.toList.take (n * sz))[j]? = xs[j]? := by rw [ht]
 have e2 : (cur'.toList.take (n' * sz))[j]? = (xs ++ news)[j]? := by rw [ht']
 rw [List.getElem?_take, if_pos hj] at e1
 rw [List.getElem?_take, if_pos (by omega), List.getElem?_append_left (by omega)] at e2
 rw [← e1] at e2
 simpa using e2
structure MSt (z0 g : Nat) (a0 : Option Addr) (len cap : Nat) (v : World) (k : Nat) (r s : Value) (w : World) : Prop where
 rd : Rd g a0 len cap w
 gz : g < z0
 sz : z0 + 4 ≤ w.heap.size
 res : w.heap[z0]? = some (.cells #[.slice none 0 0] 59 (0, 0))
 fs : ∃ mf xs ps, w.heap[z0 + 1]? = some (.cells #[mf] 59 (0, 0)) ∧ w.ownsRow (z0 + 2) 27 3 mf k xs ∧ w.ownsRow (z0 + 2) 24 1 s k ps ∧ (k = 0 → mf = .slice none 0 0) ∧ (0 < k → ∃ d up cp ub cb H, xs[0]? = some (.slice up d.params.length cp) ∧ xs[1]? = some (.int .i64 d.ret) ∧ xs[2]? = some (.slice ub d.blocks.length cb) ∧ Fnc w (z0 + 4) H d up ub ∧ (∀ q, mf.ownBlock = some q → q < z0 + 4 ∨ H ≤ q) ∧ (∀ q, r.ownBlock = some q → q < z0 + 4 ∨ H ≤ q) ∧ (∀ q, s.ownBlock = some q → q < z0 + 4 ∨ H ≤ q) ∧ H ≤ w.heap.size ∧ (k = 1 → ps = [.slice up d.params.length cp]) ∧ TyH w (z0 + 4) H d up ub) ∧ (1 < k → ∃ d up cp ub cb, xs[3]? = some (.slice up d.params.length cp) ∧ xs[4]? = some (.int .i64 d.ret) ∧ xs[5]? = some (.slice ub d.blocks.length cb) ∧ Ty2 w (z0 + 2) d up ub)
 ro : ∃ zs : List Int, w.ownsRow (z0 + 2) 2 1 r k (zs.map (Value.int .i64))
 new0 : k = 0 → (∀ q, r.ownBlock = some q → q < z0 + 4) ∧ (∀ q, s.ownBlock = some q → q < z0 + 4)
 old : ∀ b, b < z0 → b ≠ g → w.heap[b]? = v.heap[b]?
 os : w.os = v.os
 tape : w.tape = v.tape
 output : w.output = v.output
theorem own_ne {w : World} {b b' n n' sz sz' p q : Nat} {T T' : TypeId} {x x' : Value} {xs xs' : List Value} (h : w.ownsRow b T sz x n xs) (h' : w.ownsRow b' T' sz' x' n' xs') (hT : T ≠ T') (hp : x.ownBlock = some p) (hq : x'.ownBlock = some q) : p ≠ q := by
 rcases h.2 with ⟨rfl, _⟩ | ⟨g, c, cur, rfl, _, hc, _⟩
 ·simp [Value.ownBlock] at hp
 rcases h'.2 with ⟨rfl, _⟩ | ⟨g', c', cur', rfl, _, hc', _⟩
 ·simp [Value.ownBlock] at hq
 simp [Value.ownBlock] at hp hq
 subst hp hq
 intro e
 subst e
 rw [hc] at hc'
 cases hc'
 exact hT rfl
def mapOf (gr gs : Nat) (gp : Option Nat) (np : Nat) : Tmap := fun b => if b = gr then some (2, 1) else if b = gs then some (24, 1) else if gp = some b then some (2, np) else none
theorem MSt.fnIn {z0 g len cap k : Nat} {a0 : Option Addr} {v w : World} {r s : Value} (h : MSt z0 g a0 len cap v k r s w) (hk : k ≤ 1) : ∃ base M ur cr us cs, (k = 0 → base = z0 + 4) ∧ r = .slice ur k cr ∧ s = .slice us k cs ∧ FnIn base g a0 len cap M (.slice ur k cr) (.slice us k cs) k w ∧ z0 + 2 ≤ base ∧ (∀ q, (r.ownBlock = some q ∨ s.ownBlock = some q) → q < base ∨ ∃ T m, M q = some (T, m) ∧ m ≤ k) := by
 have hgz := h.gz
 have hsz := h.sz
 obtain ⟨zs, hr⟩ := h.ro
 obtain ⟨mf, xs, ps, _, _, hs, _, hf, _⟩ := h.fs
 rcases Nat.lt_or_ge 0 k with hk1 | hk0
 ·obtain rfl : k = 1 := by omega
  obtain ⟨d, up, cp, _, _, H, _, _, _, hfnc, _, hHr, hHs, _, hps, _⟩ := hf (by omega)
  obtain rfl := hps rfl
  obtain ⟨hn, hw⟩ := hfnc.wds
  generalize d.params.length = np at *
  rcases hr.2 with ⟨_, e⟩ | ⟨gr, cr, cur, rfl, hgr2, hcr, hcr2, _, hcr3, hcr4⟩
  ·omega
  rcases hs.2 with ⟨_, e⟩ | ⟨gs, cs, cus, rfl, hgs2, hcs, hcs2, _, hcs3, hcs4⟩
  ·omega
  have hgr := hHr gr rfl
  have hgs := hHs gs rfl
  have hlr := (Array.getElem?_eq_some_iff.1 hcr).1
  have hls := (Array.getElem?_eq_some_iff.1 hcs).1
  have hne : gr ≠ gs := own_ne hr hs (by decide) rfl rfl
  have hr0 : ∃ z : Int, cur[0]? = some (.int .i64 z) := by
   obtain ⟨z, rfl⟩ : ∃ z, zs = [z] := by
    have := hr.1
    match zs, this with
    | [z], _ => exact ⟨z, rfl⟩
   refine ⟨z, ?_⟩
   have : (cur.toList.take (1 * 1))[0]? = some (.int .i64 z) := by rw [hcr4]; rfl
   rw [List.getElem?_take] at this
   simpa using this
  have hs0 : cus[0]? = some (.slice up np cp) := by
   have : (cus.toList.take (1 * 1))[0]? = some (.slice up np cp) := by rw [hcs4]; rfl
   rw [List.getElem?_take] at this
   simpa using this
  have hs1 : szT 2 = 1 := by decide
  have hs2 : szT 24 = 1 := by decide
  obtain ⟨z, hr0⟩ := hr0
  have hgp : ∃ gpo : Option Nat, (0 < np → ∃ gp, gpo = some gp ∧ up = some ⟨gp, 0, none⟩) ∧ ∀ gp, gpo = some gp → up = some ⟨gp, 0, none⟩ ∧ z0 + 4 ≤ gp ∧ gp < H ∧ (∃ cur, w.heap[gp]? = some (.cells cur 2 (0, 0)) ∧ ∀ i, i < np → ∃ z : Int, cur[i]? = some (.int .i64 z)) := by
   rcases Nat.eq_zero_or_pos np with h0 | h0
   ·exact ⟨none, fun h => by omega, fun gp h => by cases h⟩
   ·obtain ⟨gp, e1, e2, e3, ⟨cu, e4⟩, e5⟩ := hw h0
    refine ⟨some gp, fun _ => ⟨gp, rfl, e1⟩, fun gp' e => ?_⟩
    cases e
    refine ⟨e1, e2, e3, cu, e4, fun i hi => ?_⟩
    obtain ⟨x, x1, _⟩ := e5 i hi
    rw [cell_of_heap e4] at x1
    exact ⟨x, x1⟩
  obtain ⟨gpo, hg1, hg2⟩ := hgp
  have hMp : ∀ gp, gpo = some gp → ∃ m, mapOf gr gs gpo np gp = some (2, m) := fun gp e => by
   unfold mapOf
   by_cases e1 : gp = gr
   ·exact ⟨1, by rw [if_pos e1]⟩
   ·by_cases e2 : gp = gs
    ·exfalso
     obtain ⟨_, _, _, cu, c1, _⟩ := hg2 gp e
     rw [e2, hcs] at c1
     cases c1
    ·exact ⟨np, by rw [if_neg e1, if_neg e2, if_pos e]⟩
  refine ⟨z0 + 2, mapOf gr gs gpo np, some ⟨gr, 0, none⟩, cr, some ⟨gs, 0, none⟩, cs, fun e => by omega, rfl, rfl, ⟨h.rd, by omega, by omega, fun b T m hb => ?_, ⟨_, _, rfl, .inr ⟨gr, 1, rfl, by simp [mapOf], Nat.le_refl _⟩⟩, ⟨_, _, rfl, .inr ⟨gs, 1, rfl, by simp [mapOf, Ne.symm hne], Nat.le_refl _⟩⟩, by omega, fun _ => ?_, fun b T m hb => ?_⟩, Nat.le_refl _, fun q hq => ?_⟩
  ·unfold mapOf at hb
   split at hb
   ·rename_i e
    subst e
    cases hb
    exact ⟨by omega, cur, hcr, fun i hi => el_int (z := z) (by rw [hs1]; obtain rfl : i = 0 := (by omega); exact hr0)⟩
   ·split at hb
    ·rename_i e
     subst e
     cases hb
     refine ⟨by omega, cus, hcs, fun i hi => ?_⟩
     obtain rfl : i = 0 := by omega
     refine ⟨fun q => absurd q (by decide), fun _ => ⟨_, by rw [hs2]; exact hs0, np, by omega, up, cp, rfl, ?_⟩, fun q => absurd q (by decide), fun q => absurd q (by decide), fun q => absurd q (by decide)⟩
     rcases Nat.eq_zero_or_pos np with h0 | h0
     ·exact .inl h0
     ·obtain ⟨gp, e1, e2⟩ := hg1 h0
      right
      obtain ⟨e3, e4, e5, e6⟩ := hg2 gp e1
      have n1 : gp ≠ gr := by clear hf hps hfnc; omega
      have n2 : gp ≠ b := by clear hf hps hfnc; omega
      exact ⟨gp, np, e2, by unfold mapOf; rw [if_neg n1, if_neg n2, if_pos e1], Nat.le_refl _⟩
    ·split at hb
     ·rename_i e
      cases hb
      obtain ⟨_, c2, c3, cu, c4, c5⟩ := hg2 b e
      refine ⟨by omega, cu, c4, fun i hi => ?_⟩
      obtain ⟨z, hz⟩ := c5 i hi
      exact el_int (z := z) (by rw [hs1]; simpa using hz)
     ·cases hb
  ·obtain ⟨m, hm⟩ : ∃ m, mapOf gr gs gpo np gs = some (24, m) := ⟨1, by simp [mapOf, Ne.symm hne]⟩
   refine ⟨gs, cs, m, rfl, hm, fun i hi => ?_⟩
   have hi0 : i = 0 := by have : i < 1 := hi; omega
   subst hi0
   refine ⟨up, np, cp, (cell_of_heap hcs).trans hs0, hn, fun h0 => ?_⟩
   obtain ⟨gp, e1, e2⟩ := hg1 h0
   obtain ⟨mp, hmp⟩ := hMp gp e1
   obtain ⟨gp', f1, _, _, _, f5⟩ := hw h0
   rw [e2] at f1
   cases f1
   exact ⟨gp, mp, e2, hmp, f5⟩
  ·unfold mapOf at hb
   split at hb
   ·cases hb; exact .inl rfl
   ·split at hb
    ·cases hb; exact .inr rfl
    ·split at hb
     ·cases hb; exact .inl rfl
     ·cases hb
  ·right
   rcases hq with hq | hq
   ·have e : q = gr := by simpa [Value.ownBlock] using hq.symm
    exact ⟨2, 1, by rw [e]; simp [mapOf], Nat.le_refl _⟩
   ·have e : q = gs := by simpa [Value.ownBlock] using hq.symm
    exact ⟨24, 1, by rw [e]; simp [mapOf, Ne.symm hne], Nat.le_refl _⟩
 ·obtain rfl : k = 0 := by omega
  have form : ∀ {T : TypeId} {x : Value} {ys : List Value}, w.ownsRow (z0 + 2) T 1 x 0 ys → ∃ u c, x = .slice u 0 c := fun {T x ys} hx => by
   rcases hx.2 with ⟨rfl, _⟩ | ⟨g, c, cur, rfl, _⟩
   ·exact ⟨none, 0, rfl⟩
   ·exact ⟨_, c, rfl⟩
  obtain ⟨ur, cr, rfl⟩ := form hr
  obtain ⟨us, cs, rfl⟩ := form hs
  obtain ⟨q1, q2⟩ := h.new0 rfl
  exact ⟨z0 + 4, fun _ => none, ur, cr, us, cs, fun _ => rfl, rfl, rfl, ⟨h.rd, by omega, hsz, fun b T m hb => (by cases hb), ⟨_, _, rfl, .inl rfl⟩, ⟨_, _, rfl, .inl rfl⟩, by omega, fun hp => absurd hp (Nat.lt_irrefl 0), fun b T m hb => (by cases hb)⟩, by omega, fun q hq => .inl (by rcases hq with hq | hq; exact q1 q hq; exact q2 q hq)⟩
theorem MSt.keep {z0 g len cap k : Nat} {a0 : Option Addr} {v w x : World} {r s : Value} (h : MSt z0 g a0 len cap v k r s w) (hr : Rd g a0 len cap x) (hb : ∀ b, b < w.heap.size → b ≠ g → x.heap[b]? = w.heap[b]?) (hs : w.heap.size ≤ x.heap.size) (e1 : x.os = w.os) (e2 : x.tape = w.tape) (e3 : x.output = w.output) : MSt z0 g a0 len cap v k r s x := by
 have hgz := h.gz
 have hsz := h.sz
 have hlt : ∀ {T : TypeId} {sz n : Nat} {y : Value} {ys : List Value}, w.ownsRow (z0 + 2) T sz y n ys → x.ownsRow (z0 + 2) T sz y n ys := fun {T sz n y ys} hy => own_stay hy fun q hq => by
  obtain ⟨q1, q2⟩ := hy.lt q hq
  exact hb q q2 (by omega)
 obtain ⟨mf, xs, ps, m1, m2, m3, m0, m4, m6⟩ := h.fs
 obtain ⟨zs, hz⟩ := h.ro
 refine ⟨hr, hgz, by omega, (hb _ (by omega) (by omega)).trans h.res, ⟨mf, xs, ps, (hb _ (by omega) (by omega)).trans m1, hlt m2, hlt m3, m0, fun hk => ?_, fun hk => ?_⟩, ⟨zs, hlt hz⟩, h.new0, fun b b1 b2 => (hb b (by omega) b2).trans (h.old b b1 b2), e1.trans h.os, e2.trans h.tape, e3.trans h.output⟩
 ·obtain ⟨d, up, cp, ub, cb, H, x0, x1, x2, hF, r1, r2, r3, r4, r5, r6⟩ := m4 hk
  exact ⟨d, up, cp, ub, cb, H, x0, x1, x2, hF.keep hb hs (by omega), r1, r2, r3, by omega, r5, r6.keep hb (by omega)⟩
 ·obtain ⟨d, up, cp, ub, cb, x0, x1, x2, r6⟩ := m6 hk
  exact ⟨d, up, cp, ub, cb, x0, x1, x2, r6.keep hb (by omega)⟩
end Go.Proofs.YtenbodghkpbghaaDoor
namespace Go.Proofs.YtenbodghkpbghaaDoor
open Go.RowKit Go.Deep
set_option linter.unusedVariables false
theorem rowblk {w : World} {b n sz : Nat} {T : TypeId} {x : Value} {xs : List Value} (h : w.ownsRow b T sz x n xs) (q : Nat) (hq : x.ownBlock = some q) : ∃ cur, w.heap[q]? = some (.cells cur T (0, 0)) := by
 rcases h.2 with ⟨rfl, _⟩ | ⟨g, c, cur, rfl, _, hc, _⟩
 ·simp [Value.ownBlock] at hq
 ·simp [Value.ownBlock] at hq
  subst hq
  exact ⟨cur, hc⟩
theorem turn_row {x y : World} {lo N z k b c' m : Nat} {M : Tmap} {T T' : TypeId} {v : Value} {xs news : List Value} (hT : T = 2 ∨ T = 24) (th : TH lo M N x) (hb : M b = some (T', m)) (hmk : m ≤ k) (hv : v.ownBlock = some b) (h : x.ownsRow z T 1 v k xs) (hy : y.ownsRow z T 1 (.slice (some ⟨b, 0, none⟩) (k + 1) c') (k + 1) (xs ++ news)) :
  ∃ cur, y.heap[b]? = some (.cells cur T' (0, 0)) ∧ ∀ i, i < m → ElOk M N T' (fun j => cur[i * szT T' + j]?) := by
 obtain ⟨c, rfl⟩ : ∃ c, v = .slice (some ⟨b, 0, none⟩) k c := by
  rcases h.2 with ⟨rfl, _⟩ | ⟨g, c, cur, rfl, _⟩
  ·simp [Value.ownBlock] at hv
  ·have e : g = b := by simpa [Value.ownBlock] using hv
   exact ⟨c, by rw [e]⟩
 obtain ⟨cur, cur', k1, k2, k3⟩ := own_pre h hy
 obtain ⟨_, cur0, h2, h3⟩ := th b T' m hb
 rw [k1] at h2
 cases h2
 refine ⟨cur', k2, fun i hi => ElOk.congr (by rcases hT with rfl | rfl <;> simp) (h3 i hi) fun j hj => ?_⟩
 have hs : szT T = 1 := by rcases hT with rfl | rfl <;> decide
 rw [hs] at hj ⊢
 exact k3 _ (by omega)
theorem el_func (M : Tmap) (N : Nat) (c : Nat → Option Value) : ElOk M N 27 c := ⟨fun q => absurd q (by decide), fun q => absurd q (by decide), fun q => absurd q (by decide), fun q => absurd q (by decide), fun q => absurd q (by decide)⟩
set_option maxHeartbeats 1000000 in
theorem MSt.next {z0 g len cap k T7 g4 c4 g5 c5 g6 c6 lo : Nat} {a0 : Option Addr} {v x y1 y3 y4 : World} {r s mf : Value} {d : FuncD} {up ub : Option Addr} {cp cb : Nat} {xs ps : List Value} {zs : List Int} {A B C : Obj}
  (hM : MSt z0 g a0 len cap v k r s x) (hk : k ≤ 1) (hF : Fnc x lo x.heap.size d up ub) (hlo : k = 0 → lo = z0 + 4) (hTy : Ty1 x lo d up ub r s k) (hlo2 : z0 + 2 ≤ lo)
  (m1 : x.heap[z0 + 1]? = some (.cells #[mf] 59 (0, 0))) (m2 : x.ownsRow (z0 + 2) 27 3 mf k xs) (m3 : x.ownsRow (z0 + 2) 24 1 s k ps) (m5 : x.ownsRow (z0 + 2) 2 1 r k (zs.map (Value.int .i64)))
  (m0 : k = 0 → mf = .slice none 0 0) (m4 : 0 < k → ∃ d up cp ub cb H, xs[0]? = some (.slice up d.params.length cp) ∧ xs[1]? = some (.int .i64 d.ret) ∧ xs[2]? = some (.slice ub d.blocks.length cb) ∧ Fnc x (z0 + 4) H d up ub ∧ (∀ q, mf.ownBlock = some q → q < z0 + 4 ∨ H ≤ q) ∧ (∀ q, r.ownBlock = some q → q < z0 + 4 ∨ H ≤ q) ∧ (∀ q, s.ownBlock = some q → q < z0 + 4 ∨ H ≤ q) ∧ H ≤ x.heap.size ∧ (k = 1 → ps = [.slice up d.params.length cp]) ∧ TyH x (z0 + 4) H d up ub)
  (o1 : y1.ownsRow (z0 + 2) 27 3 (.slice (some ⟨g4, 0, none⟩) (k + 1) c4) (k + 1) (xs ++ [.slice up d.params.length cp, .int .i64 d.ret, .slice ub d.blocks.length cb])) (E1 : Two mf g4 (x.alloc A).heap.size (x.alloc A) y1)
  (o2 : y3.ownsRow (z0 + 2) 2 1 (.slice (some ⟨g5, 0, none⟩) (k + 1) c5) (k + 1) (zs.map (Value.int .i64) ++ [.int .i64 d.ret])) (E2 : Two r g5 ((y1.setCell ⟨z0 + 1, 0, none⟩ (.slice (some ⟨g4, 0, none⟩) (k + 1) c4)).alloc B).heap.size ((y1.setCell ⟨z0 + 1, 0, none⟩ (.slice (some ⟨g4, 0, none⟩) (k + 1) c4)).alloc B) y3)
  (o3 : y4.ownsRow (z0 + 2) 24 1 (.slice (some ⟨g6, 0, none⟩) (k + 1) c6) (k + 1) (ps ++ [.slice up d.params.length cp])) (E3 : Two s g6 (y3.alloc C).heap.size (y3.alloc C) y4) :
  MSt z0 g a0 len cap v (k + 1) (.slice (some ⟨g5, 0, none⟩) (k + 1) c5) (.slice (some ⟨g6, 0, none⟩) (k + 1) c6) y4 := by
 have e1 := E1.grown
 have e2 := E2.grown
 have e3 := E3.grown
 have a1 : mf.ownBlock = some g4 ∨ x.heap.size + 1 ≤ g4 := by simpa using E1.at
 have a2 : r.ownBlock = some g5 ∨ y1.heap.size ≤ g5 := by
  rcases E2.at with h | h
  ·exact .inl h
  ·simp only [World.size_alloc, World.size_setCell] at h; exact .inr (by omega)
 have a3 : s.ownBlock = some g6 ∨ y3.heap.size ≤ g6 := by
  rcases E3.at with h | h
  ·exact .inl h
  ·simp only [World.size_alloc] at h; exact .inr (by omega)
 have hgz := hM.gz
 have hsz := hM.sz
 have s1 : x.heap.size + 1 ≤ y1.heap.size := by have := e1.size; simpa using this
 have s2 : y1.heap.size + 1 ≤ y3.heap.size := by have := e2.size; simpa [World.size_setCell] using this
 have s3 : y3.heap.size + 1 ≤ y4.heap.size := by have := e3.size; simpa using this
 -- what each step leaves as it was
 have b1 : ∀ b, b < x.heap.size → mf.ownBlock ≠ some b → y1.heap[b]? = x.heap[b]? := fun b hb hn => (e1.block b (by simp; omega) (fun e => hn e.symm)).trans (Below.heap_alloc _ _ _ hb)
 have b2 : ∀ b, b < y1.heap.size → b ≠ z0 + 1 → r.ownBlock ≠ some b → y3.heap[b]? = y1.heap[b]? := fun b hb h1 hn => (e2.block b (by simp [World.size_setCell]; omega) (fun e => hn e.symm)).trans ((Below.heap_alloc _ _ _ (by simpa [World.size_setCell] using hb)).trans (Below.heap_setCell _ _ _ _ h1))
 have b3 : ∀ b, b < y3.heap.size → s.ownBlock ≠ some b → y4.heap[b]? = y3.heap[b]? := fun b hb hn => (e3.block b (by simp; omega) (fun e => hn e.symm)).trans (Below.heap_alloc _ _ _ hb)
 -- the rows' own blocks
 have lm : ∀ q, mf.ownBlock = some q → z0 + 2 ≤ q ∧ q < x.heap.size := fun q hq => m2.lt q hq
 have lr : ∀ q, r.ownBlock = some q → z0 + 2 ≤ q ∧ q < x.heap.size := fun q hq => m5.lt q hq
 have ls : ∀ q, s.ownBlock = some q → z0 + 2 ≤ q ∧ q < x.heap.size := fun q hq => m3.lt q hq
 have all : ∀ b, b < x.heap.size → b ≠ z0 + 1 → mf.ownBlock ≠ some b → r.ownBlock ≠ some b → s.ownBlock ≠ some b → y4.heap[b]? = x.heap[b]? := fun b hb h1 h2 h3 h4 => (b3 b (by omega) h4).trans ((b2 b (by omega) h1 h3).trans (b1 b hb h2))
 have low : ∀ b, b < z0 + 1 → y4.heap[b]? = x.heap[b]? := fun b hb => all b (by omega) (by omega) (fun e => by have := lm b e; omega) (fun e => by have := lr b e; omega) (fun e => by have := ls b e; omega)
 -- the module's own cell
 have c1 : y4.heap[z0 + 1]? = some (.cells #[.slice (some ⟨g4, 0, none⟩) (k + 1) c4] 59 (0, 0)) := by
  have t1 : y1.heap[z0 + 1]? = some (.cells #[mf] 59 (0, 0)) := (b1 _ (by omega) (fun e => by have := lm _ e; omega)).trans m1
  have t2 : (y1.setCell ⟨z0 + 1, 0, none⟩ (.slice (some ⟨g4, 0, none⟩) (k + 1) c4)).heap[z0 + 1]? = some (.cells #[.slice (some ⟨g4, 0, none⟩) (k + 1) c4] 59 (0, 0)) := (heap_set t1).trans rfl
  have t3 : y3.heap[z0 + 1]? = some (.cells #[.slice (some ⟨g4, 0, none⟩) (k + 1) c4] 59 (0, 0)) := (e2.block _ (by simp [World.size_setCell]; omega) (fun e => by have := lr _ e.symm; omega)).trans ((Below.heap_alloc _ _ _ (by simp [World.size_setCell]; omega)).trans t2)
  exact (b3 _ (by omega) (fun e => by have := ls _ e; omega)).trans t3
 -- the rows afterwards
 have g4l := (o1.lt g4 rfl).2
 have g5l := (o2.lt g5 rfl).2
 have n45 : r.ownBlock ≠ some g4 := fun e => by
  rcases a1 with a1 | a1
  ·exact own_ne m2 m5 (by decide) a1 e rfl
  ·have := lr _ e; omega
 have n46 : s.ownBlock ≠ some g4 := fun e => by
  rcases a1 with a1 | a1
  ·exact own_ne m2 m3 (by decide) a1 e rfl
  ·have := ls _ e; omega
 have n56 : s.ownBlock ≠ some g5 := fun e => by
  rcases a2 with a2 | a2
  ·exact own_ne m5 m3 (by decide) a2 e rfl
  ·have := ls _ e; omega
 have o1' : y4.ownsRow (z0 + 2) 27 3 (.slice (some ⟨g4, 0, none⟩) (k + 1) c4) (k + 1) (xs ++ [.slice up d.params.length cp, .int .i64 d.ret, .slice ub d.blocks.length cb]) := own_stay o1 fun q hq => by
  have e : q = g4 := by simpa [Value.ownBlock] using hq.symm
  subst e
  have h4 := (o1.lt q rfl).1
  exact (b3 q (by omega) n46).trans (b2 q g4l (by omega) n45)
 have o2' : y4.ownsRow (z0 + 2) 2 1 (.slice (some ⟨g5, 0, none⟩) (k + 1) c5) (k + 1) (zs.map (Value.int .i64) ++ [.int .i64 d.ret]) := own_stay o2 fun q hq => by
  have e : q = g5 := by simpa [Value.ownBlock] using hq.symm
  subst e
  exact b3 q g5l n56
 refine ⟨rd_keep hM.rd (by omega) fun b hb => low b (by omega), hgz, by omega, (low z0 (by omega)).trans hM.res, ⟨_, _, _, c1, o1', o3, fun e => by omega, fun _ => ?_, fun hk2 => ?_⟩, ⟨zs ++ [d.ret], by simpa using o2'⟩, fun e => by omega, fun b h1 h2 => (low b (by omega)).trans (hM.old b h1 h2), ?_, ?_, ?_⟩
 ·rcases Nat.eq_zero_or_pos k with h0 | h0
  ·subst h0
   have hlo0 := hlo rfl
   subst hlo0
   obtain ⟨q1, q2⟩ := hM.new0 rfl
   have hx0 : xs = [] := by have := m2.1; simpa using this
   have hp0 : ps = [] := by have := m3.1; simpa using this
   subst hx0 hp0
   have hmf : ∀ q, mf.ownBlock = some q → q < z0 + 4 := fun q hq => by
    rw [m0 rfl] at hq
    simp [Value.ownBlock] at hq
   refine ⟨d, up, cp, ub, cb, x.heap.size, rfl, rfl, rfl, hF.step (by omega) fun b h1 h2 => all b h2 (by omega) (fun e => by have := hmf b e; omega) (fun e => by have := q1 b e; omega) (fun e => by have := q2 b e; omega), fun q hq => ?_, fun q hq => ?_, fun q hq => ?_, by omega, fun _ => rfl, TyH.step (by obtain ⟨M, t1, t2, t3⟩ := hTy; exact ⟨M, t1, fun b p hp => (t1.blk hp).2, t3⟩) fun b h1 h2 => all b h2 (by omega) (fun e => by have := hmf b e; omega) (fun e => by have := q1 b e; omega) (fun e => by have := q2 b e; omega)⟩
   ·have e : q = g4 := by simpa [Value.ownBlock] using hq.symm
    subst e
    rcases a1 with a1 | a1
    ·exact .inl (hmf _ a1)
    ·exact .inr (by omega)
   ·have e : q = g5 := by simpa [Value.ownBlock] using hq.symm
    subst e
    rcases a2 with a2 | a2
    ·exact .inl (q1 _ a2)
    ·exact .inr (by omega)
   ·have e : q = g6 := by simpa [Value.ownBlock] using hq.symm
    subst e
    rcases a3 with a3 | a3
    ·exact .inl (q2 _ a3)
    ·exact .inr (by omega)
  ·obtain ⟨d1, up1, cp1, ub1, cb1, H, x0, x1, x2, hF1, f1, f2, f3, f4, _, hT1⟩ := m4 h0
   have hl : xs.length = k * 3 := m2.1
   refine ⟨d1, up1, cp1, ub1, cb1, H, by rw [List.getElem?_append_left (by omega)]; exact x0, by rw [List.getElem?_append_left (by omega)]; exact x1, by rw [List.getElem?_append_left (by omega)]; exact x2, ?_, fun q hq => ?_, fun q hq => ?_, fun q hq => ?_, by omega, fun e => by omega, ?_⟩
   ·refine hF1.step (by omega) fun b h1 h2 => all b (by omega) (by omega) (fun e => ?_) (fun e => ?_) (fun e => ?_)
    ·have := f1 b e; omega
    ·have := f2 b e; omega
    ·have := f3 b e; omega
   ·have e : q = g4 := by simpa [Value.ownBlock] using hq.symm
    subst e
    rcases a1 with a1 | a1
    ·rcases f1 _ a1 with f | f
     ·exact .inl f
     ·exact .inr (by omega)
    ·exact .inr (by omega)
   ·have e : q = g5 := by simpa [Value.ownBlock] using hq.symm
    subst e
    rcases a2 with a2 | a2
    ·rcases f2 _ a2 with f | f
     ·exact .inl f
     ·exact .inr (by omega)
    ·exact .inr (by omega)
   ·have e : q = g6 := by simpa [Value.ownBlock] using hq.symm
    subst e
    rcases a3 with a3 | a3
    ·rcases f3 _ a3 with f | f
     ·exact .inl f
     ·exact .inr (by omega)
    ·exact .inr (by omega)
   ·refine hT1.step fun b h1 h2 => all b (by omega) (by omega) (fun e => ?_) (fun e => ?_) (fun e => ?_)
    ·have := f1 b e; omega
    ·have := f2 b e; omega
    ·have := f3 b e; omega
 ·have hl : xs.length = k * 3 := m2.1
  obtain rfl : k = 1 := by omega
  refine ⟨d, up, cp, ub, cb, by rw [List.getElem?_append_right (by omega), hl]; rfl, by rw [List.getElem?_append_right (by omega), hl]; rfl, by rw [List.getElem?_append_right (by omega), hl]; rfl, ?_⟩
  obtain ⟨M, th, hcnt, tm⟩ := hTy
  refine ⟨M, fun b T m hb => ?_, tm⟩
  have th4 : TH lo M 400 y4 := th.turn fun b T m hb => by
   have hbl := th.blk hb
   rcases E1.blk (b := b) (by simp; omega) with t1 | ⟨t1, t2⟩
   ·rcases E2.blk (b := b) (by simp [World.size_setCell]; omega) with t3 | ⟨t3, t4⟩
    ·rcases E3.blk (b := b) (by simp; omega) with t5 | ⟨t5, t6⟩
     ·exact .inl (t5.trans ((Below.heap_alloc _ _ _ (by omega)).trans (t3.trans ((Below.heap_alloc _ _ _ (by simp [World.size_setCell]; omega)).trans ((Below.heap_setCell _ _ _ _ (by dsimp only; omega)).trans (t1.trans (Below.heap_alloc _ _ _ hbl.2)))))))
     ·subst t6
      exact .inr (turn_row (.inr rfl) th hb (hcnt b T m (.inr t5) hb) t5 m3 o3)
    ·subst t4
     exact .inr (turn_row (.inl rfl) th hb (hcnt b T m (.inl t3) hb) t3 m5 o2')
   ·subst t2
    obtain ⟨cur, hcur⟩ := rowblk m2 b t1
    obtain ⟨_, cur0, h2, h3⟩ := th b T m hb
    rw [hcur] at h2
    cases h2
    obtain ⟨cur', hcur'⟩ := rowblk o1' b rfl
    exact .inr ⟨cur', hcur', fun i _ => el_func _ _ _⟩
  obtain ⟨k1, k2⟩ := th4 b T m hb
  exact ⟨by omega, k2⟩
 ·exact e3.os.trans (e2.os.trans (e1.os.trans hM.os))
 ·exact e3.tape.trans (e2.tape.trans (e1.tape.trans hM.tape))
 ·exact e3.output.trans (e2.output.trans (e1.output.trans hM.output))
end Go.Proofs.YtenbodghkpbghaaDoor
