import Derived.Test.YtkpmiikafconmaaGreatDoorSzV
import Derived.Laws.CopyOwn
namespace Go.Proofs.YtkpmiikafconmaaGreatDoor
open Go.RowKit
def cntB (d : BlockD) : Nat := d.phis.length + d.insts.length
def cntL : List BlockD → Nat
 | [] => 0
 | d :: r => cntB d + cntL r
def cntF (d : FuncD) : Nat := d.params.length + cntL d.blocks
theorem cntL_append (a b : List BlockD) : cntL (a ++ b) = cntL a + cntL b := by
 induction a with
 | nil => simp [cntL]
 | cons d r ih => simp [cntL, ih]; omega
theorem cntL_take (l : List BlockD) (k : Nat) (h : k < l.length) : cntL (l.take (k + 1)) = cntL (l.take k) + cntB (l.getD k block0) := by
 rw [List.take_succ_eq_append_getElem h, cntL_append]
 simp [cntL, List.getD, h]
theorem cntL_le (l : List BlockD) (hs : ∀ d ∈ l, SmBlock d) : cntL l ≤ l.length * 2097152 := by
 induction l with
 | nil => simp [cntL]
 | cons d r ih =>
  have h1 := ih fun x hx => hs x (List.mem_cons_of_mem _ hx)
  have h2 := hs d (List.mem_cons_self ..)
  have h3 := h2.1.1
  have h4 := h2.2.1
  simp only [cntL, cntB, List.length_cons]; omega
theorem cnt_take_le (l : List BlockD) (k : Nat) (hl : l.length ≤ 1048576) (hs : ∀ d ∈ l, SmBlock d) : cntL (l.take k) ≤ 2199023255552 := by
 have h := cntL_le (l.take k) fun d hd => hs d (List.mem_of_mem_take hd)
 have : (l.take k).length ≤ 1048576 := by simp; omega
 omega
set_option maxHeartbeats 2000000 in
theorem countS_any (lo : Nat) (d : FuncD) (u0 : Option Addr) (c0 : Nat) (u2 : Option Addr) (c2 : Nat) (w : World) (hs : SmFunc d) (k2 : BlocksAt w lo u2 d.blocks) :
  Calls Tryz.prog 59 #[.agg #[.slice u0 d.params.length c0, .int .i64 d.ret, .slice u2 d.blocks.length c2]] w fun e w' => e = .returned (.int .i64 (cntF d)) ∧ Below w.heap.size w w' := by
 have hp := hs.1
 have hbl := hs.2.1
 have HS : Hid (∀ p ∈ d.blocks, SmBlock p) := hs.2.2
 clear hs
 go_enter Tryz.func59, Tryz.ntmps59
 go_wp2_with fail
 go_loopw [3, 4] (fun n i wr => ∃ k : Nat, k ≤ d.blocks.length ∧ i = .int .i64 k ∧ n = .int .i64 ((d.params.length : Int) + (cntL (d.blocks.take k) : Int)) ∧ Below (w.heap.size + 1) (w.alloc (.cells #[.slice u0 d.params.length c0, .int .i64 d.ret, .slice u2 d.blocks.length c2] 55)) wr) (fun _ i _ => d.blocks.length - (intOf i).toNat)
 case atStart => exact ⟨0, by omega, rfl, by simp [cntL], Below.refl _ _⟩
 case round =>
  obtain ⟨k, hk, rfl, rfl, hB⟩ := hrel
  have b2 : wr.cell? ⟨w.heap.size, 2, none⟩ = some (.slice u2 d.blocks.length c2) := (cell_block (hB.block w.heap.size (by omega))).trans (by simp)
  have hW : Below w.heap.size w wr := ((Below.refl w.heap.size w).alloc (Nat.le_refl _) _).trans (hB.mono (by omega))
  have hct := cnt_take_le d.blocks k hbl HS.out
  by_cases hlt : k < d.blocks.length
  ·rcases k2.2 with hn | ⟨b, off, rfl, hlo, hb, hcell⟩
   ·simp [hn] at hlt
   obtain ⟨⟨v0, q0, h0, _⟩, ⟨v1, q1, h1, _⟩, _⟩ := hcell k hlt
   have htk := cntL_take d.blocks k hlt
   have hsm := HS.out _ (getD_mem block0 d.blocks k hlt)
   generalize d.blocks.getD k block0 = x at h0 h1 htk hsm
   have e0 : wr.cell? ⟨b, off + k * 6, none⟩ = some (.slice v0 x.phis.length q0) := (cell_block (hW.block b hb)).trans h0
   have e1 : wr.cell? ⟨b, off + k * 6 + 1, none⟩ = some (.slice v1 x.insts.length q1) := (cell_block (hW.block b hb)).trans h1
   have s0 := hsm.1.1
   have s1 := hsm.2.1
   have HT : Hid (cntL (d.blocks.take (k + 1)) = cntL (d.blocks.take k) + cntB x) := htk
   have HB : Hid (Below (w.heap.size + 1) (w.alloc (.cells #[.slice u0 d.params.length c0, .int .i64 d.ret, .slice (some ⟨b, off, none⟩) d.blocks.length c2] 55)) wr) := hB
   clear hcell h0 h1 htk hsm hB hW k2
   go_wp2_with fail
   go_quiet (fail)
   go_wp2_with fail
   go_roundw
   case rel => exact ⟨k + 1, by omega, by go_num, congrArg (Value.int .i64) (by rw [HT.out]; unfold cntB; omega), below_drewN HB.out _⟩
   case measure => simp [intOf]; omega
  ·have hke : k = d.blocks.length := by omega
   clear hB
   go_wp2_with fail
   go_ret
   exact ⟨ret_i (by rw [hke, List.take_length]; unfold cntF; omega), hW⟩
set_option maxHeartbeats 2000000 in
theorem countI_any (lo : Nat) (d : FuncD) (u0 : Option Addr) (c0 : Nat) (u2 : Option Addr) (c2 : Nat) (w : World) (hs : SmFunc d) (k2 : BlocksAt w lo u2 d.blocks) :
  Calls Tryz.prog 72 #[.agg #[.slice u0 d.params.length c0, .int .i64 d.ret, .slice u2 d.blocks.length c2]] w fun e w' => e = .returned (.int .i64 (cntF d)) ∧ Below w.heap.size w w' := by
 have hp := hs.1
 have hbl := hs.2.1
 have HS : Hid (∀ p ∈ d.blocks, SmBlock p) := hs.2.2
 clear hs
 go_enter Tryz.func72, Tryz.ntmps72
 go_wp2_with fail
 go_loopw [3, 12] (fun n i wr => ∃ k : Nat, k ≤ d.blocks.length ∧ i = .int .i64 k ∧ n = .int .i64 ((d.params.length : Int) + (cntL (d.blocks.take k) : Int)) ∧ Below w.heap.size w wr) (fun _ i _ => d.blocks.length - (intOf i).toNat)
 case atStart => exact ⟨0, by omega, rfl, by simp [cntL], (Below.refl _ _).alloc (Nat.le_refl _) _⟩
 case round =>
  obtain ⟨k, hk, rfl, rfl, hW⟩ := hrel
  have hct := cnt_take_le d.blocks k hbl HS.out
  by_cases hlt : k < d.blocks.length
  ·rcases k2.2 with hn | ⟨b, off, rfl, hlo, hb, hcell⟩
   ·simp [hn] at hlt
   obtain ⟨⟨v0, q0, h0, _⟩, ⟨v1, q1, h1, _⟩, h2, h3, h4, h5⟩ := hcell k hlt
   have htk := cntL_take d.blocks k hlt
   have hsm := HS.out _ (getD_mem block0 d.blocks k hlt)
   generalize d.blocks.getD k block0 = x at h0 h1 h2 h3 h4 h5 htk hsm
   have e0 : wr.cell? ⟨b, off + k * 6, none⟩ = some (.slice v0 x.phis.length q0) := (cell_block (hW.block b hb)).trans h0
   have e1 : wr.cell? ⟨b, off + k * 6 + 1, none⟩ = some (.slice v1 x.insts.length q1) := (cell_block (hW.block b hb)).trans h1
   have e2 : wr.cell? ⟨b, off + k * 6 + 2, none⟩ = some (.int .i64 x.term.kind) := (cell_block (hW.block b hb)).trans h2
   have e3 : wr.cell? ⟨b, off + k * 6 + 3, none⟩ = some (.int .i64 x.term.a) := (cell_block (hW.block b hb)).trans h3
   have e4 : wr.cell? ⟨b, off + k * 6 + 4, none⟩ = some (.int .i64 x.term.x) := (cell_block (hW.block b hb)).trans h4
   have e5 : wr.cell? ⟨b, off + k * 6 + 5, none⟩ = some (.int .i64 x.term.y) := (cell_block (hW.block b hb)).trans h5
   have s0 := hsm.1.1
   have s1 := hsm.2.1
   have HT : Hid (cntL (d.blocks.take (k + 1)) = cntL (d.blocks.take k) + cntB x) := htk
   have HB : Hid (Below w.heap.size w wr) := hW
   clear hcell h0 h1 h2 h3 h4 h5 htk hsm hW k2
   go_wp2_with fail
   go_roundw
   case rel => exact ⟨k + 1, by omega, by go_num, congrArg (Value.int .i64) (by rw [HT.out]; unfold cntB; omega), HB.out.alloc HB.out.size _⟩
   case measure => simp [intOf]; omega
  ·have hke : k = d.blocks.length := by omega
   go_wp2_with fail
   go_ret
   exact ⟨ret_i (by rw [hke, List.take_length]; unfold cntF; omega), hW⟩
end Go.Proofs.YtkpmiikafconmaaGreatDoor
namespace Go.Proofs.YtkpmiikafconmaaGreatDoor
open Go.RowKit
theorem below_box {w w' : World} {o : Obj} (h : Below (w.heap.size + 1) (w.alloc o) w') : Below w.heap.size w w' :=
 ((Below.refl w.heap.size w).alloc (Nat.le_refl _) o).trans (h.mono (by omega))
end Go.Proofs.YtkpmiikafconmaaGreatDoor
namespace Go.Proofs.YtkpmiikafconmaaGreatDoor
open Go.RowKit
set_option linter.unusedVariables false
structure Gv (w : World) (g : Nat) (v : Value) : Prop where
 cell : w.cell? ⟨g, 0, none⟩ = some v
 lt : g < w.heap.size
theorem Gv.keep {w w' : World} {g : Nat} {v : Value} (h : Gv w g v) (k : Below w.heap.size w w') : Gv w' g v := ⟨(cell_block (k.block g h.lt)).trans h.cell, Nat.lt_of_lt_of_le h.lt k.size⟩
def errV (a : Addr) : Value := .iface 232 (.pointer (some a))
def Gone (a : Addr) (e : Ending) : Prop := e = .panicked [{ v := errV a, recovered := false }]
theorem wantY (w : World) : Calls Tryz.prog 44 #[.bool true] w fun e w' => e = .returned (.tuple #[]) ∧ w' = w := by
 go_enter Tryz.func44, Tryz.ntmps44
 go_wp2_with fail
 exact bodyPost_end (results_none Tryz.results44 _ _ _) rfl ⟨rfl, rfl⟩
theorem wantN (a : Addr) (w : World) (hv : Gv w 1 (errV a)) : Calls Tryz.prog 44 #[.bool false] w fun e w' => e = .panicked [{ v := errV a, recovered := false }] ∧ w' = w := by
 have c := hv.cell
 unfold errV at c ⊢
 go_enter Tryz.func44, Tryz.ntmps44
 go_wp2_with fail
 exact ⟨rfl, rfl, rfl⟩
theorem map_cell {l : List Int} {j : Nat} {u : Value} (h : (l.map (Value.int .i64))[j]? = some u) : j < l.length ∧ u = .int .i64 (l.getD j 0) := by
 have hj : j < l.length := by have := (List.getElem?_eq_some_iff.1 h).1; simpa using this
 refine ⟨hj, ?_⟩
 simp [hj] at h
 rw [← h]; simp [List.getD, hj]
set_option maxHeartbeats 1000000 in
set_option maxRecDepth 100000 in
theorem cloneI (lo : Nat) (a : Option Addr) (cap : Nat) (l : List Int) (w : World) (hl : l.length ≤ 1048576) (hv : IntsAt w lo a l) :
  Calls Tryz.prog 153 #[.slice a l.length cap] w fun e w' => ∃ v, e = .returned v ∧ Row w' w.heap.size v l ∧ Below w.heap.size w w' := by
 obtain ⟨i0, hi, hz0, hz1, hz2⟩ := info_parts infoI
 rcases a with _ | ad
 ·have hnil : l = [] := by
   rcases hv.2 with h | ⟨b, off, h, _⟩
   ·exact h
   ·simp at h
  subst hnil
  have hq := fun (v : World) => Lib.run_eql_slice_nil v 41 2 none 0 cap 0 0 Tryz.underlying41
  go_enter Tryz.func153, Tryz.ntmps153
  go_wp2_with fail
  go_ret
  exact ⟨_, rfl, Row.nil _ _, Below.refl _ _⟩
 ·have hcell : ∀ j u, (l.map (Value.int .i64))[j]? = some u → (w.alloc (.cells #[] 2)).cell? (ad.add j) = some u := by
   intro j u hj
   rcases hv.2 with h | ⟨b, off, h, _, hb, hc⟩
   ·simp [h] at hj
   ·simp at h
    subst h
    obtain ⟨hjl, rfl⟩ := map_cell hj
    rw [Addr.add_lit, cell_block (Below.heap_alloc w _ b hb), hc j hjl]
  have hq := fun (v : World) => Lib.run_eql_slice_nil v 41 2 (some ad) l.length cap 0 0 Tryz.underlying41
  go_enter Tryz.func153, Tryz.ntmps153
  go_wp2_with (at_builtin; refine wpList_append_own _ rfl _ _ 41 rfl w.heap.size 2 i0 (.int .i64 0) 1 8 Tryz.underlying41 hi hz0 hz1 hz2 rfl (by decide) _ 0 [] rfl (World.ownsRow_lit w #[] 0 (Nat.le_refl _) (by decide) (by simp)) ad l.length cap (l.map (Value.int .i64)) rfl (by simp) hcell (by simp [Value.oneCell']) (by unfold maxLen; omega) (by omega) (by simp) ?_; intro v' w1 hown hgrow hnn)
  simp only [Nat.zero_add, List.nil_append] at hown
  go_ret
  exact ⟨_, rfl, hown, ((Below.refl _ _).alloc (Nat.le_refl _) _).grown hgrow (by simp) (fun k hk => by have hk' : some w.heap.size = some k := hk; simp at hk'; omega)⟩
structure OnlyR (R : Nat) (w w' : World) : Prop where
 os : w'.os = w.os
 tape : w'.tape = w.tape
 output : w'.output = w.output
 size : w.heap.size ≤ w'.heap.size
 block : ∀ i, i < w.heap.size → i ≠ R → w'.heap[i]? = w.heap[i]?
theorem OnlyR.refl (R : Nat) (w : World) : OnlyR R w w := ⟨rfl, rfl, rfl, Nat.le_refl _, fun _ _ _ => rfl⟩
theorem OnlyR.trans {R : Nat} {x y z : World} (h : OnlyR R x y) (k : OnlyR R y z) : OnlyR R x z := ⟨k.os.trans h.os, k.tape.trans h.tape, k.output.trans h.output, Nat.le_trans h.size k.size, fun i hi hn => (k.block i (Nat.lt_of_lt_of_le hi h.size) hn).trans (h.block i hi hn)⟩
theorem OnlyR.below {R : Nat} {w w' : World} (k : Below w.heap.size w w') : OnlyR R w w' := ⟨k.os, k.tape, k.output, k.size, fun i hi _ => k.block i hi⟩
theorem OnlyR.set {R : Nat} {w w' : World} (h : OnlyR R w w') (o : Nat) (v : Value) : OnlyR R w (w'.setCell ⟨R, o, none⟩ v) :=
 h.trans ⟨rfl, rfl, rfl, by simp [World.setCell], fun i _ hn => Below.heap_setCell _ _ _ _ hn⟩
theorem OnlyR.down {R n : Nat} {w w' : World} (h : OnlyR R w w') (hn : n ≤ R) (hz : n ≤ w.heap.size) : Below n w w' := ⟨h.os, h.tape, h.output, h.size, fun i hi => h.block i (by omega) (by omega)⟩
def RwAt (w : World) (R : Nat) (l : List Int) : Prop :=
 (l = [] ∧ At w R #[.slice none 0 0] 130) ∨ ∃ b off c, At w R #[.slice (some ⟨b, off, none⟩) l.length c] 130 ∧ l.length ≤ c ∧ c ≤ 9223372036854775807 ∧ b ≠ R ∧ b < w.heap.size ∧ ∀ i, i < l.length → w.cell? ⟨b, off + i, none⟩ = some (.int .i64 (l.getD i 0))
theorem RwAt.lt {w : World} {R : Nat} {l : List Int} (h : RwAt w R l) : R < w.heap.size := by
 rcases h with ⟨_, h⟩ | ⟨b, off, c, h, _⟩
 ·exact h.lt
 ·exact h.lt
theorem RwAt.keep {w w' : World} {R : Nat} {l : List Int} (h : RwAt w R l) (k : Below w.heap.size w w') : RwAt w' R l := by
 rcases h with ⟨e, h⟩ | ⟨b, off, c, h, h1, h2, h3, h4, h5⟩
 ·exact .inl ⟨e, h.below k⟩
 ·exact .inr ⟨b, off, c, h.below k, h1, h2, h3, Nat.lt_of_lt_of_le h4 k.size, fun i hi => (cell_block (k.block b h4)).trans (h5 i hi)⟩
set_option maxHeartbeats 2000000 in
theorem someN (a : Addr) (R : Nat) (k : Int) (l : List Int) (w : World) (h : RwAt w R l) (hk : (l.length : Int) < k) (hv : Gv w 1 (errV a)) :
  Calls Tryz.prog 122 #[.pointer (some ⟨R, 0, none⟩), .int .i64 k] w fun e w' => e = .panicked [{ v := errV a, recovered := false }] ∧ w' = w := by
 have W := wantN a w hv
 have hn : ¬ k ≤ (l.length : Int) := by omega
 rcases h with ⟨rfl, h⟩ | ⟨b, off, c, h, h1, h2, h3, h4, h5⟩
 ·have c0 : w.cell? ⟨R, 0, none⟩ = some (.slice none 0 0) := h.cell 0
  have hn0 : ¬ k ≤ 0 := by simpa using hn
  go_enter Tryz.func122, Tryz.ntmps122
  go_wp2_with fail
  refine W.mono ?_
  rintro e w1 ⟨rfl, h9⟩
  have h8 := h9.symm
  clear h9
  subst h8
  go_wp2_with fail
  exact ⟨rfl, rfl, rfl⟩
 ·have c0 : w.cell? ⟨R, 0, none⟩ = some (.slice (some ⟨b, off, none⟩) l.length c) := h.cell 0
  clear h5
  go_enter Tryz.func122, Tryz.ntmps122
  go_wp2_with fail
  refine W.mono ?_
  rintro e w1 ⟨rfl, h9⟩
  have h8 := h9.symm
  clear h9
  subst h8
  go_wp2_with fail
  exact ⟨rfl, rfl, rfl⟩
theorem row_set {w : World} {R base : Nat} {v x : Value} {l : List Int} (h : Row w base v l) (hR : R < base) : Row (w.setCell ⟨R, 0, none⟩ x) base v l :=
 World.ownsRow.kept h (row := some R) ⟨rfl, rfl, rfl, by simp [World.setCell], fun k _ hk => Below.heap_setCell _ _ _ _ (fun e => hk (by simp [e]))⟩ (by
  cases e : v.ownBlock with
  | none => exact .inl rfl
  | some g => exact .inr (fun e2 => by have := (World.ownsRow.lt h g e).1; cases e2; omega))
theorem At.set0 {w : World} {R : Nat} {x : Value} {T : TypeId} (h : At w R #[x] T) (y : Value) : At (w.setCell ⟨R, 0, none⟩ y) R #[y] T := heap_set (o := 0) h
set_option maxHeartbeats 4000000 in
theorem someY (R k : Nat) (l : List Int) (w : World) (h : RwAt w R l) (hk : k ≤ l.length) (hl : l.length ≤ 1048576) :
  Calls Tryz.prog 122 #[.pointer (some ⟨R, 0, none⟩), .int .i64 (k : Int)] w fun e w' => ∃ v, e = .returned v ∧ Row w' w.heap.size v (l.take k) ∧ RwAt w' R (l.drop k) ∧ OnlyR R w w' := by
 have W := wantY w
 have hlt := h.lt
 rcases h with ⟨rfl, h⟩ | ⟨b, off, c, h, h1, h2, h3, h4, h5⟩
 ·have hk0 : k = 0 := by simpa using hk
  subst hk0
  have c0 : w.cell? ⟨R, 0, none⟩ = some (.slice none 0 0) := h.cell 0
  have C := cloneI 0 none 0 [] w (by simp) ⟨by simp, .inl rfl⟩
  have HA : Hid (At w R #[.slice none 0 0] 130) := h
  clear h
  go_enter Tryz.func122, Tryz.ntmps122
  go_wp2_with fail
  refine W.mono ?_
  rintro e w1 ⟨rfl, h9⟩
  have h8 := h9.symm
  clear h9
  subst h8
  go_wp2_with fail
  refine C.mono ?_
  rintro e w2 ⟨v, rfl, hr, b2⟩
  have hA2 := HA.out.below b2
  have d0 : w2.cell? ⟨R, 0, none⟩ = some (.slice none 0 0) := hA2.cell 0
  have f0 : w2.frozen? ⟨R, 0, none⟩ = false := froz_of_heap hA2
  have HR : Hid (Row w2 w.heap.size v []) := hr
  clear hr
  obtain ⟨a, c, rfl⟩ := HR.out.slice
  go_wp2_with fail
  go_ret
  exact ⟨_, rfl, row_set HR.out hlt, .inl ⟨rfl, At.set0 hA2 _⟩, (OnlyR.below b2).set _ _⟩
 ·have c0 : w.cell? ⟨R, 0, none⟩ = some (.slice (some ⟨b, off, none⟩) l.length c) := h.cell 0
  have hlk : (l.take k).length = k := by rw [List.length_take]; omega
  have C := cloneI 0 (some ⟨b, off, none⟩) c (l.take k) w (by omega) ⟨by omega, .inr ⟨b, off, rfl, Nat.zero_le _, h4, fun i hi => by rw [hlk] at hi; rw [h5 i (by omega)]; simp [List.getD, hi]⟩⟩
  rw [hlk] at C
  have HT : Hid ((l.take k).length = k) := hlk
  have HA : Hid (At w R #[.slice (some ⟨b, off, none⟩) l.length c] 130) := h
  have H5 : Hid (∀ i, i < l.length → w.cell? ⟨b, off + i, none⟩ = some (.int .i64 (l.getD i 0))) := h5
  have q1 : (k : Int) ≤ (l.length : Int) := by omega
  have q2 : (k : Int) ≤ (c : Int) := by omega
  have q3 : (l.length : Int) ≤ (c : Int) := by omega
  have HL : Hid (l.length ≤ c) := h1
  have hdl : Hid ((l.drop k).length = l.length - k) := by show _ = _; simp
  generalize hnl : l.length = n at *
  have HN : Hid (l.length = n) := hnl
  clear h hlk h5 hnl
  go_enter Tryz.func122, Tryz.ntmps122
  go_wp2_with fail
  refine W.mono ?_
  rintro e w1 ⟨rfl, h9⟩
  have h8 := h9.symm
  clear h9
  subst h8
  go_wp2_with fail
  refine C.mono ?_
  rintro e w2 ⟨v, rfl, hr, b2⟩
  have hA2 := HA.out.below b2
  have d0 : w2.cell? ⟨R, 0, none⟩ = some (.slice (some ⟨b, off, none⟩) n c) := hA2.cell 0
  have f0 : w2.frozen? ⟨R, 0, none⟩ = false := froz_of_heap hA2
  have HR : Hid (Row w2 w.heap.size v (l.take k)) := hr
  clear hr
  obtain ⟨a, c', rfl⟩ := HR.out.slice
  have HB2 : Hid (Below w.heap.size w w2) := b2
  clear b2
  go_wp2_with fail
  ·have hz : n - k = 0 := by have := HL.out; omega
   go_ret
   refine ⟨_, by rw [← HN.out]; simp, row_set HR.out hlt, .inr ⟨b, off, 0, ?_, ?_, by omega, h3, ?_, fun i hi => ?_⟩, (OnlyR.below HB2.out).set _ _⟩
   ·rw [hdl.out]; exact At.set0 hA2 _
   ·rw [hdl.out]; omega
   ·have := HB2.out.size; simp [World.setCell]; omega
   ·rw [hdl.out] at hi; omega
  ·go_ret
   refine ⟨_, by rw [← HN.out]; simp, row_set HR.out hlt, .inr ⟨b, off + k, c - k, ?_, ?_, by omega, h3, ?_, fun i hi => ?_⟩, (OnlyR.below HB2.out).set _ _⟩
   ·rw [hdl.out]; exact At.set0 hA2 _
   ·rw [hdl.out]; have := HL.out; omega
   ·have := HB2.out.size; simp [World.setCell]; omega
   ·rw [hdl.out] at hi
    have e : (l.drop k).getD i 0 = l.getD (k + i) 0 := by simp [List.getD]
    rw [e, Nat.add_assoc]
    refine (cell_block (Below.heap_setCell _ _ _ _ (by show b ≠ R; exact h3))).trans ((cell_block (HB2.out.block b h4)).trans (H5.out (k + i) ?_))
    omega
theorem nextN (a : Addr) (R : Nat) (w : World) (h : RwAt w R []) (hv : Gv w 1 (errV a)) :
  Calls Tryz.prog 83 #[.pointer (some ⟨R, 0, none⟩)] w fun e w' => e = .panicked [{ v := errV a, recovered := false }] ∧ w' = w := by
 have W := someN a R 1 [] w h (by decide) hv
 go_enter Tryz.func83, Tryz.ntmps83
 go_wp2_with fail
 refine W.mono ?_
 rintro e w1 ⟨rfl, h9⟩
 have h8 := h9.symm
 clear h9
 subst h8
 go_wp2_with fail
 exact ⟨rfl, rfl, rfl⟩
theorem nextY (R : Nat) (x : Int) (l : List Int) (w : World) (h : RwAt w R (x :: l)) (hl : l.length < 1048576) :
  Calls Tryz.prog 83 #[.pointer (some ⟨R, 0, none⟩)] w fun e w' => e = .returned (.int .i64 x) ∧ RwAt w' R l ∧ OnlyR R w w' := by
 have W := someY R 1 (x :: l) w h (by simp) (by simp; omega)
 have e1 : (x :: l).take 1 = [x] := rfl
 have e2 : (x :: l).drop 1 = l := rfl
 rw [e1, e2] at W
 clear e1 e2
 go_enter Tryz.func83, Tryz.ntmps83
 go_wp2_with fail
 refine W.mono ?_
 rintro e w1 ⟨v, rfl, hr, hw, ho⟩
 obtain ⟨u, c, rfl, hi⟩ := Row.ints (by simp) hr
 rcases hi.2 with h0 | ⟨b, off, rfl, _, _, hc⟩
 ·cases h0
 ·have c0 : w1.cell? ⟨b, off, none⟩ = some (.int .i64 x) := by simpa using hc 0 (by simp)
  clear hc hi hr
  go_wp2_with fail
  go_ret
  exact ⟨rfl, hw, ho⟩
theorem restI (R : Nat) (l : List Int) (w : World) (h : RwAt w R l) (hl : l.length ≤ 1048576) :
  Calls Tryz.prog 84 #[.pointer (some ⟨R, 0, none⟩)] w fun e w' => ∃ v, e = .returned v ∧ Row w' w.heap.size v l ∧ OnlyR R w w' := by
 have W := someY R l.length l w h (Nat.le_refl _) hl
 rw [List.take_length, List.drop_length] at W
 obtain ⟨u, c, c0⟩ : ∃ u c, w.cell? ⟨R, 0, none⟩ = some (.slice u l.length c) := by
  rcases h with ⟨rfl, h⟩ | ⟨b, off, c, h, _⟩
  ·exact ⟨none, 0, h.cell 0⟩
  ·exact ⟨_, _, h.cell 0⟩
 go_enter Tryz.func84, Tryz.ntmps84
 go_wp2_with fail
 refine W.mono ?_
 rintro e w1 ⟨v, rfl, hr, _, ho⟩
 go_wp2_with fail
 go_ret
 exact ⟨_, rfl, hr, ho⟩
end Go.Proofs.YtkpmiikafconmaaGreatDoor
namespace Go.Proofs.YtkpmiikafconmaaGreatDoor
open Go.RowKit
set_option linter.unusedVariables false
def RwIn (B : Nat) (w : World) (R : Nat) (l : List Int) : Prop :=
 (l = [] ∧ At w R #[.slice none 0 0] 130) ∨ ∃ b off c, At w R #[.slice (some ⟨b, off, none⟩) l.length c] 130 ∧ l.length ≤ c ∧ c ≤ 9223372036854775807 ∧ b ≠ R ∧ (b < B ∧ B ≤ w.heap.size) ∧ ∀ i, i < l.length → w.cell? ⟨b, off + i, none⟩ = some (.int .i64 (l.getD i 0))
theorem RwIn.lt {w : World} {B R : Nat} {l : List Int} (h : RwIn B w R l) : R < w.heap.size := by
 rcases h with ⟨_, h⟩ | ⟨b, off, c, h, _⟩
 ·exact h.lt
 ·exact h.lt
theorem RwIn.keep {w w' : World} {B R : Nat} {l : List Int} (h : RwIn B w R l) (k : Below w.heap.size w w') : RwIn B w' R l := by
 rcases h with ⟨e, h⟩ | ⟨b, off, c, h, h1, h2, h3, h4, h5⟩
 ·exact .inl ⟨e, h.below k⟩
 ·exact .inr ⟨b, off, c, h.below k, h1, h2, h3, ⟨h4.1, Nat.le_trans h4.2 k.size⟩, fun i hi => (cell_block (k.block b (Nat.lt_of_lt_of_le h4.1 h4.2))).trans (h5 i hi)⟩
set_option maxHeartbeats 2000000 in
theorem someN2 (a : Addr) (B R : Nat) (k : Int) (l : List Int) (w : World) (h : RwIn B w R l) (hk : (l.length : Int) < k) (hv : Gv w 1 (errV a)) :
  Calls Tryz.prog 122 #[.pointer (some ⟨R, 0, none⟩), .int .i64 k] w fun e w' => e = .panicked [{ v := errV a, recovered := false }] ∧ w' = w := by
 have W := wantN a w hv
 have hn : ¬ k ≤ (l.length : Int) := by omega
 rcases h with ⟨rfl, h⟩ | ⟨b, off, c, h, h1, h2, h3, h4, h5⟩
 ·have c0 : w.cell? ⟨R, 0, none⟩ = some (.slice none 0 0) := h.cell 0
  have hn0 : ¬ k ≤ 0 := by simpa using hn
  go_enter Tryz.func122, Tryz.ntmps122
  go_wp2_with fail
  refine W.mono ?_
  rintro e w1 ⟨rfl, h9⟩
  have h8 := h9.symm
  clear h9
  subst h8
  go_wp2_with fail
  exact ⟨rfl, rfl, rfl⟩
 ·have c0 : w.cell? ⟨R, 0, none⟩ = some (.slice (some ⟨b, off, none⟩) l.length c) := h.cell 0
  clear h5
  go_enter Tryz.func122, Tryz.ntmps122
  go_wp2_with fail
  refine W.mono ?_
  rintro e w1 ⟨rfl, h9⟩
  have h8 := h9.symm
  clear h9
  subst h8
  go_wp2_with fail
  exact ⟨rfl, rfl, rfl⟩
set_option maxHeartbeats 4000000 in
theorem someY2 (B R k : Nat) (l : List Int) (w : World) (h : RwIn B w R l) (hk : k ≤ l.length) (hl : l.length ≤ 1048576) :
  Calls Tryz.prog 122 #[.pointer (some ⟨R, 0, none⟩), .int .i64 (k : Int)] w fun e w' => ∃ v, e = .returned v ∧ Row w' w.heap.size v (l.take k) ∧ RwIn B w' R (l.drop k) ∧ OnlyR R w w' := by
 have W := wantY w
 have hlt := h.lt
 rcases h with ⟨rfl, h⟩ | ⟨b, off, c, h, h1, h2, h3, h4, h5⟩
 ·have hk0 : k = 0 := by simpa using hk
  subst hk0
  have c0 : w.cell? ⟨R, 0, none⟩ = some (.slice none 0 0) := h.cell 0
  have C := cloneI 0 none 0 [] w (by simp) ⟨by simp, .inl rfl⟩
  have HA : Hid (At w R #[.slice none 0 0] 130) := h
  clear h
  go_enter Tryz.func122, Tryz.ntmps122
  go_wp2_with fail
  refine W.mono ?_
  rintro e w1 ⟨rfl, h9⟩
  have h8 := h9.symm
  clear h9
  subst h8
  go_wp2_with fail
  refine C.mono ?_
  rintro e w2 ⟨v, rfl, hr, b2⟩
  have hA2 := HA.out.below b2
  have d0 : w2.cell? ⟨R, 0, none⟩ = some (.slice none 0 0) := hA2.cell 0
  have f0 : w2.frozen? ⟨R, 0, none⟩ = false := froz_of_heap hA2
  have HR : Hid (Row w2 w.heap.size v []) := hr
  clear hr
  obtain ⟨a, c, rfl⟩ := HR.out.slice
  go_wp2_with fail
  go_ret
  exact ⟨_, rfl, row_set HR.out hlt, .inl ⟨rfl, At.set0 hA2 _⟩, (OnlyR.below b2).set _ _⟩
 ·have c0 : w.cell? ⟨R, 0, none⟩ = some (.slice (some ⟨b, off, none⟩) l.length c) := h.cell 0
  have hlk : (l.take k).length = k := by rw [List.length_take]; omega
  have C := cloneI 0 (some ⟨b, off, none⟩) c (l.take k) w (by omega) ⟨by omega, .inr ⟨b, off, rfl, Nat.zero_le _, Nat.lt_of_lt_of_le h4.1 h4.2, fun i hi => by rw [hlk] at hi; rw [h5 i (by omega)]; simp [List.getD, hi]⟩⟩
  rw [hlk] at C
  have HT : Hid ((l.take k).length = k) := hlk
  have HA : Hid (At w R #[.slice (some ⟨b, off, none⟩) l.length c] 130) := h
  have H5 : Hid (∀ i, i < l.length → w.cell? ⟨b, off + i, none⟩ = some (.int .i64 (l.getD i 0))) := h5
  have q1 : (k : Int) ≤ (l.length : Int) := by omega
  have q2 : (k : Int) ≤ (c : Int) := by omega
  have q3 : (l.length : Int) ≤ (c : Int) := by omega
  have HL : Hid (l.length ≤ c) := h1
  have hdl : Hid ((l.drop k).length = l.length - k) := by show _ = _; simp
  generalize hnl : l.length = n at *
  have HN : Hid (l.length = n) := hnl
  clear h hlk h5 hnl
  go_enter Tryz.func122, Tryz.ntmps122
  go_wp2_with fail
  refine W.mono ?_
  rintro e w1 ⟨rfl, h9⟩
  have h8 := h9.symm
  clear h9
  subst h8
  go_wp2_with fail
  refine C.mono ?_
  rintro e w2 ⟨v, rfl, hr, b2⟩
  have hA2 := HA.out.below b2
  have d0 : w2.cell? ⟨R, 0, none⟩ = some (.slice (some ⟨b, off, none⟩) n c) := hA2.cell 0
  have f0 : w2.frozen? ⟨R, 0, none⟩ = false := froz_of_heap hA2
  have HR : Hid (Row w2 w.heap.size v (l.take k)) := hr
  clear hr
  obtain ⟨a, c', rfl⟩ := HR.out.slice
  have HB2 : Hid (Below w.heap.size w w2) := b2
  clear b2
  go_wp2_with fail
  ·have hz : n - k = 0 := by have := HL.out; omega
   go_ret
   refine ⟨_, by rw [← HN.out]; simp, row_set HR.out hlt, .inr ⟨b, off, 0, ?_, ?_, by omega, h3, ?_, fun i hi => ?_⟩, (OnlyR.below HB2.out).set _ _⟩
   ·rw [hdl.out]; exact At.set0 hA2 _
   ·rw [hdl.out]; omega
   ·refine ⟨h4.1, ?_⟩; have := HB2.out.size; have := h4.2; simp [World.setCell]; omega
   ·rw [hdl.out] at hi; omega
  ·go_ret
   refine ⟨_, by rw [← HN.out]; simp, row_set HR.out hlt, .inr ⟨b, off + k, c - k, ?_, ?_, by omega, h3, ?_, fun i hi => ?_⟩, (OnlyR.below HB2.out).set _ _⟩
   ·rw [hdl.out]; exact At.set0 hA2 _
   ·rw [hdl.out]; have := HL.out; omega
   ·refine ⟨h4.1, ?_⟩; have := HB2.out.size; have := h4.2; simp [World.setCell]; omega
   ·rw [hdl.out] at hi
    have e : (l.drop k).getD i 0 = l.getD (k + i) 0 := by simp [List.getD]
    rw [e, Nat.add_assoc]
    refine (cell_block (Below.heap_setCell _ _ _ _ (by show b ≠ R; exact h3))).trans ((cell_block (HB2.out.block b (Nat.lt_of_lt_of_le h4.1 h4.2))).trans (H5.out (k + i) ?_))
    omega
theorem nextN2 (a : Addr) (B R : Nat) (w : World) (h : RwIn B w R []) (hv : Gv w 1 (errV a)) :
  Calls Tryz.prog 83 #[.pointer (some ⟨R, 0, none⟩)] w fun e w' => e = .panicked [{ v := errV a, recovered := false }] ∧ w' = w := by
 have W := someN2 a B R 1 [] w h (by decide) hv
 go_enter Tryz.func83, Tryz.ntmps83
 go_wp2_with fail
 refine W.mono ?_
 rintro e w1 ⟨rfl, h9⟩
 have h8 := h9.symm
 clear h9
 subst h8
 go_wp2_with fail
 exact ⟨rfl, rfl, rfl⟩
theorem nextY2 (B R : Nat) (x : Int) (l : List Int) (w : World) (h : RwIn B w R (x :: l)) (hl : l.length < 1048576) :
  Calls Tryz.prog 83 #[.pointer (some ⟨R, 0, none⟩)] w fun e w' => e = .returned (.int .i64 x) ∧ RwIn B w' R l ∧ OnlyR R w w' := by
 have W := someY2 B R 1 (x :: l) w h (by simp) (by simp; omega)
 have e1 : (x :: l).take 1 = [x] := rfl
 have e2 : (x :: l).drop 1 = l := rfl
 rw [e1, e2] at W
 clear e1 e2
 go_enter Tryz.func83, Tryz.ntmps83
 go_wp2_with fail
 refine W.mono ?_
 rintro e w1 ⟨v, rfl, hr, hw, ho⟩
 obtain ⟨u, c, rfl, hi⟩ := Row.ints (by simp) hr
 rcases hi.2 with h0 | ⟨b, off, rfl, _, _, hc⟩
 ·cases h0
 ·have c0 : w1.cell? ⟨b, off, none⟩ = some (.int .i64 x) := by simpa using hc 0 (by simp)
  clear hc hi hr
  go_wp2_with fail
  go_ret
  exact ⟨rfl, hw, ho⟩
theorem RwIn.set {B R g o : Nat} {w : World} {l : List Int} {v : Value} (h : RwIn B w R l) (hg : B ≤ g) (hR : R ≠ g) : RwIn B (w.setCell ⟨g, o, none⟩ v) R l := by
 rcases h with ⟨e, h⟩ | ⟨b, off, c, h, h1, h2, h3, h4, h5⟩
 ·exact .inl ⟨e, h.setOther hR⟩
 ·exact .inr ⟨b, off, c, h.setOther hR, h1, h2, h3, ⟨h4.1, by simp only [World.size_setCell]; exact h4.2⟩, fun i hi => (cell_block (Below.heap_setCell _ _ _ _ (by show b ≠ g; have := h4.1; omega))).trans (h5 i hi)⟩
theorem RwIn.drew {B R : Nat} {w : World} {l : List Int} (h : RwIn B w R l) : RwIn B w.drew R l := h
theorem OnlyR.drew {R : Nat} {w w' : World} (h : OnlyR R w w') : OnlyR R w w'.drew := ⟨h.os, h.tape, h.output, h.size, h.block⟩
theorem OnlyR.fresh {R g o : Nat} {w w' : World} {v : Value} (h : OnlyR R w w') (hg : w.heap.size ≤ g) : OnlyR R w (w'.setCell ⟨g, o, none⟩ v) :=
 ⟨h.os, h.tape, h.output, by simp only [World.size_setCell]; exact h.size, fun i hi hn => (Below.heap_setCell _ _ _ _ (by show i ≠ g; omega)).trans (h.block i hi hn)⟩
end Go.Proofs.YtkpmiikafconmaaGreatDoor
