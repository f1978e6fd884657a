/- How many ids a function has: the contracts of CountOf, the program's and the model's. -/
import Derived.Test.YtoknhppjdmoblaaGreatDoorMemQ
import Derived.WalkKit
import Derived.Test.YtoknhppjdmoblaaGreatDoorRows
import Derived.WalkSpells
namespace Go.Proofs.YtoknhppjdmoblaaGreatDoor
open Go.RowKit

def cntB (d : BlockD) : Nat := d.phis.length + d.insts.length
def cntL : List BlockD → Nat
  | [] => 0
  | d :: r => cntB d + cntL r
def cntF (d : FuncD) : Nat := d.params.length + cntL d.blocks
theorem cntL_append (a b : List BlockD) : cntL (a ++ b) = cntL a + cntL b := by
  induction a with
  | nil => simp [cntL]
  | cons d r ih => simp [cntL, ih]; omega
theorem cntL_take (l : List BlockD) (k : Nat) (h : k < l.length) : cntL (l.take (k + 1)) = cntL (l.take k) + cntB (l.getD k block0) := by
  rw [List.take_succ_eq_append_getElem h, cntL_append]
  simp [cntL, List.getD, h]
theorem cntL_le (l : List BlockD) (hs : ∀ d ∈ l, SmBlock d) : cntL l ≤ l.length * 2097152 := by
  induction l with
  | nil => simp [cntL]
  | cons d r ih =>
    have h1 := ih fun x hx => hs x (List.mem_cons_of_mem _ hx)
    have h2 := hs d (List.mem_cons_self ..)
    have h3 := h2.1.1
    have h4 := h2.2.1
    simp only [cntL, cntB, List.length_cons]; omega
theorem cnt_take_le (l : List BlockD) (k : Nat) (hl : l.length ≤ 1048576) (hs : ∀ d ∈ l, SmBlock d) : cntL (l.take k) ≤ 2199023255552 := by
  have h := cntL_le (l.take k) fun d hd => hs d (List.mem_of_mem_take hd)
  have : (l.take k).length ≤ 1048576 := by simp; omega
  omega
theorem cntF_le {d : FuncD} (hs : SmFunc d) : cntF d ≤ 2199024304128 := by
  have h := cnt_take_le d.blocks d.blocks.length hs.2.1 hs.2.2
  rw [List.take_length] at h
  have := hs.1
  unfold cntF; omega

set_option maxHeartbeats 2000000 in
theorem countS_any (lo : Nat) (d : FuncD) (u0 : Option Addr) (c0 : Nat) (u2 : Option Addr) (c2 : Nat) (w : World) (hs : SmFunc d) (k2 : BlocksAt w lo u2 d.blocks) :
    Calls Tryz.prog 26 #[.agg #[.slice u0 d.params.length c0, .int .i64 d.ret, .slice u2 d.blocks.length c2]] w fun e w' => e = .returned (.int .i64 (cntF d)) ∧ Below w.heap.size w w' := by
  have hp := hs.1
  have hbl := hs.2.1
  have HS : Hid (∀ p ∈ d.blocks, SmBlock p) := hs.2.2
  clear hs
  go_enter Tryz.func26, Tryz.ntmps26
  go_wp2_with fail
  go_loopw [3, 4] (fun n i wr => ∃ k : Nat, k ≤ d.blocks.length ∧ i = .int .i64 k ∧ n = .int .i64 ((d.params.length : Int) + (cntL (d.blocks.take k) : Int)) ∧ Below (w.heap.size + 1) (w.alloc (.cells #[.slice u0 d.params.length c0, .int .i64 d.ret, .slice u2 d.blocks.length c2] 27)) wr) (fun _ i _ => d.blocks.length - (intOf i).toNat)
  case atStart => exact ⟨0, by omega, rfl, by simp [cntL], Below.refl _ _⟩
  case round =>
    obtain ⟨k, hk, rfl, rfl, hB⟩ := hrel
    have b2 : wr.cell? ⟨w.heap.size, 2, none⟩ = some (.slice u2 d.blocks.length c2) := (cell_block (hB.block w.heap.size (by omega))).trans (by simp)
    have hW : Below w.heap.size w wr := ((Below.refl w.heap.size w).alloc (Nat.le_refl _) _).trans (hB.mono (by omega))
    have hct := cnt_take_le d.blocks k hbl HS.out
    by_cases hlt : k < d.blocks.length
    · rcases k2.2 with hn | ⟨b, off, rfl, hlo, hb, hcell⟩
      · simp [hn] at hlt
      obtain ⟨⟨v0, q0, h0, _⟩, ⟨v1, q1, h1, _⟩, _⟩ := hcell k hlt
      have htk := cntL_take d.blocks k hlt
      have hsm := HS.out _ (getD_mem block0 d.blocks k hlt)
      generalize d.blocks.getD k block0 = x at h0 h1 htk hsm
      have e0 : wr.cell? ⟨b, off + k * 6, none⟩ = some (.slice v0 x.phis.length q0) := (cell_block (hW.block b hb)).trans h0
      have e1 : wr.cell? ⟨b, off + k * 6 + 1, none⟩ = some (.slice v1 x.insts.length q1) := (cell_block (hW.block b hb)).trans h1
      have s0 := hsm.1.1
      have s1 := hsm.2.1
      have HT : Hid (cntL (d.blocks.take (k + 1)) = cntL (d.blocks.take k) + cntB x) := htk
      have HB : Hid (Below (w.heap.size + 1) (w.alloc (.cells #[.slice u0 d.params.length c0, .int .i64 d.ret, .slice (some ⟨b, off, none⟩) d.blocks.length c2] 27)) wr) := hB
      clear hcell h0 h1 htk hsm hB hW k2
      go_wp2_with fail
      go_quiet (fail)
      go_wp2_with fail
      go_roundw
      case rel => exact ⟨k + 1, by omega, by go_num, congrArg (Value.int .i64) (by rw [HT.out]; unfold cntB; omega), below_drewN HB.out _⟩
      case measure => simp [intOf]; omega
    · have hke : k = d.blocks.length := by omega
      clear hB
      go_wp2_with fail
      go_ret
      exact ⟨ret_i (by rw [hke, List.take_length]; unfold cntF; omega), hW⟩
set_option maxHeartbeats 2000000 in
theorem countI_any (lo : Nat) (d : FuncD) (u0 : Option Addr) (c0 : Nat) (u2 : Option Addr) (c2 : Nat) (w : World) (hs : SmFunc d) (k2 : BlocksAt w lo u2 d.blocks) :
    Calls Tryz.prog 58 #[.agg #[.slice u0 d.params.length c0, .int .i64 d.ret, .slice u2 d.blocks.length c2]] w fun e w' => e = .returned (.int .i64 (cntF d)) ∧ Below w.heap.size w w' := by
  have hp := hs.1
  have hbl := hs.2.1
  have HS : Hid (∀ p ∈ d.blocks, SmBlock p) := hs.2.2
  clear hs
  go_enter Tryz.func58, Tryz.ntmps58
  go_wp2_with fail
  go_loopw [3, 12] (fun n i wr => ∃ k : Nat, k ≤ d.blocks.length ∧ i = .int .i64 k ∧ n = .int .i64 ((d.params.length : Int) + (cntL (d.blocks.take k) : Int)) ∧ Below w.heap.size w wr) (fun _ i _ => d.blocks.length - (intOf i).toNat)
  case atStart => exact ⟨0, by omega, rfl, by simp [cntL], (Below.refl _ _).alloc (Nat.le_refl _) _⟩
  case round =>
    obtain ⟨k, hk, rfl, rfl, hW⟩ := hrel
    have hct := cnt_take_le d.blocks k hbl HS.out
    by_cases hlt : k < d.blocks.length
    · rcases k2.2 with hn | ⟨b, off, rfl, hlo, hb, hcell⟩
      · simp [hn] at hlt
      obtain ⟨⟨v0, q0, h0, _⟩, ⟨v1, q1, h1, _⟩, h2, h3, h4, h5⟩ := hcell k hlt
      have htk := cntL_take d.blocks k hlt
      have hsm := HS.out _ (getD_mem block0 d.blocks k hlt)
      generalize d.blocks.getD k block0 = x at h0 h1 h2 h3 h4 h5 htk hsm
      have e0 : wr.cell? ⟨b, off + k * 6, none⟩ = some (.slice v0 x.phis.length q0) := (cell_block (hW.block b hb)).trans h0
      have e1 : wr.cell? ⟨b, off + k * 6 + 1, none⟩ = some (.slice v1 x.insts.length q1) := (cell_block (hW.block b hb)).trans h1
      have e2 : wr.cell? ⟨b, off + k * 6 + 2, none⟩ = some (.int .i64 x.term.kind) := (cell_block (hW.block b hb)).trans h2
      have e3 : wr.cell? ⟨b, off + k * 6 + 3, none⟩ = some (.int .i64 x.term.a) := (cell_block (hW.block b hb)).trans h3
      have e4 : wr.cell? ⟨b, off + k * 6 + 4, none⟩ = some (.int .i64 x.term.x) := (cell_block (hW.block b hb)).trans h4
      have e5 : wr.cell? ⟨b, off + k * 6 + 5, none⟩ = some (.int .i64 x.term.y) := (cell_block (hW.block b hb)).trans h5
      have s0 := hsm.1.1
      have s1 := hsm.2.1
      have HT : Hid (cntL (d.blocks.take (k + 1)) = cntL (d.blocks.take k) + cntB x) := htk
      have HB : Hid (Below w.heap.size w wr) := hW
      clear hcell h0 h1 h2 h3 h4 h5 htk hsm hW k2
      go_wp2_with fail
      go_roundw
      case rel => exact ⟨k + 1, by omega, by go_num, congrArg (Value.int .i64) (by rw [HT.out]; unfold cntB; omega), HB.out.alloc HB.out.size _⟩
      case measure => simp [intOf]; omega
    · have hke : k = d.blocks.length := by omega
      go_wp2_with fail
      go_ret
      exact ⟨ret_i (by rw [hke, List.take_length]; unfold cntF; omega), hW⟩
end Go.Proofs.YtoknhppjdmoblaaGreatDoor
namespace Go.Proofs.YtoknhppjdmoblaaGreatDoor
open Go.RowKit

/-- The cells of a boxed function, wherever memory from there on stays. -/
theorem box3 {w w' : World} {x y z : Value} {t : TypeId} (h : Below (w.heap.size + 1) (w.alloc (.cells #[x, y, z] t)) w') :
    w'.cell? ⟨w.heap.size, 0, none⟩ = some x ∧ w'.cell? ⟨w.heap.size, 1, none⟩ = some y ∧ w'.cell? ⟨w.heap.size, 2, none⟩ = some z := by
  have hb : w'.heap[w.heap.size]? = some (.cells #[x, y, z] t (0, 0)) := (h.block w.heap.size (by omega)).trans (heap_alloc_last _ _)
  exact ⟨(cell_of_heap hb).trans rfl, (cell_of_heap hb).trans rfl, (cell_of_heap hb).trans rfl⟩
theorem below_box {w w' : World} {o : Obj} (h : Below (w.heap.size + 1) (w.alloc o) w') : Below w.heap.size w w' :=
  ((Below.refl w.heap.size w).alloc (Nat.le_refl _) o).trans (h.mono (by omega))
theorem box_next {w w1 w2 : World} {o : Obj} (h : Below (w.heap.size + 1) (w.alloc o) w1) (k : Below w1.heap.size w1 w2) : Below (w.heap.size + 1) (w.alloc o) w2 :=
  h.trans (k.mono (by have := h.size; simp at this; omega))
theorem box_alloc {w w1 : World} {o p : Obj} (h : Below (w.heap.size + 1) (w.alloc o) w1) : Below (w.heap.size + 1) (w.alloc o) (w1.alloc p) :=
  h.alloc (by have := h.size; simp at this; omega) p
theorem box_first {w w1 : World} {o : Obj} (h : Below (w.alloc o).heap.size (w.alloc o) w1) : Below (w.heap.size + 1) (w.alloc o) w1 := h.mono (by simp)

end Go.Proofs.YtoknhppjdmoblaaGreatDoor
namespace Go.Proofs.YtoknhppjdmoblaaGreatDoor
open Go.RowKit

def placeL : List BlockD → Nat → Int → Int × Int
  | [], _, _ => (-2, 0)
  | d :: r, b, x => if x < cntB d then ((b : Int), x) else placeL r (b + 1) (x - cntB d)
def placeF (d : FuncD) (id : Int) : Int × Int := if id < 0 then (-2, 0) else if id < d.params.length then (-1, id) else placeL d.blocks 0 (id - d.params.length)
theorem i64_le {n : Int} (h : (Lit.int .i64 n).wf = true) : n ≤ 9223372036854775807 := by
  have h' : IntKind.i64.min ≤ n ∧ n ≤ IntKind.i64.max := by simpa [Lit.wf] using h
  exact h'.2
theorem ret_p {a b c d : Int} (h : a = b) (k : c = d) : Ending.returned (.tuple #[.int .i64 a, .int .i64 c]) = .returned (.tuple #[.int .i64 b, .int .i64 d]) := by rw [h, k]
theorem placeL_hit {l : List BlockD} {k : Nat} {b : Nat} {x : Int} {d : BlockD} (hd : l.drop k = d :: l.drop (k + 1)) (h : x < cntB d) : placeL (l.drop k) b x = ((b : Int), x) := by rw [hd, placeL, if_pos h]
theorem placeL_miss {l : List BlockD} {k : Nat} {b : Nat} {x : Int} {d : BlockD} (hd : l.drop k = d :: l.drop (k + 1)) (h : ¬ x < cntB d) : placeL (l.drop k) b x = placeL (l.drop (k + 1)) (b + 1) (x - cntB d) := by rw [hd, placeL, if_neg h]

set_option maxHeartbeats 2000000 in
theorem placeS_any (lo : Nat) (d : FuncD) (u0 : Option Addr) (c0 : Nat) (u2 : Option Addr) (c2 : Nat) (id : Int) (w : World) (hs : SmFunc d) (k2 : BlocksAt w lo u2 d.blocks) (hi : id ≤ 9223372036854775807) :
    Calls Tryz.prog 67 #[.agg #[.slice u0 d.params.length c0, .int .i64 d.ret, .slice u2 d.blocks.length c2], .int .i64 id] w fun e w' => e = .returned (.tuple #[.int .i64 (placeF d id).1, .int .i64 (placeF d id).2]) ∧ Below w.heap.size w w' := by
  have hp := hs.1
  have hbl := hs.2.1
  have HS : Hid (∀ p ∈ d.blocks, SmBlock p) := hs.2.2
  clear hs
  by_cases h1 : id < 0
  · have E : Hid (placeF d id = (-2, 0)) := by show _ = _; rw [placeF, if_pos h1]
    go_enter Tryz.func67, Tryz.ntmps67
    go_wp2_with fail
    go_ret2
    exact ⟨ret_p (by rw [E.out]) (by rw [E.out]), (Below.refl _ _).alloc (Nat.le_refl _) _⟩
  by_cases h2 : id < d.params.length
  · have E : Hid (placeF d id = (-1, id)) := by show _ = _; rw [placeF, if_neg h1, if_pos h2]
    go_enter Tryz.func67, Tryz.ntmps67
    go_wp2_with fail
    go_ret2
    exact ⟨ret_p (by rw [E.out]) (by rw [E.out]), (Below.refl _ _).alloc (Nat.le_refl _) _⟩
  have E : Hid (placeF d id = placeL d.blocks 0 (id - d.params.length)) := by show _ = _; rw [placeF, if_neg h1, if_neg h2]
  go_enter Tryz.func67, Tryz.ntmps67
  go_wp2_with fail
  go_loopw [1, 6] (fun x i wr => ∃ (k : Nat) (z : Int), k ≤ d.blocks.length ∧ i = .int .i64 k ∧ x = .int .i64 z ∧ 0 ≤ z ∧ z ≤ 9223372036854775807 ∧ placeL (d.blocks.drop k) k z = placeF d id ∧ Below (w.heap.size + 1) (w.alloc (.cells #[.slice u0 d.params.length c0, .int .i64 d.ret, .slice u2 d.blocks.length c2] 27)) wr) (fun _ i _ => d.blocks.length - (intOf i).toNat)
  case atStart => exact ⟨0, _, by omega, rfl, rfl, by omega, by omega, by rw [E.out]; rfl, Below.refl _ _⟩
  case round =>
    obtain ⟨k, z, hk, rfl, rfl, hz0, hz1, hq, hB⟩ := hrel
    have b2 : wr.cell? ⟨w.heap.size, 2, none⟩ = some (.slice u2 d.blocks.length c2) := (box3 hB).2.2
    have hW : Below w.heap.size w wr := below_box hB
    have HQ : Hid (placeL (d.blocks.drop k) k z = placeF d id) := hq
    clear hq
    by_cases hlt : k < d.blocks.length
    · rcases k2.2 with hn | ⟨b, off, rfl, hlo, hb, hcell⟩
      · simp [hn] at hlt
      obtain ⟨⟨v0, q0, g0, _⟩, ⟨v1, q1, g1, _⟩, _⟩ := hcell k hlt
      have hdr := drop_get block0 d.blocks k hlt
      have hsm := HS.out _ (getD_mem block0 d.blocks k hlt)
      generalize d.blocks.getD k block0 = x at g0 g1 hdr hsm
      have e0 : wr.cell? ⟨b, off + k * 6, none⟩ = some (.slice v0 x.phis.length q0) := (cell_block (hW.block b hb)).trans g0
      have e1 : wr.cell? ⟨b, off + k * 6 + 1, none⟩ = some (.slice v1 x.insts.length q1) := (cell_block (hW.block b hb)).trans g1
      have s0 := hsm.1.1
      have s1 := hsm.2.1
      have HD : Hid (d.blocks.drop k = x :: d.blocks.drop (k + 1)) := hdr
      have HB : Hid (Below (w.heap.size + 1) (w.alloc (.cells #[.slice u0 d.params.length c0, .int .i64 d.ret, .slice (some ⟨b, off, none⟩) d.blocks.length c2] 27)) wr) := hB
      have HW : Hid (Below w.heap.size w wr) := hW
      clear hcell g0 g1 hdr hsm hB hW k2
      by_cases hc : z < (x.phis.length : Int) + (x.insts.length : Int)
      · go_wp2_with fail
        go_quiet (fail)
        go_wp2_with fail
        go_ret2
        have hh := HQ.out.symm.trans (placeL_hit HD.out (by unfold cntB; omega))
        exact ⟨ret_p (by rw [hh]) (by rw [hh]), below_drewN HW.out _⟩
      · go_wp2_with fail
        go_quiet (fail)
        go_wp2_with fail
        go_roundw
        case rel =>
          have hh := (placeL_miss HD.out (by unfold cntB; omega)).symm.trans HQ.out
          have ec : ((cntB x : Nat) : Int) = (x.phis.length : Int) + (x.insts.length : Int) := by unfold cntB; omega
          rw [ec] at hh
          exact ⟨k + 1, _, by omega, by go_num, rfl, by omega, by omega, hh, below_drewN HB.out _⟩
        case measure => simp [intOf]; omega
    · have hke : k = d.blocks.length := by omega
      clear hB
      go_wp2_with fail
      go_ret2
      have hh := HQ.out
      rw [hke, List.drop_length, placeL] at hh
      exact ⟨ret_p (by rw [← hh]) (by rw [← hh]), hW⟩
set_option maxHeartbeats 2000000 in
theorem placeI_any (lo : Nat) (d : FuncD) (u0 : Option Addr) (c0 : Nat) (u2 : Option Addr) (c2 : Nat) (id : Int) (w : World) (hs : SmFunc d) (k2 : BlocksAt w lo u2 d.blocks) (hi : id ≤ 9223372036854775807) :
    Calls Tryz.prog 66 #[.agg #[.slice u0 d.params.length c0, .int .i64 d.ret, .slice u2 d.blocks.length c2], .int .i64 id] w fun e w' => e = .returned (.tuple #[.int .i64 (placeF d id).1, .int .i64 (placeF d id).2]) ∧ Below w.heap.size w w' := by
  have hp := hs.1
  have hbl := hs.2.1
  have HS : Hid (∀ p ∈ d.blocks, SmBlock p) := hs.2.2
  clear hs
  by_cases h1 : id < 0
  · have E : Hid (placeF d id = (-2, 0)) := by show _ = _; rw [placeF, if_pos h1]
    go_enter Tryz.func66, Tryz.ntmps66
    go_wp2_with fail
    go_ret2
    exact ⟨ret_p (by rw [E.out]) (by rw [E.out]), (Below.refl _ _).alloc (Nat.le_refl _) _⟩
  by_cases h2 : id < d.params.length
  · have E : Hid (placeF d id = (-1, id)) := by show _ = _; rw [placeF, if_neg h1, if_pos h2]
    go_enter Tryz.func66, Tryz.ntmps66
    go_wp2_with fail
    go_ret2
    exact ⟨ret_p (by rw [E.out]) (by rw [E.out]), (Below.refl _ _).alloc (Nat.le_refl _) _⟩
  have E : Hid (placeF d id = placeL d.blocks 0 (id - d.params.length)) := by show _ = _; rw [placeF, if_neg h1, if_neg h2]
  go_enter Tryz.func66, Tryz.ntmps66
  go_wp2_with fail
  go_loopw [6, 26] (fun x i wr => ∃ (k : Nat) (z : Int), k ≤ d.blocks.length ∧ i = .int .i64 k ∧ x = .int .i64 z ∧ 0 ≤ z ∧ z ≤ 9223372036854775807 ∧ placeL (d.blocks.drop k) k z = placeF d id ∧ Below w.heap.size w wr) (fun _ i _ => d.blocks.length - (intOf i).toNat)
  case atStart => exact ⟨0, _, by omega, rfl, rfl, by omega, by omega, by rw [E.out]; rfl, (Below.refl _ _).alloc (Nat.le_refl _) _⟩
  case round =>
    obtain ⟨k, z, hk, rfl, rfl, hz0, hz1, hq, hW⟩ := hrel
    have HQ : Hid (placeL (d.blocks.drop k) k z = placeF d id) := hq
    clear hq
    by_cases hlt : k < d.blocks.length
    · rcases k2.2 with hn | ⟨b, off, rfl, hlo, hb, hcell⟩
      · simp [hn] at hlt
      obtain ⟨⟨v0, q0, g0, _⟩, ⟨v1, q1, g1, _⟩, g2, g3, g4, g5⟩ := hcell k hlt
      have hdr := drop_get block0 d.blocks k hlt
      have hsm := HS.out _ (getD_mem block0 d.blocks k hlt)
      generalize d.blocks.getD k block0 = x at g0 g1 g2 g3 g4 g5 hdr hsm
      have e0 : wr.cell? ⟨b, off + k * 6, none⟩ = some (.slice v0 x.phis.length q0) := (cell_block (hW.block b hb)).trans g0
      have e1 : wr.cell? ⟨b, off + k * 6 + 1, none⟩ = some (.slice v1 x.insts.length q1) := (cell_block (hW.block b hb)).trans g1
      have e2 : wr.cell? ⟨b, off + k * 6 + 2, none⟩ = some (.int .i64 x.term.kind) := (cell_block (hW.block b hb)).trans g2
      have e3 : wr.cell? ⟨b, off + k * 6 + 3, none⟩ = some (.int .i64 x.term.a) := (cell_block (hW.block b hb)).trans g3
      have e4 : wr.cell? ⟨b, off + k * 6 + 4, none⟩ = some (.int .i64 x.term.x) := (cell_block (hW.block b hb)).trans g4
      have e5 : wr.cell? ⟨b, off + k * 6 + 5, none⟩ = some (.int .i64 x.term.y) := (cell_block (hW.block b hb)).trans g5
      have s0 := hsm.1.1
      have s1 := hsm.2.1
      have HD : Hid (d.blocks.drop k = x :: d.blocks.drop (k + 1)) := hdr
      have HW : Hid (Below w.heap.size w wr) := hW
      clear hcell g0 g1 g2 g3 g4 g5 hdr hsm hW k2
      by_cases hc : z < (x.phis.length : Int) + (x.insts.length : Int)
      · go_wp2_with fail
        go_ret2
        have hh := HQ.out.symm.trans (placeL_hit HD.out (by unfold cntB; omega))
        exact ⟨ret_p (by rw [hh]) (by rw [hh]), HW.out.alloc HW.out.size _⟩
      · go_wp2_with fail
        go_roundw
        case rel =>
          have hh := (placeL_miss HD.out (by unfold cntB; omega)).symm.trans HQ.out
          have ec : ((cntB x : Nat) : Int) = (x.phis.length : Int) + (x.insts.length : Int) := by unfold cntB; omega
          rw [ec] at hh
          exact ⟨k + 1, _, by omega, by go_num, rfl, by omega, by omega, hh, HW.out.alloc HW.out.size _⟩
        case measure => simp [intOf]; omega
    · have hke : k = d.blocks.length := by omega
      go_wp2_with fail
      go_ret2
      have hh := HQ.out
      rw [hke, List.drop_length, placeL] at hh
      exact ⟨ret_p (by rw [← hh]) (by rw [← hh]), hW⟩
end Go.Proofs.YtoknhppjdmoblaaGreatDoor
namespace Go.Proofs.YtoknhppjdmoblaaGreatDoor
open Go.RowKit

def widthB (w : Int) : Bool := w == 1 || w == 8 || w == 16 || w == 32
def topZ (w : Int) : Int := if w = 1 then 2 else if w = 8 then 256 else if w = 16 then 65536 else 4294967296
def valueB (w v : Int) : Bool := widthB w && (decide (0 ≤ v) && decide (v < topZ w))
def maskZ (w n : Int) : Int := if widthB w = true then n % topZ w else 0
def sgnZ (w v : Int) : Int := if topZ w / 2 ≤ v then v - topZ w else v
def signZ (w v : Int) : Int := if valueB w v = true then sgnZ w v else 0

theorem width_yes {w : Int} (h : widthB w = true) : w = 1 ∨ w = 8 ∨ w = 16 ∨ w = 32 := by
  simp [widthB] at h; omega
theorem width_no {w : Int} (h : widthB w = false) : (w == 1) = false ∧ (w == 8) = false ∧ (w == 16) = false ∧ (w == 32) = false := by
  simp [widthB] at h; simp; omega
theorem top1 : topZ 1 = 2 := by simp [topZ]
theorem top8 : topZ 8 = 256 := by simp [topZ]
theorem top16 : topZ 16 = 65536 := by simp [topZ]
theorem top32 : topZ 32 = 4294967296 := by simp [topZ]
theorem top_pos (w : Int) : 2 ≤ topZ w ∧ topZ w ≤ 4294967296 := by
  unfold topZ; repeat' split
  all_goals omega
theorem value_yes {w v : Int} (h : valueB w v = true) : widthB w = true ∧ 0 ≤ v ∧ v < topZ w := by
  simpa [valueB] using h
theorem value_mk {w v : Int} (h : widthB w = true) (h0 : 0 ≤ v) (h1 : v < topZ w) : valueB w v = true := by
  simp [valueB, h, h0, h1]
theorem value_no {w v : Int} (h : valueB w v = false) (hw : widthB w = true) : v < 0 ∨ topZ w ≤ v := by
  simp [valueB, hw] at h; omega

theorem and_mask (n : Int) (k : Nat) (hk : k ≤ 32) : bits .and .i64 n (2 ^ k - 1) = n % 2 ^ k := by
  have hp : (2 : Nat) ^ k ≤ 2 ^ 32 := Nat.pow_le_pow_right (by decide) hk
  have hq : 0 < (2 : Nat) ^ k := Nat.pow_pos (by decide)
  have e1 : ((2 : Int) ^ k - 1) = ((2 ^ k - 1 : Nat) : Int) := by
    have : ((2 ^ k : Nat) : Int) = (2 : Int) ^ k := by simp
    omega
  have e2 : (BitVec.ofInt 64 ((2 : Int) ^ k - 1)).toNat = 2 ^ k - 1 := by
    rw [e1, BitVec.toNat_ofInt]; omega
  have e3 : (BitVec.ofInt 64 n).toNat = (n % 18446744073709551616).toNat := by rw [BitVec.toNat_ofInt]; simp
  have e4 : (((n % 18446744073709551616).toNat % 2 ^ k : Nat) : Int) = n % 2 ^ k := by
    have h1 : ((n % 18446744073709551616).toNat : Int) = n % 18446744073709551616 := by omega
    have hd : ((2 : Int) ^ k) ∣ 18446744073709551616 := by
      refine ⟨2 ^ (64 - k), ?_⟩
      rw [← Int.pow_add]
      rw [show k + (64 - k) = 64 by omega]; rfl
    rw [Int.natCast_emod, h1]
    have : (((2 : Nat) ^ k : Nat) : Int) = (2 : Int) ^ k := by simp
    rw [this, Int.emod_emod_of_dvd _ hd]
  show IntKind.i64.wrap ((BitVec.ofInt 64 n &&& BitVec.ofInt 64 ((2 : Int) ^ k - 1)).toNat : Int) = _
  rw [BitVec.toNat_and, e2, e3, Nat.and_two_pow_sub_one_eq_mod, e4, IntKind.wrap_i64]
  have h5 : (0 : Int) ≤ n % 2 ^ k := Int.emod_nonneg _ (by
    have : (((2 : Nat) ^ k : Nat) : Int) = (2 : Int) ^ k := by simp
    omega)
  have h6 : n % 2 ^ k < 4294967297 := by
    have := Int.emod_lt_of_pos n (b := (2 : Int) ^ k) (by
      have : (((2 : Nat) ^ k : Nat) : Int) = (2 : Int) ^ k := by simp
      omega)
    have : (((2 : Nat) ^ k : Nat) : Int) = (2 : Int) ^ k := by simp
    omega
  generalize n % 2 ^ k = m at h5 h6
  omega
theorem and1 (n : Int) : bits .and .i64 n 1 = n % 2 := and_mask n 1 (by decide)
theorem and255 (n : Int) : bits .and .i64 n 255 = n % 256 := and_mask n 8 (by decide)
theorem and65535 (n : Int) : bits .and .i64 n 65535 = n % 65536 := and_mask n 16 (by decide)
theorem and32 (n : Int) : bits .and .i64 n 4294967295 = n % 4294967296 := and_mask n 32 (by decide)
end Go.Proofs.YtoknhppjdmoblaaGreatDoor
namespace Go.Proofs.YtoknhppjdmoblaaGreatDoor
open Go.RowKit

theorem widthS (a : Int) (w : World) : Calls Tryz.prog 68 #[.int .i64 a] w fun e w' => e = .returned (.bool (widthB a)) ∧ w' = w := by
  by_cases h : widthB a = true
  · rw [h]
    rcases width_yes h with rfl | rfl | rfl | rfl
    all_goals
      clear h
      go_enter Tryz.func68, Tryz.ntmps68
      go_wp2
      go_ret
      exact ⟨rfl, rfl⟩
  · have h : widthB a = false := by simpa using h
    rw [h]
    obtain ⟨d1, d2, d3, d4⟩ := width_no h
    clear h
    go_enter Tryz.func68, Tryz.ntmps68
    go_wp2
    go_ret
    exact ⟨rfl, rfl⟩
theorem widthI (a : Int) (w : World) : Calls Tryz.prog 93 #[.int .i64 a] w fun e w' => e = .returned (.bool (widthB a)) ∧ w' = w := by
  by_cases h : widthB a = true
  · rw [h]
    rcases width_yes h with rfl | rfl | rfl | rfl
    all_goals
      clear h
      go_enter Tryz.func93, Tryz.ntmps93
      go_wp2
      go_ret
      exact ⟨rfl, rfl⟩
  · have h : widthB a = false := by simpa using h
    rw [h]
    obtain ⟨d1, d2, d3, d4⟩ := width_no h
    clear h
    go_enter Tryz.func93, Tryz.ntmps93
    go_wp2
    go_ret
    exact ⟨rfl, rfl⟩

theorem topS (a : Int) (w : World) (h : widthB a = true) : Calls Tryz.prog 110 #[.int .i64 a] w fun e w' => e = .returned (.int .i64 (topZ a)) ∧ w' = w := by
  rcases width_yes h with rfl | rfl | rfl | rfl
  all_goals
    clear h
    go_enter Tryz.func110, Tryz.ntmps110
    go_wp2
    go_ret
    exact ⟨rfl, rfl⟩
theorem topI (a : Int) (w : World) (h : widthB a = true) : Calls Tryz.prog 131 #[.int .i64 a] w fun e w' => e = .returned (.int .i64 (topZ a)) ∧ w' = w := by
  rcases width_yes h with rfl | rfl | rfl | rfl
  all_goals
    clear h
    go_enter Tryz.func131, Tryz.ntmps131
    go_wp2
    go_ret
    exact ⟨rfl, rfl⟩

theorem mask_eq {a n : Int} (h : widthB a = true) : bits .and .i64 n (topZ a - 1) = maskZ a n := by
  rw [maskZ, if_pos h]
  rcases width_yes h with rfl | rfl | rfl | rfl
  · exact and1 n
  · exact and255 n
  · exact and65535 n
  · exact and32 n
theorem ret_bool {a b : Bool} (h : a = b) : Ending.returned (.bool a) = .returned (.bool b) := by rw [h]
theorem ret_int {k : IntKind} {a b : Int} (h : a = b) : Ending.returned (.int k a) = .returned (.int k b) := by rw [h]

theorem maskS (a n : Int) (w : World) : Calls Tryz.prog 112 #[.int .i64 a, .int .i64 n] w fun e w' => e = .returned (.int .i64 (maskZ a n)) ∧ w' = w := by
  by_cases h : widthB a = true
  · have tp := top_pos a
    have HE : Hid (bits .and .i64 n (topZ a - 1) = maskZ a n) := mask_eq (n := n) h
    go_enter Tryz.func112, Tryz.ntmps112
    go_wp2_with (first | (go_at_call 68; refine (widthS _ _).mono ?_; rintro e w' ⟨rfl, rfl⟩) | (go_at_call 110; refine (topS _ _ h).mono ?_; rintro e w' ⟨rfl, rfl⟩))
    go_ret
    exact ⟨ret_int HE.out, rfl⟩
  · have h : widthB a = false := by simpa using h
    have HE : Hid (0 = maskZ a n) := by simp [maskZ, h, Hid]
    go_enter Tryz.func112, Tryz.ntmps112
    go_wp2_with (first | (go_at_call 68; refine (widthS _ _).mono ?_; rintro e w' ⟨rfl, rfl⟩))
    go_ret
    exact ⟨ret_int HE.out, rfl⟩
theorem maskI (a n : Int) (w : World) : Calls Tryz.prog 133 #[.int .i64 a, .int .i64 n] w fun e w' => e = .returned (.int .i64 (maskZ a n)) ∧ w' = w := by
  by_cases h : widthB a = true
  · have tp := top_pos a
    have HE : Hid (bits .and .i64 n (topZ a - 1) = maskZ a n) := mask_eq (n := n) h
    go_enter Tryz.func133, Tryz.ntmps133
    go_wp2_with (first | (go_at_call 93; refine (widthI _ _).mono ?_; rintro e w' ⟨rfl, rfl⟩) | (go_at_call 131; refine (topI _ _ h).mono ?_; rintro e w' ⟨rfl, rfl⟩))
    go_ret
    exact ⟨ret_int HE.out, rfl⟩
  · have h : widthB a = false := by simpa using h
    have HE : Hid (0 = maskZ a n) := by simp [maskZ, h, Hid]
    go_enter Tryz.func133, Tryz.ntmps133
    go_wp2_with (first | (go_at_call 93; refine (widthI _ _).mono ?_; rintro e w' ⟨rfl, rfl⟩))
    go_ret
    exact ⟨ret_int HE.out, rfl⟩

theorem inS (n lo hi : Int) (w : World) : Calls Tryz.prog 69 #[.int .i64 n, .int .i64 lo, .int .i64 hi] w fun e w' => e = .returned (.bool (decide (lo ≤ n) && decide (n ≤ hi))) ∧ w' = w := by
  by_cases h1 : lo ≤ n
  · by_cases h2 : n ≤ hi
    · have d1 : decide (lo ≤ n) = true := by simpa using h1
      have d2 : decide (n ≤ hi) = true := by simpa using h2
      go_enter Tryz.func69, Tryz.ntmps69
      go_wp2
      go_ret
      exact ⟨ret_bool (by simp [h1, h2]), rfl⟩
    · have d1 : decide (lo ≤ n) = true := by simpa using h1
      have d2 : decide (n ≤ hi) = false := by simpa using h2
      go_enter Tryz.func69, Tryz.ntmps69
      go_wp2
      go_ret
      exact ⟨ret_bool (by simp), rfl⟩
  · have d1 : decide (lo ≤ n) = false := by simpa using h1
    go_enter Tryz.func69, Tryz.ntmps69
    go_wp2
    go_ret
    exact ⟨ret_bool (by simp), rfl⟩

theorem valueS_eq {a v : Int} (h : widthB a = true) : (decide (0 ≤ v) && decide (v ≤ topZ a - 1)) = valueB a v := by
  rw [valueB, h, Bool.true_and, Bool.eq_iff_iff]; simp; omega

theorem valueS (a v : Int) (w : World) : Calls Tryz.prog 72 #[.int .i64 a, .int .i64 v] w fun e w' => e = .returned (.bool (valueB a v)) ∧ w' = w := by
  by_cases h : widthB a = true
  · have tp := top_pos a
    have HE : Hid ((decide (0 ≤ v) && decide (v ≤ topZ a - 1)) = valueB a v) := valueS_eq h
    go_enter Tryz.func72, Tryz.ntmps72
    go_wp2_with (first | (go_at_call 68; refine (widthS _ _).mono ?_; rintro e w' ⟨rfl, rfl⟩) | (go_at_call 110; refine (topS _ _ h).mono ?_; rintro e w' ⟨rfl, rfl⟩) | (go_at_call 69; refine (inS _ _ _ _).mono ?_; rintro e w' ⟨rfl, rfl⟩))
    go_ret
    exact ⟨ret_bool HE.out, rfl⟩
  · have h : widthB a = false := by simpa using h
    have HE : Hid (false = valueB a v) := by simp [valueB, h, Hid]
    go_enter Tryz.func72, Tryz.ntmps72
    go_wp2_with (first | (go_at_call 68; refine (widthS _ _).mono ?_; rintro e w' ⟨rfl, rfl⟩))
    go_ret
    exact ⟨ret_bool HE.out, rfl⟩

theorem valueI (a v : Int) (w : World) : Calls Tryz.prog 96 #[.int .i64 a, .int .i64 v] w fun e w' => e = .returned (.bool (valueB a v)) ∧ w' = w := by
  by_cases h : widthB a = true
  · have tp := top_pos a
    by_cases h1 : 0 ≤ v
    · have HE : Hid (decide (v < topZ a) = valueB a v) := by show _ = _; rw [valueB, h]; simp [h1]
      go_enter Tryz.func96, Tryz.ntmps96
      go_wp2_with (first | (go_at_call 93; refine (widthI _ _).mono ?_; rintro e w' ⟨rfl, rfl⟩) | (go_at_call 131; refine (topI _ _ h).mono ?_; rintro e w' ⟨rfl, rfl⟩))
      go_ret
      exact ⟨ret_bool HE.out, rfl⟩
    · have HE : Hid (false = valueB a v) := by show _ = _; rw [valueB, h]; simp [h1]
      have d1 : decide (0 ≤ v) = false := by simpa using h1
      go_enter Tryz.func96, Tryz.ntmps96
      go_wp2_with (first | (go_at_call 93; refine (widthI _ _).mono ?_; rintro e w' ⟨rfl, rfl⟩))
      go_ret
      exact ⟨ret_bool HE.out, rfl⟩
  · have h : widthB a = false := by simpa using h
    have HE : Hid (false = valueB a v) := by simp [valueB, h, Hid]
    go_enter Tryz.func96, Tryz.ntmps96
    go_wp2_with (first | (go_at_call 93; refine (widthI _ _).mono ?_; rintro e w' ⟨rfl, rfl⟩))
    go_ret
    exact ⟨ret_bool HE.out, rfl⟩

theorem sgnS (a v : Int) (w : World) (hv : valueB a v = true) : Calls Tryz.prog 115 #[.int .i64 a, .int .i64 v] w fun e w' => e = .returned (.int .i64 (sgnZ a v)) ∧ w' = w := by
  obtain ⟨h, h0, h1⟩ := value_yes hv
  clear hv
  have tp := top_pos a
  by_cases hc : topZ a / 2 ≤ v
  · have HE : Hid (v - topZ a = sgnZ a v) := by show _ = _; rw [sgnZ, if_pos hc]
    go_enter Tryz.func115, Tryz.ntmps115
    go_wp2_with (first | (go_at_call 110; refine (topS _ _ h).mono ?_; rintro e w' ⟨rfl, rfl⟩))
    go_ret
    exact ⟨ret_int HE.out, rfl⟩
  · have HE : Hid (v = sgnZ a v) := by show _ = _; rw [sgnZ, if_neg hc]
    go_enter Tryz.func115, Tryz.ntmps115
    go_wp2_with (first | (go_at_call 110; refine (topS _ _ h).mono ?_; rintro e w' ⟨rfl, rfl⟩))
    go_ret
    exact ⟨ret_int HE.out, rfl⟩

theorem signI (a v : Int) (w : World) : Calls Tryz.prog 135 #[.int .i64 a, .int .i64 v] w fun e w' => e = .returned (.int .i64 (signZ a v)) ∧ w' = w := by
  by_cases h : valueB a v = true
  · obtain ⟨hw, h0, h1⟩ := value_yes h
    have tp := top_pos a
    by_cases hc : topZ a / 2 ≤ v
    · have HE : Hid (v - topZ a = signZ a v) := by show _ = _; rw [signZ, if_pos h, sgnZ, if_pos hc]
      go_enter Tryz.func135, Tryz.ntmps135
      go_wp2_with (first | (go_at_call 96; refine (valueI _ _ _).mono ?_; rintro e w' ⟨rfl, rfl⟩) | (go_at_call 131; refine (topI _ _ hw).mono ?_; rintro e w' ⟨rfl, rfl⟩))
      go_ret
      exact ⟨ret_int HE.out, rfl⟩
    · have HE : Hid (v = signZ a v) := by show _ = _; rw [signZ, if_pos h, sgnZ, if_neg hc]
      go_enter Tryz.func135, Tryz.ntmps135
      go_wp2_with (first | (go_at_call 96; refine (valueI _ _ _).mono ?_; rintro e w' ⟨rfl, rfl⟩) | (go_at_call 131; refine (topI _ _ hw).mono ?_; rintro e w' ⟨rfl, rfl⟩))
      go_ret
      exact ⟨ret_int HE.out, rfl⟩
  · have h : valueB a v = false := by simpa using h
    have HE : Hid (0 = signZ a v) := by show _ = _; rw [signZ, h]; rfl
    go_enter Tryz.func135, Tryz.ntmps135
    go_wp2_with (first | (go_at_call 96; refine (valueI _ _ _).mono ?_; rintro e w' ⟨rfl, rfl⟩))
    go_ret
    exact ⟨ret_int HE.out, rfl⟩
end Go.Proofs.YtoknhppjdmoblaaGreatDoor
namespace Go.Proofs.YtoknhppjdmoblaaGreatDoor
open Go.RowKit

def castOk (_op f t v : Int) : Bool := valueB f v && widthB t
def castZ (op f t v : Int) : Int := if castOk op f t v = true then (if op = 18 ∧ f < t then v else if op = 19 ∧ f < t then maskZ t (sgnZ f v) else if op = 20 ∧ t < f then maskZ t v else 0) else 0
def castB (op f t v : Int) : Bool := castOk op f t v && (decide (op = 18 ∧ f < t) || decide (op = 19 ∧ f < t) || decide (op = 20 ∧ t < f))
theorem ret_ib {a b : Int} {c d : Bool} (h : a = b) (k : c = d) : Ending.returned (.tuple #[.int .i64 a, .bool c]) = .returned (.tuple #[.int .i64 b, .bool d]) := by rw [h, k]
theorem ret_ii {a b c d : Int} (h : a = b) (k : c = d) : Ending.returned (.tuple #[.int .i64 a, .int .i64 c]) = .returned (.tuple #[.int .i64 b, .int .i64 d]) := by rw [h, k]

theorem castS (op f t v : Int) (w : World) : Calls Tryz.prog 78 #[.int .i64 op, .int .i64 f, .int .i64 t, .int .i64 v] w fun e w' => e = .returned (.tuple #[.int .i64 (castZ op f t v), .bool (castB op f t v)]) ∧ w' = w := by
  by_cases hv : valueB f v = true
  · by_cases ht : widthB t = true
    · have hk : castOk op f t v = true := by simp [castOk, hv, ht]
      by_cases h1 : op = 18
      · subst h1
        by_cases hl : f < t
        · have E1 : Hid (v = castZ 18 f t v) := by show _ = _; simp [castZ, hk, hl]
          have E2 : Hid (true = castB 18 f t v) := by show _ = _; simp [castB, hk, hl]
          clear hk
          go_enter Tryz.func78, Tryz.ntmps78
          go_wp2_with (first | (go_at_call 72; refine (valueS _ _ _).mono ?_; rintro e w' ⟨rfl, rfl⟩) | (go_at_call 68; refine (widthS _ _).mono ?_; rintro e w' ⟨rfl, rfl⟩))
          go_ret2
          exact ⟨ret_ib E1.out E2.out, rfl⟩
        · have E1 : Hid (0 = castZ 18 f t v) := by show _ = _; simp [castZ, hl]
          have E2 : Hid (false = castB 18 f t v) := by show _ = _; simp [castB, hl]
          clear hk
          go_enter Tryz.func78, Tryz.ntmps78
          go_wp2_with (first | (go_at_call 72; refine (valueS _ _ _).mono ?_; rintro e w' ⟨rfl, rfl⟩) | (go_at_call 68; refine (widthS _ _).mono ?_; rintro e w' ⟨rfl, rfl⟩))
          go_ret2
          exact ⟨ret_ib E1.out E2.out, rfl⟩
      by_cases h2 : op = 19
      · subst h2
        by_cases hl : f < t
        · have E1 : Hid (maskZ t (sgnZ f v) = castZ 19 f t v) := by show _ = _; simp [castZ, hk, hl]
          have E2 : Hid (true = castB 19 f t v) := by show _ = _; simp [castB, hk, hl]
          clear hk
          go_enter Tryz.func78, Tryz.ntmps78
          go_wp2_with (first | (go_at_call 72; refine (valueS _ _ _).mono ?_; rintro e w' ⟨rfl, rfl⟩) | (go_at_call 68; refine (widthS _ _).mono ?_; rintro e w' ⟨rfl, rfl⟩) | (go_at_call 115; refine (sgnS _ _ _ hv).mono ?_; rintro e w' ⟨rfl, rfl⟩) | (go_at_call 112; refine (maskS _ _ _).mono ?_; rintro e w' ⟨rfl, rfl⟩))
          go_ret2
          exact ⟨ret_ib E1.out E2.out, rfl⟩
        · have E1 : Hid (0 = castZ 19 f t v) := by show _ = _; simp [castZ, hl]
          have E2 : Hid (false = castB 19 f t v) := by show _ = _; simp [castB, hl]
          clear hk
          go_enter Tryz.func78, Tryz.ntmps78
          go_wp2_with (first | (go_at_call 72; refine (valueS _ _ _).mono ?_; rintro e w' ⟨rfl, rfl⟩) | (go_at_call 68; refine (widthS _ _).mono ?_; rintro e w' ⟨rfl, rfl⟩))
          go_ret2
          exact ⟨ret_ib E1.out E2.out, rfl⟩
      by_cases h3 : op = 20
      · subst h3
        by_cases hl : t < f
        · have E1 : Hid (maskZ t v = castZ 20 f t v) := by show _ = _; simp [castZ, hk, hl]
          have E2 : Hid (true = castB 20 f t v) := by show _ = _; simp [castB, hk, hl]
          clear hk
          go_enter Tryz.func78, Tryz.ntmps78
          go_wp2_with (first | (go_at_call 72; refine (valueS _ _ _).mono ?_; rintro e w' ⟨rfl, rfl⟩) | (go_at_call 68; refine (widthS _ _).mono ?_; rintro e w' ⟨rfl, rfl⟩) | (go_at_call 112; refine (maskS _ _ _).mono ?_; rintro e w' ⟨rfl, rfl⟩))
          go_ret2
          exact ⟨ret_ib E1.out E2.out, rfl⟩
        · have E1 : Hid (0 = castZ 20 f t v) := by show _ = _; simp [castZ, hl]
          have E2 : Hid (false = castB 20 f t v) := by show _ = _; simp [castB, hl]
          clear hk
          go_enter Tryz.func78, Tryz.ntmps78
          go_wp2_with (first | (go_at_call 72; refine (valueS _ _ _).mono ?_; rintro e w' ⟨rfl, rfl⟩) | (go_at_call 68; refine (widthS _ _).mono ?_; rintro e w' ⟨rfl, rfl⟩))
          go_ret2
          exact ⟨ret_ib E1.out E2.out, rfl⟩
      · have E1 : Hid (0 = castZ op f t v) := by show _ = _; simp [castZ, h1, h2, h3]
        have E2 : Hid (false = castB op f t v) := by show _ = _; simp [castB, h1, h2, h3]
        have d1 : (op == 18) = false := by simpa using h1
        have d2 : (op == 19) = false := by simpa using h2
        have d3 : (op == 20) = false := by simpa using h3
        clear hk h1 h2 h3
        go_enter Tryz.func78, Tryz.ntmps78
        go_wp2_with (first | (go_at_call 72; refine (valueS _ _ _).mono ?_; rintro e w' ⟨rfl, rfl⟩) | (go_at_call 68; refine (widthS _ _).mono ?_; rintro e w' ⟨rfl, rfl⟩))
        go_ret2
        exact ⟨ret_ib E1.out E2.out, rfl⟩
    · have ht : widthB t = false := by simpa using ht
      have E1 : Hid (0 = castZ op f t v) := by show _ = _; simp [castZ, castOk, ht]
      have E2 : Hid (false = castB op f t v) := by show _ = _; simp [castB, castOk, ht]
      go_enter Tryz.func78, Tryz.ntmps78
      go_wp2_with (first | (go_at_call 72; refine (valueS _ _ _).mono ?_; rintro e w' ⟨rfl, rfl⟩) | (go_at_call 68; refine (widthS _ _).mono ?_; rintro e w' ⟨rfl, rfl⟩))
      go_ret2
      exact ⟨ret_ib E1.out E2.out, rfl⟩
  · have hv : valueB f v = false := by simpa using hv
    have E1 : Hid (0 = castZ op f t v) := by show _ = _; simp [castZ, castOk, hv]
    have E2 : Hid (false = castB op f t v) := by show _ = _; simp [castB, castOk, hv]
    go_enter Tryz.func78, Tryz.ntmps78
    go_wp2_with (first | (go_at_call 72; refine (valueS _ _ _).mono ?_; rintro e w' ⟨rfl, rfl⟩) | (go_at_call 68; refine (widthS _ _).mono ?_; rintro e w' ⟨rfl, rfl⟩))
    go_ret2
    exact ⟨ret_ib E1.out E2.out, rfl⟩
theorem castI (op f t v : Int) (w : World) : Calls Tryz.prog 104 #[.int .i64 op, .int .i64 f, .int .i64 t, .int .i64 v] w fun e w' => e = .returned (.tuple #[.int .i64 (castZ op f t v), .bool (castB op f t v)]) ∧ w' = w := by
  by_cases hv : valueB f v = true
  · by_cases ht : widthB t = true
    · have hk : castOk op f t v = true := by simp [castOk, hv, ht]
      by_cases h1 : op = 18
      · subst h1
        by_cases hl : f < t
        · have E1 : Hid (v = castZ 18 f t v) := by show _ = _; simp [castZ, hk, hl]
          have E2 : Hid (true = castB 18 f t v) := by show _ = _; simp [castB, hk, hl]
          clear hk
          go_enter Tryz.func104, Tryz.ntmps104
          go_wp2_with (first | (go_at_call 96; refine (valueI _ _ _).mono ?_; rintro e w' ⟨rfl, rfl⟩) | (go_at_call 93; refine (widthI _ _).mono ?_; rintro e w' ⟨rfl, rfl⟩))
          go_ret2
          exact ⟨ret_ib E1.out E2.out, rfl⟩
        · have E1 : Hid (0 = castZ 18 f t v) := by show _ = _; simp [castZ, hl]
          have E2 : Hid (false = castB 18 f t v) := by show _ = _; simp [castB, hl]
          clear hk
          go_enter Tryz.func104, Tryz.ntmps104
          go_wp2_with (first | (go_at_call 96; refine (valueI _ _ _).mono ?_; rintro e w' ⟨rfl, rfl⟩) | (go_at_call 93; refine (widthI _ _).mono ?_; rintro e w' ⟨rfl, rfl⟩))
          go_ret2
          exact ⟨ret_ib E1.out E2.out, rfl⟩
      by_cases h2 : op = 19
      · subst h2
        by_cases hl : f < t
        · have E1 : Hid (maskZ t (signZ f v) = castZ 19 f t v) := by show _ = _; simp [castZ, hk, hl, signZ, hv]
          have E2 : Hid (true = castB 19 f t v) := by show _ = _; simp [castB, hk, hl]
          clear hk
          go_enter Tryz.func104, Tryz.ntmps104
          go_wp2_with (first | (go_at_call 96; refine (valueI _ _ _).mono ?_; rintro e w' ⟨rfl, rfl⟩) | (go_at_call 93; refine (widthI _ _).mono ?_; rintro e w' ⟨rfl, rfl⟩) | (go_at_call 135; refine (signI _ _ _).mono ?_; rintro e w' ⟨rfl, rfl⟩) | (go_at_call 133; refine (maskI _ _ _).mono ?_; rintro e w' ⟨rfl, rfl⟩))
          go_ret2
          exact ⟨ret_ib E1.out E2.out, rfl⟩
        · have E1 : Hid (0 = castZ 19 f t v) := by show _ = _; simp [castZ, hl]
          have E2 : Hid (false = castB 19 f t v) := by show _ = _; simp [castB, hl]
          clear hk
          go_enter Tryz.func104, Tryz.ntmps104
          go_wp2_with (first | (go_at_call 96; refine (valueI _ _ _).mono ?_; rintro e w' ⟨rfl, rfl⟩) | (go_at_call 93; refine (widthI _ _).mono ?_; rintro e w' ⟨rfl, rfl⟩))
          go_ret2
          exact ⟨ret_ib E1.out E2.out, rfl⟩
      by_cases h3 : op = 20
      · subst h3
        by_cases hl : t < f
        · have E1 : Hid (maskZ t v = castZ 20 f t v) := by show _ = _; simp [castZ, hk, hl]
          have E2 : Hid (true = castB 20 f t v) := by show _ = _; simp [castB, hk, hl]
          clear hk
          go_enter Tryz.func104, Tryz.ntmps104
          go_wp2_with (first | (go_at_call 96; refine (valueI _ _ _).mono ?_; rintro e w' ⟨rfl, rfl⟩) | (go_at_call 93; refine (widthI _ _).mono ?_; rintro e w' ⟨rfl, rfl⟩) | (go_at_call 133; refine (maskI _ _ _).mono ?_; rintro e w' ⟨rfl, rfl⟩))
          go_ret2
          exact ⟨ret_ib E1.out E2.out, rfl⟩
        · have E1 : Hid (0 = castZ 20 f t v) := by show _ = _; simp [castZ, hl]
          have E2 : Hid (false = castB 20 f t v) := by show _ = _; simp [castB, hl]
          clear hk
          go_enter Tryz.func104, Tryz.ntmps104
          go_wp2_with (first | (go_at_call 96; refine (valueI _ _ _).mono ?_; rintro e w' ⟨rfl, rfl⟩) | (go_at_call 93; refine (widthI _ _).mono ?_; rintro e w' ⟨rfl, rfl⟩))
          go_ret2
          exact ⟨ret_ib E1.out E2.out, rfl⟩
      · have E1 : Hid (0 = castZ op f t v) := by show _ = _; simp [castZ, h1, h2, h3]
        have E2 : Hid (false = castB op f t v) := by show _ = _; simp [castB, h1, h2, h3]
        have d1 : (op == 18) = false := by simpa using h1
        have d2 : (op == 19) = false := by simpa using h2
        have d3 : (op == 20) = false := by simpa using h3
        clear hk h1 h2 h3
        go_enter Tryz.func104, Tryz.ntmps104
        go_wp2_with (first | (go_at_call 96; refine (valueI _ _ _).mono ?_; rintro e w' ⟨rfl, rfl⟩) | (go_at_call 93; refine (widthI _ _).mono ?_; rintro e w' ⟨rfl, rfl⟩))
        go_ret2
        exact ⟨ret_ib E1.out E2.out, rfl⟩
    · have ht : widthB t = false := by simpa using ht
      have E1 : Hid (0 = castZ op f t v) := by show _ = _; simp [castZ, castOk, ht]
      have E2 : Hid (false = castB op f t v) := by show _ = _; simp [castB, castOk, ht]
      go_enter Tryz.func104, Tryz.ntmps104
      go_wp2_with (first | (go_at_call 96; refine (valueI _ _ _).mono ?_; rintro e w' ⟨rfl, rfl⟩) | (go_at_call 93; refine (widthI _ _).mono ?_; rintro e w' ⟨rfl, rfl⟩))
      go_ret2
      exact ⟨ret_ib E1.out E2.out, rfl⟩
  · have hv : valueB f v = false := by simpa using hv
    have E1 : Hid (0 = castZ op f t v) := by show _ = _; simp [castZ, castOk, hv]
    have E2 : Hid (false = castB op f t v) := by show _ = _; simp [castB, castOk, hv]
    go_enter Tryz.func104, Tryz.ntmps104
    go_wp2_with (first | (go_at_call 96; refine (valueI _ _ _).mono ?_; rintro e w' ⟨rfl, rfl⟩) | (go_at_call 93; refine (widthI _ _).mono ?_; rintro e w' ⟨rfl, rfl⟩))
    go_ret2
    exact ⟨ret_ib E1.out E2.out, rfl⟩

def opB (op : Int) : Bool := decide (1 ≤ op) && decide (op ≤ 17)
def resZ (op a : Int) : Int := if opB op = true ∧ widthB a = true then (if 14 ≤ op then 1 else a) else 0
theorem op_yes {op : Int} (h : opB op = true) : 1 ≤ op ∧ op ≤ 17 := by simpa [opB] using h

theorem opI (op : Int) (w : World) : Calls Tryz.prog 95 #[.int .i64 op] w fun e w' => e = .returned (.bool (opB op)) ∧ w' = w := by
  by_cases h1 : 1 ≤ op
  · have E : Hid (decide (op ≤ 17) = opB op) := by show _ = _; simp [opB, h1]
    go_enter Tryz.func95, Tryz.ntmps95
    go_wp2
    go_ret
    exact ⟨ret_bool E.out, rfl⟩
  · have E : Hid (false = opB op) := by show _ = _; simp [opB, h1]
    have d1 : decide (1 ≤ op) = false := by simpa using h1
    go_enter Tryz.func95, Tryz.ntmps95
    go_wp2
    go_ret
    exact ⟨ret_bool E.out, rfl⟩

theorem resS (op a : Int) (w : World) : Calls Tryz.prog 114 #[.int .i64 op, .int .i64 a] w fun e w' => e = .returned (.int .i64 (resZ op a)) ∧ w' = w := by
  by_cases hw : widthB a = true
  · by_cases ho : opB op = true
    · have d : (decide (1 ≤ op) && decide (op ≤ 17)) = true := ho
      by_cases h : 14 ≤ op
      · have E : Hid (1 = resZ op a) := by show _ = _; simp [resZ, hw, ho, h]
        clear ho
        go_enter Tryz.func114, Tryz.ntmps114
        go_wp2_with (first | (go_at_call 68; refine (widthS _ _).mono ?_; rintro e w' ⟨rfl, rfl⟩) | (go_at_call 69; refine (inS _ _ _ _).mono ?_; rintro e w' ⟨rfl, rfl⟩))
        go_ret
        exact ⟨ret_int E.out, rfl⟩
      · have E : Hid (a = resZ op a) := by show _ = _; simp [resZ, hw, ho, h]
        clear ho
        go_enter Tryz.func114, Tryz.ntmps114
        go_wp2_with (first | (go_at_call 68; refine (widthS _ _).mono ?_; rintro e w' ⟨rfl, rfl⟩) | (go_at_call 69; refine (inS _ _ _ _).mono ?_; rintro e w' ⟨rfl, rfl⟩))
        go_ret
        exact ⟨ret_int E.out, rfl⟩
    · have ho : opB op = false := by simpa using ho
      have d : (decide (1 ≤ op) && decide (op ≤ 17)) = false := ho
      have E : Hid (0 = resZ op a) := by show _ = _; simp [resZ, ho]
      clear ho
      go_enter Tryz.func114, Tryz.ntmps114
      go_wp2_with (first | (go_at_call 68; refine (widthS _ _).mono ?_; rintro e w' ⟨rfl, rfl⟩) | (go_at_call 69; refine (inS _ _ _ _).mono ?_; rintro e w' ⟨rfl, rfl⟩))
      go_ret
      exact ⟨ret_int E.out, rfl⟩
  · have hw : widthB a = false := by simpa using hw
    have E : Hid (0 = resZ op a) := by show _ = _; simp [resZ, hw]
    go_enter Tryz.func114, Tryz.ntmps114
    go_wp2_with (first | (go_at_call 68; refine (widthS _ _).mono ?_; rintro e w' ⟨rfl, rfl⟩) | (go_at_call 69; refine (inS _ _ _ _).mono ?_; rintro e w' ⟨rfl, rfl⟩))
    go_ret
    exact ⟨ret_int E.out, rfl⟩

theorem resI (op a : Int) (w : World) : Calls Tryz.prog 161 #[.int .i64 op, .int .i64 a] w fun e w' => e = .returned (.int .i64 (resZ op a)) ∧ w' = w := by
  by_cases ho : opB op = true
  · by_cases hw : widthB a = true
    · by_cases h : 14 ≤ op
      · have E : Hid (1 = resZ op a) := by show _ = _; simp [resZ, hw, ho, h]
        go_enter Tryz.func161, Tryz.ntmps161
        go_wp2_with (first | (go_at_call 93; refine (widthI _ _).mono ?_; rintro e w' ⟨rfl, rfl⟩) | (go_at_call 95; refine (opI _ _).mono ?_; rintro e w' ⟨rfl, rfl⟩))
        go_ret
        exact ⟨ret_int E.out, rfl⟩
      · have E : Hid (a = resZ op a) := by show _ = _; simp [resZ, hw, ho, h]
        go_enter Tryz.func161, Tryz.ntmps161
        go_wp2_with (first | (go_at_call 93; refine (widthI _ _).mono ?_; rintro e w' ⟨rfl, rfl⟩) | (go_at_call 95; refine (opI _ _).mono ?_; rintro e w' ⟨rfl, rfl⟩))
        go_ret
        exact ⟨ret_int E.out, rfl⟩
    · have hw : widthB a = false := by simpa using hw
      have E : Hid (0 = resZ op a) := by show _ = _; simp [resZ, hw]
      go_enter Tryz.func161, Tryz.ntmps161
      go_wp2_with (first | (go_at_call 93; refine (widthI _ _).mono ?_; rintro e w' ⟨rfl, rfl⟩) | (go_at_call 95; refine (opI _ _).mono ?_; rintro e w' ⟨rfl, rfl⟩))
      go_ret
      exact ⟨ret_int E.out, rfl⟩
  · have ho : opB op = false := by simpa using ho
    have E : Hid (0 = resZ op a) := by show _ = _; simp [resZ, ho]
    go_enter Tryz.func161, Tryz.ntmps161
    go_wp2_with (first | (go_at_call 93; refine (widthI _ _).mono ?_; rintro e w' ⟨rfl, rfl⟩) | (go_at_call 95; refine (opI _ _).mono ?_; rintro e w' ⟨rfl, rfl⟩))
    go_ret
    exact ⟨ret_int E.out, rfl⟩
end Go.Proofs.YtoknhppjdmoblaaGreatDoor
