import Derived.Test.YtenbodghkpbghaaDoorMemQ
import Derived.Laws.AppendOwnNone
import Derived.Deep.LoopGhost
namespace Go.Proofs.YtenbodghkpbghaaDoor
open Go.RowKit
def szI (n : Nat) (left : Int) : Int := if left - n < 0 then -1 else left - n
def szL {α : Type} (f : α → Int → Int) : List α → Int → Int
 | [], x => x
 | d :: r, x => if f d x < 0 then -1 else szL f r (f d x)
def szS {α : Type} (f : α → Int → Int) (l : List α) (x : Int) : Int := if x - l.length < 0 then -1 else szL f l (x - l.length)
def Falls {α : Type} (f : α → Int → Int) : Prop := ∀ d x, 0 ≤ x → f d x = -1 ∨ (0 ≤ f d x ∧ f d x ≤ x)
theorem szI_falls (n : Nat) (x : Int) : szI n x = -1 ∨ (0 ≤ szI n x ∧ szI n x ≤ x) := by unfold szI; split <;> omega
theorem szL_falls {α : Type} {f : α → Int → Int} (hf : Falls f) : ∀ (l : List α) (x : Int), 0 ≤ x → szL f l x = -1 ∨ (0 ≤ szL f l x ∧ szL f l x ≤ x)
 | [], x, hx => .inr ⟨hx, Int.le_refl _⟩
 | d :: r, x, hx => by
  unfold szL
  rcases hf d x hx with h | ⟨h, h'⟩
  ·rw [if_pos (by omega)]; exact .inl rfl
  ·rw [if_neg (by omega)]
   rcases szL_falls hf r (f d x) h with k | ⟨k, k'⟩
   ·exact .inl k
   ·exact .inr ⟨k, by omega⟩
theorem szS_falls {α : Type} {f : α → Int → Int} (hf : Falls f) (l : List α) (x : Int) : szS f l x = -1 ∨ (0 ≤ szS f l x ∧ szS f l x ≤ x) := by
 unfold szS; split
 ·exact .inl rfl
 ·rcases szL_falls hf l (x - l.length) (by omega) with h | h
  ·exact .inl h
  ·exact .inr ⟨h.1, by omega⟩
theorem szL_each {α : Type} {f : α → Int → Int} (hf : Falls f) : ∀ (l : List α) (x : Int), 0 ≤ x → 0 ≤ szL f l x → ∀ d ∈ l, ∃ y, 0 ≤ y ∧ y ≤ x ∧ 0 ≤ f d y
 | [], _, _, _, _, hd => by cases hd
 | c :: r, x, hx, h, d, hd => by
  unfold szL at h
  rcases hf c x hx with k | ⟨k, k'⟩
  ·rw [if_pos (by omega)] at h; omega
  ·rw [if_neg (by omega)] at h
   rcases List.mem_cons.1 hd with rfl | hd
   ·exact ⟨x, hx, Int.le_refl _, k⟩
   ·obtain ⟨y, y0, y1, y2⟩ := szL_each hf r (f c x) k h d hd
    exact ⟨y, y0, by omega, y2⟩
theorem szS_each {α : Type} {f : α → Int → Int} (hf : Falls f) {l : List α} {x : Int} (h : 0 ≤ szS f l x) : (l.length : Int) ≤ x ∧ ∀ d ∈ l, ∃ y, 0 ≤ y ∧ y ≤ x ∧ 0 ≤ f d y := by
 unfold szS at h
 split at h
 ·omega
 ·refine ⟨by omega, fun d hd => ?_⟩
  obtain ⟨y, y0, y1, y2⟩ := szL_each hf l (x - l.length) (by omega) h d hd
  exact ⟨y, y0, by omega, y2⟩
def szPhi (d : PhiD) (x : Int) : Int := szI d.ins.length x
def szInst (d : InstD) (x : Int) : Int := szI d.args.length x
def szBlock (d : BlockD) (x : Int) : Int := if szS szPhi d.phis x < 0 then -1 else szS szInst d.insts (szS szPhi d.phis x)
def szFunc (d : FuncD) (x : Int) : Int := if szI d.params.length x < 0 then -1 else szS szBlock d.blocks (szI d.params.length x)
theorem szPhi_falls : Falls szPhi := fun _ _ _ => szI_falls _ _
theorem szInst_falls : Falls szInst := fun _ _ _ => szI_falls _ _
theorem szBlock_falls : Falls szBlock := fun d x _ => by
 unfold szBlock
 rcases szS_falls szPhi_falls d.phis x with h | ⟨h, h'⟩
 ·rw [if_pos (by omega)]; exact .inl rfl
 ·rw [if_neg (by omega)]
  rcases szS_falls szInst_falls d.insts (szS szPhi d.phis x) with k | ⟨k, k'⟩
  ·exact .inl k
  ·exact .inr ⟨k, by omega⟩
theorem szFunc_falls : Falls szFunc := fun d x _ => by
 unfold szFunc
 rcases szI_falls d.params.length x with h | ⟨h, h'⟩
 ·rw [if_pos (by omega)]; exact .inl rfl
 ·rw [if_neg (by omega)]
  rcases szS_falls szBlock_falls d.blocks (szI d.params.length x) with k | ⟨k, k'⟩
  ·exact .inl k
  ·exact .inr ⟨k, by omega⟩
def SmPhi (d : PhiD) : Prop := d.ins.length ≤ 1048576
def SmInst (d : InstD) : Prop := d.args.length ≤ 1048576
def SmBlock (d : BlockD) : Prop := (d.phis.length ≤ 1048576 ∧ ∀ p ∈ d.phis, SmPhi p) ∧ (d.insts.length ≤ 1048576 ∧ ∀ p ∈ d.insts, SmInst p)
def SmFunc (d : FuncD) : Prop := d.params.length ≤ 1048576 ∧ (d.blocks.length ≤ 1048576 ∧ ∀ p ∈ d.blocks, SmBlock p)
theorem szI_small {n : Nat} {x : Int} (hx : x ≤ 1048576) (h : 0 ≤ szI n x) : n ≤ 1048576 := by unfold szI at h; split at h <;> omega
theorem szBlock_small {d : BlockD} {x : Int} (hx : x ≤ 1048576) (h : 0 ≤ szBlock d x) : SmBlock d := by
 unfold szBlock at h
 rcases szS_falls szPhi_falls d.phis x with k | ⟨k, k'⟩
 ·rw [if_pos (by omega)] at h; omega
 ·rw [if_neg (by omega)] at h
  obtain ⟨p1, p2⟩ := szS_each szPhi_falls k
  obtain ⟨i1, i2⟩ := szS_each szInst_falls h
  refine ⟨⟨by omega, fun p hp => ?_⟩, ⟨by omega, fun p hp => ?_⟩⟩
  ·obtain ⟨y, _, y1, y2⟩ := p2 p hp
   exact szI_small (by omega) y2
  ·obtain ⟨y, _, y1, y2⟩ := i2 p hp
   exact szI_small (by omega) y2
theorem szFunc_small {d : FuncD} {x : Int} (hx : x ≤ 1048576) (h : 0 ≤ szFunc d x) : SmFunc d := by
 unfold szFunc at h
 rcases szI_falls d.params.length x with k | ⟨k, k'⟩
 ·rw [if_pos (by omega)] at h; omega
 ·rw [if_neg (by omega)] at h
  obtain ⟨b1, b2⟩ := szS_each szBlock_falls h
  refine ⟨szI_small hx k, by omega, fun p hp => ?_⟩
  obtain ⟨y, _, y1, y2⟩ := b2 p hp
  exact szBlock_small (by omega) y2
theorem ret_i {a b : Int} (h : a = b) : Ending.returned (.int .i64 a) = .returned (.int .i64 b) := by rw [h]
theorem szInts_any (a : Option Addr) (n cap : Nat) (x : Int) (w : World) (h0 : 0 ≤ x) (h1 : x ≤ 1048576) (hn : n ≤ 9223372036854775807) :
  Calls Tryd.prog 35 #[.slice a n cap, .int .i64 x] w fun e w' => e = .returned (.int .i64 (szI n x)) ∧ w' = w := by
 by_cases hc : x - n < 0
 ·have E : Hid (-1 = szI n x) := by show _ = _; rw [szI, if_pos hc]
  go_enter Tryd.func35, Tryd.ntmps35
  go_wp2_with fail
  go_ret
  exact ⟨ret_i E.out, rfl⟩
 ·have E : Hid (x - n = szI n x) := by show _ = _; rw [szI, if_neg hc]
  go_enter Tryd.func35, Tryd.ntmps35
  go_wp2_with fail
  go_ret
  exact ⟨ret_i E.out, rfl⟩
theorem szPhi_any (lo : Nat) (d : PhiD) (u1 : Option Addr) (c1 : Nat) (x : Int) (w : World) (h0 : 0 ≤ x) (h1 : x ≤ 1048576) (k1 : IntsAt w lo u1 d.ins) :
  Calls Tryd.prog 102 #[.agg #[.int .i64 d.w, .slice u1 d.ins.length c1], .int .i64 x] w fun e w' => e = .returned (.int .i64 (szPhi d x)) ∧ Below w.heap.size w w' := by
 have hn := k1.1
 rcases szI_falls d.ins.length x with hc | ⟨hc, _⟩
 ·have E : Hid (-1 = szPhi d x) := hc.symm
  have hq : szI d.ins.length x < 0 := by omega
  clear hc
  go_enter Tryd.func102, Tryd.ntmps102
  go_wp2_with (go_at_call 35; refine (szInts_any _ _ _ _ _ h0 h1 hn).mono ?_; rintro e w' ⟨rfl, rfl⟩)
  go_ret
  exact ⟨ret_i E.out, (Below.refl _ _).alloc (Nat.le_refl _) _⟩
 ·go_enter Tryd.func102, Tryd.ntmps102
  go_wp2_with (go_at_call 35; refine (szInts_any _ _ _ _ _ h0 h1 hn).mono ?_; rintro e w' ⟨rfl, rfl⟩)
  go_ret
  exact ⟨ret_i (by rfl), (Below.refl _ _).alloc (Nat.le_refl _) _⟩
theorem szInst_any (lo : Nat) (d : InstD) (u6 : Option Addr) (c6 : Nat) (x : Int) (w : World) (h0 : 0 ≤ x) (h1 : x ≤ 1048576) (k6 : IntsAt w lo u6 d.args) :
  Calls Tryd.prog 103 #[.agg #[.int .i64 d.op, .int .i64 d.w, .int .i64 d.a, .int .i64 d.b, .int .i64 d.c, .int .i64 d.imm, .slice u6 d.args.length c6], .int .i64 x] w fun e w' => e = .returned (.int .i64 (szInst d x)) ∧ Below w.heap.size w w' := by
 have hn := k6.1
 rcases szI_falls d.args.length x with hc | ⟨hc, _⟩
 ·have E : Hid (-1 = szInst d x) := hc.symm
  have hq : szI d.args.length x < 0 := by omega
  clear hc
  go_enter Tryd.func103, Tryd.ntmps103
  go_wp2_with (go_at_call 35; refine (szInts_any _ _ _ _ _ h0 h1 hn).mono ?_; rintro e w' ⟨rfl, rfl⟩)
  go_ret
  exact ⟨ret_i E.out, (Below.refl _ _).alloc (Nat.le_refl _) _⟩
 ·go_enter Tryd.func103, Tryd.ntmps103
  go_wp2_with (go_at_call 35; refine (szInts_any _ _ _ _ _ h0 h1 hn).mono ?_; rintro e w' ⟨rfl, rfl⟩)
  go_ret
  exact ⟨ret_i (by rfl), (Below.refl _ _).alloc (Nat.le_refl _) _⟩
set_option maxHeartbeats 1000000 in
theorem szPhiS_any (lo : Nat) (a : Option Addr) (cap : Nat) (l : List PhiD) (x : Int) (w : World) (h0 : 0 ≤ x) (h1 : x ≤ 1048576) (hv : PhisAt w lo a l) :
  Calls Tryd.prog 82 #[.slice a l.length cap, .int .i64 x] w fun e w' => e = .returned (.int .i64 (szS szPhi l x)) ∧ Below w.heap.size w w' := by
 obtain ⟨hn, h⟩ := hv
 by_cases hc : x - l.length < 0
 ·have E : Hid (-1 = szS szPhi l x) := by show _ = _; rw [szS, if_pos hc]
  go_enter Tryd.func82, Tryd.ntmps82
  go_wp2_with fail
  go_ret
  exact ⟨ret_i E.out, Below.refl _ _⟩
 ·have E : Hid (szL szPhi l (x - l.length) = szS szPhi l x) := by show _ = _; rw [szS, if_neg hc]
  go_enter Tryd.func82, Tryd.ntmps82
  go_wp2_with fail
  go_loopw [1, 5] (fun y i wr => ∃ (k : Nat) (z : Int), k ≤ l.length ∧ y = .int .i64 z ∧ i = .int .i64 k ∧ 0 ≤ z ∧ z ≤ 1048576 ∧ szL szPhi (l.drop k) z = szL szPhi l (x - l.length) ∧ Below w.heap.size w wr) (fun _ i _ => l.length - (intOf i).toNat)
  case atStart => exact ⟨0, x - l.length, by omega, rfl, rfl, by omega, by omega, by simp, Below.refl _ _⟩
  case round =>
   obtain ⟨k, z, hk, rfl, rfl, hz0, hz1, hq, hB⟩ := hrel
   by_cases hlt : k < l.length
   ·rcases h with rfl | ⟨b, off, rfl, hlo, hb, hcell⟩
    ·simp at hlt
    obtain ⟨h0, ⟨u1, c1, h1, k1⟩⟩ := hcell k hlt
    have hd := drop_get phi0 l k hlt
    generalize l.getD k phi0 = d at *
    have e0 : wr.cell? ⟨b, off + k * 2, none⟩ = some (.int .i64 d.w) := (cell_block (hB.block b hb)).trans h0
    have e1 : wr.cell? ⟨b, off + k * 2 + 1, none⟩ = some (.slice u1 d.ins.length c1) := (cell_block (hB.block b hb)).trans h1
    have m1 := k1.keep (agree_of_below hB _)
    have HQ : Hid (szL szPhi (l.drop k) z = szL szPhi l (x - l.length)) := hq
    have HD : Hid (l.drop k = d :: l.drop (k + 1)) := hd
    have HB : Hid (Below w.heap.size w wr) := hB
    clear hcell h0 h1 k1 hd hq hB
    rcases szPhi_falls d z hz0 with hs | ⟨hs, hs'⟩
    ·have hs2 : szPhi d z < 0 := by omega
     clear hs
     go_wp2_with (go_at_call 102; refine (szPhi_any lo d _ _ _ _ hz0 hz1 m1).mono ?_; rintro e w1 ⟨rfl, hb1⟩)
     go_ret
     have hq := HQ.out
     rw [HD.out, szL, if_pos hs2] at hq
     exact ⟨ret_i (hq.trans E.out), HB.out.trans (hb1.mono HB.out.size)⟩
    ·go_wp2_with (go_at_call 102; refine (szPhi_any lo d _ _ _ _ hz0 hz1 m1).mono ?_; rintro e w1 ⟨rfl, hb1⟩)
     go_roundw
     case rel =>
      have hq := HQ.out
      rw [HD.out, szL, if_neg (by omega)] at hq
      exact ⟨k + 1, _, by omega, rfl, by go_num, hs, by omega, hq, HB.out.trans (hb1.mono HB.out.size)⟩
     case measure => simp [intOf]; omega
   ·have hke : k = l.length := by omega
    have HQ : Hid (szL szPhi (l.drop k) z = szL szPhi l (x - l.length)) := hq
    clear hq
    go_wp2_with fail
    go_ret
    have hq := HQ.out
    rw [hke, List.drop_length, szL] at hq
    exact ⟨ret_i (hq.trans E.out), hB⟩
set_option maxHeartbeats 1000000 in
theorem szInstS_any (lo : Nat) (a : Option Addr) (cap : Nat) (l : List InstD) (x : Int) (w : World) (h0 : 0 ≤ x) (h1 : x ≤ 1048576) (hv : InstsAt w lo a l) :
  Calls Tryd.prog 83 #[.slice a l.length cap, .int .i64 x] w fun e w' => e = .returned (.int .i64 (szS szInst l x)) ∧ Below w.heap.size w w' := by
 obtain ⟨hn, h⟩ := hv
 by_cases hc : x - l.length < 0
 ·have E : Hid (-1 = szS szInst l x) := by show _ = _; rw [szS, if_pos hc]
  go_enter Tryd.func83, Tryd.ntmps83
  go_wp2_with fail
  go_ret
  exact ⟨ret_i E.out, Below.refl _ _⟩
 ·have E : Hid (szL szInst l (x - l.length) = szS szInst l x) := by show _ = _; rw [szS, if_neg hc]
  go_enter Tryd.func83, Tryd.ntmps83
  go_wp2_with fail
  go_loopw [1, 5] (fun y i wr => ∃ (k : Nat) (z : Int), k ≤ l.length ∧ y = .int .i64 z ∧ i = .int .i64 k ∧ 0 ≤ z ∧ z ≤ 1048576 ∧ szL szInst (l.drop k) z = szL szInst l (x - l.length) ∧ Below w.heap.size w wr) (fun _ i _ => l.length - (intOf i).toNat)
  case atStart => exact ⟨0, x - l.length, by omega, rfl, rfl, by omega, by omega, by simp, Below.refl _ _⟩
  case round =>
   obtain ⟨k, z, hk, rfl, rfl, hz0, hz1, hq, hB⟩ := hrel
   by_cases hlt : k < l.length
   ·rcases h with rfl | ⟨b, off, rfl, hlo, hb, hcell⟩
    ·simp at hlt
    obtain ⟨h0, h1, h2, h3, h4, h5, ⟨u6, c6, h6, k6⟩⟩ := hcell k hlt
    have hd := drop_get inst0 l k hlt
    generalize l.getD k inst0 = d at *
    have e0 : wr.cell? ⟨b, off + k * 7, none⟩ = some (.int .i64 d.op) := (cell_block (hB.block b hb)).trans h0
    have e1 : wr.cell? ⟨b, off + k * 7 + 1, none⟩ = some (.int .i64 d.w) := (cell_block (hB.block b hb)).trans h1
    have e2 : wr.cell? ⟨b, off + k * 7 + 2, none⟩ = some (.int .i64 d.a) := (cell_block (hB.block b hb)).trans h2
    have e3 : wr.cell? ⟨b, off + k * 7 + 3, none⟩ = some (.int .i64 d.b) := (cell_block (hB.block b hb)).trans h3
    have e4 : wr.cell? ⟨b, off + k * 7 + 4, none⟩ = some (.int .i64 d.c) := (cell_block (hB.block b hb)).trans h4
    have e5 : wr.cell? ⟨b, off + k * 7 + 5, none⟩ = some (.int .i64 d.imm) := (cell_block (hB.block b hb)).trans h5
    have e6 : wr.cell? ⟨b, off + k * 7 + 6, none⟩ = some (.slice u6 d.args.length c6) := (cell_block (hB.block b hb)).trans h6
    have m6 := k6.keep (agree_of_below hB _)
    have HQ : Hid (szL szInst (l.drop k) z = szL szInst l (x - l.length)) := hq
    have HD : Hid (l.drop k = d :: l.drop (k + 1)) := hd
    have HB : Hid (Below w.heap.size w wr) := hB
    clear hcell h0 h1 h2 h3 h4 h5 h6 k6 hd hq hB
    rcases szInst_falls d z hz0 with hs | ⟨hs, hs'⟩
    ·have hs2 : szInst d z < 0 := by omega
     clear hs
     go_wp2_with (go_at_call 103; refine (szInst_any lo d _ _ _ _ hz0 hz1 m6).mono ?_; rintro e w1 ⟨rfl, hb1⟩)
     go_ret
     have hq := HQ.out
     rw [HD.out, szL, if_pos hs2] at hq
     exact ⟨ret_i (hq.trans E.out), HB.out.trans (hb1.mono HB.out.size)⟩
    ·go_wp2_with (go_at_call 103; refine (szInst_any lo d _ _ _ _ hz0 hz1 m6).mono ?_; rintro e w1 ⟨rfl, hb1⟩)
     go_roundw
     case rel =>
      have hq := HQ.out
      rw [HD.out, szL, if_neg (by omega)] at hq
      exact ⟨k + 1, _, by omega, rfl, by go_num, hs, by omega, hq, HB.out.trans (hb1.mono HB.out.size)⟩
     case measure => simp [intOf]; omega
   ·have hke : k = l.length := by omega
    have HQ : Hid (szL szInst (l.drop k) z = szL szInst l (x - l.length)) := hq
    clear hq
    go_wp2_with fail
    go_ret
    have hq := HQ.out
    rw [hke, List.drop_length, szL] at hq
    exact ⟨ret_i (hq.trans E.out), hB⟩
theorem szBlock_any (lo : Nat) (d : BlockD) (u0 : Option Addr) (c0 : Nat) (u1 : Option Addr) (c1 : Nat) (x : Int) (w : World) (h0 : 0 ≤ x) (h1 : x ≤ 1048576) (k0 : PhisAt w lo u0 d.phis) (k1 : InstsAt w lo u1 d.insts) :
  Calls Tryd.prog 56 #[.agg #[.slice u0 d.phis.length c0, .slice u1 d.insts.length c1, .int .i64 d.term.kind, .int .i64 d.term.a, .int .i64 d.term.x, .int .i64 d.term.y], .int .i64 x] w fun e w' => e = .returned (.int .i64 (szBlock d x)) ∧ Below w.heap.size w w' := by
 rcases szS_falls szPhi_falls d.phis x with hc | ⟨hc, hc'⟩
 ·have E : Hid (-1 = szBlock d x) := by show _ = _; rw [szBlock, if_pos (by omega)]
  have hq : szS szPhi d.phis x < 0 := by omega
  clear hc
  go_enter Tryd.func56, Tryd.ntmps56
  go_wp2_with (go_at_call 82; refine (szPhiS_any lo _ _ _ _ _ h0 h1 (k0.keep (agree_alloc _ _ _))).mono ?_; rintro e w1 ⟨rfl, hb1⟩; have k1' := (k1.keep (agree_alloc w _ lo)).keep (agree_of_below hb1 lo); have hcc := bcell hb1)
  go_ret
  exact ⟨ret_i E.out, by first | exact (Below.refl _ _).alloc (Nat.le_refl _) _ | exact ((Below.refl _ _).alloc (Nat.le_refl _) _).trans (hb1.mono (by simp))⟩
 ·rcases szS_falls szInst_falls d.insts (szS szPhi d.phis x) with hd | ⟨hd, hd'⟩
  ·have E : Hid (-1 = szBlock d x) := by show _ = _; rw [szBlock, if_neg (by omega), hd]
   have hq : szS szInst d.insts (szS szPhi d.phis x) < 0 := by omega
   clear hd
   go_enter Tryd.func56, Tryd.ntmps56
   go_wp2_with (first | (go_at_call 82; refine (szPhiS_any lo _ _ _ _ _ h0 h1 (k0.keep (agree_alloc _ _ _))).mono ?_; rintro e w1 ⟨rfl, hb1⟩; have k1' := (k1.keep (agree_alloc w _ lo)).keep (agree_of_below hb1 lo); have hcc := bcell hb1) | (go_at_call 83; refine (szInstS_any lo _ _ _ _ _ hc (by omega) k1').mono ?_; rintro e w2 ⟨rfl, hb2⟩))
   go_ret
   exact ⟨ret_i E.out, by first | exact ((Below.refl _ _).alloc (Nat.le_refl _) _).trans (hb2.mono (by simp)) | exact (((Below.refl _ _).alloc (Nat.le_refl _) _).trans (hb1.mono (by simp))).trans (hb2.mono (by have := hb1.size; simp at this; omega))⟩
  ·have E : Hid (szS szInst d.insts (szS szPhi d.phis x) = szBlock d x) := by show _ = _; rw [szBlock, if_neg (by omega)]
   go_enter Tryd.func56, Tryd.ntmps56
   go_wp2_with (first | (go_at_call 82; refine (szPhiS_any lo _ _ _ _ _ h0 h1 (k0.keep (agree_alloc _ _ _))).mono ?_; rintro e w1 ⟨rfl, hb1⟩; have k1' := (k1.keep (agree_alloc w _ lo)).keep (agree_of_below hb1 lo); have hcc := bcell hb1) | (go_at_call 83; refine (szInstS_any lo _ _ _ _ _ hc (by omega) k1').mono ?_; rintro e w2 ⟨rfl, hb2⟩))
   go_ret
   exact ⟨ret_i E.out, by first | exact ((Below.refl _ _).alloc (Nat.le_refl _) _).trans (hb2.mono (by simp)) | exact (((Below.refl _ _).alloc (Nat.le_refl _) _).trans (hb1.mono (by simp))).trans (hb2.mono (by have := hb1.size; simp at this; omega))⟩
set_option maxHeartbeats 1000000 in
theorem szBlockS_any (lo : Nat) (a : Option Addr) (cap : Nat) (l : List BlockD) (x : Int) (w : World) (h0 : 0 ≤ x) (h1 : x ≤ 1048576) (hv : BlocksAt w lo a l) :
  Calls Tryd.prog 36 #[.slice a l.length cap, .int .i64 x] w fun e w' => e = .returned (.int .i64 (szS szBlock l x)) ∧ Below w.heap.size w w' := by
 obtain ⟨hn, h⟩ := hv
 by_cases hc : x - l.length < 0
 ·have E : Hid (-1 = szS szBlock l x) := by show _ = _; rw [szS, if_pos hc]
  go_enter Tryd.func36, Tryd.ntmps36
  go_wp2_with fail
  go_ret
  exact ⟨ret_i E.out, Below.refl _ _⟩
 ·have E : Hid (szL szBlock l (x - l.length) = szS szBlock l x) := by show _ = _; rw [szS, if_neg hc]
  go_enter Tryd.func36, Tryd.ntmps36
  go_wp2_with fail
  go_loopw [1, 5] (fun y i wr => ∃ (k : Nat) (z : Int), k ≤ l.length ∧ y = .int .i64 z ∧ i = .int .i64 k ∧ 0 ≤ z ∧ z ≤ 1048576 ∧ szL szBlock (l.drop k) z = szL szBlock l (x - l.length) ∧ Below w.heap.size w wr) (fun _ i _ => l.length - (intOf i).toNat)
  case atStart => exact ⟨0, x - l.length, by omega, rfl, rfl, by omega, by omega, by simp, Below.refl _ _⟩
  case round =>
   obtain ⟨k, z, hk, rfl, rfl, hz0, hz1, hq, hB⟩ := hrel
   by_cases hlt : k < l.length
   ·rcases h with rfl | ⟨b, off, rfl, hlo, hb, hcell⟩
    ·simp at hlt
    obtain ⟨⟨u0, c0, h0, k0⟩, ⟨u1, c1, h1, k1⟩, h2, h3, h4, h5⟩ := hcell k hlt
    have hd := drop_get block0 l k hlt
    generalize l.getD k block0 = d at *
    have e0 : wr.cell? ⟨b, off + k * 6, none⟩ = some (.slice u0 d.phis.length c0) := (cell_block (hB.block b hb)).trans h0
    have m0 := k0.keep (agree_of_below hB _)
    have e1 : wr.cell? ⟨b, off + k * 6 + 1, none⟩ = some (.slice u1 d.insts.length c1) := (cell_block (hB.block b hb)).trans h1
    have m1 := k1.keep (agree_of_below hB _)
    have e2 : wr.cell? ⟨b, off + k * 6 + 2, none⟩ = some (.int .i64 d.term.kind) := (cell_block (hB.block b hb)).trans h2
    have e3 : wr.cell? ⟨b, off + k * 6 + 3, none⟩ = some (.int .i64 d.term.a) := (cell_block (hB.block b hb)).trans h3
    have e4 : wr.cell? ⟨b, off + k * 6 + 4, none⟩ = some (.int .i64 d.term.x) := (cell_block (hB.block b hb)).trans h4
    have e5 : wr.cell? ⟨b, off + k * 6 + 5, none⟩ = some (.int .i64 d.term.y) := (cell_block (hB.block b hb)).trans h5
    have HQ : Hid (szL szBlock (l.drop k) z = szL szBlock l (x - l.length)) := hq
    have HD : Hid (l.drop k = d :: l.drop (k + 1)) := hd
    have HB : Hid (Below w.heap.size w wr) := hB
    clear hcell h0 h1 h2 h3 h4 h5 k0 k1 hd hq hB
    rcases szBlock_falls d z hz0 with hs | ⟨hs, hs'⟩
    ·have hs2 : szBlock d z < 0 := by omega
     clear hs
     go_wp2_with (go_at_call 56; refine (szBlock_any lo d _ _ _ _ _ _ hz0 hz1 m0 m1).mono ?_; rintro e w1 ⟨rfl, hb1⟩)
     go_ret
     have hq := HQ.out
     rw [HD.out, szL, if_pos hs2] at hq
     exact ⟨ret_i (hq.trans E.out), HB.out.trans (hb1.mono HB.out.size)⟩
    ·go_wp2_with (go_at_call 56; refine (szBlock_any lo d _ _ _ _ _ _ hz0 hz1 m0 m1).mono ?_; rintro e w1 ⟨rfl, hb1⟩)
     go_roundw
     case rel =>
      have hq := HQ.out
      rw [HD.out, szL, if_neg (by omega)] at hq
      exact ⟨k + 1, _, by omega, rfl, by go_num, hs, by omega, hq, HB.out.trans (hb1.mono HB.out.size)⟩
     case measure => simp [intOf]; omega
   ·have hke : k = l.length := by omega
    have HQ : Hid (szL szBlock (l.drop k) z = szL szBlock l (x - l.length)) := hq
    clear hq
    go_wp2_with fail
    go_ret
    have hq := HQ.out
    rw [hke, List.drop_length, szL] at hq
    exact ⟨ret_i (hq.trans E.out), hB⟩
theorem szFunc_any (lo : Nat) (d : FuncD) (u0 : Option Addr) (c0 : Nat) (u2 : Option Addr) (c2 : Nat) (x : Int) (w : World) (h0 : 0 ≤ x) (h1 : x ≤ 1048576) (k0 : IntsAt w lo u0 d.params) (k2 : BlocksAt w lo u2 d.blocks) :
  Calls Tryd.prog 13 #[.agg #[.slice u0 d.params.length c0, .int .i64 d.ret, .slice u2 d.blocks.length c2], .int .i64 x] w fun e w' => e = .returned (.int .i64 (szFunc d x)) ∧ Below w.heap.size w w' := by
 rcases szI_falls d.params.length x with hc | ⟨hc, hc'⟩
 ·have E : Hid (-1 = szFunc d x) := by show _ = _; rw [szFunc, if_pos (by omega)]
  have hq : szI d.params.length x < 0 := by omega
  clear hc
  go_enter Tryd.func13, Tryd.ntmps13
  go_wp2_with (go_at_call 35; refine (szInts_any _ _ _ _ _ h0 h1 k0.1).mono ?_; rintro e w1 ⟨rfl, rfl⟩)
  go_ret
  exact ⟨ret_i E.out, by first | exact (Below.refl _ _).alloc (Nat.le_refl _) _ | exact ((Below.refl _ _).alloc (Nat.le_refl _) _).trans (hb1.mono (by simp))⟩
 ·rcases szS_falls szBlock_falls d.blocks (szI d.params.length x) with hd | ⟨hd, hd'⟩
  ·have E : Hid (-1 = szFunc d x) := by show _ = _; rw [szFunc, if_neg (by omega), hd]
   have hq : szS szBlock d.blocks (szI d.params.length x) < 0 := by omega
   clear hd
   go_enter Tryd.func13, Tryd.ntmps13
   go_wp2_with (first | (go_at_call 35; refine (szInts_any _ _ _ _ _ h0 h1 k0.1).mono ?_; rintro e w1 ⟨rfl, rfl⟩) | (go_at_call 36; refine (szBlockS_any lo _ _ _ _ _ hc (by omega) (k2.keep (agree_alloc _ _ _))).mono ?_; rintro e w2 ⟨rfl, hb2⟩))
   go_ret
   exact ⟨ret_i E.out, by first | exact ((Below.refl _ _).alloc (Nat.le_refl _) _).trans (hb2.mono (by simp)) | exact (((Below.refl _ _).alloc (Nat.le_refl _) _).trans (hb1.mono (by simp))).trans (hb2.mono (by have := hb1.size; simp at this; omega))⟩
  ·have E : Hid (szS szBlock d.blocks (szI d.params.length x) = szFunc d x) := by show _ = _; rw [szFunc, if_neg (by omega)]
   go_enter Tryd.func13, Tryd.ntmps13
   go_wp2_with (first | (go_at_call 35; refine (szInts_any _ _ _ _ _ h0 h1 k0.1).mono ?_; rintro e w1 ⟨rfl, rfl⟩) | (go_at_call 36; refine (szBlockS_any lo _ _ _ _ _ hc (by omega) (k2.keep (agree_alloc _ _ _))).mono ?_; rintro e w2 ⟨rfl, hb2⟩))
   go_ret
   exact ⟨ret_i E.out, by first | exact ((Below.refl _ _).alloc (Nat.le_refl _) _).trans (hb2.mono (by simp)) | exact (((Below.refl _ _).alloc (Nat.le_refl _) _).trans (hb1.mono (by simp))).trans (hb2.mono (by have := hb1.size; simp at this; omega))⟩
end Go.Proofs.YtenbodghkpbghaaDoor
namespace Go.Proofs.YtenbodghkpbghaaDoor
open Go.RowKit
theorem heap_alloc_last (w : World) (o : Obj) : (w.alloc o).heap[w.heap.size]? = some o := by
 show (w.heap.push o)[w.heap.size]? = _
 simp
theorem cell_of_heap {w : World} {g o : Nat} {cur : Array Value} {t : TypeId} (h : w.heap[g]? = some (.cells cur t (0, 0))) : w.cell? ⟨g, o, none⟩ = cur[o]? := by
 unfold World.cell?; rw [h]; rfl
theorem froz_of_heap {w : World} {g o : Nat} {cur : Array Value} {t : TypeId} (h : w.heap[g]? = some (.cells cur t (0, 0))) : w.frozen? ⟨g, o, none⟩ = false := by
 unfold World.frozen?; rw [h]; rfl
theorem heap_set {w : World} {g o : Nat} {cur : Array Value} {t : TypeId} {v : Value} (h : w.heap[g]? = some (.cells cur t (0, 0))) : (w.setCell ⟨g, o, none⟩ v).heap[g]? = some (.cells (cur.setIfInBounds o v) t (0, 0)) := by
 show (w.heap.modify g _)[g]? = _
 rw [Array.getElem?_modify, if_pos rfl, h]
 rfl
theorem heap_other {w : World} {g : Nat} {p : Addr} {v : Value} {x : Option Obj} (hp : g ≠ p.block) (h : w.heap[g]? = x) : (w.setCell p v).heap[g]? = x := (Below.heap_setCell w p v g hp).trans h
theorem heap_mid (w : World) (o1 o2 o3 : Obj) : (((w.alloc o1).alloc o2).alloc o3).heap[w.heap.size + 1]? = some o2 := by
 rw [Below.heap_alloc _ _ _ (by simp)]
 have h := heap_alloc_last (w.alloc o1) o2
 have e : (w.alloc o1).heap.size = w.heap.size + 1 := by simp
 rw [e] at h
 exact h
theorem heap_alloc_at (w : World) (o : Obj) : (w.alloc o).heap[w.heap.size]? = some o := by
 show (w.heap.push o)[w.heap.size]? = _
 simp
theorem mk_any {t e : TypeId} {i : TypeInfo} {z : Value} {s by' : Nat} (n : Nat) (ht : Tryd.prog.underlying t = some (.slice e)) (hi : Tryd.prog.info? e = some i) (hz : i.zero = some z) (hs : i.size = s) (hb : i.bytes = by') (hm : by' ≤ 1000) (hn : n ≤ 1048576) (W : World) :
  (Instr.makeSlice t (.int .i64 (n : Int)) (.int .i64 (n : Int))).run Tryd.prog W = .ok (.slice (some ⟨W.heap.size, 0, none⟩) n n) (W.alloc (.cells (madeCells z.cells (n * s)) e)) := by
 subst hs hb
 have h := run_make (P := Tryd.prog) W t e i z ht hi hz .i64 .i64 n n (by omega) (Int.le_refl _) (by
  have : i.bytes * n ≤ 1000 * 1048576 := Nat.mul_le_mul hm hn
  have h2 : ((i.bytes * n : Nat) : Int) ≤ 1048576000 := by omega
  rw [Int.natCast_mul] at h2; omega) (by omega)
 simpa using h
theorem infoI : (Tryd.prog.info? 2).map (fun i => (i.zero, i.size, i.bytes)) = some (some (.int .i64 0), 1, 8) := by kernel_rfl
set_option maxHeartbeats 1000000 in
theorem toInts_any (lo : Nat) (a : Option Addr) (cap : Nat) (l : List Int) (w : World) (hl : l.length ≤ 1048576) (hv : IntsAt w lo a l) :
  Calls Tryd.prog 15 #[.slice a l.length cap] w fun e w' => ∃ u c, e = .returned (.slice u l.length c) ∧ IntsAt w' w.heap.size u l ∧ Below w.heap.size w w' := by
 obtain ⟨i0, hi, hz0, hz1, hz2⟩ := info_parts infoI
 have hmk := mk_any (t := 24) l.length Tryd.underlying24 hi hz0 hz1 hz2 (by omega) hl
 clear hi hz0 hz1 hz2
 have hm := hv.1
 go_enter Tryd.func15, Tryd.ntmps15
 go_wp2_with fail
 go_loopw [4] (fun i wr => ∃ (k : Nat) (cur : Array Value), k ≤ l.length ∧ i = .int .i64 k ∧ cur.size = l.length ∧ wr.heap[w.heap.size]? = some (.cells cur 2 (0, 0)) ∧ (∀ j, j < k → cur[j]? = some (.int .i64 (l.getD j 0))) ∧ Below w.heap.size w wr) (fun i _ => l.length - (intOf i).toNat)
 case atStart => exact ⟨0, _, by omega, rfl, by simp [size_madeCells], heap_alloc_at _ _, fun j hj => by omega, (Below.refl _ _).alloc (Nat.le_refl _) _⟩
 case round =>
  obtain ⟨k, cur, hk, rfl, hcs, hblk, hdone, hB⟩ := hrel
  by_cases hlt : k < l.length
  ·rcases hv.2 with rfl | ⟨b, off, rfl, hlo, hb, hcell⟩
   ·simp at hlt
   have e0 : wr.cell? ⟨b, off + k, none⟩ = some (.int .i64 (l.getD k 0)) := (cell_block (hB.block b hb)).trans (hcell k hlt)
   have e1 : wr.cell? ⟨w.heap.size, k, none⟩ = some (cur[k]'(by omega)) := by rw [cell_of_heap hblk]; simp [hcs, hlt]
   have e2 : wr.frozen? ⟨w.heap.size, k, none⟩ = false := froz_of_heap hblk
   have hdone2 : ∀ j, j < k + 1 → (cur.setIfInBounds k (.int .i64 (l.getD k 0)))[j]? = some (.int .i64 (l.getD j 0)) := fun j hj => by
    by_cases hjk : j = k
    ·subst hjk; simp [hcs, hlt]
    ·rw [Array.getElem?_setIfInBounds_ne (by omega)]; exact hdone j (by omega)
   have HD : Hid (∀ j, j < k + 1 → (cur.setIfInBounds k (.int .i64 (l.getD k 0)))[j]? = some (.int .i64 (l.getD j 0))) := hdone2
   have HH : Hid ((wr.setCell ⟨w.heap.size, k, none⟩ (.int .i64 (l.getD k 0))).heap[w.heap.size]? = some (.cells (cur.setIfInBounds k (.int .i64 (l.getD k 0))) 2 (0, 0))) := heap_set hblk
   generalize l.getD k 0 = d at e0 HD HH
   clear hmk hdone hdone2 hblk
   go_wp2_with fail
   go_roundw
   case rel => exact ⟨k + 1, _, by omega, by go_num, by simpa using hcs, HH.out, HD.out, hB.setCell (Nat.le_refl _) _⟩
   case measure => simp [intOf]; omega
  ·have hke : k = l.length := by omega
   have HH : Hid (wr.heap[w.heap.size]? = some (.cells cur 2 (0, 0))) := hblk
   clear hmk hblk
   go_wp2_with fail
   go_ret
   refine ⟨_, _, rfl, ⟨hm, .inr ⟨w.heap.size, 0, rfl, Nat.le_refl _, ?_, fun i hi => ?_⟩⟩, hB⟩
   ·exact (Array.getElem?_eq_some_iff.1 HH.out).1
   ·rw [Nat.zero_add, cell_of_heap HH.out]; exact hdone i (by omega)
set_option maxHeartbeats 1000000 in
theorem toPhi_any (lo : Nat) (d : PhiD) (u1 : Option Addr) (c1 : Nat) (w : World) (hs : SmPhi d) (k1 : IntsAt w lo u1 d.ins) :
  Calls Tryd.prog 104 #[.agg #[.int .i64 d.w, .slice u1 d.ins.length c1]] w fun e w' => ∃ u c, e = .returned (.agg #[.int .i64 d.w, .slice u d.ins.length c]) ∧ IntsAt w' w.heap.size u d.ins ∧ Below w.heap.size w w' := by
 go_enter Tryd.func104, Tryd.ntmps104
 go_wp2_with (go_at_call 15; refine (toInts_any lo _ _ _ _ hs (k1.keep (((agree_alloc _ _ _).trans (agree_alloc _ _ _)).trans (agree_alloc _ _ _)))).mono ?_; rintro e w1 ⟨u, c, rfl, hu, hb1⟩; have hcc := bcell hb1; have hff := bfroz hb1)
 have hB : Below w.heap.size w w1 := ((((Below.refl w.heap.size w).alloc (Nat.le_refl _) _).alloc (by first | (simp; done) | (simp; omega)) _).alloc (by first | (simp; done) | (simp; omega)) _).trans (hb1.mono (by first | (simp; done) | (simp; omega)))
 have hu3 := hu.low (lo' := w.heap.size + 3) (by first | (simp; done) | (simp; omega))
 have hr := (heap_set (o := 1) (v := .slice u d.ins.length c) (heap_set (o := 0) (v := .int .i64 d.w) (heap_other (g := w.heap.size + 1) (p := ⟨w.heap.size + 1 + 1, 1, none⟩) (v := .slice u d.ins.length c) (by simp) ((hb1.block (w.heap.size + 1) (by simp)).trans (heap_mid _ _ _ _)))))
 refine bodyPost_ret (v := .agg #[.int .i64 d.w, .slice u d.ins.length c]) ((results_cell_row Tryd.results104 _ _ (w.heap.size + 1) 89 _ (0, 0) _ rfl hr Tryd.underlying89 rfl (by kernel_rfl)).trans (by rfl)) rfl ⟨u, c, rfl, ?_, ?_⟩
 ·exact (hu3.keep (by repeat (first | refine Agree.trans ?_ (agree_setCell _ _ _ _ _ (by omega)) | exact Agree.refl _ _))).low (by omega)
 ·exact (by repeat (first | refine Below.setCell ?_ (by dsimp only; omega) _ | exact hB))
set_option maxHeartbeats 1000000 in
theorem toInst_any (lo : Nat) (d : InstD) (u6 : Option Addr) (c6 : Nat) (w : World) (hs : SmInst d) (k6 : IntsAt w lo u6 d.args) :
  Calls Tryd.prog 105 #[.agg #[.int .i64 d.op, .int .i64 d.w, .int .i64 d.a, .int .i64 d.b, .int .i64 d.c, .int .i64 d.imm, .slice u6 d.args.length c6]] w fun e w' => ∃ u c, e = .returned (.agg #[.int .i64 d.op, .int .i64 d.w, .int .i64 d.a, .int .i64 d.b, .int .i64 d.c, .int .i64 d.imm, .slice u d.args.length c]) ∧ IntsAt w' w.heap.size u d.args ∧ Below w.heap.size w w' := by
 go_enter Tryd.func105, Tryd.ntmps105
 go_wp2_with (go_at_call 15; refine (toInts_any lo _ _ _ _ hs (k6.keep (((agree_alloc _ _ _).trans (agree_alloc _ _ _)).trans (agree_alloc _ _ _)))).mono ?_; rintro e w1 ⟨u, c, rfl, hu, hb1⟩; have hcc := bcell hb1; have hff := bfroz hb1)
 have hB : Below w.heap.size w w1 := ((((Below.refl w.heap.size w).alloc (Nat.le_refl _) _).alloc (by first | (simp; done) | (simp; omega)) _).alloc (by first | (simp; done) | (simp; omega)) _).trans (hb1.mono (by first | (simp; done) | (simp; omega)))
 have hu3 := hu.low (lo' := w.heap.size + 3) (by first | (simp; done) | (simp; omega))
 have hr := (heap_set (o := 6) (v := .slice u d.args.length c) (heap_set (o := 5) (v := .int .i64 d.imm) (heap_set (o := 4) (v := .int .i64 d.c) (heap_set (o := 3) (v := .int .i64 d.b) (heap_set (o := 2) (v := .int .i64 d.a) (heap_set (o := 1) (v := .int .i64 d.w) (heap_set (o := 0) (v := .int .i64 d.op) (heap_other (g := w.heap.size + 1) (p := ⟨w.heap.size + 1 + 1, 6, none⟩) (v := .slice u d.args.length c) (by simp) ((hb1.block (w.heap.size + 1) (by simp)).trans (heap_mid _ _ _ _))))))))))
 refine bodyPost_ret (v := .agg #[.int .i64 d.op, .int .i64 d.w, .int .i64 d.a, .int .i64 d.b, .int .i64 d.c, .int .i64 d.imm, .slice u d.args.length c]) ((results_cell_row Tryd.results105 _ _ (w.heap.size + 1) 44 _ (0, 0) _ rfl hr Tryd.underlying44 rfl (by kernel_rfl)).trans (by rfl)) rfl ⟨u, c, rfl, ?_, ?_⟩
 ·exact (hu3.keep (by repeat (first | refine Agree.trans ?_ (agree_setCell _ _ _ _ _ (by omega)) | exact Agree.refl _ _))).low (by omega)
 ·exact (by repeat (first | refine Below.setCell ?_ (by dsimp only; omega) _ | exact hB))
set_option maxHeartbeats 1000000 in
theorem toTerm_any (k a x y : Int) (w : World) :
  Calls Tryd.prog 86 #[.agg #[.int .i64 k, .int .i64 a, .int .i64 x, .int .i64 y]] w fun e w' => e = .returned (.agg #[.int .i64 k, .int .i64 a, .int .i64 x, .int .i64 y]) ∧ Below w.heap.size w w' := by
 go_enter Tryd.func86, Tryd.ntmps86
 go_wp2_with fail
 refine bodyPost_ret (v := .agg #[.int .i64 k, .int .i64 a, .int .i64 x, .int .i64 y]) (by simp [results, Tryd.results86, go_sem]) rfl ⟨rfl, ?_⟩
 exact (((Below.refl w.heap.size w).alloc (Nat.le_refl _) _).alloc (by first | (simp; done) | (simp; omega)) _).alloc (by first | (simp; done) | (simp; omega)) _
theorem infoPhi : (Tryd.prog.info? 89).map (fun i => (i.zero, i.size, i.bytes)) = some (some (.agg #[.int .i64 0, .slice none 0 0]), 2, 32) := by kernel_rfl
set_option maxHeartbeats 2000000 in
theorem toPhiS_any (lo : Nat) (a : Option Addr) (cap : Nat) (l : List PhiD) (w : World) (hl : l.length ≤ 1048576) (hs : ∀ d ∈ l, SmPhi d) (hv : PhisAt w lo a l) :
  Calls Tryd.prog 84 #[.slice a l.length cap] w fun e w' => ∃ u c, e = .returned (.slice u l.length c) ∧ PhisAt w' w.heap.size u l ∧ Below w.heap.size w w' := by
 obtain ⟨i0, hi, hz0, hz1, hz2⟩ := info_parts infoPhi
 have hmk := mk_any (t := 36) l.length Tryd.underlying36 hi hz0 hz1 hz2 (by omega) hl
 clear hi hz0 hz1 hz2
 have hm := hv.1
 go_enter Tryd.func84, Tryd.ntmps84
 go_wp2_with fail
 go_loopw [4] (fun i wr => ∃ (k : Nat) (cur : Array Value), k ≤ l.length ∧ i = .int .i64 k ∧ cur.size = l.length * 2 ∧ wr.heap[w.heap.size]? = some (.cells cur 89 (0, 0)) ∧ (∀ j, j < k → cur[j * 2]? = some (.int .i64 (l.getD j phi0).w) ∧ (∃ u c, cur[j * 2 + 1]? = some (.slice u (l.getD j phi0).ins.length c) ∧ IntsAt wr (w.heap.size + 1) u (l.getD j phi0).ins)) ∧ Below w.heap.size w wr) (fun i _ => l.length - (intOf i).toNat)
 case atStart => exact ⟨0, _, by omega, rfl, by simp [size_madeCells], heap_alloc_at _ _, fun j hj => by omega, (Below.refl _ _).alloc (Nat.le_refl _) _⟩
 case round =>
  obtain ⟨k, cur, hk, rfl, hcs, hblk, hdone, hB⟩ := hrel
  by_cases hlt : k < l.length
  ·rcases hv.2 with rfl | ⟨b, off, rfl, hlo, hb, hcell⟩
   ·simp at hlt
   obtain ⟨h0, ⟨u1, c1, h1, k1⟩⟩ := hcell k hlt
   have hsd := hs _ (getD_mem phi0 l k hlt)
   generalize hd : l.getD k phi0 = d at h0 h1 k1 hsd
   have e0 : wr.cell? ⟨b, off + k * 2, none⟩ = some (.int .i64 d.w) := (cell_block (hB.block b hb)).trans h0
   have e1 : wr.cell? ⟨b, off + k * 2 + 1, none⟩ = some (.slice u1 d.ins.length c1) := (cell_block (hB.block b hb)).trans h1
   have m1 := k1.keep (agree_of_below hB _)
   have HD : Hid (l.getD k phi0 = d) := hd
   have HDN : Hid (∀ j, j < k → cur[j * 2]? = some (.int .i64 (l.getD j phi0).w) ∧ (∃ u c, cur[j * 2 + 1]? = some (.slice u (l.getD j phi0).ins.length c) ∧ IntsAt wr (w.heap.size + 1) u (l.getD j phi0).ins)) := hdone
   have HBK : Hid (wr.heap[w.heap.size]? = some (.cells cur 89 (0, 0))) := hblk
   have HB : Hid (Below w.heap.size w wr) := hB
   have hgl : w.heap.size < wr.heap.size := (Array.getElem?_eq_some_iff.1 hblk).1
   clear hcell hmk hdone hblk hB hd h0 h1
   go_wp2_with (go_at_call 104; refine (toPhi_any lo d _ _ _ hsd m1).mono ?_; rintro e w1 ⟨v1, q1, rfl, n1, hb1⟩; have hblk1 := (hb1.block w.heap.size hgl).trans HBK.out; have g0 : w1.cell? ⟨w.heap.size, k * 2, none⟩ = some (cur[k * 2]'(by omega)) := (by rw [cell_of_heap hblk1]; simp [show k * 2 < cur.size by omega]); have f0 : w1.frozen? ⟨w.heap.size, k * 2, none⟩ = false := froz_of_heap hblk1; have g1 : w1.cell? ⟨w.heap.size, k * 2 + 1, none⟩ = some (cur[k * 2 + 1]'(by omega)) := (by rw [cell_of_heap hblk1]; simp [show k * 2 + 1 < cur.size by omega]); have f1 : w1.frozen? ⟨w.heap.size, k * 2 + 1, none⟩ = false := froz_of_heap hblk1; have HBK1 : Hid (w1.heap[w.heap.size]? = some (.cells cur 89 (0, 0))) := hblk1; clear hblk1)
   go_roundw
   case rel =>
    have hblk1 := HBK1.out
    have hB := HB.out
    have hd := HD.out
    have hag : Agree (w.heap.size + 1) wr ((w1.setCell ⟨w.heap.size, k * 2, none⟩ (.int .i64 d.w)).setCell ⟨w.heap.size, k * 2 + 1, none⟩ (.slice v1 d.ins.length q1)) := (agree_of_below hb1 _).trans (by repeat (first | refine Agree.trans ?_ (agree_setCell _ _ _ _ _ (by omega)) | exact Agree.refl _ _))
    have hag1 : Agree (w.heap.size + 1) w1 ((w1.setCell ⟨w.heap.size, k * 2, none⟩ (.int .i64 d.w)).setCell ⟨w.heap.size, k * 2 + 1, none⟩ (.slice v1 d.ins.length q1)) := (by repeat (first | refine Agree.trans ?_ (agree_setCell _ _ _ _ _ (by omega)) | exact Agree.refl _ _))
    refine ⟨k + 1, ((cur.setIfInBounds (k * 2) (.int .i64 d.w)).setIfInBounds (k * 2 + 1) (.slice v1 d.ins.length q1)), by omega, by go_num, by simpa using hcs, (heap_set (heap_set hblk1)), fun j hj => ?_, ?_⟩
    ·by_cases hjk : j = k
     ·subst hjk
      rw [hd]
      refine ⟨?_, ⟨v1, q1, ?_, (n1.low (by omega)).keep hag1⟩⟩
      all_goals (repeat rw [Array.getElem?_setIfInBounds_ne (by omega)])
      all_goals (rw [Array.getElem?_setIfInBounds_self]; simp; omega)
     ·obtain ⟨p0, ⟨z1, y1, p1, x1⟩⟩ := HDN.out j (by omega)
      refine ⟨?_, ⟨z1, y1, ?_, x1.keep hag⟩⟩
      all_goals (repeat rw [Array.getElem?_setIfInBounds_ne (by omega)])
      all_goals assumption
    ·have hB1 := hB.trans (hb1.mono hB.size)
     repeat (first | refine Below.setCell ?_ (by first | (dsimp only; omega) | exact Nat.le_refl _) _ | exact hB1)
   case measure => simp [intOf]; omega
  ·have hke : k = l.length := by omega
   have HH : Hid (wr.heap[w.heap.size]? = some (.cells cur 89 (0, 0))) := hblk
   have HDN : Hid (∀ j, j < k → cur[j * 2]? = some (.int .i64 (l.getD j phi0).w) ∧ (∃ u c, cur[j * 2 + 1]? = some (.slice u (l.getD j phi0).ins.length c) ∧ IntsAt wr (w.heap.size + 1) u (l.getD j phi0).ins)) := hdone
   clear hmk hblk hdone
   go_wp2_with fail
   go_ret
   refine ⟨_, _, rfl, ⟨hm, .inr ⟨w.heap.size, 0, rfl, Nat.le_refl _, ?_, fun i hi => ?_⟩⟩, hB⟩
   ·exact (Array.getElem?_eq_some_iff.1 HH.out).1
   ·obtain ⟨p0, ⟨z1, y1, p1, x1⟩⟩ := HDN.out i (by omega)
    simp only [Nat.zero_add, cell_of_heap HH.out]
    exact ⟨p0, ⟨z1, y1, p1, x1.low (by omega)⟩⟩
theorem infoInst : (Tryd.prog.info? 44).map (fun i => (i.zero, i.size, i.bytes)) = some (some (.agg #[.int .i64 0, .int .i64 0, .int .i64 0, .int .i64 0, .int .i64 0, .int .i64 0, .slice none 0 0]), 7, 72) := by kernel_rfl
set_option maxHeartbeats 2000000 in
theorem toInstS_any (lo : Nat) (a : Option Addr) (cap : Nat) (l : List InstD) (w : World) (hl : l.length ≤ 1048576) (hs : ∀ d ∈ l, SmInst d) (hv : InstsAt w lo a l) :
  Calls Tryd.prog 85 #[.slice a l.length cap] w fun e w' => ∃ u c, e = .returned (.slice u l.length c) ∧ InstsAt w' w.heap.size u l ∧ Below w.heap.size w w' := by
 obtain ⟨i0, hi, hz0, hz1, hz2⟩ := info_parts infoInst
 have hmk := mk_any (t := 37) l.length Tryd.underlying37 hi hz0 hz1 hz2 (by omega) hl
 clear hi hz0 hz1 hz2
 have hm := hv.1
 go_enter Tryd.func85, Tryd.ntmps85
 go_wp2_with fail
 go_loopw [4] (fun i wr => ∃ (k : Nat) (cur : Array Value), k ≤ l.length ∧ i = .int .i64 k ∧ cur.size = l.length * 7 ∧ wr.heap[w.heap.size]? = some (.cells cur 44 (0, 0)) ∧ (∀ j, j < k → cur[j * 7]? = some (.int .i64 (l.getD j inst0).op) ∧ cur[j * 7 + 1]? = some (.int .i64 (l.getD j inst0).w) ∧ cur[j * 7 + 2]? = some (.int .i64 (l.getD j inst0).a) ∧ cur[j * 7 + 3]? = some (.int .i64 (l.getD j inst0).b) ∧ cur[j * 7 + 4]? = some (.int .i64 (l.getD j inst0).c) ∧ cur[j * 7 + 5]? = some (.int .i64 (l.getD j inst0).imm) ∧ (∃ u c, cur[j * 7 + 6]? = some (.slice u (l.getD j inst0).args.length c) ∧ IntsAt wr (w.heap.size + 1) u (l.getD j inst0).args)) ∧ Below w.heap.size w wr) (fun i _ => l.length - (intOf i).toNat)
 case atStart => exact ⟨0, _, by omega, rfl, by simp [size_madeCells], heap_alloc_at _ _, fun j hj => by omega, (Below.refl _ _).alloc (Nat.le_refl _) _⟩
 case round =>
  obtain ⟨k, cur, hk, rfl, hcs, hblk, hdone, hB⟩ := hrel
  by_cases hlt : k < l.length
  ·rcases hv.2 with rfl | ⟨b, off, rfl, hlo, hb, hcell⟩
   ·simp at hlt
   obtain ⟨h0, h1, h2, h3, h4, h5, ⟨u6, c6, h6, k6⟩⟩ := hcell k hlt
   have hsd := hs _ (getD_mem inst0 l k hlt)
   generalize hd : l.getD k inst0 = d at h0 h1 h2 h3 h4 h5 h6 k6 hsd
   have e0 : wr.cell? ⟨b, off + k * 7, none⟩ = some (.int .i64 d.op) := (cell_block (hB.block b hb)).trans h0
   have e1 : wr.cell? ⟨b, off + k * 7 + 1, none⟩ = some (.int .i64 d.w) := (cell_block (hB.block b hb)).trans h1
   have e2 : wr.cell? ⟨b, off + k * 7 + 2, none⟩ = some (.int .i64 d.a) := (cell_block (hB.block b hb)).trans h2
   have e3 : wr.cell? ⟨b, off + k * 7 + 3, none⟩ = some (.int .i64 d.b) := (cell_block (hB.block b hb)).trans h3
   have e4 : wr.cell? ⟨b, off + k * 7 + 4, none⟩ = some (.int .i64 d.c) := (cell_block (hB.block b hb)).trans h4
   have e5 : wr.cell? ⟨b, off + k * 7 + 5, none⟩ = some (.int .i64 d.imm) := (cell_block (hB.block b hb)).trans h5
   have e6 : wr.cell? ⟨b, off + k * 7 + 6, none⟩ = some (.slice u6 d.args.length c6) := (cell_block (hB.block b hb)).trans h6
   have m6 := k6.keep (agree_of_below hB _)
   have HD : Hid (l.getD k inst0 = d) := hd
   have HDN : Hid (∀ j, j < k → cur[j * 7]? = some (.int .i64 (l.getD j inst0).op) ∧ cur[j * 7 + 1]? = some (.int .i64 (l.getD j inst0).w) ∧ cur[j * 7 + 2]? = some (.int .i64 (l.getD j inst0).a) ∧ cur[j * 7 + 3]? = some (.int .i64 (l.getD j inst0).b) ∧ cur[j * 7 + 4]? = some (.int .i64 (l.getD j inst0).c) ∧ cur[j * 7 + 5]? = some (.int .i64 (l.getD j inst0).imm) ∧ (∃ u c, cur[j * 7 + 6]? = some (.slice u (l.getD j inst0).args.length c) ∧ IntsAt wr (w.heap.size + 1) u (l.getD j inst0).args)) := hdone
   have HBK : Hid (wr.heap[w.heap.size]? = some (.cells cur 44 (0, 0))) := hblk
   have HB : Hid (Below w.heap.size w wr) := hB
   have hgl : w.heap.size < wr.heap.size := (Array.getElem?_eq_some_iff.1 hblk).1
   clear hcell hmk hdone hblk hB hd h0 h1 h2 h3 h4 h5 h6
   go_wp2_with (go_at_call 105; refine (toInst_any lo d _ _ _ hsd m6).mono ?_; rintro e w1 ⟨v6, q6, rfl, n6, hb1⟩; have hblk1 := (hb1.block w.heap.size hgl).trans HBK.out; have g0 : w1.cell? ⟨w.heap.size, k * 7, none⟩ = some (cur[k * 7]'(by omega)) := (by rw [cell_of_heap hblk1]; simp [show k * 7 < cur.size by omega]); have f0 : w1.frozen? ⟨w.heap.size, k * 7, none⟩ = false := froz_of_heap hblk1; have g1 : w1.cell? ⟨w.heap.size, k * 7 + 1, none⟩ = some (cur[k * 7 + 1]'(by omega)) := (by rw [cell_of_heap hblk1]; simp [show k * 7 + 1 < cur.size by omega]); have f1 : w1.frozen? ⟨w.heap.size, k * 7 + 1, none⟩ = false := froz_of_heap hblk1; have g2 : w1.cell? ⟨w.heap.size, k * 7 + 2, none⟩ = some (cur[k * 7 + 2]'(by omega)) := (by rw [cell_of_heap hblk1]; simp [show k * 7 + 2 < cur.size by omega]); have f2 : w1.frozen? ⟨w.heap.size, k * 7 + 2, none⟩ = false := froz_of_heap hblk1; have g3 : w1.cell? ⟨w.heap.size, k * 7 + 3, none⟩ = some (cur[k * 7 + 3]'(by omega)) := (by rw [cell_of_heap hblk1]; simp [show k * 7 + 3 < cur.size by omega]); have f3 : w1.frozen? ⟨w.heap.size, k * 7 + 3, none⟩ = false := froz_of_heap hblk1; have g4 : w1.cell? ⟨w.heap.size, k * 7 + 4, none⟩ = some (cur[k * 7 + 4]'(by omega)) := (by rw [cell_of_heap hblk1]; simp [show k * 7 + 4 < cur.size by omega]); have f4 : w1.frozen? ⟨w.heap.size, k * 7 + 4, none⟩ = false := froz_of_heap hblk1; have g5 : w1.cell? ⟨w.heap.size, k * 7 + 5, none⟩ = some (cur[k * 7 + 5]'(by omega)) := (by rw [cell_of_heap hblk1]; simp [show k * 7 + 5 < cur.size by omega]); have f5 : w1.frozen? ⟨w.heap.size, k * 7 + 5, none⟩ = false := froz_of_heap hblk1; have g6 : w1.cell? ⟨w.heap.size, k * 7 + 6, none⟩ = some (cur[k * 7 + 6]'(by omega)) := (by rw [cell_of_heap hblk1]; simp [show k * 7 + 6 < cur.size by omega]); have f6 : w1.frozen? ⟨w.heap.size, k * 7 + 6, none⟩ = false := froz_of_heap hblk1; have HBK1 : Hid (w1.heap[w.heap.size]? = some (.cells cur 44 (0, 0))) := hblk1; clear hblk1)
   go_roundw
   case rel =>
    have hblk1 := HBK1.out
    have hB := HB.out
    have hd := HD.out
    have hag : Agree (w.heap.size + 1) wr (((((((w1.setCell ⟨w.heap.size, k * 7, none⟩ (.int .i64 d.op)).setCell ⟨w.heap.size, k * 7 + 1, none⟩ (.int .i64 d.w)).setCell ⟨w.heap.size, k * 7 + 2, none⟩ (.int .i64 d.a)).setCell ⟨w.heap.size, k * 7 + 3, none⟩ (.int .i64 d.b)).setCell ⟨w.heap.size, k * 7 + 4, none⟩ (.int .i64 d.c)).setCell ⟨w.heap.size, k * 7 + 5, none⟩ (.int .i64 d.imm)).setCell ⟨w.heap.size, k * 7 + 6, none⟩ (.slice v6 d.args.length q6)) := (agree_of_below hb1 _).trans (by repeat (first | refine Agree.trans ?_ (agree_setCell _ _ _ _ _ (by omega)) | exact Agree.refl _ _))
    have hag1 : Agree (w.heap.size + 1) w1 (((((((w1.setCell ⟨w.heap.size, k * 7, none⟩ (.int .i64 d.op)).setCell ⟨w.heap.size, k * 7 + 1, none⟩ (.int .i64 d.w)).setCell ⟨w.heap.size, k * 7 + 2, none⟩ (.int .i64 d.a)).setCell ⟨w.heap.size, k * 7 + 3, none⟩ (.int .i64 d.b)).setCell ⟨w.heap.size, k * 7 + 4, none⟩ (.int .i64 d.c)).setCell ⟨w.heap.size, k * 7 + 5, none⟩ (.int .i64 d.imm)).setCell ⟨w.heap.size, k * 7 + 6, none⟩ (.slice v6 d.args.length q6)) := (by repeat (first | refine Agree.trans ?_ (agree_setCell _ _ _ _ _ (by omega)) | exact Agree.refl _ _))
    refine ⟨k + 1, (((((((cur.setIfInBounds (k * 7) (.int .i64 d.op)).setIfInBounds (k * 7 + 1) (.int .i64 d.w)).setIfInBounds (k * 7 + 2) (.int .i64 d.a)).setIfInBounds (k * 7 + 3) (.int .i64 d.b)).setIfInBounds (k * 7 + 4) (.int .i64 d.c)).setIfInBounds (k * 7 + 5) (.int .i64 d.imm)).setIfInBounds (k * 7 + 6) (.slice v6 d.args.length q6)), by omega, by go_num, by simpa using hcs, (heap_set (heap_set (heap_set (heap_set (heap_set (heap_set (heap_set hblk1))))))), fun j hj => ?_, ?_⟩
    ·by_cases hjk : j = k
     ·subst hjk
      rw [hd]
      refine ⟨?_, ?_, ?_, ?_, ?_, ?_, ⟨v6, q6, ?_, (n6.low (by omega)).keep hag1⟩⟩
      all_goals (repeat rw [Array.getElem?_setIfInBounds_ne (by omega)])
      all_goals (rw [Array.getElem?_setIfInBounds_self]; simp; omega)
     ·obtain ⟨p0, p1, p2, p3, p4, p5, ⟨z6, y6, p6, x6⟩⟩ := HDN.out j (by omega)
      refine ⟨?_, ?_, ?_, ?_, ?_, ?_, ⟨z6, y6, ?_, x6.keep hag⟩⟩
      all_goals (repeat rw [Array.getElem?_setIfInBounds_ne (by omega)])
      all_goals assumption
    ·have hB1 := hB.trans (hb1.mono hB.size)
     repeat (first | refine Below.setCell ?_ (by first | (dsimp only; omega) | exact Nat.le_refl _) _ | exact hB1)
   case measure => simp [intOf]; omega
  ·have hke : k = l.length := by omega
   have HH : Hid (wr.heap[w.heap.size]? = some (.cells cur 44 (0, 0))) := hblk
   have HDN : Hid (∀ j, j < k → cur[j * 7]? = some (.int .i64 (l.getD j inst0).op) ∧ cur[j * 7 + 1]? = some (.int .i64 (l.getD j inst0).w) ∧ cur[j * 7 + 2]? = some (.int .i64 (l.getD j inst0).a) ∧ cur[j * 7 + 3]? = some (.int .i64 (l.getD j inst0).b) ∧ cur[j * 7 + 4]? = some (.int .i64 (l.getD j inst0).c) ∧ cur[j * 7 + 5]? = some (.int .i64 (l.getD j inst0).imm) ∧ (∃ u c, cur[j * 7 + 6]? = some (.slice u (l.getD j inst0).args.length c) ∧ IntsAt wr (w.heap.size + 1) u (l.getD j inst0).args)) := hdone
   clear hmk hblk hdone
   go_wp2_with fail
   go_ret
   refine ⟨_, _, rfl, ⟨hm, .inr ⟨w.heap.size, 0, rfl, Nat.le_refl _, ?_, fun i hi => ?_⟩⟩, hB⟩
   ·exact (Array.getElem?_eq_some_iff.1 HH.out).1
   ·obtain ⟨p0, p1, p2, p3, p4, p5, ⟨z6, y6, p6, x6⟩⟩ := HDN.out i (by omega)
    simp only [Nat.zero_add, cell_of_heap HH.out]
    exact ⟨p0, p1, p2, p3, p4, p5, ⟨z6, y6, p6, x6.low (by omega)⟩⟩
end Go.Proofs.YtenbodghkpbghaaDoor
namespace Go.Proofs.YtenbodghkpbghaaDoor
open Go.RowKit
def OwnAt (w : World) (lo : Nat) (a : Option Addr) (l : List Int) : Prop :=
 l.length ≤ 9223372036854775807 ∧ (l = [] ∨ ∃ g cur, a = some ⟨g, 0, none⟩ ∧ lo ≤ g ∧ w.heap[g]? = some (.cells cur 2 (0, 0)) ∧ ∀ i, i < l.length → cur[i]? = some (.int .i64 (l.getD i 0)))
theorem OwnAt.ints {w : World} {lo : Nat} {a : Option Addr} {l : List Int} (h : OwnAt w lo a l) : IntsAt w lo a l := by
 obtain ⟨hm, h⟩ := h
 refine ⟨hm, ?_⟩
 rcases h with h | ⟨g, cur, ha, hl, hb, hc⟩
 ·exact .inl h
 ·exact .inr ⟨g, 0, ha, hl, (Array.getElem?_eq_some_iff.1 hb).1, fun i hi => by rw [Nat.zero_add, cell_of_heap hb]; exact hc i hi⟩
theorem OwnAt.keep {w w' : World} {lo : Nat} {a : Option Addr} {l : List Int} (h : OwnAt w lo a l) (k : Agree lo w w') : OwnAt w' lo a l := by
 obtain ⟨hm, h⟩ := h
 refine ⟨hm, ?_⟩
 rcases h with h | ⟨g, cur, ha, hl, hb, hc⟩
 ·exact .inl h
 ·exact .inr ⟨g, cur, ha, hl, (k.2 g hl (Array.getElem?_eq_some_iff.1 hb).1).trans hb, hc⟩
theorem OwnAt.low {w : World} {lo lo' : Nat} {a : Option Addr} {l : List Int} (h : OwnAt w lo a l) (k : lo' ≤ lo) : OwnAt w lo' a l := by
 obtain ⟨hm, h⟩ := h
 refine ⟨hm, ?_⟩
 rcases h with h | ⟨g, cur, ha, hl, hb, hc⟩
 ·exact .inl h
 ·exact .inr ⟨g, cur, ha, Nat.le_trans k hl, hb, hc⟩
theorem own_lit (w : World) (l : List Int) (hm : l.length ≤ 1000) (cs : Array Value) (hc : ∀ i, i < l.length → cs[i]? = some (.int .i64 (l.getD i 0))) : OwnAt (w.alloc (.cells cs 2)) w.heap.size (some ⟨w.heap.size, 0, none⟩) l :=
 ⟨by omega, .inr ⟨w.heap.size, cs, rfl, Nat.le_refl _, heap_alloc_last _ _, hc⟩⟩
theorem own_of_row {w : World} {base : Nat} {v : Value} {l : List Int} (hm : l.length ≤ 1048576) (h : w.ownsRow base 2 1 v l.length (l.map (Value.int .i64))) : ∃ u c, v = .slice u l.length c ∧ OwnAt w base u l := by
 rcases h.2 with ⟨hv, hn⟩ | ⟨g, cap, cur, hv, hb, hg, hnc, _, hcs, htk⟩
 ·exact ⟨none, 0, by rw [hv, hn], by omega, .inl (List.length_eq_zero_iff.1 hn)⟩
 ·refine ⟨_, cap, hv, by omega, .inr ⟨g, cur, rfl, hb, hg, fun i hi => ?_⟩⟩
  have e : (cur.toList.take (l.length * 1))[i]? = (l.map (Value.int .i64))[i]? := by rw [htk]
  rw [List.getElem?_take, if_pos (by omega)] at e
  simp [hi] at e
  simpa [List.getD, hi] using e
theorem append_none {t ty : TypeId} (v : Value) (hv : v = .slice none 0 0 ∨ ∃ g, v = .slice (some ⟨g, 0, none⟩) 0 0) (c : Nat) (w : World) (i : TypeInfo) (ht : Tryd.prog.underlying t = some (.slice 2)) (hi : Tryd.prog.info? 2 = some i) :
  (Builtin.append_ #[t, t] ty #[v, .slice none 0 c]).run Tryd.prog w = .ok v w := by
 rcases hv with rfl | ⟨g, rfl⟩
 ·simp [Builtin.append_, run_underlying ht, sizeOf, typeInfo, hi, Builtin.lenOf, Builtin.firstCells]
 ·simp [Builtin.append_, run_underlying ht, sizeOf, typeInfo, hi, Builtin.lenOf, Builtin.firstCells, storeCells]
set_option maxHeartbeats 1000000 in
theorem copyS_any (lo : Nat) (a : Option Addr) (cap : Nat) (l : List Int) (w : World) (hl : l.length ≤ 1048576) (hv : IntsAt w lo a l) :
  Calls Tryd.prog 79 #[.slice a l.length cap] w fun e w' => ∃ u c, e = .returned (.slice u l.length c) ∧ OwnAt w' w.heap.size u l ∧ Below w.heap.size w w' := by
 obtain ⟨i0, hi, hz0, hz1, hz2⟩ := info_parts infoI
 rcases a with _ | ad
 ·have hnil : l = [] := by
   rcases hv.2 with h | ⟨b, off, h, _⟩
   ·exact h
   ·simp at h
  subst hnil
  go_enter Tryd.func79, Tryd.ntmps79
  have hap := fun g => append_none (t := 24) (ty := 24) (.slice (some ⟨g, 0, none⟩) 0 0) (.inr ⟨g, rfl⟩) cap (w.alloc (.cells #[] 2)) i0 Tryd.underlying24 hi
  clear hi hz0 hz1 hz2
  go_wp2_with fail
  go_ret
  exact ⟨_, _, rfl, ⟨by simp, .inl rfl⟩, (Below.refl _ _).alloc (Nat.le_refl _) _⟩
 ·have hcell : ∀ j u, (l.map (Value.int .i64))[j]? = some u → (w.alloc (.cells #[] 2)).cell? (ad.add j) = some u := by
   intro j u hj
   rcases hv.2 with h | ⟨b, off, h, _, hb, hc⟩
   ·simp [h] at hj
   ·simp at h
    subst h
    have hjl : j < l.length := by
     have := (List.getElem?_eq_some_iff.1 hj).1
     simpa using this
    have hat : (⟨b, off, none⟩ : Addr).add j = ⟨b, off + j, none⟩ := by unfold Addr.add; split <;> simp_all
    rw [hat, cell_block (Below.heap_alloc w _ b hb), hc j hjl]
    simp [hjl] at hj
    rw [← hj]; simp [List.getD, hjl]
  go_enter Tryd.func79, Tryd.ntmps79
  go_wp2_with (at_builtin; refine wpList_append_own _ rfl _ _ 24 rfl w.heap.size 2 i0 (.int .i64 0) 1 8 Tryd.underlying24 hi hz0 hz1 hz2 rfl (by decide) _ 0 [] rfl (World.ownsRow_lit w #[] 0 (Nat.le_refl _) (by decide) (by simp)) ad l.length cap (l.map (Value.int .i64)) rfl (by simp) hcell (by simp [Value.oneCell']) (by unfold maxLen; omega) (by omega) (by simp) ?_; intro v' w1 hown hgrow _)
  simp only [Nat.zero_add, List.nil_append] at hown
  obtain ⟨u, c, rfl, ho⟩ := own_of_row hl hown
  go_ret
  exact ⟨u, c, rfl, ho, ((Below.refl _ _).alloc (Nat.le_refl _) _).grown hgrow (by simp) (fun k hk => by have hk' : some w.heap.size = some k := hk; simp at hk'; omega)⟩
end Go.Proofs.YtenbodghkpbghaaDoor
namespace Go.Proofs.YtenbodghkpbghaaDoor
open Go.RowKit
def opsD (d : InstD) : List Int :=
 if opB d.op = true ∨ d.op = 24 then [d.a, d.b] else if d.op = 18 ∨ d.op = 19 ∨ d.op = 20 ∨ d.op = 23 ∨ d.op = 25 ∨ d.op = 27 then [d.a] else if d.op = 22 then [d.a, d.b, d.c] else if d.op = 26 then d.args else []
theorem own_mk {w : World} {l : List Int} {cs : Array Value} {v : List Int} (e : v = l) (hm : l.length ≤ 1000) (hc : ∀ i, i < l.length → cs[i]? = some (.int .i64 (l.getD i 0))) : OwnAt (w.alloc (.cells cs 2)) w.heap.size (some ⟨w.heap.size, 0, none⟩) v := by
 subst e; exact own_lit w _ hm cs hc
theorem own_mk2 {w : World} {o : Obj} {l : List Int} {cs : Array Value} {v : List Int} (e : v = l) (hm : l.length ≤ 1000) (hc : ∀ i, i < l.length → cs[i]? = some (.int .i64 (l.getD i 0))) : OwnAt ((w.alloc o).alloc (.cells cs 2)) w.heap.size (some ⟨w.heap.size + 1, 0, none⟩) v := by
 have h := own_mk (w := w.alloc o) e hm hc
 have hz : (w.alloc o).heap.size = w.heap.size + 1 := by simp
 rw [hz] at h
 exact h.low (by omega)
theorem two_cells (a b : Int) : ∀ i, i < [a, b].length → (#[Value.int .i64 a, Value.int .i64 b] : Array Value)[i]? = some (.int .i64 ([a, b].getD i 0)) := by
 intro i hi
 match i, hi with
 | 0, _ => rfl
 | 1, _ => rfl
theorem one_cells (a : Int) : ∀ i, i < [a].length → (#[Value.int .i64 a] : Array Value)[i]? = some (.int .i64 ([a].getD i 0)) := by
 intro i hi
 match i, hi with
 | 0, _ => rfl
theorem three_cells (a b c : Int) : ∀ i, i < [a, b, c].length → (#[Value.int .i64 a, Value.int .i64 b, Value.int .i64 c] : Array Value)[i]? = some (.int .i64 ([a, b, c].getD i 0)) := by
 intro i hi
 match i, hi with
 | 0, _ => rfl
 | 1, _ => rfl
 | 2, _ => rfl
set_option maxHeartbeats 1000000 in
theorem operS_bin (d : InstD) (u : Option Addr) (q : Nat) (w : World) (h : opB d.op = true) :
  Calls Tryd.prog 77 #[.agg #[.int .i64 d.op, .int .i64 d.w, .int .i64 d.a, .int .i64 d.b, .int .i64 d.c, .int .i64 d.imm, .slice u d.args.length q]] w fun e w' => ∃ u c, e = .returned (.slice u (opsD d).length c) ∧ OwnAt w' w.heap.size u (opsD d) ∧ Below w.heap.size w w' := by
 have E : opsD d = [d.a, d.b] := by simp [opsD, h]
 rw [E]; clear E
 have dd : (decide (1 ≤ d.op) && decide (d.op ≤ 17)) = true := h
 clear h
 go_enter Tryd.func77, Tryd.ntmps77
 go_wp2_with (go_at_call 30; refine (inS _ _ _ _).mono ?_; rintro e w' ⟨rfl, rfl⟩)
 go_ret
 refine ⟨_, _, rfl, own_mk2 rfl (by simp) (two_cells d.a d.b), ((Below.refl _ _).alloc (Nat.le_refl _) _).alloc (by simp) _⟩
set_option maxHeartbeats 1000000 in
theorem bk_oper (a b : Int) (w : World) : Calls Tryd.prog 133 #[.agg #[.int .i64 a, .int .i64 b]] w fun e w' => ∃ u c, e = .returned (.slice u 2 c) ∧ OwnAt w' w.heap.size u [a, b] ∧ Below w.heap.size w w' := by
 go_enter Tryd.func133, Tryd.ntmps133
 go_wp2_with fail
 go_ret
 refine ⟨_, _, rfl, own_mk2 rfl (by simp) (two_cells a b), ((Below.refl _ _).alloc (Nat.le_refl _) _).alloc (by simp) _⟩
end Go.Proofs.YtenbodghkpbghaaDoor
