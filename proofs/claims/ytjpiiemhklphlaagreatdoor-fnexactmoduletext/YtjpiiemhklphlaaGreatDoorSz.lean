/- How much a value holds, as the laws reckon it: the contracts of the sz functions. -/
import Derived.Test.YtjpiiemhklphlaaGreatDoorMem
namespace Go.Proofs.YtjpiiemhklphlaaGreatDoor
open Go.RowKit

def szI (n : Nat) (left : Int) : Int := if left - n < 0 then -1 else left - n
def szL {α : Type} (f : α → Int → Int) : List α → Int → Int
  | [], x => x
  | d :: r, x => if f d x < 0 then -1 else szL f r (f d x)
def szS {α : Type} (f : α → Int → Int) (l : List α) (x : Int) : Int := if x - l.length < 0 then -1 else szL f l (x - l.length)
/-- What is left is -1, or no more than was there. -/
def Falls {α : Type} (f : α → Int → Int) : Prop := ∀ d x, 0 ≤ x → f d x = -1 ∨ (0 ≤ f d x ∧ f d x ≤ x)
theorem szI_falls (n : Nat) (x : Int) : szI n x = -1 ∨ (0 ≤ szI n x ∧ szI n x ≤ x) := by unfold szI; split <;> omega
theorem szL_falls {α : Type} {f : α → Int → Int} (hf : Falls f) : ∀ (l : List α) (x : Int), 0 ≤ x → szL f l x = -1 ∨ (0 ≤ szL f l x ∧ szL f l x ≤ x)
  | [], x, hx => .inr ⟨hx, Int.le_refl _⟩
  | d :: r, x, hx => by
    unfold szL
    rcases hf d x hx with h | ⟨h, h'⟩
    · rw [if_pos (by omega)]; exact .inl rfl
    · rw [if_neg (by omega)]
      rcases szL_falls hf r (f d x) h with k | ⟨k, k'⟩
      · exact .inl k
      · exact .inr ⟨k, by omega⟩
theorem szS_falls {α : Type} {f : α → Int → Int} (hf : Falls f) (l : List α) (x : Int) : szS f l x = -1 ∨ (0 ≤ szS f l x ∧ szS f l x ≤ x) := by
  unfold szS; split
  · exact .inl rfl
  · rcases szL_falls hf l (x - l.length) (by omega) with h | h
    · exact .inl h
    · exact .inr ⟨h.1, by omega⟩
theorem szL_each {α : Type} {f : α → Int → Int} (hf : Falls f) : ∀ (l : List α) (x : Int), 0 ≤ x → 0 ≤ szL f l x → ∀ d ∈ l, ∃ y, 0 ≤ y ∧ y ≤ x ∧ 0 ≤ f d y
  | [], _, _, _, _, hd => by cases hd
  | c :: r, x, hx, h, d, hd => by
    unfold szL at h
    rcases hf c x hx with k | ⟨k, k'⟩
    · rw [if_pos (by omega)] at h; omega
    · rw [if_neg (by omega)] at h
      rcases List.mem_cons.1 hd with rfl | hd
      · exact ⟨x, hx, Int.le_refl _, k⟩
      · obtain ⟨y, y0, y1, y2⟩ := szL_each hf r (f c x) k h d hd
        exact ⟨y, y0, by omega, y2⟩
theorem szS_each {α : Type} {f : α → Int → Int} (hf : Falls f) {l : List α} {x : Int} (h : 0 ≤ szS f l x) : (l.length : Int) ≤ x ∧ ∀ d ∈ l, ∃ y, 0 ≤ y ∧ y ≤ x ∧ 0 ≤ f d y := by
  unfold szS at h
  split at h
  · omega
  · refine ⟨by omega, fun d hd => ?_⟩
    obtain ⟨y, y0, y1, y2⟩ := szL_each hf l (x - l.length) (by omega) h d hd
    exact ⟨y, y0, by omega, y2⟩
def szPhi (d : PhiD) (x : Int) : Int := szI d.ins.length x
def szInst (d : InstD) (x : Int) : Int := szI d.args.length x
def szBlock (d : BlockD) (x : Int) : Int := if szS szPhi d.phis x < 0 then -1 else szS szInst d.insts (szS szPhi d.phis x)
def szFunc (d : FuncD) (x : Int) : Int := if szI d.params.length x < 0 then -1 else szS szBlock d.blocks (szI d.params.length x)
theorem szPhi_falls : Falls szPhi := fun _ _ _ => szI_falls _ _
theorem szInst_falls : Falls szInst := fun _ _ _ => szI_falls _ _
theorem szBlock_falls : Falls szBlock := fun d x _ => by
  unfold szBlock
  rcases szS_falls szPhi_falls d.phis x with h | ⟨h, h'⟩
  · rw [if_pos (by omega)]; exact .inl rfl
  · rw [if_neg (by omega)]
    rcases szS_falls szInst_falls d.insts (szS szPhi d.phis x) with k | ⟨k, k'⟩
    · exact .inl k
    · exact .inr ⟨k, by omega⟩
theorem szFunc_falls : Falls szFunc := fun d x _ => by
  unfold szFunc
  rcases szI_falls d.params.length x with h | ⟨h, h'⟩
  · rw [if_pos (by omega)]; exact .inl rfl
  · rw [if_neg (by omega)]
    rcases szS_falls szBlock_falls d.blocks (szI d.params.length x) with k | ⟨k, k'⟩
    · exact .inl k
    · exact .inr ⟨k, by omega⟩
/-- Every list in it is of at most 1048576. -/
def SmI (l : List Int) : Prop := l.length ≤ 1048576
def SmPhi (d : PhiD) : Prop := d.ins.length ≤ 1048576
def SmInst (d : InstD) : Prop := d.args.length ≤ 1048576
def SmBlock (d : BlockD) : Prop := (d.phis.length ≤ 1048576 ∧ ∀ p ∈ d.phis, SmPhi p) ∧ (d.insts.length ≤ 1048576 ∧ ∀ p ∈ d.insts, SmInst p)
def SmFunc (d : FuncD) : Prop := d.params.length ≤ 1048576 ∧ (d.blocks.length ≤ 1048576 ∧ ∀ p ∈ d.blocks, SmBlock p)
theorem szI_small {n : Nat} {x : Int} (hx : x ≤ 1048576) (h : 0 ≤ szI n x) : n ≤ 1048576 := by unfold szI at h; split at h <;> omega
theorem szBlock_small {d : BlockD} {x : Int} (hx : x ≤ 1048576) (h : 0 ≤ szBlock d x) : SmBlock d := by
  unfold szBlock at h
  rcases szS_falls szPhi_falls d.phis x with k | ⟨k, k'⟩
  · rw [if_pos (by omega)] at h; omega
  · rw [if_neg (by omega)] at h
    obtain ⟨p1, p2⟩ := szS_each szPhi_falls k
    obtain ⟨i1, i2⟩ := szS_each szInst_falls h
    refine ⟨⟨by omega, fun p hp => ?_⟩, ⟨by omega, fun p hp => ?_⟩⟩
    · obtain ⟨y, _, y1, y2⟩ := p2 p hp
      exact szI_small (by omega) y2
    · obtain ⟨y, _, y1, y2⟩ := i2 p hp
      exact szI_small (by omega) y2
theorem szFunc_small {d : FuncD} {x : Int} (hx : x ≤ 1048576) (h : 0 ≤ szFunc d x) : SmFunc d := by
  unfold szFunc at h
  rcases szI_falls d.params.length x with k | ⟨k, k'⟩
  · rw [if_pos (by omega)] at h; omega
  · rw [if_neg (by omega)] at h
    obtain ⟨b1, b2⟩ := szS_each szBlock_falls h
    refine ⟨szI_small hx k, by omega, fun p hp => ?_⟩
    obtain ⟨y, _, y1, y2⟩ := b2 p hp
    exact szBlock_small (by omega) y2
theorem ret_i {a b : Int} (h : a = b) : Ending.returned (.int .i64 a) = .returned (.int .i64 b) := by rw [h]

theorem szInts_any (a : Option Addr) (n cap : Nat) (x : Int) (w : World) (h0 : 0 ≤ x) (h1 : x ≤ 1048576) (hn : n ≤ 9223372036854775807) :
    Calls Tryz.prog 33 #[.slice a n cap, .int .i64 x] w fun e w' => e = .returned (.int .i64 (szI n x)) ∧ w' = w := by
  by_cases hc : x - n < 0
  · have E : Hid (-1 = szI n x) := by show _ = _; rw [szI, if_pos hc]
    go_enter Tryz.func33, Tryz.ntmps33
    go_wp2_with fail
    go_ret
    exact ⟨ret_i E.out, rfl⟩
  · have E : Hid (x - n = szI n x) := by show _ = _; rw [szI, if_neg hc]
    go_enter Tryz.func33, Tryz.ntmps33
    go_wp2_with fail
    go_ret
    exact ⟨ret_i E.out, rfl⟩

theorem szPhi_any (lo : Nat) (d : PhiD) (u1 : Option Addr) (c1 : Nat) (x : Int) (w : World) (h0 : 0 ≤ x) (h1 : x ≤ 1048576) (k1 : IntsAt w lo u1 d.ins) :
    Calls Tryz.prog 86 #[.agg #[.int .i64 d.w, .slice u1 d.ins.length c1], .int .i64 x] w fun e w' => e = .returned (.int .i64 (szPhi d x)) ∧ Below w.heap.size w w' := by
  have hn := k1.1
  rcases szI_falls d.ins.length x with hc | ⟨hc, _⟩
  · have E : Hid (-1 = szPhi d x) := hc.symm
    have hq : szI d.ins.length x < 0 := by omega
    clear hc
    go_enter Tryz.func86, Tryz.ntmps86
    go_wp2_with (go_at_call 33; refine (szInts_any _ _ _ _ _ h0 h1 hn).mono ?_; rintro e w' ⟨rfl, rfl⟩)
    go_ret
    exact ⟨ret_i E.out, (Below.refl _ _).alloc (Nat.le_refl _) _⟩
  · go_enter Tryz.func86, Tryz.ntmps86
    go_wp2_with (go_at_call 33; refine (szInts_any _ _ _ _ _ h0 h1 hn).mono ?_; rintro e w' ⟨rfl, rfl⟩)
    go_ret
    exact ⟨ret_i (by rfl), (Below.refl _ _).alloc (Nat.le_refl _) _⟩

theorem szInst_any (lo : Nat) (d : InstD) (u6 : Option Addr) (c6 : Nat) (x : Int) (w : World) (h0 : 0 ≤ x) (h1 : x ≤ 1048576) (k6 : IntsAt w lo u6 d.args) :
    Calls Tryz.prog 87 #[.agg #[.int .i64 d.op, .int .i64 d.w, .int .i64 d.a, .int .i64 d.b, .int .i64 d.c, .int .i64 d.imm, .slice u6 d.args.length c6], .int .i64 x] w fun e w' => e = .returned (.int .i64 (szInst d x)) ∧ Below w.heap.size w w' := by
  have hn := k6.1
  rcases szI_falls d.args.length x with hc | ⟨hc, _⟩
  · have E : Hid (-1 = szInst d x) := hc.symm
    have hq : szI d.args.length x < 0 := by omega
    clear hc
    go_enter Tryz.func87, Tryz.ntmps87
    go_wp2_with (go_at_call 33; refine (szInts_any _ _ _ _ _ h0 h1 hn).mono ?_; rintro e w' ⟨rfl, rfl⟩)
    go_ret
    exact ⟨ret_i E.out, (Below.refl _ _).alloc (Nat.le_refl _) _⟩
  · go_enter Tryz.func87, Tryz.ntmps87
    go_wp2_with (go_at_call 33; refine (szInts_any _ _ _ _ _ h0 h1 hn).mono ?_; rintro e w' ⟨rfl, rfl⟩)
    go_ret
    exact ⟨ret_i (by rfl), (Below.refl _ _).alloc (Nat.le_refl _) _⟩

set_option maxHeartbeats 1000000 in
theorem szPhiS_any (lo : Nat) (a : Option Addr) (cap : Nat) (l : List PhiD) (x : Int) (w : World) (h0 : 0 ≤ x) (h1 : x ≤ 1048576) (hv : PhisAt w lo a l) :
    Calls Tryz.prog 67 #[.slice a l.length cap, .int .i64 x] w fun e w' => e = .returned (.int .i64 (szS szPhi l x)) ∧ Below w.heap.size w w' := by
  obtain ⟨hn, h⟩ := hv
  by_cases hc : x - l.length < 0
  · have E : Hid (-1 = szS szPhi l x) := by show _ = _; rw [szS, if_pos hc]
    go_enter Tryz.func67, Tryz.ntmps67
    go_wp2_with fail
    go_ret
    exact ⟨ret_i E.out, Below.refl _ _⟩
  · have E : Hid (szL szPhi l (x - l.length) = szS szPhi l x) := by show _ = _; rw [szS, if_neg hc]
    go_enter Tryz.func67, Tryz.ntmps67
    go_wp2_with fail
    go_loopw [1, 5] (fun y i wr => ∃ (k : Nat) (z : Int), k ≤ l.length ∧ y = .int .i64 z ∧ i = .int .i64 k ∧ 0 ≤ z ∧ z ≤ 1048576 ∧ szL szPhi (l.drop k) z = szL szPhi l (x - l.length) ∧ Below w.heap.size w wr) (fun _ i _ => l.length - (intOf i).toNat)
    case atStart => exact ⟨0, x - l.length, by omega, rfl, rfl, by omega, by omega, by simp, Below.refl _ _⟩
    case round =>
      obtain ⟨k, z, hk, rfl, rfl, hz0, hz1, hq, hB⟩ := hrel
      by_cases hlt : k < l.length
      · rcases h with rfl | ⟨b, off, rfl, hlo, hb, hcell⟩
        · simp at hlt
        obtain ⟨h0, ⟨u1, c1, h1, k1⟩⟩ := hcell k hlt
        have hd := drop_get phi0 l k hlt
        generalize l.getD k phi0 = d at *
        have e0 : wr.cell? ⟨b, off + k * 2, none⟩ = some (.int .i64 d.w) := (cell_block (hB.block b hb)).trans h0
        have e1 : wr.cell? ⟨b, off + k * 2 + 1, none⟩ = some (.slice u1 d.ins.length c1) := (cell_block (hB.block b hb)).trans h1
        have m1 := k1.keep (agree_of_below hB _)
        have HQ : Hid (szL szPhi (l.drop k) z = szL szPhi l (x - l.length)) := hq
        have HD : Hid (l.drop k = d :: l.drop (k + 1)) := hd
        have HB : Hid (Below w.heap.size w wr) := hB
        clear hcell h0 h1 k1 hd hq hB
        rcases szPhi_falls d z hz0 with hs | ⟨hs, hs'⟩
        · have hs2 : szPhi d z < 0 := by omega
          clear hs
          go_wp2_with (go_at_call 86; refine (szPhi_any lo d _ _ _ _ hz0 hz1 m1).mono ?_; rintro e w1 ⟨rfl, hb1⟩)
          go_ret
          have hq := HQ.out
          rw [HD.out, szL, if_pos hs2] at hq
          exact ⟨ret_i (hq.trans E.out), HB.out.trans (hb1.mono HB.out.size)⟩
        · go_wp2_with (go_at_call 86; refine (szPhi_any lo d _ _ _ _ hz0 hz1 m1).mono ?_; rintro e w1 ⟨rfl, hb1⟩)
          go_roundw
          case rel =>
            have hq := HQ.out
            rw [HD.out, szL, if_neg (by omega)] at hq
            exact ⟨k + 1, _, by omega, rfl, by go_num, hs, by omega, hq, HB.out.trans (hb1.mono HB.out.size)⟩
          case measure => simp [intOf]; omega
      · have hke : k = l.length := by omega
        have HQ : Hid (szL szPhi (l.drop k) z = szL szPhi l (x - l.length)) := hq
        clear hq
        go_wp2_with fail
        go_ret
        have hq := HQ.out
        rw [hke, List.drop_length, szL] at hq
        exact ⟨ret_i (hq.trans E.out), hB⟩

set_option maxHeartbeats 1000000 in
theorem szInstS_any (lo : Nat) (a : Option Addr) (cap : Nat) (l : List InstD) (x : Int) (w : World) (h0 : 0 ≤ x) (h1 : x ≤ 1048576) (hv : InstsAt w lo a l) :
    Calls Tryz.prog 68 #[.slice a l.length cap, .int .i64 x] w fun e w' => e = .returned (.int .i64 (szS szInst l x)) ∧ Below w.heap.size w w' := by
  obtain ⟨hn, h⟩ := hv
  by_cases hc : x - l.length < 0
  · have E : Hid (-1 = szS szInst l x) := by show _ = _; rw [szS, if_pos hc]
    go_enter Tryz.func68, Tryz.ntmps68
    go_wp2_with fail
    go_ret
    exact ⟨ret_i E.out, Below.refl _ _⟩
  · have E : Hid (szL szInst l (x - l.length) = szS szInst l x) := by show _ = _; rw [szS, if_neg hc]
    go_enter Tryz.func68, Tryz.ntmps68
    go_wp2_with fail
    go_loopw [1, 5] (fun y i wr => ∃ (k : Nat) (z : Int), k ≤ l.length ∧ y = .int .i64 z ∧ i = .int .i64 k ∧ 0 ≤ z ∧ z ≤ 1048576 ∧ szL szInst (l.drop k) z = szL szInst l (x - l.length) ∧ Below w.heap.size w wr) (fun _ i _ => l.length - (intOf i).toNat)
    case atStart => exact ⟨0, x - l.length, by omega, rfl, rfl, by omega, by omega, by simp, Below.refl _ _⟩
    case round =>
      obtain ⟨k, z, hk, rfl, rfl, hz0, hz1, hq, hB⟩ := hrel
      by_cases hlt : k < l.length
      · rcases h with rfl | ⟨b, off, rfl, hlo, hb, hcell⟩
        · simp at hlt
        obtain ⟨h0, h1, h2, h3, h4, h5, ⟨u6, c6, h6, k6⟩⟩ := hcell k hlt
        have hd := drop_get inst0 l k hlt
        generalize l.getD k inst0 = d at *
        have e0 : wr.cell? ⟨b, off + k * 7, none⟩ = some (.int .i64 d.op) := (cell_block (hB.block b hb)).trans h0
        have e1 : wr.cell? ⟨b, off + k * 7 + 1, none⟩ = some (.int .i64 d.w) := (cell_block (hB.block b hb)).trans h1
        have e2 : wr.cell? ⟨b, off + k * 7 + 2, none⟩ = some (.int .i64 d.a) := (cell_block (hB.block b hb)).trans h2
        have e3 : wr.cell? ⟨b, off + k * 7 + 3, none⟩ = some (.int .i64 d.b) := (cell_block (hB.block b hb)).trans h3
        have e4 : wr.cell? ⟨b, off + k * 7 + 4, none⟩ = some (.int .i64 d.c) := (cell_block (hB.block b hb)).trans h4
        have e5 : wr.cell? ⟨b, off + k * 7 + 5, none⟩ = some (.int .i64 d.imm) := (cell_block (hB.block b hb)).trans h5
        have e6 : wr.cell? ⟨b, off + k * 7 + 6, none⟩ = some (.slice u6 d.args.length c6) := (cell_block (hB.block b hb)).trans h6
        have m6 := k6.keep (agree_of_below hB _)
        have HQ : Hid (szL szInst (l.drop k) z = szL szInst l (x - l.length)) := hq
        have HD : Hid (l.drop k = d :: l.drop (k + 1)) := hd
        have HB : Hid (Below w.heap.size w wr) := hB
        clear hcell h0 h1 h2 h3 h4 h5 h6 k6 hd hq hB
        rcases szInst_falls d z hz0 with hs | ⟨hs, hs'⟩
        · have hs2 : szInst d z < 0 := by omega
          clear hs
          go_wp2_with (go_at_call 87; refine (szInst_any lo d _ _ _ _ hz0 hz1 m6).mono ?_; rintro e w1 ⟨rfl, hb1⟩)
          go_ret
          have hq := HQ.out
          rw [HD.out, szL, if_pos hs2] at hq
          exact ⟨ret_i (hq.trans E.out), HB.out.trans (hb1.mono HB.out.size)⟩
        · go_wp2_with (go_at_call 87; refine (szInst_any lo d _ _ _ _ hz0 hz1 m6).mono ?_; rintro e w1 ⟨rfl, hb1⟩)
          go_roundw
          case rel =>
            have hq := HQ.out
            rw [HD.out, szL, if_neg (by omega)] at hq
            exact ⟨k + 1, _, by omega, rfl, by go_num, hs, by omega, hq, HB.out.trans (hb1.mono HB.out.size)⟩
          case measure => simp [intOf]; omega
      · have hke : k = l.length := by omega
        have HQ : Hid (szL szInst (l.drop k) z = szL szInst l (x - l.length)) := hq
        clear hq
        go_wp2_with fail
        go_ret
        have hq := HQ.out
        rw [hke, List.drop_length, szL] at hq
        exact ⟨ret_i (hq.trans E.out), hB⟩

theorem szBlock_any (lo : Nat) (d : BlockD) (u0 : Option Addr) (c0 : Nat) (u1 : Option Addr) (c1 : Nat) (x : Int) (w : World) (h0 : 0 ≤ x) (h1 : x ≤ 1048576) (k0 : PhisAt w lo u0 d.phis) (k1 : InstsAt w lo u1 d.insts) :
    Calls Tryz.prog 53 #[.agg #[.slice u0 d.phis.length c0, .slice u1 d.insts.length c1, .int .i64 d.term.kind, .int .i64 d.term.a, .int .i64 d.term.x, .int .i64 d.term.y], .int .i64 x] w fun e w' => e = .returned (.int .i64 (szBlock d x)) ∧ Below w.heap.size w w' := by
  rcases szS_falls szPhi_falls d.phis x with hc | ⟨hc, hc'⟩
  · have E : Hid (-1 = szBlock d x) := by show _ = _; rw [szBlock, if_pos (by omega)]
    have hq : szS szPhi d.phis x < 0 := by omega
    clear hc
    go_enter Tryz.func53, Tryz.ntmps53
    go_wp2_with (go_at_call 67; refine (szPhiS_any lo _ _ _ _ _ h0 h1 (k0.keep (agree_alloc _ _ _))).mono ?_; rintro e w1 ⟨rfl, hb1⟩; have k1' := (k1.keep (agree_alloc w _ lo)).keep (agree_of_below hb1 lo); have hcc := bcell hb1)
    go_ret
    exact ⟨ret_i E.out, by first | exact (Below.refl _ _).alloc (Nat.le_refl _) _ | exact ((Below.refl _ _).alloc (Nat.le_refl _) _).trans (hb1.mono (by simp))⟩
  · rcases szS_falls szInst_falls d.insts (szS szPhi d.phis x) with hd | ⟨hd, hd'⟩
    · have E : Hid (-1 = szBlock d x) := by show _ = _; rw [szBlock, if_neg (by omega), hd]
      have hq : szS szInst d.insts (szS szPhi d.phis x) < 0 := by omega
      clear hd
      go_enter Tryz.func53, Tryz.ntmps53
      go_wp2_with (first | (go_at_call 67; refine (szPhiS_any lo _ _ _ _ _ h0 h1 (k0.keep (agree_alloc _ _ _))).mono ?_; rintro e w1 ⟨rfl, hb1⟩; have k1' := (k1.keep (agree_alloc w _ lo)).keep (agree_of_below hb1 lo); have hcc := bcell hb1) | (go_at_call 68; refine (szInstS_any lo _ _ _ _ _ hc (by omega) k1').mono ?_; rintro e w2 ⟨rfl, hb2⟩))
      go_ret
      exact ⟨ret_i E.out, by first | exact ((Below.refl _ _).alloc (Nat.le_refl _) _).trans (hb2.mono (by simp)) | exact (((Below.refl _ _).alloc (Nat.le_refl _) _).trans (hb1.mono (by simp))).trans (hb2.mono (by have := hb1.size; simp at this; omega))⟩
    · have E : Hid (szS szInst d.insts (szS szPhi d.phis x) = szBlock d x) := by show _ = _; rw [szBlock, if_neg (by omega)]
      go_enter Tryz.func53, Tryz.ntmps53
      go_wp2_with (first | (go_at_call 67; refine (szPhiS_any lo _ _ _ _ _ h0 h1 (k0.keep (agree_alloc _ _ _))).mono ?_; rintro e w1 ⟨rfl, hb1⟩; have k1' := (k1.keep (agree_alloc w _ lo)).keep (agree_of_below hb1 lo); have hcc := bcell hb1) | (go_at_call 68; refine (szInstS_any lo _ _ _ _ _ hc (by omega) k1').mono ?_; rintro e w2 ⟨rfl, hb2⟩))
      go_ret
      exact ⟨ret_i E.out, by first | exact ((Below.refl _ _).alloc (Nat.le_refl _) _).trans (hb2.mono (by simp)) | exact (((Below.refl _ _).alloc (Nat.le_refl _) _).trans (hb1.mono (by simp))).trans (hb2.mono (by have := hb1.size; simp at this; omega))⟩

set_option maxHeartbeats 1000000 in
theorem szBlockS_any (lo : Nat) (a : Option Addr) (cap : Nat) (l : List BlockD) (x : Int) (w : World) (h0 : 0 ≤ x) (h1 : x ≤ 1048576) (hv : BlocksAt w lo a l) :
    Calls Tryz.prog 34 #[.slice a l.length cap, .int .i64 x] w fun e w' => e = .returned (.int .i64 (szS szBlock l x)) ∧ Below w.heap.size w w' := by
  obtain ⟨hn, h⟩ := hv
  by_cases hc : x - l.length < 0
  · have E : Hid (-1 = szS szBlock l x) := by show _ = _; rw [szS, if_pos hc]
    go_enter Tryz.func34, Tryz.ntmps34
    go_wp2_with fail
    go_ret
    exact ⟨ret_i E.out, Below.refl _ _⟩
  · have E : Hid (szL szBlock l (x - l.length) = szS szBlock l x) := by show _ = _; rw [szS, if_neg hc]
    go_enter Tryz.func34, Tryz.ntmps34
    go_wp2_with fail
    go_loopw [1, 5] (fun y i wr => ∃ (k : Nat) (z : Int), k ≤ l.length ∧ y = .int .i64 z ∧ i = .int .i64 k ∧ 0 ≤ z ∧ z ≤ 1048576 ∧ szL szBlock (l.drop k) z = szL szBlock l (x - l.length) ∧ Below w.heap.size w wr) (fun _ i _ => l.length - (intOf i).toNat)
    case atStart => exact ⟨0, x - l.length, by omega, rfl, rfl, by omega, by omega, by simp, Below.refl _ _⟩
    case round =>
      obtain ⟨k, z, hk, rfl, rfl, hz0, hz1, hq, hB⟩ := hrel
      by_cases hlt : k < l.length
      · rcases h with rfl | ⟨b, off, rfl, hlo, hb, hcell⟩
        · simp at hlt
        obtain ⟨⟨u0, c0, h0, k0⟩, ⟨u1, c1, h1, k1⟩, h2, h3, h4, h5⟩ := hcell k hlt
        have hd := drop_get block0 l k hlt
        generalize l.getD k block0 = d at *
        have e0 : wr.cell? ⟨b, off + k * 6, none⟩ = some (.slice u0 d.phis.length c0) := (cell_block (hB.block b hb)).trans h0
        have m0 := k0.keep (agree_of_below hB _)
        have e1 : wr.cell? ⟨b, off + k * 6 + 1, none⟩ = some (.slice u1 d.insts.length c1) := (cell_block (hB.block b hb)).trans h1
        have m1 := k1.keep (agree_of_below hB _)
        have e2 : wr.cell? ⟨b, off + k * 6 + 2, none⟩ = some (.int .i64 d.term.kind) := (cell_block (hB.block b hb)).trans h2
        have e3 : wr.cell? ⟨b, off + k * 6 + 3, none⟩ = some (.int .i64 d.term.a) := (cell_block (hB.block b hb)).trans h3
        have e4 : wr.cell? ⟨b, off + k * 6 + 4, none⟩ = some (.int .i64 d.term.x) := (cell_block (hB.block b hb)).trans h4
        have e5 : wr.cell? ⟨b, off + k * 6 + 5, none⟩ = some (.int .i64 d.term.y) := (cell_block (hB.block b hb)).trans h5
        have HQ : Hid (szL szBlock (l.drop k) z = szL szBlock l (x - l.length)) := hq
        have HD : Hid (l.drop k = d :: l.drop (k + 1)) := hd
        have HB : Hid (Below w.heap.size w wr) := hB
        clear hcell h0 h1 h2 h3 h4 h5 k0 k1 hd hq hB
        rcases szBlock_falls d z hz0 with hs | ⟨hs, hs'⟩
        · have hs2 : szBlock d z < 0 := by omega
          clear hs
          go_wp2_with (go_at_call 53; refine (szBlock_any lo d _ _ _ _ _ _ hz0 hz1 m0 m1).mono ?_; rintro e w1 ⟨rfl, hb1⟩)
          go_ret
          have hq := HQ.out
          rw [HD.out, szL, if_pos hs2] at hq
          exact ⟨ret_i (hq.trans E.out), HB.out.trans (hb1.mono HB.out.size)⟩
        · go_wp2_with (go_at_call 53; refine (szBlock_any lo d _ _ _ _ _ _ hz0 hz1 m0 m1).mono ?_; rintro e w1 ⟨rfl, hb1⟩)
          go_roundw
          case rel =>
            have hq := HQ.out
            rw [HD.out, szL, if_neg (by omega)] at hq
            exact ⟨k + 1, _, by omega, rfl, by go_num, hs, by omega, hq, HB.out.trans (hb1.mono HB.out.size)⟩
          case measure => simp [intOf]; omega
      · have hke : k = l.length := by omega
        have HQ : Hid (szL szBlock (l.drop k) z = szL szBlock l (x - l.length)) := hq
        clear hq
        go_wp2_with fail
        go_ret
        have hq := HQ.out
        rw [hke, List.drop_length, szL] at hq
        exact ⟨ret_i (hq.trans E.out), hB⟩

theorem szFunc_any (lo : Nat) (d : FuncD) (u0 : Option Addr) (c0 : Nat) (u2 : Option Addr) (c2 : Nat) (x : Int) (w : World) (h0 : 0 ≤ x) (h1 : x ≤ 1048576) (k0 : IntsAt w lo u0 d.params) (k2 : BlocksAt w lo u2 d.blocks) :
    Calls Tryz.prog 19 #[.agg #[.slice u0 d.params.length c0, .int .i64 d.ret, .slice u2 d.blocks.length c2], .int .i64 x] w fun e w' => e = .returned (.int .i64 (szFunc d x)) ∧ Below w.heap.size w w' := by
  rcases szI_falls d.params.length x with hc | ⟨hc, hc'⟩
  · have E : Hid (-1 = szFunc d x) := by show _ = _; rw [szFunc, if_pos (by omega)]
    have hq : szI d.params.length x < 0 := by omega
    clear hc
    go_enter Tryz.func19, Tryz.ntmps19
    go_wp2_with (go_at_call 33; refine (szInts_any _ _ _ _ _ h0 h1 k0.1).mono ?_; rintro e w1 ⟨rfl, rfl⟩)
    go_ret
    exact ⟨ret_i E.out, by first | exact (Below.refl _ _).alloc (Nat.le_refl _) _ | exact ((Below.refl _ _).alloc (Nat.le_refl _) _).trans (hb1.mono (by simp))⟩
  · rcases szS_falls szBlock_falls d.blocks (szI d.params.length x) with hd | ⟨hd, hd'⟩
    · have E : Hid (-1 = szFunc d x) := by show _ = _; rw [szFunc, if_neg (by omega), hd]
      have hq : szS szBlock d.blocks (szI d.params.length x) < 0 := by omega
      clear hd
      go_enter Tryz.func19, Tryz.ntmps19
      go_wp2_with (first | (go_at_call 33; refine (szInts_any _ _ _ _ _ h0 h1 k0.1).mono ?_; rintro e w1 ⟨rfl, rfl⟩) | (go_at_call 34; refine (szBlockS_any lo _ _ _ _ _ hc (by omega) (k2.keep (agree_alloc _ _ _))).mono ?_; rintro e w2 ⟨rfl, hb2⟩))
      go_ret
      exact ⟨ret_i E.out, by first | exact ((Below.refl _ _).alloc (Nat.le_refl _) _).trans (hb2.mono (by simp)) | exact (((Below.refl _ _).alloc (Nat.le_refl _) _).trans (hb1.mono (by simp))).trans (hb2.mono (by have := hb1.size; simp at this; omega))⟩
    · have E : Hid (szS szBlock d.blocks (szI d.params.length x) = szFunc d x) := by show _ = _; rw [szFunc, if_neg (by omega)]
      go_enter Tryz.func19, Tryz.ntmps19
      go_wp2_with (first | (go_at_call 33; refine (szInts_any _ _ _ _ _ h0 h1 k0.1).mono ?_; rintro e w1 ⟨rfl, rfl⟩) | (go_at_call 34; refine (szBlockS_any lo _ _ _ _ _ hc (by omega) (k2.keep (agree_alloc _ _ _))).mono ?_; rintro e w2 ⟨rfl, hb2⟩))
      go_ret
      exact ⟨ret_i E.out, by first | exact ((Below.refl _ _).alloc (Nat.le_refl _) _).trans (hb2.mono (by simp)) | exact (((Below.refl _ _).alloc (Nat.le_refl _) _).trans (hb1.mono (by simp))).trans (hb2.mono (by have := hb1.size; simp at this; omega))⟩
end Go.Proofs.YtjpiiemhklphlaaGreatDoor
