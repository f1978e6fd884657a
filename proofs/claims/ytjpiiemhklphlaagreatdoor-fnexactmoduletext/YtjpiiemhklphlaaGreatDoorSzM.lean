/- How much a module holds: the contracts of szFuncS and szModule. -/
import Derived.Test.YtjpiiemhklphlaaGreatDoorSz
namespace Go.Proofs.YtjpiiemhklphlaaGreatDoor
open Go.RowKit


set_option maxHeartbeats 1000000 in
theorem szFuncS_any (lo : Nat) (a : Option Addr) (cap : Nat) (l : List FuncD) (x : Int) (w : World) (h0 : 0 ≤ x) (h1 : x ≤ 1048576) (hv : FuncsAt w lo a l) :
    Calls Tryz.prog 9 #[.slice a l.length cap, .int .i64 x] w fun e w' => e = .returned (.int .i64 (szS szFunc l x)) ∧ Below w.heap.size w w' := by
  obtain ⟨hn, h⟩ := hv
  by_cases hc : x - l.length < 0
  · have E : Hid (-1 = szS szFunc l x) := by show _ = _; rw [szS, if_pos hc]
    go_enter Tryz.func9, Tryz.ntmps9
    go_wp2_with fail
    go_ret
    exact ⟨ret_i E.out, Below.refl _ _⟩
  · have E : Hid (szL szFunc l (x - l.length) = szS szFunc l x) := by show _ = _; rw [szS, if_neg hc]
    go_enter Tryz.func9, Tryz.ntmps9
    go_wp2_with fail
    go_loopw [1, 5] (fun y i wr => ∃ (k : Nat) (z : Int), k ≤ l.length ∧ y = .int .i64 z ∧ i = .int .i64 k ∧ 0 ≤ z ∧ z ≤ 1048576 ∧ szL szFunc (l.drop k) z = szL szFunc l (x - l.length) ∧ Below w.heap.size w wr) (fun _ i _ => l.length - (intOf i).toNat)
    case atStart => exact ⟨0, x - l.length, by omega, rfl, rfl, by omega, by omega, by simp, Below.refl _ _⟩
    case round =>
      obtain ⟨k, z, hk, rfl, rfl, hz0, hz1, hq, hB⟩ := hrel
      by_cases hlt : k < l.length
      · rcases h with rfl | ⟨b, off, rfl, hlo, hb, hcell⟩
        · simp at hlt
        obtain ⟨⟨u0, c0, h0, k0⟩, h1, ⟨u2, c2, h2, k2⟩⟩ := hcell k hlt
        have hd := drop_get func0 l k hlt
        generalize l.getD k func0 = d at *
        have e0 : wr.cell? ⟨b, off + k * 3, none⟩ = some (.slice u0 d.params.length c0) := (cell_block (hB.block b hb)).trans h0
        have m0 := k0.keep (agree_of_below hB _)
        have e1 : wr.cell? ⟨b, off + k * 3 + 1, none⟩ = some (.int .i64 d.ret) := (cell_block (hB.block b hb)).trans h1
        have e2 : wr.cell? ⟨b, off + k * 3 + 2, none⟩ = some (.slice u2 d.blocks.length c2) := (cell_block (hB.block b hb)).trans h2
        have m2 := k2.keep (agree_of_below hB _)
        have HQ : Hid (szL szFunc (l.drop k) z = szL szFunc l (x - l.length)) := hq
        have HD : Hid (l.drop k = d :: l.drop (k + 1)) := hd
        have HB : Hid (Below w.heap.size w wr) := hB
        clear hcell h0 h1 h2 k0 k2 hd hq hB
        rcases szFunc_falls d z hz0 with hs | ⟨hs, hs'⟩
        · have hs2 : szFunc d z < 0 := by omega
          clear hs
          go_wp2_with (go_at_call 19; refine (szFunc_any lo d _ _ _ _ _ _ hz0 hz1 m0 m2).mono ?_; rintro e w1 ⟨rfl, hb1⟩)
          go_ret
          have hq := HQ.out
          rw [HD.out, szL, if_pos hs2] at hq
          exact ⟨ret_i (hq.trans E.out), HB.out.trans (hb1.mono HB.out.size)⟩
        · go_wp2_with (go_at_call 19; refine (szFunc_any lo d _ _ _ _ _ _ hz0 hz1 m0 m2).mono ?_; rintro e w1 ⟨rfl, hb1⟩)
          go_roundw
          case rel =>
            have hq := HQ.out
            rw [HD.out, szL, if_neg (by omega)] at hq
            exact ⟨k + 1, _, by omega, rfl, by go_num, hs, by omega, hq, HB.out.trans (hb1.mono HB.out.size)⟩
          case measure => simp [intOf]; omega
      · have hke : k = l.length := by omega
        have HQ : Hid (szL szFunc (l.drop k) z = szL szFunc l (x - l.length)) := hq
        clear hq
        go_wp2_with fail
        go_ret
        have hq := HQ.out
        rw [hke, List.drop_length, szL] at hq
        exact ⟨ret_i (hq.trans E.out), hB⟩

def SmMod (l : List FuncD) : Prop := l.length ≤ 1048576 ∧ ∀ d ∈ l, SmFunc d
theorem szMod_small {l : List FuncD} {x : Int} (hx : x ≤ 1048576) (h : 0 ≤ szS szFunc l x) : SmMod l := by
  obtain ⟨b1, b2⟩ := szS_each szFunc_falls h
  refine ⟨by omega, fun p hp => ?_⟩
  obtain ⟨y, _, y1, y2⟩ := b2 p hp
  exact szFunc_small (by omega) y2
set_option maxHeartbeats 1000000 in
theorem szModule_any (lo : Nat) (l : List FuncD) (u0 : Option Addr) (c0 : Nat) (x : Int) (w : World) (h0 : 0 ≤ x) (h1 : x ≤ 1048576) (k0 : FuncsAt w lo u0 l) :
    Calls Tryz.prog 4 #[.agg #[.slice u0 l.length c0], .int .i64 x] w fun e w' => e = .returned (.int .i64 (szS szFunc l x)) ∧ Below w.heap.size w w' := by
  rcases szS_falls szFunc_falls l x with hc | ⟨hc, _⟩
  · have E : Hid (-1 = szS szFunc l x) := hc.symm
    have hq : szS szFunc l x < 0 := by omega
    clear hc
    go_enter Tryz.func4, Tryz.ntmps4
    go_wp2_with (go_at_call 9; refine (szFuncS_any lo _ _ _ _ _ h0 h1 (k0.keep (agree_alloc _ _ _))).mono ?_; rintro e w1 ⟨rfl, hb1⟩)
    go_ret
    exact ⟨ret_i E.out, ((Below.refl _ _).alloc (Nat.le_refl _) _).trans (hb1.mono (by simp))⟩
  · go_enter Tryz.func4, Tryz.ntmps4
    go_wp2_with (go_at_call 9; refine (szFuncS_any lo _ _ _ _ _ h0 h1 (k0.keep (agree_alloc _ _ _))).mono ?_; rintro e w1 ⟨rfl, hb1⟩)
    go_ret
    exact ⟨ret_i (by rfl), ((Below.refl _ _).alloc (Nat.le_refl _) _).trans (hb1.mono (by simp))⟩
end Go.Proofs.YtjpiiemhklphlaaGreatDoor
