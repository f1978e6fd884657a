import Derived.Test.YtgojlnclpebdcaaGreatDoorPutR
import Derived.Test.YtgojlnclpebdcaaGreatDoorGrtR
import Derived.Test.YtgojlnclpebdcaaGreatDoorChFR
import Derived.Deep.MidRow
import Derived.Laws.Rows
namespace Go.Proofs.YtgojlnclpebdcaaGreatDoor
open Go.RowKit
def woI : Option Nat → Int
 | none => -1
 | some a => a
theorem ints_grown {w w' : World} {lo b off : Nat} {l : List Int} {row : Option Nat} (h : IntsAt w lo (some ⟨b, off, none⟩) l) (hg : w.grownBy w' row) (hne : row ≠ some b) : IntsAt w' lo (some ⟨b, off, none⟩) l := by
 refine ⟨h.1, ?_⟩
 rcases h.2 with h | ⟨b', off', e, h1, h2, h3⟩
 ·exact .inl h
 ·cases e
  exact .inr ⟨b, off, rfl, h1, Nat.lt_of_lt_of_le h2 hg.size, fun i hi => (cell_block (hg.block b h2 (fun e => hne e.symm))).trans (h3 i hi)⟩
theorem row_ints {w : World} {base : Nat} {v : Value} {l : List Int} (hm : l.length ≤ 1048576) (h : w.ownsRow base 2 1 v l.length (l.map (Value.int .i64))) (h0 : 0 < l.length) : ∃ g c, v = .slice (some ⟨g, 0, none⟩) l.length c ∧ l.length ≤ c ∧ base ≤ g ∧ IntsAt w base (some ⟨g, 0, none⟩) l := own_fin hm h0 h
theorem tail_at {w : World} {lo g : Nat} {x : Int} {l : List Int} (h : IntsAt w lo (some ⟨g, 0, none⟩) (x :: l)) : IntsAt w lo (some ⟨g, 1, none⟩) l := by
 refine ⟨by have := h.1; simp at this; omega, ?_⟩
 have hc := ints_cells h
 rcases h.2 with h | ⟨b', off', e, h1, h2, _⟩
 ·cases h
 ·cases e
  refine .inr ⟨g, 1, rfl, h1, h2, fun i hi => ?_⟩
  have := hc (i + 1) (by simp; omega)
  rw [Nat.zero_add, Nat.add_comm i 1] at this
  rw [this]; simp [List.getD, Nat.add_comm 1 i]
theorem copyN (lo n : Nat) (a : Option Addr) (cap : Nat) (W : List Nat) (w : World) (hn : n = W.length) (hl : W.length ≤ 1048576) (hv : IntsAt w lo a (ints W)) (ha : a ≠ none) :
  Calls Tryz.prog 131 #[.slice a n cap] w fun e w' => ∃ v, e = .returned v ∧ w'.ownsRow w.heap.size 2 1 v W.length ((ints W).map (Value.int .i64)) ∧ Below w.heap.size w w' := by
 have h := copyR lo a cap (ints W) w (by rw [ints_len]; exact hl) hv ha
 rw [ints_len] at h; rw [hn]; exact h
theorem hasN (lo : Nat) (a : Option Addr) (cap : Nat) (O : List Nat) (x : Nat) (w : World) (hl : O.length ≤ 1048576) (hv : IntsAt w lo a (ints O)) :
  Calls Tryz.prog 93 #[.slice a O.length cap, .int .i64 (x : Int)] w fun e w' => e = .returned (.bool (decide (x ∈ O))) ∧ Below w.heap.size w w' := by
 have h := hasS lo a cap (ints O) x w (by rw [ints_len]; exact hl) hv
 rw [ints_len] at h
 have e : decide ((x : Int) ∈ ints O) = decide (x ∈ O) := decide_eq_decide.2 (mem_ints O x)
 rw [e] at h; exact h
theorem putN (lo b off cap : Nat) (O : List Nat) (x : Nat) (w : World) (hlo : lo ≤ w.heap.size) (hl : O.length ≤ 1000) (hcap : O.length ≤ cap) (hv : IntsAt w lo (some ⟨b, off, none⟩) (ints O)) :
  Calls Tryz.prog 132 #[.slice (some ⟨b, off, none⟩) O.length cap, .int .i64 (x : Int)] w fun e w' => (∃ b' off' c, e = .returned (.slice (some ⟨b', off', none⟩) (insN O x).length c) ∧ (insN O x).length ≤ c ∧ ((b' = b ∧ 0 < O.length) ∨ w.heap.size ≤ b') ∧ IntsAt w' lo (some ⟨b', off', none⟩) (ints (insN O x))) ∧ Below w.heap.size w w' := by
 have h := putS lo (some ⟨b, off, none⟩) cap (ints O) x w hlo (by rw [ints_len]; exact hl) (by rw [ints_len]; exact hcap) hv ⟨b, off, rfl⟩
 rw [ints_len, ins_ints, ints_len] at h
 refine h.mono fun e w' h' => ?_
 obtain ⟨⟨b', off', c, h1, h2, h3, h4⟩, h5⟩ := h'
 refine ⟨⟨b', off', c, h1, h2, ?_, h4⟩, h5⟩
 rcases h3 with h3 | h3
 ·obtain ⟨h3, h6⟩ := h3
  cases h3; exact .inl ⟨rfl, by have := ints_len O; omega⟩
 ·exact .inr h3
theorem hd_cell {w : World} {lo g x : Nat} {W : List Nat} (h : IntsAt w lo (some ⟨g, 0, none⟩) (ints (x :: W))) : w.cell? ⟨g, 0, none⟩ = some (.int .i64 (x : Int)) := ints_cells h 0 (by simp [ints])
theorem reach_go {w5 : World} {base n gk : Nat} {l : List BlockD} {wo : Option Nat} {x : Nat} {W O : List Nat} {v : Value} (hR : RightL l) (hF : Bfs (succN l) wo l.length (x :: W) O)
  (ho : w5.ownsRow base 2 1 v (W.length + (tgtD (termAt l x)).length) ((ints W).map (Value.int .i64) ++ (tgtD (termAt l x)).map (Value.int .i64))) (hni : x ∉ O) (hM : 3 * un l.length O + (W.length + 1) ≤ gk) (hM2 : 3 * un l.length O + (W.length + 1) ≤ n) :
  w5.ownsRow base 2 1 v (W ++ succN l x).length ((ints (W ++ succN l x)).map (Value.int .i64)) ∧ 3 * un l.length (insN O x) + (W ++ succN l x).length ≤ gk - 1 ∧ 3 * un l.length (insN O x) + (W ++ succN l x).length ≤ n := by
 have hx : x < l.length := hF.low x (List.mem_cons_self ..)
 have hless := hF.un_less hni
 have htl := tgt_len (termAt l x)
 have esu : succN l x = (tgtD (termAt l x)).map Int.toNat := rfl
 have esi : ints (succN l x) = tgtD (termAt l x) := by
  rw [esu]; unfold ints; rw [List.map_map]
  refine (List.map_congr_left (g := id) fun z hz => ?_).trans (List.map_id _)
  have := (hR.2.2 x hx z hz).1
  simp; omega
 have eap : ((ints W).map (Value.int .i64)) ++ ((tgtD (termAt l x)).map (Value.int .i64)) = (ints (W ++ succN l x)).map (Value.int .i64) := by
  rw [← List.map_append]; congr 1; unfold ints; rw [List.map_append]; congr 1; exact esi.symm
 have elen : W.length + (tgtD (termAt l x)).length = (W ++ succN l x).length := by rw [List.length_append, esu, List.length_map]
 refine ⟨by rw [← elen, ← eap]; exact ho, ?_, ?_⟩
 ·rw [← elen]; omega
 ·rw [← elen]; omega
set_option maxRecDepth 100000 in
set_option maxHeartbeats 8000000 in
theorem reachS (lo : Nat) (d : FuncD) (u0 : Option Addr) (c0 : Nat) (u2 : Option Addr) (c2 : Nat) (wo : Option Nat) (w : World) (hR : RightL d.blocks) (k2 : BlocksAt w lo u2 d.blocks) :
  Calls Tryz.prog 97 #[.agg #[.slice u0 d.params.length c0, .int .i64 d.ret, .slice u2 d.blocks.length c2], .int .i64 (woI wo)] w fun e w' => (∃ (O : List Nat) (b off c : Nat), e = .returned (.slice (some ⟨b, off, none⟩) O.length c) ∧ IntsAt w' w.heap.size (some ⟨b, off, none⟩) (ints O) ∧ (∀ x, x ∈ O ↔ Rch (succN d.blocks) wo x) ∧ O.Pairwise (· < ·) ∧ O.length ≤ 10) ∧ Below w.heap.size w w' := by
 have h10 := hR.2.1
 have h1 := hR.1
 have HS : Hid (∀ a, ∀ s ∈ succN d.blocks a, s < d.blocks.length) := right_lt hR
 have HR : Hid (RightL d.blocks) := hR
 have HK : Hid (BlocksAt w lo u2 d.blocks) := k2
 obtain ⟨i0, hi, hz0, hz1, hz2⟩ := info_parts infoI
 have HI : Hid (Tryz.prog.info? 2 = some i0) := hi
 have HZ0 : Hid (i0.zero = some (Value.int .i64 0)) := hz0
 have HZ1 : Hid (i0.size = 1) := hz1
 have HZ2 : Hid (i0.bytes = 8) := hz2
 clear hi hz0 hz1 hz2 hR k2
 by_cases hw0 : wo = some 0
 ·subst hw0
  have e : woI (some 0) = 0 := rfl
  rw [e]
  go_enter Tryz.func97, Tryz.ntmps97
  go_wp2_with fail
  go_ret
  refine ⟨⟨[], _, _, _, rfl, ⟨by simp [ints], .inl rfl⟩, fun x => ⟨fun h => by simp at h, fun h => ?_⟩, by simp, by simp⟩, ((Below.refl _ _).alloc (Nat.le_refl _) _).alloc (by simp) _⟩
  exact (h (fun _ => False) (fun h => h rfl) fun _ h _ _ _ => h).elim
 have hwz : ¬ woI wo = 0 := by
  cases wo with
  | none => decide
  | some a => intro h; apply hw0; simp only [woI] at h; congr 1; omega
 have HWO : Hid (∀ x : Nat, woI wo = x ↔ wo = some x) := fun x => by
  cases wo with
  | none =>
   simp only [woI]
   constructor
   ·intro h; omega
   ·intro h; cases h
  | some a =>
   simp only [woI]
   constructor
   ·intro h; congr 1; omega
   ·intro h; cases h; rfl
 generalize woI wo = wi at hwz HWO
 clear hw0
 go_enter Tryz.func97, Tryz.ntmps97
 go_wp2_with fail
 have hb0 : (wi == 0) = false := by simpa using hwz
 rw [hb0]
 clear hb0
 go_loopg [5, 6] (3 * d.blocks.length + 1) (fun gk out work wr => ∃ (O W : List Nat) (bo oo co : Nat), out = .slice (some ⟨bo, oo, none⟩) O.length co ∧ O.length ≤ co ∧ IntsAt wr w.heap.size (some ⟨bo, oo, none⟩) (ints O) ∧ wr.ownsRow w.heap.size 2 1 work W.length ((ints W).map (Value.int .i64)) ∧ Bfs (succN d.blocks) wo d.blocks.length W O ∧ 3 * un d.blocks.length O + W.length ≤ gk ∧ 3 * un d.blocks.length O + W.length ≤ 31 ∧ Below (w.heap.size + 1) (w.alloc (.cells #[.slice u0 d.params.length c0, .int .i64 d.ret, .slice u2 d.blocks.length c2] 36)) wr)
 case atStart =>
  refine ⟨[], [0], w.heap.size + 1, 0, 0, rfl, by simp, ⟨by simp [ints], .inl rfl⟩, ?_, Bfs.start (by omega), by simp [un_nil], by simp [un_nil]; omega, ((Below.refl _ _).alloc (by simp) _).alloc (by simp) _⟩
  exact ⟨rfl, .inr ⟨w.heap.size + 1 + 1, 1, #[.int .i64 0], rfl, by omega, by have h := heap_alloc_last ((w.alloc (.cells #[.slice u0 d.params.length c0, .int .i64 d.ret, .slice u2 d.blocks.length c2] 36)).alloc (.cells #[] 2)) (.cells #[.int .i64 0] 2); have hz : ((w.alloc (.cells #[.slice u0 d.params.length c0, .int .i64 d.ret, .slice u2 d.blocks.length c2] 36)).alloc (.cells #[] 2)).heap.size = w.heap.size + 1 + 1 := (by simp); rw [hz] at h; exact h, by simp, by decide, rfl, rfl⟩⟩
 case round =>
  obtain ⟨O, W, bo, oo, co, rfl, hco, hO, hWk, hF, hM, hM2, hB⟩ := hrel
  obtain ⟨p1, p2, p3⟩ := box3 hB
  have HOi : Hid (IntsAt wr w.heap.size (some ⟨bo, oo, none⟩) (ints O)) := hO
  have HF : Hid (Bfs (succN d.blocks) wo d.blocks.length W O) := hF
  have HM : Hid (3 * un d.blocks.length O + W.length ≤ gk) := hM
  have HM2 : Hid (3 * un d.blocks.length O + W.length ≤ 31) := hM2
  have HB : Hid (Below (w.heap.size + 1) (w.alloc (.cells #[.slice u0 d.params.length c0, .int .i64 d.ret, .slice u2 d.blocks.length c2] 36)) wr) := hB
  have HBz : Hid (w.heap.size + 1 ≤ wr.heap.size) := (by have := hB.size; simp at this; exact this)
  have hOl : O.length ≤ 10 := by have := hF.cnt; omega
  have hWl : W.length ≤ 31 := by omega
  cases W with
  | nil =>
   obtain ⟨wa, wc, rfl⟩ := own_slice hWk
   clear hO hF hM hM2 hB hWk
   go_wp2_with fail
   go_ret
   exact ⟨⟨O, bo, oo, co, rfl, HOi.out, fun x => HF.out.done x, HF.out.rise, hOl⟩, below_box HB.out⟩
  | cons x W =>
   have hWk' := hWk
   rw [show (x :: W).length = (ints (x :: W)).length from (ints_len _).symm] at hWk'
   obtain ⟨g, c, rfl, hgc, hgl, hWi⟩ := row_ints (by rw [ints_len]; omega) hWk' (by rw [ints_len]; simp)
   rw [ints_len, List.length_cons] at hgc ⊢
   rw [List.length_cons] at hWl
   have e0 := hd_cell hWi
   have HWi : Hid (IntsAt wr w.heap.size (some ⟨g, 0, none⟩) (ints (x :: W))) := hWi
   clear hO hF hM hM2 hB hWk hWk' hWi hwz
   by_cases hc1 : 1 < c
   ·by_cases hwx : (x : Int) = wi
    ·have HWX : Hid (wo = some x) := (HWO.out x).1 hwx.symm
     go_wp2_with (first | (go_at_call 131; refine (copyN w.heap.size _ _ _ W _ (by omega) (by omega) (by exact tail_at HWi.out) (by simp)).mono ?_; rintro e w1 ⟨v1, rfl, ho1, hb1⟩; obtain ⟨ua, uc, hua⟩ := own_slice ho1; subst hua; have HO1 : Hid (w1.ownsRow wr.heap.size 2 1 (.slice ua W.length uc) W.length ((ints W).map (Value.int .i64))) := ho1; have Hb1 : Hid (Below wr.heap.size wr w1) := hb1; have HB1 : Hid (Below (w.heap.size + 1) (w.alloc (.cells #[.slice u0 d.params.length c0, .int .i64 d.ret, .slice u2 d.blocks.length c2] 36)) w1) := box_next HB.out hb1; have HOi1 : Hid (IntsAt w1 w.heap.size (some ⟨bo, oo, none⟩) (ints O)) := HOi.out.keep (agree_of_below hb1 _); obtain ⟨r1, r2, r3⟩ := box3 HB1.out; clear ho1 hb1))
     go_roundg (gk - 1)
     case measure => have := HM.out; simp at this; omega
     case rel => exact ⟨O, W, bo, oo, co, rfl, hco, HOi1.out, ownsRow_low HO1.out (below_box HB.out).size, HF.out.skip (.inl HWX.out), by have := HM.out; simp at this ⊢; omega, by have := HM2.out; simp at this ⊢; omega, HB1.out⟩
    have HNW : Hid (wo ≠ some x) := fun h => hwx ((HWO.out x).2 h).symm
    by_cases hin : x ∈ O
    ·have HIN : Hid (x ∈ O) := hin
     have HXO : Hid (decide (x ∈ O) = true) := decide_eq_true hin
     clear hin
     go_wp2_with (first | (go_at_call 131; refine (copyN w.heap.size _ _ _ W _ (by omega) (by omega) (by exact tail_at HWi.out) (by simp)).mono ?_; rintro e w1 ⟨v1, rfl, ho1, hb1⟩; obtain ⟨ua, uc, hua⟩ := own_slice ho1; subst hua; have HO1 : Hid (w1.ownsRow wr.heap.size 2 1 (.slice ua W.length uc) W.length ((ints W).map (Value.int .i64))) := ho1; have Hb1 : Hid (Below wr.heap.size wr w1) := hb1; have HB1 : Hid (Below (w.heap.size + 1) (w.alloc (.cells #[.slice u0 d.params.length c0, .int .i64 d.ret, .slice u2 d.blocks.length c2] 36)) w1) := box_next HB.out hb1; have HOi1 : Hid (IntsAt w1 w.heap.size (some ⟨bo, oo, none⟩) (ints O)) := HOi.out.keep (agree_of_below hb1 _); obtain ⟨r1, r2, r3⟩ := box3 HB1.out; clear ho1 hb1) | (go_at_call 93; refine (hasN w.heap.size _ _ O x _ (by omega) HOi1.out).mono ?_; rintro e w2 ⟨rfl, hb2⟩; rw [HXO.out]; have HO2 : Hid (w2.ownsRow wr.heap.size 2 1 (.slice ua W.length uc) W.length ((ints W).map (Value.int .i64))) := ownsRow_block HO1.out (fun _ _ h => hb2.block _ h); have HB2 : Hid (Below (w.heap.size + 1) (w.alloc (.cells #[.slice u0 d.params.length c0, .int .i64 d.ret, .slice u2 d.blocks.length c2] 36)) w2) := box_next HB1.out hb2; have HOi2 : Hid (IntsAt w2 w.heap.size (some ⟨bo, oo, none⟩) (ints O)) := HOi1.out.keep (agree_of_below hb2 _); have hz2 : w1.heap.size ≤ w2.heap.size := hb2.size; clear r1 r2 r3; obtain ⟨r1, r2, r3⟩ := box3 HB2.out; clear hb2))
     go_roundg (gk - 1)
     case measure => have := HM.out; simp at this; omega
     case rel => exact ⟨O, W, bo, oo, co, rfl, hco, HOi2.out, ownsRow_low HO2.out (below_box HB.out).size, HF.out.skip (.inr HIN.out), by have := HM.out; simp at this ⊢; omega, by have := HM2.out; simp at this ⊢; omega, HB2.out⟩
    ·have HNI : Hid (x ∉ O) := hin
     have HXO : Hid (decide (x ∈ O) = false) := decide_eq_false hin
     clear hin
     go_wp2_with (first | (go_at_call 131; refine (copyN w.heap.size _ _ _ W _ (by omega) (by omega) (by exact tail_at HWi.out) (by simp)).mono ?_; rintro e w1 ⟨v1, rfl, ho1, hb1⟩; obtain ⟨ua, uc, hua⟩ := own_slice ho1; subst hua; have HO1 : Hid (w1.ownsRow wr.heap.size 2 1 (.slice ua W.length uc) W.length ((ints W).map (Value.int .i64))) := ho1; have Hb1 : Hid (Below wr.heap.size wr w1) := hb1; have HB1 : Hid (Below (w.heap.size + 1) (w.alloc (.cells #[.slice u0 d.params.length c0, .int .i64 d.ret, .slice u2 d.blocks.length c2] 36)) w1) := box_next HB.out hb1; have HOi1 : Hid (IntsAt w1 w.heap.size (some ⟨bo, oo, none⟩) (ints O)) := HOi.out.keep (agree_of_below hb1 _); obtain ⟨r1, r2, r3⟩ := box3 HB1.out; clear ho1 hb1) | (go_at_call 93; refine (hasN w.heap.size _ _ O x _ (by omega) HOi1.out).mono ?_; rintro e w2 ⟨rfl, hb2⟩; rw [HXO.out]; have HO2 : Hid (w2.ownsRow wr.heap.size 2 1 (.slice ua W.length uc) W.length ((ints W).map (Value.int .i64))) := ownsRow_block HO1.out (fun _ _ h => hb2.block _ h); have HB2 : Hid (Below (w.heap.size + 1) (w.alloc (.cells #[.slice u0 d.params.length c0, .int .i64 d.ret, .slice u2 d.blocks.length c2] 36)) w2) := box_next HB1.out hb2; have HOi2 : Hid (IntsAt w2 w.heap.size (some ⟨bo, oo, none⟩) (ints O)) := HOi1.out.keep (agree_of_below hb2 _); have hz2 : w1.heap.size ≤ w2.heap.size := hb2.size; clear r1 r2 r3; obtain ⟨r1, r2, r3⟩ := box3 HB2.out; clear hb2) | (go_at_call 132; refine (putN w.heap.size bo oo co O x _ (below_box HB2.out).size (by omega) hco HOi2.out).mono ?_; rintro e w3 ⟨⟨b3, o3, c3, rfl, hc3, hs3, hi3⟩, hb3⟩; have HO3 : Hid (w3.ownsRow wr.heap.size 2 1 (.slice ua W.length uc) W.length ((ints W).map (Value.int .i64))) := ownsRow_block HO2.out (fun _ _ h => hb3.block _ h); have HB3 : Hid (Below (w.heap.size + 1) (w.alloc (.cells #[.slice u0 d.params.length c0, .int .i64 d.ret, .slice u2 d.blocks.length c2] 36)) w3) := box_next HB2.out hb3; have HOi3 : Hid (IntsAt w3 w.heap.size (some ⟨b3, o3, none⟩) (ints (insN O x))) := hi3; have HS3 : Hid ((b3 = bo ∧ 0 < O.length) ∨ w2.heap.size ≤ b3) := hs3; have HC3 : Hid ((insN O x).length ≤ c3) := hc3; have hz3 : w2.heap.size ≤ w3.heap.size := hb3.size; clear r1 r2 r3; obtain ⟨r1, r2, r3⟩ := box3 HB3.out; clear hb3 hi3 hs3 hc3) | (go_at_call 94; refine (succsS lo d.blocks _ _ _ _ _ _ x _ (HK.out.keep (agree_of_below (below_box HB3.out) _)) (HF.out.low x (List.mem_cons_self ..))).mono ?_; rintro e w4 ⟨⟨g4, c4, rfl, hu4⟩, hb4⟩; have HO4 : Hid (w4.ownsRow wr.heap.size 2 1 (.slice ua W.length uc) W.length ((ints W).map (Value.int .i64))) := ownsRow_block HO3.out (fun _ _ h => hb4.block _ h); have HB4 : Hid (Below (w.heap.size + 1) (w.alloc (.cells #[.slice u0 d.params.length c0, .int .i64 d.ret, .slice u2 d.blocks.length c2] 36)) w4) := box_next HB3.out hb4; have HOi4 : Hid (IntsAt w4 w.heap.size (some ⟨b3, o3, none⟩) (ints (insN O x))) := HOi3.out.keep (agree_of_below hb4 _); have HU4 : Hid (IntsAt w4 w3.heap.size (some ⟨g4, 0, none⟩) (tgtD (termAt d.blocks x))) := hu4; have htl : (tgtD (termAt d.blocks x)).length ≤ 2 := tgt_len _; have hz4 : wr.heap.size ≤ w4.heap.size := (by have h1 := Hb1.out.size; have h5 := hb4.size; omega); clear hb4 hu4) | (at_builtin; refine wpList_append_own _ rfl _ _ 33 rfl wr.heap.size 2 i0 (.int .i64 0) 1 8 Tryz.underlying33 HI.out HZ0.out HZ1.out HZ2.out rfl (by decide) (.slice ua W.length uc) W.length ((ints W).map (Value.int .i64)) rfl (by exact HO4.out) ⟨g4, 0, none⟩ (tgtD (termAt d.blocks x)).length c4 ((tgtD (termAt d.blocks x)).map (Value.int .i64)) rfl (by simp) (by have h := src_cells HU4.out (w' := w4) (fun _ _ => rfl) 0 (tgtD (termAt d.blocks x)).length; rw [List.drop_zero, List.take_length] at h; exact h) (ints_one _) (by unfold maxLen; omega) (by omega) (by exact hz4) ?_; intro v5 w5 ho5 hg5 _; have HO5 : Hid _ := ho5; have HG5 : Hid _ := hg5; clear ho5 hg5))
     go_roundg (gk - 1)
     case measure => have := HM.out; simp at this; omega
     case rel =>
      obtain ⟨q1, q2⟩ := reach_go HR.out HF.out HO5.out HNI.out (by have := HM.out; simpa using this) (by have := HM2.out; simpa using this)
      refine ⟨insN O x, W ++ succN d.blocks x, b3, o3, c3, rfl, HC3.out, ints_grown HOi4.out HG5.out (fun e => ?_), ownsRow_low q1 (below_box HB.out).size, HF.out.go HS.out HNW.out HNI.out, q2.1, q2.2, HB4.out.grown HG5.out (by have := HBz.out; omega) (fun q hq => by have := (own_ge HO4.out hq).1; have := HBz.out; omega)⟩
      have h6 := own_ge HO1.out e
      rcases HS3.out with ⟨rfl, h7⟩ | h7
      ·rcases HOi.out.2 with h | ⟨_, _, p1, _, p2, _⟩
       ·have := congrArg List.length h; rw [ints_len, List.length_nil] at this; omega
       ·cases p1; omega
      ·omega
   ·have HW0 : Hid (W = []) := List.length_eq_zero_iff.1 (by omega)
    by_cases hwx : (x : Int) = wi
    ·have HWX : Hid (wo = some x) := (HWO.out x).1 hwx.symm
     go_wp2_with (first | (go_at_call 131; refine (copyN w.heap.size _ _ _ W _ (by omega) (by omega) (by have h0 : W = [] := HW0.out; rw [h0]; exact ⟨by simp [ints], .inl rfl⟩) (by first | (split <;> simp) | simp)).mono ?_; rintro e w1 ⟨v1, rfl, ho1, hb1⟩; obtain ⟨ua, uc, hua⟩ := own_slice ho1; subst hua; have HO1 : Hid (w1.ownsRow wr.heap.size 2 1 (.slice ua W.length uc) W.length ((ints W).map (Value.int .i64))) := ho1; have Hb1 : Hid (Below wr.heap.size wr w1) := hb1; have HB1 : Hid (Below (w.heap.size + 1) (w.alloc (.cells #[.slice u0 d.params.length c0, .int .i64 d.ret, .slice u2 d.blocks.length c2] 36)) w1) := box_next HB.out hb1; have HOi1 : Hid (IntsAt w1 w.heap.size (some ⟨bo, oo, none⟩) (ints O)) := HOi.out.keep (agree_of_below hb1 _); obtain ⟨r1, r2, r3⟩ := box3 HB1.out; clear ho1 hb1))
     go_roundg (gk - 1)
     case measure => have := HM.out; simp at this; omega
     case rel => exact ⟨O, W, bo, oo, co, rfl, hco, HOi1.out, ownsRow_low HO1.out (below_box HB.out).size, HF.out.skip (.inl HWX.out), by have := HM.out; simp at this ⊢; omega, by have := HM2.out; simp at this ⊢; omega, HB1.out⟩
    have HNW : Hid (wo ≠ some x) := fun h => hwx ((HWO.out x).2 h).symm
    by_cases hin : x ∈ O
    ·have HIN : Hid (x ∈ O) := hin
     have HXO : Hid (decide (x ∈ O) = true) := decide_eq_true hin
     clear hin
     go_wp2_with (first | (go_at_call 131; refine (copyN w.heap.size _ _ _ W _ (by omega) (by omega) (by have h0 : W = [] := HW0.out; rw [h0]; exact ⟨by simp [ints], .inl rfl⟩) (by first | (split <;> simp) | simp)).mono ?_; rintro e w1 ⟨v1, rfl, ho1, hb1⟩; obtain ⟨ua, uc, hua⟩ := own_slice ho1; subst hua; have HO1 : Hid (w1.ownsRow wr.heap.size 2 1 (.slice ua W.length uc) W.length ((ints W).map (Value.int .i64))) := ho1; have Hb1 : Hid (Below wr.heap.size wr w1) := hb1; have HB1 : Hid (Below (w.heap.size + 1) (w.alloc (.cells #[.slice u0 d.params.length c0, .int .i64 d.ret, .slice u2 d.blocks.length c2] 36)) w1) := box_next HB.out hb1; have HOi1 : Hid (IntsAt w1 w.heap.size (some ⟨bo, oo, none⟩) (ints O)) := HOi.out.keep (agree_of_below hb1 _); obtain ⟨r1, r2, r3⟩ := box3 HB1.out; clear ho1 hb1) | (go_at_call 93; refine (hasN w.heap.size _ _ O x _ (by omega) HOi1.out).mono ?_; rintro e w2 ⟨rfl, hb2⟩; rw [HXO.out]; have HO2 : Hid (w2.ownsRow wr.heap.size 2 1 (.slice ua W.length uc) W.length ((ints W).map (Value.int .i64))) := ownsRow_block HO1.out (fun _ _ h => hb2.block _ h); have HB2 : Hid (Below (w.heap.size + 1) (w.alloc (.cells #[.slice u0 d.params.length c0, .int .i64 d.ret, .slice u2 d.blocks.length c2] 36)) w2) := box_next HB1.out hb2; have HOi2 : Hid (IntsAt w2 w.heap.size (some ⟨bo, oo, none⟩) (ints O)) := HOi1.out.keep (agree_of_below hb2 _); have hz2 : w1.heap.size ≤ w2.heap.size := hb2.size; clear r1 r2 r3; obtain ⟨r1, r2, r3⟩ := box3 HB2.out; clear hb2))
     go_roundg (gk - 1)
     case measure => have := HM.out; simp at this; omega
     case rel => exact ⟨O, W, bo, oo, co, rfl, hco, HOi2.out, ownsRow_low HO2.out (below_box HB.out).size, HF.out.skip (.inr HIN.out), by have := HM.out; simp at this ⊢; omega, by have := HM2.out; simp at this ⊢; omega, HB2.out⟩
    ·have HNI : Hid (x ∉ O) := hin
     have HXO : Hid (decide (x ∈ O) = false) := decide_eq_false hin
     clear hin
     go_wp2_with (first | (go_at_call 131; refine (copyN w.heap.size _ _ _ W _ (by omega) (by omega) (by have h0 : W = [] := HW0.out; rw [h0]; exact ⟨by simp [ints], .inl rfl⟩) (by first | (split <;> simp) | simp)).mono ?_; rintro e w1 ⟨v1, rfl, ho1, hb1⟩; obtain ⟨ua, uc, hua⟩ := own_slice ho1; subst hua; have HO1 : Hid (w1.ownsRow wr.heap.size 2 1 (.slice ua W.length uc) W.length ((ints W).map (Value.int .i64))) := ho1; have Hb1 : Hid (Below wr.heap.size wr w1) := hb1; have HB1 : Hid (Below (w.heap.size + 1) (w.alloc (.cells #[.slice u0 d.params.length c0, .int .i64 d.ret, .slice u2 d.blocks.length c2] 36)) w1) := box_next HB.out hb1; have HOi1 : Hid (IntsAt w1 w.heap.size (some ⟨bo, oo, none⟩) (ints O)) := HOi.out.keep (agree_of_below hb1 _); obtain ⟨r1, r2, r3⟩ := box3 HB1.out; clear ho1 hb1) | (go_at_call 93; refine (hasN w.heap.size _ _ O x _ (by omega) HOi1.out).mono ?_; rintro e w2 ⟨rfl, hb2⟩; rw [HXO.out]; have HO2 : Hid (w2.ownsRow wr.heap.size 2 1 (.slice ua W.length uc) W.length ((ints W).map (Value.int .i64))) := ownsRow_block HO1.out (fun _ _ h => hb2.block _ h); have HB2 : Hid (Below (w.heap.size + 1) (w.alloc (.cells #[.slice u0 d.params.length c0, .int .i64 d.ret, .slice u2 d.blocks.length c2] 36)) w2) := box_next HB1.out hb2; have HOi2 : Hid (IntsAt w2 w.heap.size (some ⟨bo, oo, none⟩) (ints O)) := HOi1.out.keep (agree_of_below hb2 _); have hz2 : w1.heap.size ≤ w2.heap.size := hb2.size; clear r1 r2 r3; obtain ⟨r1, r2, r3⟩ := box3 HB2.out; clear hb2) | (go_at_call 132; refine (putN w.heap.size bo oo co O x _ (below_box HB2.out).size (by omega) hco HOi2.out).mono ?_; rintro e w3 ⟨⟨b3, o3, c3, rfl, hc3, hs3, hi3⟩, hb3⟩; have HO3 : Hid (w3.ownsRow wr.heap.size 2 1 (.slice ua W.length uc) W.length ((ints W).map (Value.int .i64))) := ownsRow_block HO2.out (fun _ _ h => hb3.block _ h); have HB3 : Hid (Below (w.heap.size + 1) (w.alloc (.cells #[.slice u0 d.params.length c0, .int .i64 d.ret, .slice u2 d.blocks.length c2] 36)) w3) := box_next HB2.out hb3; have HOi3 : Hid (IntsAt w3 w.heap.size (some ⟨b3, o3, none⟩) (ints (insN O x))) := hi3; have HS3 : Hid ((b3 = bo ∧ 0 < O.length) ∨ w2.heap.size ≤ b3) := hs3; have HC3 : Hid ((insN O x).length ≤ c3) := hc3; have hz3 : w2.heap.size ≤ w3.heap.size := hb3.size; clear r1 r2 r3; obtain ⟨r1, r2, r3⟩ := box3 HB3.out; clear hb3 hi3 hs3 hc3) | (go_at_call 94; refine (succsS lo d.blocks _ _ _ _ _ _ x _ (HK.out.keep (agree_of_below (below_box HB3.out) _)) (HF.out.low x (List.mem_cons_self ..))).mono ?_; rintro e w4 ⟨⟨g4, c4, rfl, hu4⟩, hb4⟩; have HO4 : Hid (w4.ownsRow wr.heap.size 2 1 (.slice ua W.length uc) W.length ((ints W).map (Value.int .i64))) := ownsRow_block HO3.out (fun _ _ h => hb4.block _ h); have HB4 : Hid (Below (w.heap.size + 1) (w.alloc (.cells #[.slice u0 d.params.length c0, .int .i64 d.ret, .slice u2 d.blocks.length c2] 36)) w4) := box_next HB3.out hb4; have HOi4 : Hid (IntsAt w4 w.heap.size (some ⟨b3, o3, none⟩) (ints (insN O x))) := HOi3.out.keep (agree_of_below hb4 _); have HU4 : Hid (IntsAt w4 w3.heap.size (some ⟨g4, 0, none⟩) (tgtD (termAt d.blocks x))) := hu4; have htl : (tgtD (termAt d.blocks x)).length ≤ 2 := tgt_len _; have hz4 : wr.heap.size ≤ w4.heap.size := (by have h1 := Hb1.out.size; have h5 := hb4.size; omega); clear hb4 hu4) | (at_builtin; refine wpList_append_own _ rfl _ _ 33 rfl wr.heap.size 2 i0 (.int .i64 0) 1 8 Tryz.underlying33 HI.out HZ0.out HZ1.out HZ2.out rfl (by decide) (.slice ua W.length uc) W.length ((ints W).map (Value.int .i64)) rfl (by exact HO4.out) ⟨g4, 0, none⟩ (tgtD (termAt d.blocks x)).length c4 ((tgtD (termAt d.blocks x)).map (Value.int .i64)) rfl (by simp) (by have h := src_cells HU4.out (w' := w4) (fun _ _ => rfl) 0 (tgtD (termAt d.blocks x)).length; rw [List.drop_zero, List.take_length] at h; exact h) (ints_one _) (by unfold maxLen; omega) (by omega) (by exact hz4) ?_; intro v5 w5 ho5 hg5 _; have HO5 : Hid _ := ho5; have HG5 : Hid _ := hg5; clear ho5 hg5))
     go_roundg (gk - 1)
     case measure => have := HM.out; simp at this; omega
     case rel =>
      obtain ⟨q1, q2⟩ := reach_go HR.out HF.out HO5.out HNI.out (by have := HM.out; simpa using this) (by have := HM2.out; simpa using this)
      refine ⟨insN O x, W ++ succN d.blocks x, b3, o3, c3, rfl, HC3.out, ints_grown HOi4.out HG5.out (fun e => ?_), ownsRow_low q1 (below_box HB.out).size, HF.out.go HS.out HNW.out HNI.out, q2.1, q2.2, HB4.out.grown HG5.out (by have := HBz.out; omega) (fun q hq => by have := (own_ge HO4.out hq).1; have := HBz.out; omega)⟩
      have h6 := own_ge HO1.out e
      rcases HS3.out with ⟨rfl, h7⟩ | h7
      ·rcases HOi.out.2 with h | ⟨_, _, p1, _, p2, _⟩
       ·have := congrArg List.length h; rw [ints_len, List.length_nil] at this; omega
       ·cases p1; omega
      ·omega
end Go.Proofs.YtgojlnclpebdcaaGreatDoor
namespace Go.Proofs.YtgojlnclpebdcaaGreatDoor
open Go.RowKit
set_option maxRecDepth 100000 in
set_option maxHeartbeats 4000000 in
theorem domS (lo : Nat) (d : FuncD) (u0 : Option Addr) (c0 : Nat) (u2 : Option Addr) (c2 : Nat) (a b : Nat) (w : World) (hR : RightL d.blocks) (k2 : BlocksAt w lo u2 d.blocks) :
  Calls Tryz.prog 133 #[.agg #[.slice u0 d.params.length c0, .int .i64 d.ret, .slice u2 d.blocks.length c2], .int .i64 (a : Int), .int .i64 (b : Int)] w fun e w' => (∃ v, e = .returned (.bool v) ∧ (v = true ↔ Dom (succN d.blocks) a b)) ∧ Below w.heap.size w w' := by
 have HR : Hid (RightL d.blocks) := hR
 have HK : Hid (BlocksAt w lo u2 d.blocks) := k2
 clear hR k2
 by_cases hB : Rch (succN d.blocks) none b
 ·have HBR : Hid (Rch (succN d.blocks) none b) := hB
  clear hB
  by_cases hA : Rch (succN d.blocks) (some a) b
  ·have HAR : Hid (Rch (succN d.blocks) (some a) b) := hA
   clear hA
   go_enter Tryz.func133, Tryz.ntmps133
   go_wp2_with (first | (go_at_call 97; refine (reachS lo d _ _ _ _ (some a) _ HR.out (HK.out.keep (agree_of_below (below_box HX2.out) _))).mono ?_; rintro e w3 ⟨⟨O3, b3, f3, c3, rfl, hi3, hm3, _, hl3⟩, hb3⟩; have HI3 : Hid (IntsAt w3 w2.heap.size (some ⟨b3, f3, none⟩) (ints O3)) := hi3; have HM3 : Hid (∀ x, x ∈ O3 ↔ Rch (succN d.blocks) (some a) x) := hm3; have HX3 : Hid (Below (w.heap.size + 1) (w.alloc (.cells #[.slice u0 d.params.length c0, .int .i64 d.ret, .slice u2 d.blocks.length c2] 36)) w3) := box_next HX2.out hb3; clear hi3 hm3 hb3) | (go_at_call 97; refine (reachS lo d _ _ _ _ none _ HR.out (HK.out.keep (agree_alloc _ _ _))).mono ?_; rintro e w1 ⟨⟨O1, b1, f1, c1, rfl, hi1, hm1, _, hl1⟩, hb1⟩; have HI1 : Hid (IntsAt w1 (w.alloc (.cells #[.slice u0 d.params.length c0, .int .i64 d.ret, .slice u2 d.blocks.length c2] 36)).heap.size (some ⟨b1, f1, none⟩) (ints O1)) := hi1; have HM1 : Hid (∀ x, x ∈ O1 ↔ Rch (succN d.blocks) none x) := hm1; have HX1 : Hid (Below (w.heap.size + 1) (w.alloc (.cells #[.slice u0 d.params.length c0, .int .i64 d.ret, .slice u2 d.blocks.length c2] 36)) w1) := box_first hb1; clear hi1 hm1 hb1) | (go_at_call 93; refine (hasN _ _ _ O3 b _ (by omega) HI3.out).mono ?_; rintro e w4 ⟨rfl, hb4⟩; rw [decide_eq_true ((HM3.out b).2 HAR.out)]; have HX4 : Hid (Below (w.heap.size + 1) (w.alloc (.cells #[.slice u0 d.params.length c0, .int .i64 d.ret, .slice u2 d.blocks.length c2] 36)) w4) := box_next HX3.out hb4; clear hb4) | (go_at_call 93; refine (hasN _ _ _ O1 b _ (by omega) HI1.out).mono ?_; rintro e w2 ⟨rfl, hb2⟩; rw [decide_eq_true ((HM1.out b).2 HBR.out)]; have HX2 : Hid (Below (w.heap.size + 1) (w.alloc (.cells #[.slice u0 d.params.length c0, .int .i64 d.ret, .slice u2 d.blocks.length c2] 36)) w2) := box_next HX1.out hb2; obtain ⟨r1, r2, r3⟩ := box3 HX2.out; clear hb2))
   go_ret
   exact ⟨⟨_, rfl, ⟨fun h => (by cases h), fun h => absurd HAR.out h.2⟩⟩, below_box HX4.out⟩
  ·have HAR : Hid (¬ Rch (succN d.blocks) (some a) b) := hA
   clear hA
   go_enter Tryz.func133, Tryz.ntmps133
   go_wp2_with (first | (go_at_call 97; refine (reachS lo d _ _ _ _ (some a) _ HR.out (HK.out.keep (agree_of_below (below_box HX2.out) _))).mono ?_; rintro e w3 ⟨⟨O3, b3, f3, c3, rfl, hi3, hm3, _, hl3⟩, hb3⟩; have HI3 : Hid (IntsAt w3 w2.heap.size (some ⟨b3, f3, none⟩) (ints O3)) := hi3; have HM3 : Hid (∀ x, x ∈ O3 ↔ Rch (succN d.blocks) (some a) x) := hm3; have HX3 : Hid (Below (w.heap.size + 1) (w.alloc (.cells #[.slice u0 d.params.length c0, .int .i64 d.ret, .slice u2 d.blocks.length c2] 36)) w3) := box_next HX2.out hb3; clear hi3 hm3 hb3) | (go_at_call 97; refine (reachS lo d _ _ _ _ none _ HR.out (HK.out.keep (agree_alloc _ _ _))).mono ?_; rintro e w1 ⟨⟨O1, b1, f1, c1, rfl, hi1, hm1, _, hl1⟩, hb1⟩; have HI1 : Hid (IntsAt w1 (w.alloc (.cells #[.slice u0 d.params.length c0, .int .i64 d.ret, .slice u2 d.blocks.length c2] 36)).heap.size (some ⟨b1, f1, none⟩) (ints O1)) := hi1; have HM1 : Hid (∀ x, x ∈ O1 ↔ Rch (succN d.blocks) none x) := hm1; have HX1 : Hid (Below (w.heap.size + 1) (w.alloc (.cells #[.slice u0 d.params.length c0, .int .i64 d.ret, .slice u2 d.blocks.length c2] 36)) w1) := box_first hb1; clear hi1 hm1 hb1) | (go_at_call 93; refine (hasN _ _ _ O3 b _ (by omega) HI3.out).mono ?_; rintro e w4 ⟨rfl, hb4⟩; rw [decide_eq_false (fun h => HAR.out ((HM3.out b).1 h))]; have HX4 : Hid (Below (w.heap.size + 1) (w.alloc (.cells #[.slice u0 d.params.length c0, .int .i64 d.ret, .slice u2 d.blocks.length c2] 36)) w4) := box_next HX3.out hb4; clear hb4) | (go_at_call 93; refine (hasN _ _ _ O1 b _ (by omega) HI1.out).mono ?_; rintro e w2 ⟨rfl, hb2⟩; rw [decide_eq_true ((HM1.out b).2 HBR.out)]; have HX2 : Hid (Below (w.heap.size + 1) (w.alloc (.cells #[.slice u0 d.params.length c0, .int .i64 d.ret, .slice u2 d.blocks.length c2] 36)) w2) := box_next HX1.out hb2; obtain ⟨r1, r2, r3⟩ := box3 HX2.out; clear hb2))
   go_ret
   exact ⟨⟨_, rfl, ⟨fun _ => ⟨HBR.out, HAR.out⟩, fun _ => rfl⟩⟩, below_box HX4.out⟩
 ·have HBR : Hid (¬ Rch (succN d.blocks) none b) := hB
  clear hB
  go_enter Tryz.func133, Tryz.ntmps133
  go_wp2_with (first | (go_at_call 97; refine (reachS lo d _ _ _ _ none _ HR.out (HK.out.keep (agree_alloc _ _ _))).mono ?_; rintro e w1 ⟨⟨O1, b1, f1, c1, rfl, hi1, hm1, _, hl1⟩, hb1⟩; have HI1 : Hid (IntsAt w1 (w.alloc (.cells #[.slice u0 d.params.length c0, .int .i64 d.ret, .slice u2 d.blocks.length c2] 36)).heap.size (some ⟨b1, f1, none⟩) (ints O1)) := hi1; have HM1 : Hid (∀ x, x ∈ O1 ↔ Rch (succN d.blocks) none x) := hm1; have HX1 : Hid (Below (w.heap.size + 1) (w.alloc (.cells #[.slice u0 d.params.length c0, .int .i64 d.ret, .slice u2 d.blocks.length c2] 36)) w1) := box_first hb1; clear hi1 hm1 hb1) | (go_at_call 93; refine (hasN _ _ _ O1 b _ (by omega) HI1.out).mono ?_; rintro e w2 ⟨rfl, hb2⟩; rw [decide_eq_false (fun h => HBR.out ((HM1.out b).1 h))]; have HX2 : Hid (Below (w.heap.size + 1) (w.alloc (.cells #[.slice u0 d.params.length c0, .int .i64 d.ret, .slice u2 d.blocks.length c2] 36)) w2) := box_next HX1.out hb2; obtain ⟨r1, r2, r3⟩ := box3 HX2.out; clear hb2))
  go_ret
  exact ⟨⟨_, rfl, ⟨fun h => (by cases h), fun h => absurd h.1 HBR.out⟩⟩, below_box HX2.out⟩
end Go.Proofs.YtgojlnclpebdcaaGreatDoor
namespace Go.Proofs.YtgojlnclpebdcaaGreatDoor
open Go.RowKit
theorem dm_dom {S : Nat → List Nat} {n : Nat} (h1 : 0 < n) (hS : ∀ a, ∀ s ∈ S a, s < n) (a b : Nat) : dm S n (post S none n) (post S none n).length 0 a b = true ↔ Dom S a b := by
 have ht := post_told S none n h1 hS
 have ha := post_told S (some a) n h1 hS
 unfold dm
 rw [decide_eq_true_iff, List.take_length, ht.mem, ht.mem, ha.mem]
 constructor
 ·rintro (⟨_, h2, h3⟩ | ⟨h, _⟩)
  ·exact ⟨h2, h3⟩
  ·omega
 ·intro h; exact .inl ⟨h.reached, h.1, h.2⟩
end Go.Proofs.YtgojlnclpebdcaaGreatDoor
namespace Go.Proofs.YtgojlnclpebdcaaGreatDoor
open Go.RowKit
set_option linter.unusedVariables false
structure Sv (d : FuncD) (u0 : Option Addr) (c0 : Nat) (u2 : Option Addr) (c2 : Nat) (sv : Array Value) : Prop where
 size : sv.size = 103
 s0 : sv[0]? = some (.slice u0 d.params.length c0)
 s1 : sv[1]? = some (.int .i64 d.ret)
 s2 : sv[2]? = some (.slice u2 d.blocks.length c2)
 sF : ∀ a b, a < 10 → b < 10 → ∃ v, sv[3 + a * 10 + b]? = some (.bool v) ∧ (v = true ↔ Dom (succN d.blocks) a b)
 one : sv.all (·.oneCell') = true
theorem infoS : (Tryz.prog.info? 148).map (·.size) = some 103 := by kernel_rfl
set_option maxHeartbeats 4000000 in
set_option maxRecDepth 100000 in
theorem seesI (lo : Nat) (d : FuncD) (u0 : Option Addr) (c0 : Nat) (u2 : Option Addr) (c2 : Nat) (sv : Array Value) (id : Int) (b : Nat) (at' : Int) (w : World) (hs : SmFunc d) (k2 : BlocksAt w lo u2 d.blocks) (hR : RightL d.blocks) (hv : Sv d u0 c0 u2 c2 sv) (hi : id ≤ 9223372036854775807) (hb : b < 10) :
  Calls Tryz.prog 126 #[.agg sv, .int .i64 id, .int .i64 (b : Int), .int .i64 at'] w fun e w' => (∃ v, e = .returned (.bool v) ∧ (v = true ↔ Sees d id b at')) ∧ Below w.heap.size w w' := by
 have hh : (w.alloc (.cells sv 148)).heap[w.heap.size]? = some (.cells sv 148 (0, 0)) := heap_alloc_last _ _
 have a0 : (w.alloc (.cells sv 148)).cell? ⟨w.heap.size, 0, none⟩ = some (.slice u0 d.params.length c0) := (cell_of_heap hh).trans hv.s0
 have a1 : (w.alloc (.cells sv 148)).cell? ⟨w.heap.size, 1, none⟩ = some (.int .i64 d.ret) := (cell_of_heap hh).trans hv.s1
 have a2 : (w.alloc (.cells sv 148)).cell? ⟨w.heap.size, 2, none⟩ = some (.slice u2 d.blocks.length c2) := (cell_of_heap hh).trans hv.s2
 have hB : Below w.heap.size w (w.alloc (.cells sv 148)) := (Below.refl _ _).alloc (Nat.le_refl _) _
 have D := placeI_any lo d u0 c0 u2 c2 id _ hs (k2.keep (agree_of_below hB lo)) hi
 have HV : Hid (Sv d u0 c0 u2 c2 sv) := hv
 have s0 := hv.s0
 have s1 := hv.s1
 have s2 := hv.s2
 have hbl := hR.2.1
 clear hs k2 hv hi
 rcases place_cases d id with h | ⟨j, hj, h⟩ | ⟨k, j, hk, hj, h⟩
 ·rw [h] at D
  have E : Hid (¬ Sees d id b at') := by
   show ¬ _
   unfold Sees; rw [h]
   rintro (h1 | h1 | h1)
   ·simp at h1
   ·exact absurd h1.1 (by show ¬ ((-2 : Int) = b); omega)
   ·exact absurd h1.1 (by decide)
  clear hh
  go_enter Tryz.func126, Tryz.ntmps126
  go_wp2_with (go_at_call 18; refine D.mono ?_; rintro e w1 ⟨rfl, hb1⟩)
  go_ret
  exact ⟨⟨_, rfl, ⟨fun h => (by cases h), fun h => absurd h E.out⟩⟩, hB.trans (hb1.mono (by simp))⟩
 ·rw [h] at D
  have E : Hid (Sees d id b at') := by
   show _
   unfold Sees; rw [h]; exact .inl rfl
  clear hh
  go_enter Tryz.func126, Tryz.ntmps126
  go_wp2_with (go_at_call 18; refine D.mono ?_; rintro e w1 ⟨rfl, hb1⟩)
  go_ret
  exact ⟨⟨_, rfl, ⟨fun _ => E.out, fun _ => rfl⟩⟩, hB.trans (hb1.mono (by simp))⟩
 ·rw [h] at D
  simp only at D
  by_cases hkb : k = b
  ·subst hkb
   have E : Hid (decide ((j : Int) < at') = true ↔ Sees d id k at') := by
    show _ ↔ _
    unfold Sees; rw [h]
    rw [decide_eq_true_eq]
    constructor
    ·exact fun h => .inr (.inl ⟨rfl, h⟩)
    ·rintro (h1 | h1 | h1)
     ·omega
     ·exact h1.2
     ·exact absurd rfl h1.2.1
   clear hh
   go_enter Tryz.func126, Tryz.ntmps126
   go_wp2_with (go_at_call 18; refine D.mono ?_; rintro e w1 ⟨rfl, hb1⟩)
   go_ret
   exact ⟨⟨_, rfl, E.out⟩, hB.trans (hb1.mono (by simp))⟩
  ·have hkbi : ¬ (k : Int) = b := by omega
   have hk10 : k < 10 := by omega
   obtain ⟨v, hv1, hv2⟩ := HV.out.sF k b hk10 hb
   have af : (w.alloc (.cells sv 148)).cell? ⟨w.heap.size, 3 + k * 10 + b, none⟩ = some (.bool v) := (cell_of_heap hh).trans hv1
   have E : Hid (v = true ↔ Sees d id b at') := by
    show _ ↔ _
    rw [hv2]
    unfold Sees; rw [h]
    simp only [Int.toNat_natCast]
    constructor
    ·exact fun h => .inr (.inr ⟨by omega, hkbi, h⟩)
    ·rintro (h1 | h1 | h1)
     ·omega
     ·exact absurd h1.1 hkbi
     ·exact h1.2.2
   clear hh hv1 hv2
   go_enter Tryz.func126, Tryz.ntmps126
   go_wp2_with (go_at_call 18; refine D.mono ?_; rintro e w1 ⟨rfl, hb1⟩; have af1 := (bcell hb1 w.heap.size (3 + k * 10 + b) (by simp)).trans af)
   go_ret
   exact ⟨⟨_, rfl, E.out⟩, hB.trans (hb1.mono (by simp))⟩
set_option maxHeartbeats 4000000 in
theorem seesAllI (lo : Nat) (d : FuncD) (u0 : Option Addr) (c0 : Nat) (u2 : Option Addr) (c2 : Nat) (sv : Array Value) (ids : List Int) (ui : Option Addr) (ci : Nat) (b : Nat) (at' : Int) (w : World) (hs : SmFunc d) (k2 : BlocksAt w lo u2 d.blocks) (ki : IntsAt w lo ui ids) (hR : RightL d.blocks) (hv : Sv d u0 c0 u2 c2 sv) (hin : ∀ id ∈ ids, 0 ≤ id ∧ id < 1000000) (hl : ids.length ≤ 1048576) (hb : b < 10) :
  Calls Tryz.prog 123 #[.agg sv, .slice ui ids.length ci, .int .i64 (b : Int), .int .i64 at'] w fun e w' => (∃ v, e = .returned (.bool v) ∧ (v = true ↔ ∀ id ∈ ids, Sees d id b at')) ∧ Below w.heap.size w w' := by
 have HS : Hid (SmFunc d) := hs
 have HR : Hid (RightL d.blocks) := hR
 have HV : Hid (Sv d u0 c0 u2 c2 sv) := hv
 have HIN : Hid (∀ id ∈ ids, 0 ≤ id ∧ id < 1000000) := hin
 have hsz := hv.size
 clear hs hR hv hin
 go_enter Tryz.func123, Tryz.ntmps123
 go_wp2_with fail
 go_loopw [13] (fun i wr => ∃ k : Nat, k ≤ ids.length ∧ i = .int .i64 k ∧ Hid (∀ j, j < k → Sees d (ids.getD j 0) b at') ∧ Hid (Below (w.heap.size + 1) (w.alloc (.cells sv 148)) wr)) (fun i _ => ids.length - (intOf i).toNat)
 case atStart => exact ⟨0, by omega, rfl, fun j hj => by omega, Below.refl _ _⟩
 case round =>
  obtain ⟨k, hk, rfl, HD, HB⟩ := hrel
  obtain ⟨wo, hwo⟩ : ∃ wo, wo = wr := ⟨_, rfl⟩
  subst hwo
  have hW : Below w.heap.size w wo := below_box HB.out
  have hz : w.heap.size + 1 ≤ wo.heap.size := by have := HB.out.size; simp at this; omega
  by_cases hlt : k < ids.length
  ·rcases ki.2 with hn | ⟨ib, io, rfl, hilo, hib, hic⟩
   ·simp [hn] at hlt
   have z0 : wo.cell? ⟨ib, io + k, none⟩ = some (.int .i64 (ids.getD k 0)) := (bcell hW _ _ hib).trans (hic k hlt)
   have hid := HIN.out _ (getD_mem 0 ids k hlt)
   have D := seesI lo d u0 c0 u2 c2 sv (ids.getD k 0) b at' wo HS.out (k2.keep (agree_of_below hW lo)) HR.out HV.out (by omega) hb
   have HH : Hid (wo.heap[w.heap.size]? = some (.cells sv 148 (0, 0))) := (HB.out.block _ (by omega)).trans (heap_alloc_last _ _)
   have NO : Hid (¬ Sees d (ids.getD k 0) b at' → ¬ ∀ id ∈ ids, Sees d id b at') := fun h h2 => h (h2 _ (getD_mem 0 ids k hlt))
   have YS : Hid (Sees d (ids.getD k 0) b at' → ∀ j, j < k + 1 → Sees d (ids.getD j 0) b at') := fun h j hj => by
    by_cases e : j = k
    ·subst e; exact h
    ·exact HD.out j (by omega)
   have HW : Hid (Below w.heap.size w wo) := hW
   generalize ids.getD k 0 = id at z0 hid D NO YS
   clear hic HD hW
   by_cases hq : Sees d id b at'
   ·have HQ : Hid (Sees d id b at') := hq
    clear hq
    go_wp2_with (first | (refine wpList_load_row rfl 148 _ rfl w.heap.size rfl 148 sv (0, 0) _ HH.out Tryz.underlying148 rfl (by rw [infoS, hsz]) ?_) | (go_at_call 126; refine D.mono ?_; rintro e w2 ⟨⟨v, rfl, hq⟩, hb2⟩; have hv : v = true := hq.2 HQ.out; subst hv; clear hq))
    go_roundw
    case rel => exact ⟨k + 1, by omega, by go_num, YS.out HQ.out, HB.out.trans (hb2.mono hz)⟩
    case measure => simp [intOf]; omega
   ·have HQ : Hid (¬ Sees d id b at') := hq
    clear hq
    go_wp2_with (first | (refine wpList_load_row rfl 148 _ rfl w.heap.size rfl 148 sv (0, 0) _ HH.out Tryz.underlying148 rfl (by rw [infoS, hsz]) ?_) | (go_at_call 126; refine D.mono ?_; rintro e w2 ⟨⟨v, rfl, hq⟩, hb2⟩; have hv : v = false := (by cases v with | true => exact absurd (hq.1 rfl) HQ.out | false => rfl); subst hv; clear hq))
    go_ret
    exact ⟨⟨_, rfl, ⟨fun h => (by cases h), fun h => absurd h (NO.out HQ.out)⟩⟩, HW.out.trans (hb2.mono HW.out.size)⟩
  ·have E : Hid (∀ id ∈ ids, Sees d id b at') := fun id hid => by
    obtain ⟨j, hj, rfl⟩ := List.getElem_of_mem hid
    have := HD.out j (by omega)
    simpa [List.getD, hj] using this
   have HW : Hid (Below w.heap.size w wo) := hW
   clear hW HD
   go_wp2_with fail
   go_ret
   exact ⟨⟨_, rfl, ⟨fun _ => E.out, fun _ => rfl⟩⟩, HW.out⟩
end Go.Proofs.YtgojlnclpebdcaaGreatDoor
