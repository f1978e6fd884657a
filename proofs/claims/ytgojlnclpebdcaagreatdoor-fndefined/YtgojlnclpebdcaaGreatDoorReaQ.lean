import Derived.Test.YtgojlnclpebdcaaGreatDoorPutQ
import Derived.Test.YtgojlnclpebdcaaGreatDoorGrtQ
import Derived.Test.YtgojlnclpebdcaaGreatDoorMd3rQ
import Derived.Test.YtgojlnclpebdcaaGreatDoorObBQ
import Derived.Test.YtgojlnclpebdcaaGreatDoorMemQ
import Derived.Deep.QuietTactic
import Derived.BigQuiet
import Derived.Test.YtgojlnclpebdcaaGreatDoorChSQ
import Derived.Deep.RegionHeld2
namespace Go.Proofs.YtgojlnclpebdcaaGreatDoor
open Go.RowKit
def ReachR (l : List BlockD) (r : List Int) : Prop := (RightL l → ∃ O : List Nat, r = ints O ∧ (∀ x, x ∈ O ↔ Rch (succN l) none x) ∧ O.Pairwise (· < ·) ∧ O.length ≤ 10) ∧ (¬ RightL l → r = [])
theorem rise_unique : ∀ (a b : List Int), a.Pairwise (· < ·) → b.Pairwise (· < ·) → (∀ x, x ∈ a ↔ x ∈ b) → a = b
 | [], [], _, _, _ => rfl
 | [], y :: b, _, _, h => by have := (h y).2 (List.mem_cons_self ..); cases this
 | x :: a, [], _, _, h => by have := (h x).1 (List.mem_cons_self ..); cases this
 | x :: a, y :: b, ha, hb, h => by
  rw [List.pairwise_cons] at ha hb
  have e : x = y := by
   have h1 := (h x).1 (List.mem_cons_self ..)
   have h2 := (h y).2 (List.mem_cons_self ..)
   rcases List.mem_cons.1 h1 with h1 | h1
   ·exact h1
   ·rcases List.mem_cons.1 h2 with h2 | h2
    ·exact h2.symm
    ·have h3 := hb.1 x h1
     have h4 := ha.1 y h2
     omega
  subst e
  rw [rise_unique a b ha.2 hb.2 fun z => ?_]
  constructor
  ·intro hz
   rcases List.mem_cons.1 ((h z).1 (List.mem_cons_of_mem _ hz)) with h1 | h1
   ·have := ha.1 z hz; omega
   ·exact h1
  ·intro hz
   rcases List.mem_cons.1 ((h z).2 (List.mem_cons_of_mem _ hz)) with h1 | h1
   ·have := hb.1 z hz; omega
   ·exact h1
theorem ints_mem {O : List Nat} {z : Int} : z ∈ ints O ↔ ∃ x ∈ O, z = (x : Int) := by
 unfold ints
 rw [List.mem_map]
 constructor
 ·rintro ⟨x, h, rfl⟩; exact ⟨x, h, rfl⟩
 ·rintro ⟨x, h, rfl⟩; exact ⟨x, h, rfl⟩
theorem ints_rise {O : List Nat} (h : O.Pairwise (· < ·)) : (ints O).Pairwise (· < ·) := by
 unfold ints
 rw [List.pairwise_map]
 exact h.imp fun h => by omega
theorem ints_once {O : List Nat} (h : O.Nodup) : (ints O).Nodup := by
 unfold ints List.Nodup
 rw [List.pairwise_map]
 exact List.Pairwise.imp (fun h => by omega) h
theorem sorted_rise {l : List Int} (h : Sorted l) (hn : l.Nodup) : l.Pairwise (· < ·) := by
 rw [List.pairwise_iff_getElem]
 intro i j hi hj hij
 have h1 := h i j hij hj
 have h2 := List.pairwise_iff_getElem.1 hn i j hi hj hij
 simp only [List.getD, List.getElem?_eq_getElem hi, List.getElem?_eq_getElem hj, Option.getD_some] at h1
 omega
theorem reach_sorted {l : List BlockD} {r l' : List Int} (hR : RightL l) (hr : ReachR l r) (hp : l'.Perm (ints (post (succN l) none l.length))) (hs : Sorted l') : l' = r := by
 obtain ⟨O, rfl, hm, ho, _⟩ := hr.1 hR
 have ht := post_told (succN l) none l.length (by have := hR.1; omega) (right_lt hR)
 refine rise_unique _ _ (sorted_rise hs (hp.nodup_iff.2 (ints_once ht.once))) (ints_rise ho) fun z => ?_
 rw [hp.mem_iff, ints_mem, ints_mem]
 constructor
 ·rintro ⟨x, hx, e⟩; exact ⟨x, (hm x).2 ((ht.mem x).1 hx), e⟩
 ·rintro ⟨x, hx, e⟩; exact ⟨x, (ht.mem x).2 ((hm x).1 hx), e⟩
theorem nodup_len (n : Nat) (l : List Nat) (hn : l.Nodup) (hl : ∀ x ∈ l, x < n) : l.length ≤ n := by
 have h : l.length ≤ (List.range n).length := hn.length_le_of_subset fun x hx => List.mem_range.2 (hl x hx)
 simpa using h
theorem graph_none (w : World) (h : 1 ≤ w.heap.size) : Graph w 0 0 (fun _ => []) := ⟨fun i hi => by omega, fun i hi => by omega, by omega⟩
set_option maxHeartbeats 4000000 in
theorem reachI (lo : Nat) (d : FuncD) (u0 : Option Addr) (c0 : Nat) (u2 : Option Addr) (c2 : Nat) (r : List Int) (w : World) (hs : SmFunc d) (k2 : BlocksAt w lo u2 d.blocks) (hr : ReachR d.blocks r) :
  Calls Tryz.prog 20 #[.agg #[.slice u0 d.params.length c0, .int .i64 d.ret, .slice u2 d.blocks.length c2]] w fun e w' => ∃ u c, e = .returned (.slice u r.length c) ∧ OI w' w.heap.size u r ∧ Below w.heap.size w w' := by
 have HSM : Hid (SmFunc d) := hs
 have HK : Hid (BlocksAt w lo u2 d.blocks) := k2
 have hbl : d.blocks.length ≤ 1048576 := hs.2.1
 clear hs k2
 by_cases hR : RightL d.blocks
 ·have HR : Hid (RightL d.blocks) := hR
  have hr1 := hR.1
  have hr2 := hR.2.1
  have HS : Hid (∀ a, ∀ s ∈ succN d.blocks a, s < d.blocks.length) := right_lt hR
  have HT : Hid (Told (succN d.blocks) none d.blocks.length (post (succN d.blocks) none d.blocks.length)) := post_told _ _ _ (by omega) (right_lt hR)
  have hpl : (post (succN d.blocks) none d.blocks.length).length ≤ 10 := Nat.le_trans (nodup_len _ _ HT.out.once HT.out.low) hr2
  have HRR : Hid (ReachR d.blocks r) := hr
  clear hR hr
  go_enter Tryz.func20, Tryz.ntmps20
  go_wp2_with (first | (go_at_call 35; refine (graphI lo d _ _ _ _ _ HSM.out (HK.out.keep (agree_alloc _ _ _))).mono ?_; rintro e w1 ⟨hb1, h1⟩; obtain ⟨N, hN, rfl, hG⟩ := (h1.resolve_left (fun h => h.1 HR.out)).2; have HG : Hid (Graph w1 N d.blocks.length (succN d.blocks)) := hG; have HX1 : Hid (Below w.heap.size w w1) := ((Below.refl _ _).alloc (Nat.le_refl _) _).trans (hb1.mono (by simp)); clear hb1 h1 hG hN) | (go_at_call 39; refine (toldI N d.blocks.length (succN d.blocks) none _ HG.out (by omega) hr2 HS.out (fun q => by have := succ_len d.blocks q; omega) (fun a h => by cases h)).mono ?_; rintro e w2 ⟨ut, ct, rfl, hp2, hb2⟩; have HP2 : Hid _ := hp2; have HG2 : Hid (Graph w2 N d.blocks.length (succN d.blocks)) := HG.out.keep (agree_of_below hb2 _); have HX2 : Hid (Below w.heap.size w w2) := HX1.out.trans (hb2.mono HX1.out.size); clear hp2 hb2) | (go_at_call 37; refine (placesI _ N d.blocks.length (succN d.blocks) _ _ _ _ HP2.out HG2.out HT.out.low (by omega)).mono ?_; rintro e w3 ⟨v3, rfl, ho3, hb3⟩; rw [← ints_len] at ho3; obtain ⟨u3, c3, rfl, g3⟩ := row_own (by rw [ints_len]; omega) ho3; have HO3 : Hid _ := g3; have HX3 : Hid (Below w.heap.size w w3) := HX2.out.trans (hb3.mono HX2.out.size); have hz : w.heap.size ≤ w2.heap.size := HX2.out.size; clear ho3 hb3 g3) | (go_at_call 40; refine (sortI _ _ _ _ _ (by rw [ints_len]; omega) HO3.out).mono ?_; rintro e w4 ⟨rfl, l', hp, hso, g4, g, hg, ho4⟩; have he : l' = r := reach_sorted HR.out HRR.out hp hso; subst he; have HO4 : Hid _ := g4; have HX4 : Hid (Below w.heap.size w w4) := below_only HX3.out ho4 (by omega); have HLE : Hid (l'.length = (ints (post (succN d.blocks) none d.blocks.length)).length) := hp.length_eq; clear hp hso g4 ho4))
  go_ret
  rw [HLE.out]
  exact ⟨_, _, rfl, OI.low HO4.out hz, HX4.out⟩
 ·have HR : Hid (¬ RightL d.blocks) := hR
  have HE : Hid (r = []) := hr.2 hR
  clear hR hr
  go_enter Tryz.func20, Tryz.ntmps20
  go_wp2_with (first | (go_at_call 35; refine (graphI lo d _ _ _ _ _ HSM.out (HK.out.keep (agree_alloc _ _ _))).mono ?_; rintro e w1 ⟨hb1, h1⟩; obtain ⟨_, rfl⟩ := h1.resolve_right (fun h => HR.out h.1); have HX1 : Hid (Below w.heap.size w w1) := ((Below.refl _ _).alloc (Nat.le_refl _) _).trans (hb1.mono (by simp)); have hz1 : 1 ≤ w1.heap.size := (by have := hb1.size; simp at this; omega); clear hb1 h1) | (go_at_call 39; refine (told_nilI none _).mono ?_; rintro e w2 ⟨rfl, hb2⟩; have HX2 : Hid (Below w.heap.size w w2) := HX1.out.trans (hb2.mono HX1.out.size); have hz2 : 1 ≤ w2.heap.size := Nat.le_trans hz1 hb2.size; clear hb2) | (go_at_call 37; refine (placesI 0 0 0 (fun _ => []) none 0 [] _ (.inl rfl) (graph_none _ hz2) (fun x hx => by cases hx) (by simp)).mono ?_; rintro e w3 ⟨v3, rfl, ho3, hb3⟩; obtain ⟨u3, c3, rfl, g3⟩ := row_own (l := []) (by simp) ho3; have HO3 : Hid (OI w3 w2.heap.size u3 []) := g3; have HX3 : Hid (Below w.heap.size w w3) := HX2.out.trans (hb3.mono HX2.out.size); have hz : w.heap.size ≤ w2.heap.size := HX2.out.size; clear ho3 hb3 g3) | (go_at_call 40; refine (sortI _ _ _ [] _ (by simp) HO3.out).mono ?_; rintro e w4 ⟨rfl, l', hp, hso, g4, g, hg, ho4⟩; have he : l' = [] := hp.eq_nil; subst he; have HO4 : Hid (OI w4 w2.heap.size u3 []) := g4; have HX4 : Hid (Below w.heap.size w w4) := below_only HX3.out ho4 (by omega); clear hp hso g4 ho4))
  go_ret
  rw [HE.out]
  exact ⟨_, _, rfl, OI.low HO4.out hz, HX4.out⟩
theorem ins_mem' (l : List Nat) (n x : Nat) : x ∈ insN l n ↔ x ∈ l ∨ x = n := by
 induction l with
 | nil => simp [insN]
 | cons y r ih =>
  unfold insN
  split
  ·rw [List.mem_cons, ih, List.mem_cons]
   constructor
   ·rintro (h | h | h)
    ·exact .inl (.inl h)
    ·exact .inl (.inr h)
    ·exact .inr h
   ·rintro ((h | h) | h)
    ·exact .inl h
    ·exact .inr (.inl h)
    ·exact .inr (.inr h)
  ·split
   ·rename_i h1 h2
    subst h2
    rw [List.mem_cons]
    constructor
    ·intro h; exact .inl h
    ·rintro (h | h)
     ·exact h
     ·exact .inl h
   ·rw [List.mem_cons]
    constructor
    ·rintro (h | h)
     ·exact .inr h
     ·exact .inl h
    ·rintro (h | h)
     ·exact .inr h
     ·exact .inl h
theorem ins_rise' (l : List Nat) (n : Nat) (h : l.Pairwise (· < ·)) : (insN l n).Pairwise (· < ·) := by
 induction l with
 | nil => simp [insN]
 | cons y r ih =>
  rw [List.pairwise_cons] at h
  unfold insN
  split
  ·rw [List.pairwise_cons]
   refine ⟨fun z hz => ?_, ih h.2⟩
   rcases (ins_mem' r n z).1 hz with hz | hz
   ·exact h.1 z hz
   ·omega
  ·split
   ·rw [List.pairwise_cons]; exact h
   ·rw [List.pairwise_cons]
    refine ⟨fun z hz => ?_, List.pairwise_cons.2 h⟩
    rcases List.mem_cons.1 hz with hz | hz
    ·omega
    ·have := h.1 z hz; omega
theorem rise_of (l : List Nat) : ∃ O : List Nat, (∀ x, x ∈ O ↔ x ∈ l) ∧ O.Pairwise (· < ·) := by
 induction l with
 | nil => exact ⟨[], fun _ => Iff.rfl, List.Pairwise.nil⟩
 | cons y r ih =>
  obtain ⟨O, h1, h2⟩ := ih
  refine ⟨insN O y, fun x => ?_, ins_rise' O y h2⟩
  rw [ins_mem', h1, List.mem_cons]
  exact Or.comm
theorem ReachR_some (l : List BlockD) : ∃ r, ReachR l r ∧ r.length ≤ 1048576 := by
 by_cases hR : RightL l
 ·have ht := post_told (succN l) none l.length (by have := hR.1; omega) (right_lt hR)
  obtain ⟨O, h1, h2⟩ := rise_of (post (succN l) none l.length)
  have hl : O.length ≤ l.length := nodup_len _ _ (h2.imp fun h => Nat.ne_of_lt h) fun x hx => ht.low x ((h1 x).1 hx)
  have h10 := hR.2.1
  exact ⟨ints O, ⟨fun _ => ⟨O, rfl, fun x => (h1 x).trans (ht.mem x), h2, by omega⟩, fun h => absurd hR h⟩, by rw [ints_len]; omega⟩
 ·exact ⟨[], ⟨fun h => absurd h hR, fun _ => rfl⟩, by simp⟩
end Go.Proofs.YtgojlnclpebdcaaGreatDoor
namespace Go.Proofs.YtgojlnclpebdcaaGreatDoor
open Go.RowKit
theorem ints_cell {w : World} {lo : Nat} {a : Option Addr} {l : List Int} (h : IntsAt w lo a l) {k : Nat} (hk : k < l.length) : ∃ b off, a = some ⟨b, off, none⟩ ∧ w.cell? ⟨b, off + k, none⟩ = some (.int .i64 (l.getD k 0)) := by
 rcases h.2 with h | ⟨b, off, ha, _, _, hc⟩
 ·rw [h] at hk; simp at hk
 ·exact ⟨b, off, ha, hc k hk⟩
set_option maxHeartbeats 1000000 in
theorem hasL (lo : Nat) (a : Option Addr) (c : Nat) (l : List Int) (n : Int) (v : Bool) (w : World) (hl : l.length ≤ 1048576) (h : IntsAt w lo a l) (hv : v = true ↔ n ∈ l) :
  Calls Tryz.prog 19 #[.slice a l.length c, .int .i64 n] w fun e w' => e = .returned (.bool v) ∧ w' = w := by
 have HI : Hid (IntsAt w lo a l) := h
 have HV : Hid (v = true ↔ n ∈ l) := hv
 clear h hv
 go_enter Tryz.func19, Tryz.ntmps19
 go_wp2_with fail
 go_loop [5] (fun q => ∃ k : Nat, k ≤ l.length ∧ q = .int .i64 k ∧ Hid (∀ j, j < k → l.getD j 0 ≠ n)) (fun q => l.length - (intOf q).toNat)
 case atStart => exact ⟨0, by omega, rfl, fun j hj => by omega⟩
 case round =>
  obtain ⟨k, hk, rfl, HD⟩ := hrel
  by_cases hlt : k < l.length
  ·obtain ⟨b, off, rfl, e1⟩ := ints_cell HI.out hlt
   obtain ⟨x, HX⟩ : ∃ x : Int, Hid (l.getD k 0 = x) := ⟨_, rfl⟩
   rw [HX.out] at e1
   by_cases hx : x = n
   ·have hd : (x == n) = true := by simpa using hx
    go_wp2_with fail
    go_ret
    have hm : n ∈ l := by rw [← hx, ← HX.out]; exact getD_mem 0 l k hlt
    exact ⟨by rw [HV.out.2 hm]; rfl, rfl⟩
   ·have hd : (x == n) = false := by simpa using hx
    go_wp2_with fail
    refine ⟨⟨k + 1, by omega, by go_num, fun j hj => ?_⟩, by simp only [intOf]; omega⟩
    by_cases e : j = k
    ·subst e; rw [HX.out]; exact hx
    ·exact HD.out j (by omega)
  ·go_wp2_with fail
   go_ret
   have hm : n ∉ l := fun hm => by
    obtain ⟨j, hj, e⟩ := List.getElem_of_mem hm
    exact HD.out j (by omega) (by simp [List.getD, hj, e])
   have hf : v = false := by
    cases hq : v with
    | false => rfl
    | true => exact absurd (HV.out.1 hq) hm
   exact ⟨by rw [hf]; rfl, rfl⟩
end Go.Proofs.YtgojlnclpebdcaaGreatDoor
namespace Go.Proofs.YtgojlnclpebdcaaGreatDoor
open Go.RowKit Go.Deep
set_option linter.unusedVariables false
set_option linter.unusedSimpArgs false
set_option maxRecDepth 100000 in
set_option maxHeartbeats 8000000 in
theorem fnDefined_core (aF aN aE aC aW aU : Addr) (a0 : Option Addr) (len cap : Nat) (w : World) (hc : Code a0 len w.heap.size w) (hE : Errs w aF aN aE aC aW aU) (hO : Others w aF aN aE aC aW aU) (hT : ErrT w) :
  Calls Tryz.prog 4 #[.slice a0 len cap] w fun e w' => e = .returned (.bool true) ∧ Below w.heap.size w w' := by
 by_cases hl : 1048576 < len
 ·have hb : decide (1048576 < len) = true := by simpa using hl
  go_enter Tryz.func4, Tryz.ntmps4
  go_wp2_with fail
  refine (big_any a0 len cap w).mono ?_
  rintro e w1 ⟨rfl, h9⟩
  have h8 := h9.symm
  clear h9
  subst h8
  rw [hb]
  go_wp2_with fail
  go_ret
  exact ⟨rfl, Below.refl _ _⟩
 have hb : decide (1048576 < len) = false := by simpa using hl
 have hl2 : len ≤ 1048576 := by omega
 have D1 := drawModule a0 len cap w hl2 hc
 have HE : Hid (Errs w aF aN aE aC aW aU) := hE
 have HO : Hid (Others w aF aN aE aC aW aU) := hO
 have HT : Hid (ErrT w) := hT
 clear hc hl hE hO hT
 go_enter Tryz.func4, Tryz.ntmps4
 go_wp2_with fail
 refine (big_any a0 len cap w).mono ?_
 rintro e w1 ⟨rfl, h9⟩
 have h8 := h9.symm
 clear h9
 subst h8
 rw [hb]
 clear hb
 go_wp2_with fail
 refine D1.mono ?_
 rintro e w2 ⟨l, u, c, rfl, hsm, hfa, b2⟩
 have k2 : Below w2.heap.size w2 (w2.alloc (.cells #[.slice u l.length c] 26)) := (Below.refl _ _).alloc (Nat.le_refl _) _
 have Q3 : Hid (At (w2.alloc (.cells #[.slice u l.length c] 26)) w2.heap.size #[.slice u l.length c] 26) := At.new _ _ _
 have B3 : Hid (Below w.heap.size w (w2.alloc (.cells #[.slice u l.length c] 26))) := b2.trans (k2.mono b2.size)
 have K3 : Hid (FuncsAt (w2.alloc (.cells #[.slice u l.length c] 26)) w.heap.size u l) := hfa.keep (agree_of_below k2 _)
 have Hsm : Hid (SmMod l) := hsm
 clear D1 b2 k2 hfa hsm
 obtain ⟨W3, hW3⟩ : ∃ W, w2.alloc (.cells #[.slice u l.length c] 26) = W := ⟨_, rfl⟩
 rw [hW3] at Q3 B3 K3
 have x0 : W3.cell? ⟨w2.heap.size, 0, none⟩ = some (.slice u l.length c) := Q3.out.cell 0
 obtain ⟨cc, hcc⟩ := mcode_any l
 have HC : Hid (MCode l cc) := hcc
 clear hcc
 have MI := mcheckI w.heap.size l u c cc aF aN aE aC aW aU W3 Hsm.out K3.out (HE.out.keep B3.out) (HO.out.keep B3.out) (HT.out.keep B3.out) HC.out
 go_wp2_with fail
 try rw [hW3]
 clear hW3 x0
 refine MI.mono ?_
 rintro e w4 ⟨rfl, b4⟩
 have Q4 : Hid (At w4 w2.heap.size #[.slice u l.length c] 26) := Q3.out.below b4
 have B4 : Hid (Below w.heap.size w w4) := B3.out.trans (b4.mono B3.out.size)
 have K4 : Hid (FuncsAt w4 w.heap.size u l) := K3.out.keep (agree_of_below b4 _)
 clear MI Q3 B3 K3 b4 HE HO HT
 have x0 : w4.cell? ⟨w2.heap.size, 0, none⟩ = some (.slice u l.length c) := Q4.out.cell 0
 have MS := mcheckS w.heap.size l u c cc w4 Hsm.out K4.out HC.out
 go_wp2_with fail
 clear x0
 refine MS.mono ?_
 rintro e w5 ⟨rfl, b5⟩
 have Q5 : Hid (At w5 w2.heap.size #[.slice u l.length c] 26) := Q4.out.below b5
 have B5 : Hid (Below w.heap.size w w5) := B4.out.trans (b5.mono B4.out.size)
 have K5 : Hid (FuncsAt w5 w.heap.size u l) := K4.out.keep (agree_of_below b5 _)
 clear MS Q4 B4 K4 b5
 have x0 : w5.cell? ⟨w2.heap.size, 0, none⟩ = some (.slice u l.length c) := Q5.out.cell 0
 have hne : (cc != cc) = false := by simp
 by_cases hz : cc = 0
 rotate_left
 ·have hz2 : (cc != 0) = true := by simpa using hz
  have hq : (cc == cc) = true := by simp
  have MS := mcheckS w.heap.size l u c cc w5 Hsm.out K5.out HC.out
  clear hz
  go_wp2_with fail
  refine MS.mono ?_
  rintro e w6 ⟨rfl, b6⟩
  have B6 : Hid (Below w.heap.size w w6) := B5.out.trans (b6.mono B5.out.size)
  clear MS b6
  go_wp2_with fail
  go_ret
  exact ⟨rfl, B6.out⟩
 subst hz
 obtain ⟨hmb, hcd⟩ := mcode_ok HC.out
 obtain ⟨hl1, hl3⟩ := mod_len hmb
 obtain ⟨m, hm⟩ : ∃ m, l.length = m + 1 := ⟨l.length - 1, by omega⟩
 have hfm := mod_form hmb (k := m) (by omega)
 have HFm : Hid (Form l.length (l.getD m func0)) := hfm
 have hcm := hcd m (by omega)
 have Hsf : Hid (SmFunc (l.getD m func0)) := Hsm.out.2 _ (getD_mem func0 l m (by omega))
 obtain ⟨_, _, hdm⟩ := code_parts hcm
 have HD : Hid (DomsP (l.getD m func0)) := hdm
 rcases K5.out.2 with hn | ⟨fb, fo, rfl, hflo, hfb, hfc⟩
 ·rw [hn] at hm; simp at hm
 obtain ⟨⟨up, cp, f0, hip⟩, f1, ⟨ub, cb, f2, hbl⟩⟩ := hfc m (by omega)
 clear hdm hcm hfm hcd hmb hfc HC hl1 Hsm hne
 rw [hm] at x0 hl3
 generalize l.getD m func0 = d at *
 have k6 : Below w5.heap.size w5 (w5.alloc (.cells #[.slice up d.params.length cp, .int .i64 d.ret, .slice ub d.blocks.length cb] 36)) := (Below.refl _ _).alloc (Nat.le_refl _) _
 have F6 : Hid (Fbx (w5.alloc (.cells #[.slice up d.params.length cp, .int .i64 d.ret, .slice ub d.blocks.length cb] 36)) w5.heap.size w.heap.size d up cp ub cb) := ⟨At.new _ _ _, hip.keep (agree_of_below k6 _), hbl.keep (agree_of_below k6 _)⟩
 have B6 : Hid (Below w.heap.size w (w5.alloc (.cells #[.slice up d.params.length cp, .int .i64 d.ret, .slice ub d.blocks.length cb] 36))) := B5.out.trans (k6.mono B5.out.size)
 clear hip hbl k6 B5 K5 Q5
 have y0 : (w5.alloc (.cells #[.slice up d.params.length cp, .int .i64 d.ret, .slice ub d.blocks.length cb] 36)).cell? ⟨w5.heap.size, 0, none⟩ = some (.slice up d.params.length cp) := F6.out.1.cell 0
 rw [hm]
 have hpl := Hsf.out.1
 have hcl := cntF_le Hsf.out
 have hcp : d.params.length ≤ cntF d := by unfold cntF; omega
 have HR : Hid (RightL d.blocks) := HFm.out.right
 clear hm HFm hflo hfb
 go_wp2_with fail
 clear f0 f1 f2 x0
 go_loopw [6] (fun q wr => ∃ n : Nat, d.params.length ≤ n ∧ n ≤ cntF d ∧ q = .int .i64 n ∧ Hid (Fbx wr w5.heap.size w.heap.size d up cp ub cb) ∧ Hid (Below w.heap.size w wr)) (fun q _ => cntF d - (intOf q).toNat)
 case atStart => exact ⟨d.params.length, Nat.le_refl _, hcp, rfl, F6.out, B6.out⟩
 case round =>
  obtain ⟨n, hn1, hn2, rfl, HF, HB⟩ := hrel
  obtain ⟨w7, hwo⟩ : ∃ w1, w1 = wr := ⟨_, rfl⟩
  subst hwo
  clear F6 B6 y0
  have x0 : w7.cell? ⟨w5.heap.size, 0, none⟩ = some (.slice up d.params.length cp) := HF.out.1.cell 0
  have x1 : w7.cell? ⟨w5.heap.size, 1, none⟩ = some (.int .i64 d.ret) := HF.out.1.cell 1
  have x2 : w7.cell? ⟨w5.heap.size, 2, none⟩ = some (.slice ub d.blocks.length cb) := HF.out.1.cell 2
  have CI := countI_any w.heap.size d up cp ub cb w7 Hsf.out HF.out.2.2
  go_wp2_with fail
  refine CI.mono ?_
  rintro e w8 ⟨rfl, b8⟩
  have F8 : Hid (Fbx w8 w5.heap.size w.heap.size d up cp ub cb) := HF.out.below b8
  have B8 : Hid (Below w.heap.size w w8) := HB.out.trans (b8.mono HB.out.size)
  clear x0 x1 x2 CI b8 HF HB
  by_cases hlt : n < cntF d
  rotate_left
  ·go_wp2_with fail
   go_ret
   exact ⟨rfl, B8.out⟩
  obtain ⟨b, j, hb, hj, hpl⟩ := place_blk hn1 hlt
  have PI := placeI_any w.heap.size d up cp ub cb n w8 Hsf.out F8.out.2.2 (by omega)
  rw [hpl] at PI
  clear hpl
  have x0 : w8.cell? ⟨w5.heap.size, 0, none⟩ = some (.slice up d.params.length cp) := F8.out.1.cell 0
  have x1 : w8.cell? ⟨w5.heap.size, 1, none⟩ = some (.int .i64 d.ret) := F8.out.1.cell 1
  have x2 : w8.cell? ⟨w5.heap.size, 2, none⟩ = some (.slice ub d.blocks.length cb) := F8.out.1.cell 2
  go_wp2_with fail
  refine PI.mono ?_
  rintro e w9 ⟨rfl, b9⟩
  have F9 : Hid (Fbx w9 w5.heap.size w.heap.size d up cp ub cb) := F8.out.below b9
  have B9 : Hid (Below w.heap.size w w9) := B8.out.trans (b9.mono B8.out.size)
  clear x0 x1 x2 PI b9 F8 B8
  obtain ⟨bb, bo, pu, pc, iu, ic, rfl, hbb, g0, _, _, _⟩ := blk_at F9.out.2.2 hb
  have x0 : w9.cell? ⟨w5.heap.size, 0, none⟩ = some (.slice up d.params.length cp) := F9.out.1.cell 0
  have x1 : w9.cell? ⟨w5.heap.size, 1, none⟩ = some (.int .i64 d.ret) := F9.out.1.cell 1
  have x2 : w9.cell? ⟨w5.heap.size, 2, none⟩ = some (.slice (some ⟨bb, bo, none⟩) d.blocks.length cb) := F9.out.1.cell 2
  have hsB := Hsf.out.2.2 _ (getD_mem block0 d.blocks b hb)
  have hs0 := hsB.1.1
  have hs1 := hsB.2.1
  have hsl := Hsf.out.2.1
  have hj2 : j < (d.blocks.getD b block0).phis.length + (d.blocks.getD b block0).insts.length := hj
  have hbI : (b : Int) < (d.blocks.length : Int) := by omega
  have HSI : Hid (∀ p ∈ (d.blocks.getD b block0).insts, SmInst p) := hsB.2.2
  clear hsB hj
  obtain ⟨np, HNP⟩ : ∃ np, Hid ((d.blocks.getD b block0).phis.length = np) := ⟨_, rfl⟩
  rw [HNP.out] at g0 hs0 hj2
  by_cases hjp : j < np
  ·have hjI : (j : Int) < (np : Int) := by omega
   clear hjp
   go_wp2_with fail
   go_roundw
   case rel => exact ⟨n + 1, by omega, by omega, by go_num, F9.out, B9.out⟩
   case measure => simp [intOf]; omega
  obtain ⟨i, rfl⟩ : ∃ i, j = np + i := ⟨j - np, by omega⟩
  have hil : i < (d.blocks.getD b block0).insts.length := by omega
  have hjI : ¬ (((np + i : Nat) : Int) < (np : Int)) := by omega
  obtain ⟨r, hr, hrl⟩ := ReachR_some d.blocks
  have RI := reachI w.heap.size d up cp (some ⟨bb, bo, none⟩) cb r w9 Hsf.out F9.out.2.2 hr
  have HRR : Hid (ReachR d.blocks r) := hr
  clear hr hjp
  go_wp2_with fail
  refine RI.mono ?_
  rintro e w10 ⟨ru, rc, rfl, hoi, b10⟩
  have I10 : IntsAt w10 w9.heap.size ru r := hoi.at
  have F10 : Hid (Fbx w10 w5.heap.size w.heap.size d up cp (some ⟨bb, bo, none⟩) cb) := F9.out.below b10
  have B10 : Hid (Below w.heap.size w w10) := B9.out.trans (b10.mono B9.out.size)
  clear x0 x1 x2 RI b10 hoi F9 B9 g0 hbb
  obtain ⟨v, hv⟩ : ∃ v : Bool, v = true ↔ (b : Int) ∈ r := ⟨decide ((b : Int) ∈ r), by simp⟩
  have HL := hasL _ ru rc r b v w10 hrl I10 hv
  have HV : Hid (v = true ↔ (b : Int) ∈ r) := hv
  clear hv I10
  go_wp2_with fail
  refine HL.mono ?_
  rintro e w11 ⟨rfl, h9⟩
  have h8 := h9.symm
  clear h9
  subst h8
  clear HL
  cases v
  ·go_wp2_with fail
   go_roundw
   case rel => exact ⟨n + 1, by omega, by omega, by go_num, F10.out, B10.out⟩
   case measure => simp [intOf]; omega
  have hRb : Rch (succN d.blocks) none b := by
   obtain ⟨O, hO, hm, _, _⟩ := HRR.out.1 HR.out
   have h1 := HV.out.1 rfl
   rw [hO] at h1
   obtain ⟨x, hx, hx2⟩ := ints_mem.1 h1
   have : b = x := by omega
   subst this
   exact (hm b).1 hx
  have HSE : Hid (∀ id ∈ opsD ((d.blocks.getD b block0).insts.getD i inst0), Sees d id b ((np : Int) + (i : Int))) := fun id hid => by
   have := (HD.out b hRb).1.1 i hil id hid
   rw [HNP.out] at this
   exact this
  clear hRb HRR HV hrl
  obtain ⟨b2, o2, pu2, pc2, iu2, ic2, hu, hbb, g0, _, g1, hI⟩ := blk_at F10.out.2.2 hb
  obtain ⟨ib, io, au, ac, hiu, hib, i0, i1, i2, i3, i4, i5, i6, hA⟩ := inst_at hI hil
  cases hu
  subst hiu
  rw [HNP.out] at g0
  have hal : ((d.blocks.getD b block0).insts.getD i inst0).args.length ≤ 1048576 := HSI.out _ (getD_mem inst0 _ i hil)
  have HA : Hid (IntsAt w10 w.heap.size au ((d.blocks.getD b block0).insts.getD i inst0).args) := hA
  have hjI2 : (i : Int) < ((d.blocks.getD b block0).insts.length : Int) := by omega
  clear hA hI HNP HSI
  generalize (d.blocks.getD b block0).insts.getD i inst0 = x at *
  generalize (d.blocks.getD b block0).insts.length = ni at *
  have x2 : w10.cell? ⟨w5.heap.size, 2, none⟩ = some (.slice (some ⟨bb, bo, none⟩) d.blocks.length cb) := F10.out.1.cell 2
  have e0 : ((np + i : Nat) : Int) = (np : Int) + (i : Int) := by omega
  have e1 : IntKind.i64.wrap ((np : Int) + i - np) = (i : Int) := by rw [IntKind.wrap_i64]; omega
  have e2 : IntKind.i64.wrap (i : Int) = (i : Int) := by rw [IntKind.wrap_i64]; omega
  have e3 : (np : Int) + i - np = (i : Int) := by omega
  have e4 : (0 : Int) ≤ (i : Int) := by omega
  have e5 : (0 : Int) ≤ (b : Int) := by omega
  have l5 := F10.out.1.lt
  have OP := operI w.heap.size x au ac w10.drew hal (HA.out.keep (agree_of_below ((Below.refl w10.heap.size w10).drew) _))
  have S0 : ∀ b o, b < w10.heap.size → w10.drew.cell? ⟨b, o, none⟩ = w10.cell? ⟨b, o, none⟩ := fun _ _ _ => rfl
  go_wp2_with fail
  go_region_held2 (fun w' => ∀ b o, b < w10.heap.size → w'.cell? ⟨b, o, none⟩ = w10.cell? ⟨b, o, none⟩) (first | with_reducible exact S0 | with_reducible exact S1) ((go_at_call 21; refine OP.mono ?_; rintro e w12 ⟨ou, oc, rfl, hown, b12⟩; have S1 : ∀ b o, b < w10.heap.size → w12.cell? ⟨b, o, none⟩ = w10.cell? ⟨b, o, none⟩ := (fun b o hb => cell_block (b12.block b hb))))
  have b13 : Below w10.heap.size w10 w12 := ((Below.refl w10.heap.size w10).drew).trans b12
  have F12 : Hid (Fbx w12 w5.heap.size w.heap.size d up cp (some ⟨bb, bo, none⟩) cb) := F10.out.below b13
  have B12 : Hid (Below w.heap.size w w12) := B10.out.trans (b13.mono B10.out.size)
  have I12 : Hid (IntsAt w12 w10.heap.size ou (opsD x)) := hown.ints
  have hol : (opsD x).length ≤ 1048576 := ops_len hal
  clear S0 S1 OP b12 b13 hown F10 B10 x2 g0 g1 i0 i1 i2 i3 i4 i5 i6 HA e0 e1 e2 e3 e4 e5 l5 hbb hib
  go_wp2_with fail
  go_loopw [10] (fun q wr => ∃ k : Nat, k ≤ (opsD x).length ∧ q = .int .i64 k ∧ Hid (Fbx wr w5.heap.size w.heap.size d up cp (some ⟨bb, bo, none⟩) cb) ∧ Hid (IntsAt wr w10.heap.size ou (opsD x)) ∧ Hid (Below w.heap.size w wr)) (fun q _ => (opsD x).length - (intOf q).toNat)
  case atStart => exact ⟨0, by omega, rfl, F12.out, I12.out, B12.out⟩
  case round =>
   obtain ⟨k, hk, rfl, HF, HI, HB⟩ := hrel
   obtain ⟨w13, hwo⟩ : ∃ w1, w1 = wr := ⟨_, rfl⟩
   subst hwo
   clear F12 I12 B12
   by_cases hkl : k < (opsD x).length
   rotate_left
   ·go_wp2_with fail
    go_roundw
    case rel => exact ⟨n + 1, by omega, by omega, by go_num, HF.out, HB.out⟩
    case measure => simp [intOf]; omega
   obtain ⟨ob, oo, hou, e1⟩ := ints_cell HI.out hkl
   have hsee := HSE.out _ (getD_mem 0 (opsD x) k hkl)
   have hob : ob < w13.heap.size := by
    rcases HI.out.2 with h | ⟨b', o', h1, _, h2, _⟩
    ·rw [h] at hkl; simp at hkl
    ·rw [hou] at h1; cases h1; exact h2
   subst hou
   generalize (opsD x).getD k 0 = id at e1 hsee
   obtain ⟨hid, hcs⟩ := sees_cases hsee
   have PI := placeI_any w.heap.size d up cp (some ⟨bb, bo, none⟩) cb id w13.drew Hsf.out (HF.out.2.2.keep (agree_of_below ((Below.refl w13.heap.size w13).drew) _)) (by omega)
   have htop := place_top d id
   have HCS : Hid (_ ∨ _) := hcs
   have HTP : Hid (_ < _) := htop
   clear hsee hcs htop
   generalize (placeF d id).1 = p1 at PI HCS HTP
   generalize (placeF d id).2 = p2 at PI HCS
   have x0 : w13.cell? ⟨w5.heap.size, 0, none⟩ = some (.slice up d.params.length cp) := HF.out.1.cell 0
   have x1 : w13.cell? ⟨w5.heap.size, 1, none⟩ = some (.int .i64 d.ret) := HF.out.1.cell 1
   have x2 : w13.cell? ⟨w5.heap.size, 2, none⟩ = some (.slice (some ⟨bb, bo, none⟩) d.blocks.length cb) := HF.out.1.cell 2
   have l5 := HF.out.1.lt
   have S0 : ∀ b o, b < w13.heap.size → w13.drew.cell? ⟨b, o, none⟩ = w13.cell? ⟨b, o, none⟩ := fun _ _ _ => rfl
   go_wp2_with fail
   go_region_held2 (fun w' => ∀ b o, b < w13.heap.size → w'.cell? ⟨b, o, none⟩ = w13.cell? ⟨b, o, none⟩) (first | with_reducible exact S0 | with_reducible exact S1) ((go_at_call 18; refine PI.mono ?_; rintro e w14 ⟨rfl, b14⟩; have S1 : ∀ b o, b < w13.heap.size → w14.cell? ⟨b, o, none⟩ = w13.cell? ⟨b, o, none⟩ := (fun b o hb => cell_block (b14.block b hb))))
   have b15 : Below w13.heap.size w13 w14 := ((Below.refl w13.heap.size w13).drew).trans b14
   have F14 : Hid (Fbx w14 w5.heap.size w.heap.size d up cp (some ⟨bb, bo, none⟩) cb) := HF.out.below b15
   have B14 : Hid (Below w.heap.size w w14) := HB.out.trans (b15.mono HB.out.size)
   have I14 : Hid (IntsAt w14 w10.heap.size (some ⟨ob, oo, none⟩) (opsD x)) := HI.out.keep (agree_of_below b15 _)
   clear S0 S1 PI b14 b15 HF HB HI x0 x1 x2 l5 e1 hob
   rcases HCS.out with h1 | ⟨h1, h2⟩ | ⟨h1, h2, h3⟩
   ·subst h1
    clear HCS HTP
    go_wp2_with fail
    go_roundw
    case rel => exact ⟨k + 1, by omega, by go_num, F14.out, I14.out, B14.out⟩
    case measure => simp [intOf]; omega
   ·subst h1
    have q1 : ((b : Int) != -1) = true := by simp <;> omega
    have q2 : ((b : Int) == (b : Int)) = true := by simp
    have q3 : p2 < ((np + i : Nat) : Int) := by omega
    clear HCS HTP
    go_wp2_with fail
    go_roundw
    case rel => exact ⟨k + 1, by omega, by go_num, F14.out, I14.out, B14.out⟩
    case measure => simp [intOf]; omega
   ·have q1 : (p1 != -1) = true := by simp <;> omega
    have q2 : (p1 == (b : Int)) = false := by simpa using h2
    have q3 : (p1 != (b : Int)) = true := by simpa using h2
    have DO := dominatesI w.heap.size d up cp (some ⟨bb, bo, none⟩) cb p1 b w14 Hsf.out F14.out.2.2
    have HDF : Hid (DomF d.blocks p1 b) := ⟨HR.out, ⟨h1, HTP.out⟩, ⟨by omega, by omega⟩, by simpa using h3⟩
    have x0 : w14.cell? ⟨w5.heap.size, 0, none⟩ = some (.slice up d.params.length cp) := F14.out.1.cell 0
    have x1 : w14.cell? ⟨w5.heap.size, 1, none⟩ = some (.int .i64 d.ret) := F14.out.1.cell 1
    have x2 : w14.cell? ⟨w5.heap.size, 2, none⟩ = some (.slice (some ⟨bb, bo, none⟩) d.blocks.length cb) := F14.out.1.cell 2
    clear HCS HTP h1 h2 h3
    go_wp2_with fail
    refine DO.mono ?_
    rintro e w15 ⟨⟨v, rfl, hv⟩, b15⟩
    have hv2 : v = true := hv.2 HDF.out
    subst hv2
    have F15 : Hid (Fbx w15 w5.heap.size w.heap.size d up cp (some ⟨bb, bo, none⟩) cb) := F14.out.below b15
    have B15 : Hid (Below w.heap.size w w15) := B14.out.trans (b15.mono B14.out.size)
    have I15 : Hid (IntsAt w15 w10.heap.size (some ⟨ob, oo, none⟩) (opsD x)) := I14.out.keep (agree_of_below b15 _)
    clear DO b15 hv x0 x1 x2 F14 B14 I14
    go_wp2_with fail
    go_roundw
    case rel => exact ⟨k + 1, by omega, by go_num, F15.out, I15.out, B15.out⟩
    case measure => simp [intOf]; omega
end Go.Proofs.YtgojlnclpebdcaaGreatDoor
