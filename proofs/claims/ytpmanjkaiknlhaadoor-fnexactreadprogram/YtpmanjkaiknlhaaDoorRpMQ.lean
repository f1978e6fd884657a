/- The model's reader of numbers. -/
import Derived.Test.YtpmanjkaiknlhaaDoorVoiQ
import Derived.Test.YtpmanjkaiknlhaaDoorRvr
import Derived.Test.YtpmanjkaiknlhaaDoorRpIQ
import Derived.Test.YtpmanjkaiknlhaaDoorRpBQ
import Derived.Test.YtpmanjkaiknlhaaDoorRpKQ
namespace Go.Proofs.YtpmanjkaiknlhaaDoor
open Go.RowKit
set_option linter.unusedVariables false
set_option linter.unusedSimpArgs false

/-- The reader stands ahead of these numbers, and nothing was wrong. -/
def On (s : ByteArray) (k : Nat) (bad : Bool) (L : List Int) : Prop := bad = false ∧ Rng L ∧ s.data.toList.drop k = toL L
def NumIs (s : ByteArray) (k : Nat) (bad : Bool) (n : Int) (k' : Nat) (bad' : Bool) : Prop := 0 ≤ n ∧ n ≤ 4294967295 ∧ k' ≤ s.size ∧ ∀ x L, On s k bad (x :: L) → n = x ∧ On s k' bad' L
theorem on_read {s : ByteArray} {k : Nat} {bad : Bool} {x : Int} {L : List Int} (h : On s k bad (x :: L)) : rdAt s (k : Int) = (x.toNat, (vl x.toNat).length) ∧ On s (k + (vl x.toNat).length) bad L ∧ k < s.size := by
  obtain ⟨h1, h2, h3⟩ := h
  have hz : s.data.toList.length = s.size := Array.length_toList
  rw [toL_cons] at h3
  have hk : k < s.size := by
    rcases Nat.lt_or_ge k s.size with h' | h'
    · exact h'
    · rw [List.drop_eq_nil_of_le (by omega)] at h3
      exact absurd (List.append_eq_nil_iff.1 h3.symm).1 (vl_ne _)
  have hr : rdAt s (k : Int) = rdl 0 0 (s.data.toList.drop k) := by
    unfold rdAt
    rw [if_pos (by omega)]
    rfl
  refine ⟨?_, ⟨h1, h2.tail, ?_⟩, hk⟩
  · rw [hr, h3, rd_one h2.head]
  · rw [← List.drop_drop, h3, List.drop_left]
theorem rd_le {s : ByteArray} {k : Nat} (h0 : (rdAt s (k : Int)).2 ≠ 0) : k + (rdAt s (k : Int)).2 ≤ s.size ∧ (rdAt s (k : Int)).1 ≤ 4294967295 := by
  have hk2 : k < s.size := by
    rcases Nat.lt_or_ge k s.size with h' | h'
    · exact h'
    · have : rdAt s (k : Int) = (0, 0) := by
        unfold rdAt
        rw [if_neg (by omega)]
      rw [this] at h0
      exact absurd rfl h0
  have hz : s.data.toList.length = s.size := Array.length_toList
  have hr : rdAt s (k : Int) = rdl 0 0 (s.data.toList.drop k) := by
    unfold rdAt
    rw [if_pos (by omega)]
    rfl
  rw [hr] at h0 ⊢
  obtain ⟨h1, h2, h3⟩ := rd_yes (x := (rdl 0 0 (s.data.toList.drop k)).1) (m := (rdl 0 0 (s.data.toList.drop k)).2) rfl h0
  rw [List.length_drop] at h3
  exact ⟨by omega, h2⟩
/-- The reader in memory. -/
def RdM (w : World) (G : Nat) (s : ByteArray) (k : Nat) (bad : Bool) : Prop := At w G #[.string s, .int .i64 (k : Int), .bool bad] 33
def NumTold (s : ByteArray) (k : Nat) (bad : Bool) (G : Nat) (w : World) (e : Ending) (w' : World) : Prop := ∃ (n : Int) (k' : Nat) (bad' : Bool), e = .returned (.int .i64 n) ∧ NumIs s k bad n k' bad' ∧ RdM w' G s k' bad' ∧ OnlyR G w w'
set_option maxHeartbeats 2000000 in
theorem numS (G : Nat) (s : ByteArray) (k : Nat) (bad : Bool) (w : World) (h : RdM w G s k bad) (hs : s.size ≤ 20000) (hk : k ≤ s.size) :
    Calls Tryd.prog 9 #[.pointer (some ⟨G, 0, none⟩)] w fun e w' => NumTold s k bad G w e w' := by
  have R := fun (V : World) => readS s (k : Int) (by omega) V
  have HA : Hid (RdM w G s k bad) := h
  have c0 : w.cell? ⟨G, 0, none⟩ = some (.string s) := h.cell 0
  have c1 : w.cell? ⟨G, 1, none⟩ = some (.int .i64 (k : Int)) := h.cell 1
  have c2 : w.cell? ⟨G, 2, none⟩ = some (.bool bad) := h.cell 2
  have d0 : w.drew.cell? ⟨G, 0, none⟩ = some (.string s) := h.cell 0
  have d1 : w.drew.cell? ⟨G, 1, none⟩ = some (.int .i64 (k : Int)) := h.cell 1
  have cf : ∀ o, w.frozen? ⟨G, o, none⟩ = false := fun o => froz_of_heap h
  have df : ∀ o, w.drew.frozen? ⟨G, o, none⟩ = false := fun o => froz_of_heap h
  have d2 : w.drew.cell? ⟨G, 2, none⟩ = some (.bool bad) := h.cell 2
  have hA2 : At w.drew G #[.string s, .int .i64 (k : Int), .bool bad] 33 := h
  clear h
  by_cases h0 : (rdAt s (k : Int)).2 = 0
  · have HN : Hid (NumIs s k bad 0 k true) := ⟨by omega, by omega, hk, fun x L ho => by
      have := (on_read ho).1
      rw [this] at h0
      exact absurd (List.length_eq_zero_iff.1 h0) (vl_ne _)⟩
    generalize (rdAt s (k : Int)).1 = n at R
    rw [h0] at R
    clear h0
    go_enter Tryd.func9, Tryd.ntmps9
    go_wp2_with fail
    go_region_with (go_at_call 22; refine (R _).mono ?_; rintro e w1 ⟨rfl, rfl⟩)
    all_goals go_wp2_with fail
    all_goals go_ret
    all_goals exact ⟨0, k, true, rfl, HN.out, heap_set (o := 2) (v := .bool true) hA2, (OnlyR.refl G w).drew.set _ _⟩
  · obtain ⟨h1, h2⟩ := rd_le h0
    have HN : Hid (NumIs s k bad ((rdAt s (k : Int)).1 : Int) (k + (rdAt s (k : Int)).2) bad) := ⟨by omega, by omega, h1, fun x L ho => by
      obtain ⟨e1, e2, _⟩ := on_read ho
      have := ho.2.1.head
      rw [e1]
      exact ⟨by show ((x.toNat : Nat) : Int) = x; omega, e2⟩⟩
    generalize (rdAt s (k : Int)).1 = n at R HN h2
    generalize (rdAt s (k : Int)).2 = m at R HN h0 h1
    have hm : ((m : Int) == 0) = false := by simp; exact h0
    go_enter Tryd.func9, Tryd.ntmps9
    go_wp2_with fail
    go_region_with (go_at_call 22; refine (R _).mono ?_; rintro e w1 ⟨rfl, rfl⟩)
    all_goals go_wp2_with fail
    all_goals go_ret
    all_goals
      refine ⟨(n : Int), k + m, bad, rfl, HN.out, ?_, (OnlyR.refl G w).drew.set _ _⟩
      show At _ _ _ _
      rw [show ((k + m : Nat) : Int) = (k : Int) + (m : Int) from by omega]
      exact heap_set (o := 1) (v := .int .i64 ((k : Int) + (m : Int))) hA2
def ManyTold (most : Int) (s : ByteArray) (k : Nat) (bad : Bool) (G : Nat) (w : World) (e : Ending) (w' : World) : Prop := ∃ (n : Nat) (k' : Nat) (bad' : Bool), e = .returned (.int .i64 (n : Int)) ∧ (n : Int) ≤ most ∧ k' ≤ s.size ∧ (∀ x L, On s k bad (x :: L) → x ≤ most → (n : Int) = x ∧ On s k' bad' L) ∧ RdM w' G s k' bad' ∧ OnlyR G w w'
set_option maxHeartbeats 2000000 in
theorem manyS (most : Int) (G : Nat) (s : ByteArray) (k : Nat) (bad : Bool) (w : World) (h : RdM w G s k bad) (hs : s.size ≤ 20000) (hk : k ≤ s.size) (hm : 0 ≤ most ∧ most ≤ 1000) :
    Calls Tryd.prog 11 #[.pointer (some ⟨G, 0, none⟩), .int .i64 most] w fun e w' => ManyTold most s k bad G w e w' := by
  have N := numS G s k bad w h hs hk
  clear h
  go_enter Tryd.func11, Tryd.ntmps11
  go_wp2_with fail
  refine N.mono ?_
  rintro e w1 ⟨n, k1, b1, rfl, hn, hr, ko⟩
  have HN : Hid (NumIs s k bad n k1 b1) := hn
  have HR : Hid (RdM w1 G s k1 b1) := hr
  have HO : Hid (OnlyR G w w1) := ko
  obtain ⟨hn0, hn1, hk1, _⟩ := hn
  clear N hr ko
  obtain ⟨m, rfl⟩ := Int.eq_ofNat_of_zero_le hn0
  have c2 : w1.cell? ⟨G, 2, none⟩ = some (.bool b1) := HR.out.cell 2
  have cf : w1.frozen? ⟨G, 2, none⟩ = false := froz_of_heap HR.out
  by_cases hgt : most < (m : Int)
  · have KN : Hid (∀ x L, On s k bad (x :: L) → x ≤ most → ((0 : Nat) : Int) = x ∧ On s k1 true L) := fun x L ho hx => by
      have := (HN.out.2.2.2 x L ho).1
      omega
    go_wp2_with fail
    go_ret
    exact ⟨0, k1, true, rfl, by simpa using hm.1, hk1, KN.out, heap_set (o := 2) (v := .bool true) HR.out, HO.out.set _ _⟩
  · cases b1
    · have KN : Hid (∀ x L, On s k bad (x :: L) → x ≤ most → ((m : Nat) : Int) = x ∧ On s k1 false L) := fun x L ho hx => HN.out.2.2.2 x L ho
      go_wp2_with fail
      go_ret
      exact ⟨m, k1, false, rfl, by omega, hk1, KN.out, HR.out, HO.out⟩
    · have KN : Hid (∀ x L, On s k bad (x :: L) → x ≤ most → ((0 : Nat) : Int) = x ∧ On s k1 true L) := fun x L ho hx => by
        have := (HN.out.2.2.2 x L ho).2.1
        cases this
      go_wp2_with fail
      go_ret
      exact ⟨0, k1, true, rfl, by simpa using hm.1, hk1, KN.out, HR.out, HO.out⟩
def ListTold (most : Int) (s : ByteArray) (k : Nat) (bad : Bool) (G : Nat) (w : World) (e : Ending) (w' : World) : Prop := ∃ (v : Value) (l : List Int) (k' : Nat) (bad' : Bool), e = .returned v ∧ Row w' w.heap.size v l ∧ (l.length : Int) ≤ most ∧ k' ≤ s.size ∧ (∀ l' L, On s k bad (listN l' ++ L) → (l'.length : Int) ≤ most → l = l' ∧ On s k' bad' L) ∧ RdM w' G s k' bad' ∧ OnlyR G w w'
theorem RdM.only {G g : Nat} {w w' : World} {s : ByteArray} {k : Nat} {bad : Bool} (h : RdM w G s k bad) (hg : w.grownBy w' (some g)) (hn : G ≠ g) : RdM w' G s k bad := (hg.block G (At.lt h) (by intro e; exact hn (Option.some.inj e))).trans h
theorem RdM.grown {G base : Nat} {w w' : World} {s : ByteArray} {k : Nat} {bad : Bool} {v : Value} {l : List Int} (h : RdM w G s k bad) (hr : Row w base v l) (hg : w.grownBy w' v.ownBlock) : RdM w' G s k bad := (hg.block G (At.lt h) (fun e => by
    rcases hr.2 with ⟨hv, _⟩ | ⟨g, cap, cur, hv, _, hc, _⟩
    · rw [hv] at e; cases e
    · rw [hv] at e
      have e2 : G = g := Option.some.inj e
      rw [← e2, show w.heap[G]? = _ from h] at hc
      cases hc)).trans h
theorem OnlyR.grown {G base : Nat} {w w1 w2 : World} {v : Value} {l : List Int} (h : OnlyR G w w1) (hr : Row w1 base v l) (hb : w.heap.size ≤ base) (hg : w1.grownBy w2 v.ownBlock) : OnlyR G w w2 :=
  ⟨hg.os.trans h.os, hg.tape.trans h.tape, hg.output.trans h.output, Nat.le_trans h.size hg.size, fun i hi hn => (hg.block i (by have := h.size; omega) (fun e => by have := (hr.ge e.symm).1; omega)).trans (h.block i hi hn)⟩
theorem Row.onlyM {G : Nat} {w w' : World} {base : Nat} {v : Value} {l : List Int} {s : ByteArray} {k : Nat} {bad : Bool} (h : Row w base v l) (k1 : OnlyR G w w') (hG : RdM w G s k bad) : Row w' base v l :=
  h.block fun g hg hlt => k1.block g hlt (fun e => by
    rcases h.2 with ⟨hv, _⟩ | ⟨g', cap, cur, hv, _, hc, _⟩
    · rw [hv] at hg; cases hg
    · rw [hv] at hg
      cases hg
      have e2 : g' = G := e
      rw [e2, show w.heap[G]? = _ from hG] at hc
      cases hc)
set_option maxHeartbeats 4000000 in
theorem listS (most : Int) (G : Nat) (s : ByteArray) (k : Nat) (bad : Bool) (w : World) (h : RdM w G s k bad) (hs : s.size ≤ 20000) (hk : k ≤ s.size) (hm : 0 ≤ most ∧ most ≤ 1000) :
    Calls Tryd.prog 10 #[.pointer (some ⟨G, 0, none⟩), .int .i64 most] w fun e w' => ListTold most s k bad G w e w' := by
  have B1 : Below w.heap.size w (w.alloc (.cells #[] 2)) := (Below.refl _ _).alloc (Nat.le_refl _) _
  have R1 := Row.lit w w.heap.size (Nat.le_refl _)
  have M := manyS most G s k bad (w.alloc (.cells #[] 2)) (At.below h B1) hs hk hm
  have HO0 : Hid (OnlyR G w (w.alloc (.cells #[] 2))) := OnlyR.below B1
  have HR0 : Hid (Row (w.alloc (.cells #[] 2)) w.heap.size (.slice (some ⟨w.heap.size, 0, none⟩) 0 0) []) := R1
  have HD0 : Hid (RdM (w.alloc (.cells #[] 2)) G s k bad) := At.below h B1
  clear B1 R1 h
  go_enter Tryd.func10, Tryd.ntmps10
  go_wp2_with fail
  refine M.mono ?_
  rintro e w1 ⟨n, k1, b1, rfl, hn, hk1, hon, hr, ko⟩
  have HR1 : Hid (Row w1 w.heap.size (.slice (some ⟨w.heap.size, 0, none⟩) 0 0) []) := HR0.out.onlyM ko HD0.out
  have HO1 : Hid (OnlyR G w w1) := HO0.out.trans ko
  have HD1 : Hid (RdM w1 G s k1 b1) := hr
  have HI1 : Hid (∀ l' L, On s k bad (listN l' ++ L) → (l'.length : Int) ≤ most → ∃ r, l' = [] ++ r ∧ r.length = n ∧ On s k1 b1 (r ++ L)) := fun l' L ho hl => by
    obtain ⟨e1, e2⟩ := hon _ _ ho hl
    exact ⟨l', rfl, by omega, e2⟩
  clear M hon hr ko HR0 HO0 HD0
  go_wp2_with fail
  go_loopw [5, 6] (fun v i wr => ∃ (l : List Int) (q : Nat) (k2 : Nat) (b2 : Bool), i = .int .i64 (q : Int) ∧ ((l.length + q : Nat) : Int) ≤ most ∧ k2 ≤ s.size ∧ Hid (Row wr w.heap.size v l) ∧ Hid (OnlyR G w wr) ∧ Hid (RdM wr G s k2 b2) ∧ Hid (∀ l' L, On s k bad (listN l' ++ L) → (l'.length : Int) ≤ most → ∃ r, l' = l ++ r ∧ r.length = q ∧ On s k2 b2 (r ++ L))) (fun _ i _ => (intOf i).toNat)
  case atStart => exact ⟨[], n, k1, b1, rfl, by simpa using hn, hk1, HR1, HO1, HD1, HI1⟩
  case round =>
    clear HR1 HO1 HD1 HI1
    obtain ⟨l, q, k2, b2, rfl, hlq, hk2, HR, HO, HD, HI⟩ := hrel
    have c2 : wr.cell? ⟨G, 2, none⟩ = some (.bool b2) := HD.out.cell 2
    by_cases hq : 0 < q
    · have hqI : (0 : Int) < (q : Int) := by omega
      cases b2
      · have N := numS G s k2 false wr HD.out hs hk2
        obtain ⟨va, vc, rfl⟩ := HR.out.slice
        go_wp2_with fail
        refine N.mono ?_
        rintro e w3 ⟨x, k3, b3, rfl, hx, hr3, ko3⟩
        have HR3 : Hid (Row w3 w.heap.size (.slice va l.length vc) l) := HR.out.onlyM ko3 HD.out
        have HO3 : Hid (OnlyR G w w3) := HO.out.trans ko3
        have HD3 : Hid (RdM w3 G s k3 b3) := hr3
        have hk3 : k3 ≤ s.size := hx.2.2.1
        have HI3 : Hid (∀ l' L, On s k bad (listN l' ++ L) → (l'.length : Int) ≤ most → ∃ r, l' = (l ++ [x]) ++ r ∧ r.length = q - 1 ∧ On s k3 b3 (r ++ L)) := fun l' L ho hl => by
          obtain ⟨r, e1, e2, e3⟩ := HI.out l' L ho hl
          cases r with
          | nil => simp at e2; omega
          | cons y r =>
            obtain ⟨f1, f2⟩ := hx.2.2.2 y (r ++ L) e3
            subst f1
            exact ⟨r, by rw [e1]; simp, by simp at e2; omega, f2⟩
        have bx : Below w3.heap.size w3 (w3.alloc (.cells #[.int .i64 x] 2)) := (Below.refl _ _).alloc (Nat.le_refl _) _
        have HR4 : Hid (Row (w3.alloc (.cells #[.int .i64 x] 2)) w.heap.size (.slice va l.length vc) l) := HR3.out.keep bx
        have HO4 : Hid (OnlyR G w (w3.alloc (.cells #[.int .i64 x] 2))) := HO3.out.trans (OnlyR.below bx)
        have HD4 : Hid (RdM (w3.alloc (.cells #[.int .i64 x] 2)) G s k3 b3) := At.below HD3.out bx
        have hzz : w.heap.size ≤ (w3.alloc (.cells #[.int .i64 x] 2)).heap.size := HO4.out.size
        have hll : l.length ≤ 4194304 := by omega
        clear N hx hr3 ko3 HR HO HD HI c2 bx HR3 HO3 HD3
        go_wp2_with (at_builtin; refine push_int rfl _ _ rfl w.heap.size (.slice va l.length vc) l rfl HR4.out x w3.heap.size 1 rfl (one_cell _ _ _) hll hzz ?_; intro v5 w5 hR5 hg5)
        have HR5 : Hid (Row w5 w.heap.size v5 (l ++ [x])) := hR5
        have HO5 : Hid (OnlyR G w w5) := HO4.out.grown HR4.out (Nat.le_refl _) hg5
        have HD5 : Hid (RdM w5 G s k3 b3) := HD4.out.grown HR4.out hg5
        clear hR5 hg5 HR4 HO4 HD4 hzz
        obtain ⟨va5, vc5, rfl⟩ := HR5.out.slice
        go_roundw
        case rel => exact ⟨l ++ [x], q - 1, k3, b3, by go_num, by simp; omega, hk3, HR5, HO5, HD5, HI3⟩
        case measure => simp [intOf]; omega
      · have HIe : Hid (∀ l' L, On s k bad (listN l' ++ L) → (l'.length : Int) ≤ most → l = l' ∧ On s k2 true L) := fun l' L ho hl => by
          obtain ⟨r, e1, e2, e3⟩ := HI.out l' L ho hl
          cases e3.1
        go_wp2_with fail
        go_ret
        exact ⟨_, l, k2, true, rfl, HR.out, by omega, hk2, HIe.out, HD.out, HO.out⟩
    · have hqI : ¬ (0 : Int) < (q : Int) := by omega
      have HIe : Hid (∀ l' L, On s k bad (listN l' ++ L) → (l'.length : Int) ≤ most → l = l' ∧ On s k2 b2 L) := fun l' L ho hl => by
        obtain ⟨r, e1, e2, e3⟩ := HI.out l' L ho hl
        have : r = [] := List.length_eq_zero_iff.1 (by omega)
        subst this
        exact ⟨by rw [e1]; simp, e3⟩
      go_wp2_with fail
      go_ret
      exact ⟨_, l, k2, b2, rfl, HR.out, by omega, hk2, HIe.out, HD.out, HO.out⟩
end Go.Proofs.YtpmanjkaiknlhaaDoor
namespace Go.Proofs.YtpmanjkaiknlhaaDoor
open Go.RowKit
set_option linter.unusedVariables false
set_option linter.unusedSimpArgs false

/-- What the model tells. -/
def ReadToldS (s : ByteArray) (base : Nat) (w : World) (e : Ending) : Prop :=
  (∃ p u1 c1 u2 c2 u3 c3, OkP s p ∧ e = .returned (.tuple #[.agg #[.int .i64 p.regs, .slice u1 p.params.length c1, .slice u2 p.widths.length c2, .slice u3 p.code.length c3], .bool true]) ∧ IntsAt w base u1 p.params ∧ IntsAt w base u2 p.widths ∧ MinsAt w base u3 p.code) ∨ ((¬ ∃ p, OkP s p) ∧ e = .returned (.tuple #[.agg #[.int .i64 0, .slice none 0 0, .slice none 0 0, .slice none 0 0], .bool false]))
/-- The model's state while code is read: the reader at G, the program's box at Bp, the rows from B on. -/
structure MdS (w wr : World) (G Bp B : Nat) (s : ByteArray) (x : Int) (v1 v2 v3 : Value) (ps ws : List Int) (C : List MInsD) (k : Nat) (bad : Bool) : Prop where
  rd : RdM wr G s k bad
  box : At wr Bp #[.int .i64 x, v1, v2, v3] 25
  res : At wr w.heap.size #[.int .i64 0, .slice none 0 0, .slice none 0 0, .slice none 0 0] 25
  r1 : Row wr B v1 ps
  r2 : Row wr B v2 ws
  r3 : RowMs wr B v3 C
  below : Below w.heap.size w wr
  lt : w.heap.size < Bp
  ltG : w.heap.size < G
  neG : G ≠ Bp
  geB : w.heap.size ≤ B
  leB : B ≤ wr.heap.size
theorem MdS.only {w wr w2 : World} {G Bp B : Nat} {s : ByteArray} {x : Int} {v1 v2 v3 : Value} {ps ws : List Int} {C : List MInsD} {k k2 : Nat} {bad bad2 : Bool} (h : MdS w wr G Bp B s x v1 v2 v3 ps ws C k bad) (ko : OnlyR G wr w2) (h2 : RdM w2 G s k2 bad2) : MdS w w2 G Bp B s x v1 v2 v3 ps ws C k2 bad2 :=
  ⟨h2, (ko.block Bp h.box.lt (Ne.symm h.neG)).trans h.box, (ko.block _ h.res.lt (by have := h.ltG; omega)).trans h.res, h.r1.onlyM ko h.rd, h.r2.onlyM ko h.rd, h.r3.only ko h.rd (by decide), h.below.trans (ko.down (Nat.le_of_lt h.ltG) h.below.size), h.lt, h.ltG, h.neG, h.geB, Nat.le_trans h.leB ko.size⟩
theorem MdS.keep {w wr w2 : World} {G Bp B : Nat} {s : ByteArray} {x : Int} {v1 v2 v3 : Value} {ps ws : List Int} {C : List MInsD} {k : Nat} {bad : Bool} (h : MdS w wr G Bp B s x v1 v2 v3 ps ws C k bad) (b : Below wr.heap.size wr w2) : MdS w w2 G Bp B s x v1 v2 v3 ps ws C k bad :=
  ⟨At.below h.rd b, h.box.below b, h.res.below b, h.r1.keep b, h.r2.keep b, h.r3.keep b, h.below.trans (b.mono h.below.size), h.lt, h.ltG, h.neG, h.geB, Nat.le_trans h.leB b.size⟩
theorem MdS.put3 {w wr w2 : World} {G Bp B : Nat} {s : ByteArray} {x : Int} {v1 v2 v3 v : Value} {ps ws : List Int} {C D : List MInsD} {k : Nat} {bad : Bool} (h : MdS w wr G Bp B s x v1 v2 v3 ps ws C k bad) (g : wr.grownBy w2 v3.ownBlock) (hv : RowMs w2 B v D) : MdS w (w2.setCell ⟨Bp, 3, none⟩ v) G Bp B s x v1 v2 v ps ws D k bad ∧ At w2 Bp #[.int .i64 x, v1, v2, v3] 25 := by
  have key : ∀ b cs T, At wr b cs T → T ≠ 38 → w2.heap[b]? = wr.heap[b]? := fun b cs T hb hT => g.block b hb.lt (fun e => by
    obtain ⟨_, cur, hc⟩ := h.r3.ge e.symm
    exact hb.ne hc hT rfl)
  have keyR : ∀ u l, Row wr B u l → Row w2 B u l := fun u l hr => hr.block fun b hb hlt => g.block b hlt (fun e => by
    obtain ⟨cur, hc⟩ := hr.typ hb
    obtain ⟨_, cur2, hc2⟩ := h.r3.ge e.symm
    rw [hc] at hc2
    cases hc2)
  have hbx : At w2 Bp #[.int .i64 x, v1, v2, v3] 25 := (key _ _ _ h.box (by decide)).trans h.box
  have hbl : Below w.heap.size w w2 := ⟨g.os.trans h.below.os, g.tape.trans h.below.tape, g.output.trans h.below.output, Nat.le_trans h.below.size g.size, fun b hb => (g.block b (by have := h.below.size; omega) (fun e => by have := (h.r3.ge e.symm).1; have := h.geB; omega)).trans (h.below.block b hb)⟩
  refine ⟨⟨?_, heap_set hbx, ?_, (keyR _ _ h.r1).setT hbx (by decide), (keyR _ _ h.r2).setT hbx (by decide), hv.setT hbx (by decide), hbl.setCell (by have := h.lt; dsimp only; omega) _, h.lt, h.ltG, h.neG, h.geB, by simp only [World.size_setCell]; exact Nat.le_trans h.leB g.size⟩, hbx⟩
  · exact At.setOther ((key _ _ _ h.rd (by decide)).trans h.rd) h.neG
  · exact At.setOther ((key _ _ _ h.res (by decide)).trans h.res) (by have := h.lt; omega)
/-- What is known of every program whose bytes these are. -/
def Fits (s : ByteArray) (x : Int) (ps ws : List Int) (C : List MInsD) (q k : Nat) (bad : Bool) : Prop := ∀ p, OkP s p → x = p.regs ∧ ps = p.params ∧ ws = p.widths ∧ ∃ r, p.code = C ++ r ∧ r.length = q ∧ On s k bad (r.flatMap minN)
theorem on_min {s : ByteArray} {k : Nat} {bad : Bool} {y : MInsD} {L : List Int} {n0 n1 n2 n3 n4 n5 n6 : Int} {k0 k1 k2 k3 k4 k5 k6 : Nat} {b0 b1 b2 b3 b4 b5 b6 : Bool} (h : On s k bad (minN y ++ L)) (h0 : NumIs s k bad n0 k0 b0) (h1 : NumIs s k0 b0 n1 k1 b1) (h2 : NumIs s k1 b1 n2 k2 b2) (h3 : NumIs s k2 b2 n3 k3 b3) (h4 : NumIs s k3 b3 n4 k4 b4) (h5 : NumIs s k4 b4 n5 k5 b5) (h6 : NumIs s k5 b5 n6 k6 b6) :
    y = ⟨n0, n1, n2, n3, n4, n5, n6⟩ ∧ On s k6 b6 L := by
  obtain ⟨e0, g0⟩ := h0.2.2.2 _ _ h
  obtain ⟨e1, g1⟩ := h1.2.2.2 _ _ g0
  obtain ⟨e2, g2⟩ := h2.2.2.2 _ _ g1
  obtain ⟨e3, g3⟩ := h3.2.2.2 _ _ g2
  obtain ⟨e4, g4⟩ := h4.2.2.2 _ _ g3
  obtain ⟨e5, g5⟩ := h5.2.2.2 _ _ g4
  obtain ⟨e6, g6⟩ := h6.2.2.2 _ _ g5
  refine ⟨?_, g6⟩
  cases y
  simp only at e0 e1 e2 e3 e4 e5 e6
  simp [e0, e1, e2, e3, e4, e5, e6]
theorem Fits.next {s : ByteArray} {x : Int} {ps ws : List Int} {C : List MInsD} {q k : Nat} {bad : Bool} (h : Fits s x ps ws C q k bad) (hq : 0 < q) {n0 n1 n2 n3 n4 n5 n6 : Int} {k0 k1 k2 k3 k4 k5 k6 : Nat} {b0 b1 b2 b3 b4 b5 b6 : Bool} (h0 : NumIs s k bad n0 k0 b0) (h1 : NumIs s k0 b0 n1 k1 b1) (h2 : NumIs s k1 b1 n2 k2 b2) (h3 : NumIs s k2 b2 n3 k3 b3) (h4 : NumIs s k3 b3 n4 k4 b4) (h5 : NumIs s k4 b4 n5 k5 b5) (h6 : NumIs s k5 b5 n6 k6 b6) :
    Fits s x ps ws (C ++ [⟨n0, n1, n2, n3, n4, n5, n6⟩]) (q - 1) k6 b6 := fun p hp => by
  obtain ⟨e1, e2, e3, r, e4, e5, e6⟩ := h p hp
  refine ⟨e1, e2, e3, ?_⟩
  cases r with
  | nil => simp at e5; omega
  | cons y r =>
    rw [List.flatMap_cons] at e6
    obtain ⟨f1, f2⟩ := on_min e6 h0 h1 h2 h3 h4 h5 h6
    subst f1
    exact ⟨r, by rw [e4]; simp, by simp at e5; omega, f2⟩
theorem ok_on {s : ByteArray} {p : ProgD} (h : OkP s p) : On s 4 false (progN p) := by
  refine ⟨rfl, prog_rng h.1, ?_⟩
  rw [ok_data h]
  rfl
theorem ok_head {s : ByteArray} {p : ProgD} (h : OkP s p) : 4 ≤ s.size ∧ s.extract 0 4 = reg1 := by
  obtain ⟨h1, h2, _⟩ := reg1_pre (ok_data h)
  exact ⟨h1, h2⟩
theorem ok_back {s : ByteArray} {p : ProgD} (hs : 4 ≤ s.size) (hz : s.size ≤ 20000) (h : progT p = s) : OkP s p := by
  unfold progT at h
  by_cases hb : progB p = true
  · rw [if_pos hb] at h
    exact ⟨hb, h.symm, hz⟩
  · rw [if_neg hb] at h
    rw [← h] at hs
    exact absurd hs (by decide)
theorem ok_forth {s : ByteArray} {p : ProgD} (h : OkP s p) : progT p = s := by
  unfold progT
  rw [if_pos h.1]
  exact h.2.1.symm
end Go.Proofs.YtpmanjkaiknlhaaDoor
