/- Numbers told to a loop: those of a program. -/
import Derived.Test.YtoekogfbmnjeiaaPbB
import Derived.Test.YtoekogfbmnjeiaaPbC
namespace Go.Proofs.Ytoekogfbmnjeiaa
open Go.RowKit Go.Shelf
attribute [local go_sem] Oper.semAt_some
set_option linter.unusedVariables false

theorem seven_at {V : World} {g : Nat} {x : MInsD} (h : V.heap[g]? = some (.cells #[.int .i64 x.op, .int .i64 x.w, .int .i64 x.d, .int .i64 x.a, .int .i64 x.b, .int .i64 x.c, .int .i64 x.imm] 2 (0, 0))) : IntsAt V 0 (some ⟨g, 0, none⟩) (minN x) := by
  refine ⟨by simp [minN], .inr ⟨g, 0, rfl, Nat.zero_le _, ?_, fun i hi => ?_⟩⟩
  · rcases Nat.lt_or_ge g V.heap.size with h' | h'
    · exact h'
    · rw [Array.getElem?_eq_none h'] at h; cases h
  · rw [cell_of_heap h]
    have h7 : i < 7 := by simpa [minN] using hi
    match i, h7 with
    | 0, _ => rfl
    | 1, _ => rfl
    | 2, _ => rfl
    | 3, _ => rfl
    | 4, _ => rfl
    | 5, _ => rfl
    | 6, _ => rfl
set_option maxHeartbeats 4000000 in
theorem numbersI (l : Nat) (Kp : World → World → Prop) (hKr : ∀ A, Kp A A) (hKt : ∀ {A B C : World}, Kp A B → Kp B C → Kp A C) (hKa : ∀ (A : World) (o : Obj), Kp A (A.alloc o))
    (hKn : ∀ (A : World) (cs : Array Value) (B : World), Kp (A.alloc (.cells cs 2)) B → B.heap[A.heap.size]? = some (.cells cs 2 (0, 0)))
    (N : Nat) (J Jx : List Int → World → Prop) (hY : Yl l Kp N J Jx) (hJa : ∀ (pre : List Int) (A : World) (o : Obj), J pre A → J pre (A.alloc o))
    (m lo Bp : Nat) (p : ProgD) (s1 : Option Addr) (c1 : Nat) (s2 : Option Addr) (c2 : Nat) (s3 : Option Addr) (c3 : Nat) (W : World) (h0 : J [] W)
    (hX : ∀ V, Kp W V → BoxP V Bp p s1 c1 s2 c2 s3 c3) (hk1 : ∀ V, Kp W V → IntsAt V lo s1 p.params) (hk2 : ∀ V, Kp W V → IntsAt V lo s2 p.widths) (hk3 : ∀ V, Kp W V → MinsAt V lo s3 p.code)
    (hl1 : p.params.length ≤ 4) (hl2 : p.widths.length ≤ 4) (hl3 : p.code.length ≤ 600) (hN : 5000 ≤ N) :
    CallsIn Fence.wide m Try.prog 31 #[.func (.yield l) #[] #[], .pointer (some ⟨Bp, 0, none⟩)] W fun e W' => (∃ v, e = .returned v) ∧ (J (progN p) W' ∨ ∃ q, Jx q W') := by
  have L1 : Hid (∀ V pre, Kp W V → J pre V → pre.length ≤ 100 → CallsIn Fence.wide (m - 1) Try.prog 32 #[.slice s1 p.params.length c1, .func (.yield l) #[] #[]] V fun e W' => Told Kp J Jx pre (listN p.params) V e W') := fun V pre h hj hpl => tellListI l Kp hKr hKt N J Jx hY (m - 1) lo s1 c1 p.params (by omega) pre (by omega) V hj (fun V2 h2 => hk1 V2 (hKt h h2))
  have L2 : Hid (∀ V pre, Kp W V → J pre V → pre.length ≤ 100 → CallsIn Fence.wide (m - 1) Try.prog 32 #[.slice s2 p.widths.length c2, .func (.yield l) #[] #[]] V fun e W' => Told Kp J Jx pre (listN p.widths) V e W') := fun V pre h hj hpl => tellListI l Kp hKr hKt N J Jx hY (m - 1) lo s2 c2 p.widths (by omega) pre (by omega) V hj (fun V2 h2 => hk2 V2 (hKt h h2))
  have L3 : Hid (∀ V pre, J pre V → pre.length ≤ 100 → CallsIn Fence.wide (m - 1) Try.prog 33 #[.int .i64 (p.code.length : Int), .func (.yield l) #[] #[]] V fun e W' => Told Kp J Jx pre [(p.code.length : Int)] V e W') := fun V pre hj hpl => tellCountI l Kp hKr hKt N J Jx hY (m - 1) p.code.length (by omega) pre (by omega) V hj
  have HX : Hid (∀ V, Kp W V → BoxP V Bp p s1 c1 s2 c2 s3 c3) := hX
  have HK3 : Hid (∀ V, Kp W V → MinsAt V lo s3 p.code) := hk3
  clear hX hk1 hk2 hk3
  obtain ⟨hz, y0, y1, y2, y3⟩ := HX.out W (hKr W)
  obtain ⟨fn, tmps, assign, body, hy, hR⟩ := hY (m - 1) [] p.regs W h0 (by simp; omega)
  refine callsIn_of_wp Try.func31 rfl trivial ?_ rfl
  simp only [Try.ntmps31, List.size_toArray, List.length_cons, List.length_nil, Nat.reduceAdd, Nat.reduceSub, Array.replicate_succ, Array.replicate_zero, List.push_toArray, List.append_toArray, List.nil_append, List.cons_append]
  gi_wp2
  refine ⟨hdd _, hR.mono ?_⟩
  clear hR
  rintro e W1 (⟨rfl, hJ1, hb1⟩ | ⟨rfl, hx1⟩)
  · have C1 := L1.out W1 _ hb1 hJ1 (by simp)
    obtain ⟨_, z0, z1, z2, z3⟩ := HX.out W1 hb1
    clear L1 y0 y1 y2 y3 hJ1
    gi_wp2
    refine ⟨trivial, hdd _, C1.mono ?_⟩
    clear C1
    rintro e W2 (⟨rfl, hJ2, hb2⟩ | ⟨rfl, hx2⟩)
    · have hb2 := hKt hb1 hb2
      have C2 := L2.out W2 _ hb2 hJ2 (by simp [listN]; omega)
      clear z0 z1 z2 z3
      obtain ⟨_, z0, z1, z2, z3⟩ := HX.out W2 hb2
      clear L2 hJ2
      gi_wp2
      refine ⟨trivial, hdd _, C2.mono ?_⟩
      clear C2
      rintro e W3 (⟨rfl, hJ3, hb3⟩ | ⟨rfl, hx3⟩)
      · have hb3 := hKt hb2 hb3
        have C3 := L3.out W3 _ hJ3 (by simp [listN]; omega)
        clear z0 z1 z2 z3
        obtain ⟨_, z0, z1, z2, z3⟩ := HX.out W3 hb3
        clear L3 hJ3
        gi_wp2
        refine ⟨trivial, hdd _, C3.mono ?_⟩
        clear C3
        rintro e W4 (⟨rfl, hJ4, hb4⟩ | ⟨rfl, hx4⟩)
        · have hb4 := hKt hb3 hb4
          have HJ4 : Hid (J (headN p) W4) := by show J _ _; unfold headN; simpa [List.append_assoc] using hJ4
          clear z0 z1 z2 z3
          obtain ⟨_, z0, z1, z2, z3⟩ := HX.out W4 hb4
          gi_wp2
          clear hJ4
          gi_loopw [35] (fun i wr => ∃ k : Nat, k ≤ p.code.length ∧ i = .int .i64 k ∧ Hid (J (headN p ++ (p.code.take k).flatMap minN) wr) ∧ Hid (Kp W wr)) (fun i _ => p.code.length - (intOf i).toNat)
          case atStart => exact ⟨0, by omega, rfl, by show J _ _; simpa using HJ4.out, hb4⟩
          case round =>
            obtain ⟨k, hk, rfl, HJ, HB⟩ := hrel
            by_cases hlt : k < p.code.length
            · obtain ⟨bb, off, rfl, e0, e1, e2, e3, e4, e5, e6⟩ := mins_cellP (HK3.out wr HB.out) hlt
              have HN : Hid (headN p ++ (p.code.take (k + 1)).flatMap minN = headN p ++ (p.code.take k).flatMap minN ++ minN (p.code.getD k mins0)) := by
                show _ = _
                rw [takeM_snoc hlt, List.flatMap_append, List.append_assoc]
                simp
              generalize p.code.getD k mins0 = x at e0 e1 e2 e3 e4 e5 e6 HN
              have TA := tellAllI l Kp hKr hKt N J Jx hY (m - 1) 0 (some ⟨wr.heap.size + 1, 0, none⟩) 7 (minN x) (by simp [minN]) (headN p ++ (p.code.take k).flatMap minN) (by rw [List.length_append, flat_len, List.length_take]; simp [headN, listN, minN]; omega) ((wr.alloc (.cells #[.int .i64 x.op, .int .i64 x.w, .int .i64 x.d, .int .i64 x.a, .int .i64 x.b, .int .i64 x.c, .int .i64 x.imm] 40)).alloc (.cells #[.int .i64 x.op, .int .i64 x.w, .int .i64 x.d, .int .i64 x.a, .int .i64 x.b, .int .i64 x.c, .int .i64 x.imm] 2)) (hJa _ _ _ (hJa _ _ _ HJ.out)) (fun V hV => seven_at (by have := hKn _ _ V hV; simpa using this))
              have hKw := hKt (hKt HB.out (hKa wr (.cells #[.int .i64 x.op, .int .i64 x.w, .int .i64 x.d, .int .i64 x.a, .int .i64 x.b, .int .i64 x.c, .int .i64 x.imm] 40))) (hKa _ (.cells #[.int .i64 x.op, .int .i64 x.w, .int .i64 x.d, .int .i64 x.a, .int .i64 x.b, .int .i64 x.c, .int .i64 x.imm] 2))
              gi_wp2
              refine ⟨trivial, hdd _, TA.mono ?_⟩
              clear TA
              rintro e W5 (⟨rfl, hJ5, hb5⟩ | ⟨rfl, hx5⟩)
              · have HJ5 : Hid (J (headN p ++ (p.code.take (k + 1)).flatMap minN) W5) := by show J _ _; rw [HN.out]; exact hJ5
                have HB5 : Hid (Kp W W5) := hKt hKw hb5
                clear hJ5 hb5 hKw
                gi_wp2
                go_roundw
                case rel => exact ⟨k + 1, by omega, by go_num, HJ5, HB5⟩
                case measure => simp [intOf]; omega
              · gi_wp2
                refine bodyPost_ret (results_none rfl _ _ _) rfl ?_
                exact ⟨⟨_, rfl⟩, .inr hx5⟩
            · have HF : Hid (J (progN p) wr) := by
                have hkl : k = p.code.length := by omega
                show J _ _
                have := HJ.out
                rw [hkl, List.take_length] at this
                exact this
              gi_wp2
              go_end0
              exact ⟨⟨_, rfl⟩, .inl HF.out⟩
        · gi_wp2
          refine bodyPost_ret (results_none rfl _ _ _) rfl ?_
          exact ⟨⟨_, rfl⟩, .inr hx4⟩
      · gi_wp2
        refine ⟨trivial, ?_⟩
        gi_wp2
        refine bodyPost_ret (results_none rfl _ _ _) rfl ?_
        exact ⟨⟨_, rfl⟩, .inr hx3⟩
    · gi_wp2
      refine ⟨trivial, ?_⟩
      gi_wp2
      refine ⟨trivial, ?_⟩
      gi_wp2
      refine bodyPost_ret (results_none rfl _ _ _) rfl ?_
      exact ⟨⟨_, rfl⟩, .inr hx2⟩
  · gi_wp2
    refine ⟨trivial, ?_⟩
    gi_wp2
    refine ⟨trivial, ?_⟩
    gi_wp2
    refine ⟨trivial, ?_⟩
    gi_wp2
    refine bodyPost_ret (results_none rfl _ _ _) rfl ?_
    exact ⟨⟨_, rfl⟩, .inr ⟨_, hx1⟩⟩
end Go.Proofs.Ytoekogfbmnjeiaa
