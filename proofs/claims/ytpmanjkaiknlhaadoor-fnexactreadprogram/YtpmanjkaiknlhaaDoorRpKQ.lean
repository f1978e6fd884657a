/- Reading programs: programOfBytes. -/
import Derived.Test.YtpmanjkaiknlhaaDoorRpIQ
import Derived.Test.YtpmanjkaiknlhaaDoorPgI
import Derived.Deep.RegionHeld2
import Derived.Defers
import Derived.Recover
import Derived.Laws.Pointers
namespace Go.Proofs.YtpmanjkaiknlhaaDoor
open Go.RowKit
set_option linter.unusedVariables false
set_option linter.unusedSimpArgs false

theorem gv_set {w : World} {g b o : Nat} {v x : Value} (h : Gv w g v) (hn : g ≠ b) : Gv (w.setCell ⟨b, o, none⟩ x) g v := ⟨(cell_block (Below.heap_setCell _ _ _ _ (by show g ≠ b; exact hn))).trans h.cell, by simp only [World.size_setCell]; exact h.lt⟩
theorem gv_low {w w' : World} {g : Nat} {v : Value} {r : Option Nat} (h : Gv w g v) (k : w.grownBy w' r) (hr : ∀ b, r = some b → g ≠ b) : Gv w' g v := ⟨(cell_block (k.block g h.lt (fun e => hr g e.symm rfl))).trans h.cell, Nat.lt_of_lt_of_le h.lt k.size⟩
theorem infoM : (Tryd.prog.info? 38).map (fun i => (i.zero, i.size, i.bytes)) = some (some (.agg #[.int .i64 0, .int .i64 0, .int .i64 0, .int .i64 0, .int .i64 0, .int .i64 0, .int .i64 0]), 7, 56) := by kernel_rfl
theorem step_runP {P : Program} {ops : Array Oper} {o : Oper} {a : Act} {w w1 : World} {K : Act → World → Prop} {Q : Exit → Act → World → Prop} {E : Prop} {v' : Value} (hgd : o.guard = none) (s x : Operand) (t : TypeId)
    (ho : o.op = .call { callee := .builtin .append, args := #[s, x], argTypes := #[t, t] }) {v1 v2 : Value} (h1 : a.eval s = v1) (h2 : a.eval x = v2) (hrun : (Builtin.append_ #[t, t] o.type #[v1, v2]).run P w = .ok v' w1) (h : K (a.put o.dst v') w1) :
    if Region.wanted o (yielded ops a.tmps) = true then Oper.wp P o a w K Q else E := by
  have hw : Region.wanted o (yielded ops a.tmps) = true := by simp [Region.wanted, hgd]
  rw [if_pos hw]
  unfold Oper.wp execOp
  simp only [ho, resolve, invoke, builtin, Sem.run_bind, Sem.run_pure, Result.andThen_ok, List.map_toArray, List.map_cons, List.map_nil, h1, h2, hrun]
  exact h
set_option maxHeartbeats 8000000 in
set_option maxRecDepth 100000 in
theorem progOfI (a : Addr) (s : ByteArray) (w : World) (hs : s.size ≤ 1048576) (hv : Gv w 0 (errV a)) :
    Calls Tryd.prog 15 #[.string s] w fun e w' => ProgTold s a w.heap.size w' e ∧ Below w.heap.size w w' := by
  have B0 : Below w.heap.size w (w.alloc (.cells #[.int .i64 0, .slice none 0 0, .slice none 0 0, .slice none 0 0] 25)) := (Below.refl _ _).alloc (Nat.le_refl _) _
  have A0 := At.new w #[.int .i64 0, .slice none 0 0, .slice none 0 0, .slice none 0 0] 25
  have z0 : (w.alloc (.cells #[.int .i64 0, .slice none 0 0, .slice none 0 0, .slice none 0 0] 25)).heap.size = w.heap.size + 1 := by simp
  obtain ⟨W0, hW0⟩ : ∃ W0, w.alloc (.cells #[.int .i64 0, .slice none 0 0, .slice none 0 0, .slice none 0 0] 25) = W0 := ⟨_, rfl⟩
  rw [hW0] at B0 A0 z0
  have HV0 : Hid (Gv W0 0 (errV a)) := hv.keep B0
  have HB0 : Hid (Below w.heap.size w W0) := B0
  have HA0 : Hid (At W0 w.heap.size #[.int .i64 0, .slice none 0 0, .slice none 0 0, .slice none 0 0] 25) := A0
  clear B0 A0
  by_cases hz : s.size ≤ 20000
  · have hzI : (s.size : Int) ≤ 20000 := by omega
    have Wy := wantY W0
    have RI := rowI a s W0 hz HV0.out
    go_enter Tryd.func15, Tryd.ntmps15
    go_wp2_with fail
    refine Wy.mono ?_
    rintro e w9 ⟨rfl, h9⟩
    have h8 := h9.symm
    clear h9
    subst h8
    go_wp2_with fail
    refine RI.mono ?_
    rintro e w2 ⟨hT, b2⟩
    have HB2 : Hid (Below w.heap.size w w2) := HB0.out.trans (b2.mono HB0.out.size)
    have HV2 : Hid (Gv w2 0 (errV a)) := HV0.out.keep b2
    have HA2 : Hid (At w2 w.heap.size #[.int .i64 0, .slice none 0 0, .slice none 0 0, .slice none 0 0] 25) := HA0.out.below b2
    have hsz2 : w.heap.size + 1 ≤ w2.heap.size := by have := b2.size; omega
    clear RI Wy HB0 HV0 HA0 b2
    rcases hT with ⟨R, L, rfl, hL, hE, hR, hRw, hLl⟩ | ⟨rfl, hno⟩
    · have HOK : Hid (∀ p, OkP s p ↔ progB p = true ∧ L = progN p) := fun p => ok_iff hL hE hz
      have B3 : Below w2.heap.size w2 (w2.alloc (.cells #[.int .i64 0, .slice none 0 0, .slice none 0 0, .slice none 0 0] 25)) := (Below.refl _ _).alloc (Nat.le_refl _) _
      have hS : PSt w (w2.alloc (.cells #[.int .i64 0, .slice none 0 0, .slice none 0 0, .slice none 0 0] 25)) R w2.heap.size w2.heap.size 0 (.slice none 0 0) (.slice none 0 0) (.slice none 0 0) [] [] [] L :=
        ⟨⟨At.new _ _ _, HA2.out.below B3, hRw.in_.keep B3, HB2.out.trans (B3.mono HB2.out.size), by omega, by omega, by have := hRw.lt; omega, Nat.le_refl _, by omega⟩, Row.nil _ _, Row.nil _ _, World.ownsRow_nil _ _ _ _, fun g e _ => by cases e⟩
      have HR : Hid (Rng L) := hL
      have HV3 : Hid (Gv (w2.alloc (.cells #[.int .i64 0, .slice none 0 0, .slice none 0 0, .slice none 0 0] 25)) 0 (errV a)) := HV2.out.keep B3
      have hBR : 0 < w.heap.size := hv.lt
      obtain ⟨W, hW⟩ : ∃ W, w2.alloc (.cells #[.int .i64 0, .slice none 0 0, .slice none 0 0, .slice none 0 0] 25) = W := ⟨_, rfl⟩
      rw [hW] at hS HV3
      obtain ⟨Bp, hBp⟩ : ∃ Bp, w2.heap.size = Bp := ⟨_, rfl⟩
      rw [hBp] at hS
      have hneR : 0 ≠ R := by have := hS.b.ltR; omega
      have HS : Hid (PSt w W R Bp Bp 0 (.slice none 0 0) (.slice none 0 0) (.slice none 0 0) [] [] [] L) := hS
      clear hS B3 hRw hL hE HA2 HB2 HV2 hR
      rcases hcL : L with _ | ⟨x, L1⟩
      · subst hcL
        have N := nextN2 a Bp R W HS.out.b.rw_ HV3.out
        have HNo : Hid (¬ ∃ p, OkP s p) := by
          rintro ⟨p, hp⟩
          exact no_head rfl ⟨p, (HOK.out p).1 hp⟩
        go_wp2_with fail
        try rw [hW, hBp]
        refine N.mono ?_
        rintro e w9 ⟨rfl, h9⟩
        have h8 := h9.symm
        clear h9
        subst h8
        go_wp2_with fail
        exact ⟨rfl, .inr ⟨HNo.out, rfl⟩, HS.out.b.below⟩
      · have HL : Hid (L = x :: L1) := hcL
        rw [hcL] at HS HR hLl
        clear hcL
        have N := nextY2 Bp R x L1 W HS.out.b.rw_ (by simp at hLl; omega)
        go_wp2_with fail
        try rw [hW, hBp]
        refine N.mono ?_
        rintro e w3 ⟨rfl, hr3, k3⟩
        have HS3 : Hid (PSt w w3 R Bp Bp 0 (.slice none 0 0) (.slice none 0 0) (.slice none 0 0) [] [] [] L1) := HS.out.only k3 hr3
        have HV4 : Hid (Gv w3 0 (errV a)) := HV3.out.only k3 hneR
        clear N hr3 k3 HS HV3
        have HS := HS3
        clear HS3
        have z0 : w3.cell? ⟨Bp, 0, none⟩ = some (.int .i64 0) := HS.out.b.box.cell 0
        have zf0 : w3.frozen? ⟨Bp, 0, none⟩ = false := froz_of_heap HS.out.b.box
        have HS4 : Hid (PSt w (w3.setCell ⟨Bp, 0, none⟩ (.int .i64 x)) R Bp Bp x (.slice none 0 0) (.slice none 0 0) (.slice none 0 0) [] [] [] L1) := HS.out.put0 x
        have HV5 : Hid (Gv (w3.setCell ⟨Bp, 0, none⟩ (.int .i64 x)) 0 (errV a)) := gv_set HV4.out (by omega)
        obtain ⟨W4, hW4⟩ : ∃ W4, w3.setCell ⟨Bp, 0, none⟩ (.int .i64 x) = W4 := ⟨_, rfl⟩
        rw [hW4] at HS4 HV5
        clear HS
        have HS := HS4
        clear HS4 HV4
        have hL1 : L1.length ≤ 20000 := by simp at hLl; omega
        rcases L1 with _ | ⟨k1, r1⟩
        · have N := listN0 a Bp R W4 HS.out.b.rw_ HV5.out
          have HNo : Hid (¬ ∃ p, OkP s p) := by
            rintro ⟨p, hp⟩
            have h1 := (HOK.out p).1 hp
            rw [HL.out] at h1
            exact no_list1 (.inl rfl) ⟨p, h1⟩
          go_wp2_with fail
          try rw [hW4]
          refine N.mono ?_
          rintro e w9 ⟨rfl, k9⟩
          have HB9 : Hid (Below w.heap.size w w9) := HS.out.b.below.trans (k9.down (Nat.le_of_lt HS.out.b.ltR) HS.out.b.below.size)
          go_wp2_with fail
          exact ⟨rfl, .inr ⟨HNo.out, rfl⟩, HB9.out⟩
        · have hk0 : 0 ≤ k1 ∧ k1 ≤ 4294967295 := HR.out.tail.head
          have hrl : r1.length ≤ 20000 := by have h := hL1; simp at h; omega
          by_cases hk : (r1.length : Int) < k1
          · have N := listN1 a Bp R k1 r1 W4 HS.out.b.rw_ hk (by omega) HV5.out hneR
            have HNo : Hid (¬ ∃ p, OkP s p) := by
              rintro ⟨p, hp⟩
              have h1 := (HOK.out p).1 hp
              rw [HL.out] at h1
              exact no_list1 (.inr ⟨_, _, rfl, hk⟩) ⟨p, h1⟩
            go_wp2_with fail
            try rw [hW4]
            refine N.mono ?_
            rintro e w9 ⟨rfl, k9⟩
            have HB9 : Hid (Below w.heap.size w w9) := HS.out.b.below.trans (k9.down (Nat.le_of_lt HS.out.b.ltR) HS.out.b.below.size)
            go_wp2_with fail
            exact ⟨rfl, .inr ⟨HNo.out, rfl⟩, HB9.out⟩
          · have N := listY Bp R k1 r1 W4 HS.out.b.rw_ hk0.1 (by omega) (by omega)
            go_wp2_with fail
            try rw [hW4]
            refine N.mono ?_
            rintro e w5 ⟨v1, rfl, hv1, hr5, k5⟩
            have HP1 : Hid ((r1.take k1.toNat).length = k1.toNat) := by show _ = _; rw [List.length_take]; omega
            have HL1 : Hid (L = x :: (listN (r1.take k1.toNat) ++ r1.drop k1.toNat)) := by
              show _ = _
              rw [HL.out, listN, List.cons_append, List.take_append_drop, HP1.out]
              congr 2
              omega
            have hd1 : (r1.drop k1.toNat).length ≤ r1.length := by rw [List.length_drop]; omega
            have HRd : Hid (Rng (r1.drop k1.toNat)) := fun y hy => HR.out.tail.tail y (List.mem_of_mem_drop hy)
            have HS5 : Hid (PSt w w5 R Bp Bp x (.slice none 0 0) (.slice none 0 0) (.slice none 0 0) [] [] [] (r1.drop k1.toNat)) := HS.out.only k5 hr5
            have HV6 : Hid (Gv w5 0 (errV a)) := HV5.out.only k5 hneR
            have HR1 : Hid (Row w5 Bp v1 (r1.take k1.toNat)) := hv1.low HS.out.b.size
            have hpl : (r1.take k1.toNat).length ≤ 20000 := by have := HP1.out; omega
            generalize r1.take k1.toNat = ps at HL1 HR1 hpl
            generalize r1.drop k1.toNat = L2 at HL1 HRd HS5 hd1
            clear N hr5 k5 HS HV5 hv1 HP1 HL HR
            have HL := HL1
            have HS := HS5
            have HR := HRd
            clear HL1 HS5 HRd
            have hL2 : L2.length ≤ 20000 := by omega
            obtain ⟨va1, vc1, rfl⟩ := HR1.out.slice
            have z1 : w5.cell? ⟨Bp, 1, none⟩ = some (.slice none 0 0) := HS.out.b.box.cell 1
            have zf1 : w5.frozen? ⟨Bp, 1, none⟩ = false := froz_of_heap HS.out.b.box
            have HS6 : Hid (PSt w (w5.setCell ⟨Bp, 1, none⟩ (.slice va1 ps.length vc1)) R Bp Bp x (.slice va1 ps.length vc1) (.slice none 0 0) (.slice none 0 0) ps [] [] L2) := HS.out.put1 HR1.out
            have HV7 : Hid (Gv (w5.setCell ⟨Bp, 1, none⟩ (.slice va1 ps.length vc1)) 0 (errV a)) := gv_set HV6.out (by omega)
            obtain ⟨W6, hW6⟩ : ∃ W6, w5.setCell ⟨Bp, 1, none⟩ (.slice va1 ps.length vc1) = W6 := ⟨_, rfl⟩
            rw [hW6] at HS6 HV7
            clear HS
            have HS := HS6
            clear HS6 HV6 HR1 hd1
            rcases L2 with _ | ⟨k2, r2⟩
            · have N := listN0 a Bp R W6 HS.out.b.rw_ HV7.out
              have HNo : Hid (¬ ∃ p, OkP s p) := by
                rintro ⟨p, hp⟩
                have h1 := (HOK.out p).1 hp
                rw [HL.out] at h1
                exact no_list2 (.inl rfl) ⟨p, h1⟩
              go_wp2_with fail
              try rw [hW6]
              refine N.mono ?_
              rintro e w9 ⟨rfl, k9⟩
              have HB9 : Hid (Below w.heap.size w w9) := HS.out.b.below.trans (k9.down (Nat.le_of_lt HS.out.b.ltR) HS.out.b.below.size)
              go_wp2_with fail
              exact ⟨rfl, .inr ⟨HNo.out, rfl⟩, HB9.out⟩
            · have hk0 : 0 ≤ k2 ∧ k2 ≤ 4294967295 := HR.out.head
              have hrl : r2.length ≤ 20000 := by have h := hL2; simp at h; omega
              by_cases hk : (r2.length : Int) < k2
              · have N := listN1 a Bp R k2 r2 W6 HS.out.b.rw_ hk (by omega) HV7.out hneR
                have HNo : Hid (¬ ∃ p, OkP s p) := by
                  rintro ⟨p, hp⟩
                  have h1 := (HOK.out p).1 hp
                  rw [HL.out] at h1
                  exact no_list2 (.inr ⟨_, _, rfl, hk⟩) ⟨p, h1⟩
                go_wp2_with fail
                try rw [hW6]
                refine N.mono ?_
                rintro e w9 ⟨rfl, k9⟩
                have HB9 : Hid (Below w.heap.size w w9) := HS.out.b.below.trans (k9.down (Nat.le_of_lt HS.out.b.ltR) HS.out.b.below.size)
                go_wp2_with fail
                exact ⟨rfl, .inr ⟨HNo.out, rfl⟩, HB9.out⟩
              · have N := listY Bp R k2 r2 W6 HS.out.b.rw_ hk0.1 (by omega) (by omega)
                go_wp2_with fail
                try rw [hW6]
                refine N.mono ?_
                rintro e w7 ⟨v2, rfl, hv2, hr7, k7⟩
                have HP1 : Hid ((r2.take k2.toNat).length = k2.toNat) := by show _ = _; rw [List.length_take]; omega
                have HL1 : Hid (L = x :: (listN ps ++ (listN (r2.take k2.toNat) ++ r2.drop k2.toNat))) := by
                  show _ = _
                  rw [HL.out, show listN (r2.take k2.toNat) ++ r2.drop k2.toNat = k2 :: r2 from by rw [listN, List.cons_append, List.take_append_drop, HP1.out]; congr 1; omega]
                have hd1 : (r2.drop k2.toNat).length ≤ r2.length := by rw [List.length_drop]; omega
                have HRd : Hid (Rng (r2.drop k2.toNat)) := fun y hy => HR.out.tail y (List.mem_of_mem_drop hy)
                have HS5 : Hid (PSt w w7 R Bp Bp x (.slice va1 ps.length vc1) (.slice none 0 0) (.slice none 0 0) ps [] [] (r2.drop k2.toNat)) := HS.out.only k7 hr7
                have HV8 : Hid (Gv w7 0 (errV a)) := HV7.out.only k7 hneR
                have HAP : Hid (∀ g, (Value.slice va1 ps.length vc1).ownBlock = some g → v2.ownBlock = some g → False) := fun g h1 h2 => by
                  have e1 := (HS.out.r1.ge h1).2
                  have e2 := (hv2.ge h2).1
                  omega
                have HR1 : Hid (Row w7 Bp v2 (r2.take k2.toNat)) := hv2.low HS.out.b.size
                have hwl : (r2.take k2.toNat).length ≤ 20000 := by have := HP1.out; omega
                generalize r2.take k2.toNat = ws at HL1 HR1 hwl
                generalize r2.drop k2.toNat = L3 at HL1 HRd HS5 hd1
                clear N hr7 k7 HS HV7 hv2 HP1 HL HR
                have HL := HL1
                have HS := HS5
                have HR := HRd
                clear HL1 HS5 HRd
                have hL3 : L3.length ≤ 20000 := by omega
                obtain ⟨va2, vc2, rfl⟩ := HR1.out.slice
                have z2 : w7.cell? ⟨Bp, 2, none⟩ = some (.slice none 0 0) := HS.out.b.box.cell 2
                have zf2 : w7.frozen? ⟨Bp, 2, none⟩ = false := froz_of_heap HS.out.b.box
                have HS6 : Hid (PSt w (w7.setCell ⟨Bp, 2, none⟩ (.slice va2 ws.length vc2)) R Bp Bp x (.slice va1 ps.length vc1) (.slice va2 ws.length vc2) (.slice none 0 0) ps ws [] L3) := HS.out.put2 HR1.out HAP.out
                have HV9 : Hid (Gv (w7.setCell ⟨Bp, 2, none⟩ (.slice va2 ws.length vc2)) 0 (errV a)) := gv_set HV8.out (by omega)
                obtain ⟨W8, hW8⟩ : ∃ W8, w7.setCell ⟨Bp, 2, none⟩ (.slice va2 ws.length vc2) = W8 := ⟨_, rfl⟩
                rw [hW8] at HS6 HV9
                clear HS
                have HS := HS6
                clear HS6 HV8 HR1 hd1 HAP
                rcases L3 with _ | ⟨n, L4⟩
                · have N := nextN2 a Bp R W8 HS.out.b.rw_ HV9.out
                  have HNo : Hid (¬ ∃ p, OkP s p) := by
                    rintro ⟨p, hp⟩
                    have h1 := (HOK.out p).1 hp
                    rw [HL.out] at h1
                    exact no_count ⟨p, h1⟩
                  go_wp2_with fail
                  try rw [hW8]
                  refine N.mono ?_
                  rintro e w9 ⟨rfl, h9⟩
                  have h8 := h9.symm
                  clear h9
                  subst h8
                  go_wp2_with fail
                  exact ⟨rfl, .inr ⟨HNo.out, rfl⟩, HS.out.b.below⟩
                · have N := nextY2 Bp R n L4 W8 HS.out.b.rw_ (by simp at hL3; omega)
                  have hn0 := HR.out.head
                  go_wp2_with fail
                  try rw [hW8]
                  refine N.mono ?_
                  rintro e w9 ⟨rfl, hr9, k9⟩
                  have HS9 : Hid (PSt w w9 R Bp Bp x (.slice va1 ps.length vc1) (.slice va2 ws.length vc2) (.slice none 0 0) ps ws [] L4) := HS.out.only k9 hr9
                  have HVa : Hid (Gv w9 0 (errV a)) := HV9.out.only k9 hneR
                  clear N hr9 k9 HS HV9 hW hW4 hW6 hW8 z0 zf0 z1 zf1 z2 zf2 hBp
                  obtain ⟨iM, hiM, hzM0, hzM1, hzM2⟩ := info_parts infoM
                  obtain ⟨N, rfl⟩ := Int.eq_ofNat_of_zero_le hn0.1
                  have hL4 : L4.length ≤ 20000 := by simp at hL3; omega
                  go_wp2_with fail
                  go_loopw [22] (fun i wr => ∃ (v3 : Value) (C : List MInsD) (Lr : List Int), i = .int .i64 (C.length : Nat) ∧ C.length ≤ N ∧ Hid (L4 = C.flatMap minN ++ Lr) ∧ Hid (PSt w wr R Bp Bp x (.slice va1 ps.length vc1) (.slice va2 ws.length vc2) v3 ps ws C Lr) ∧ Hid (Gv wr 0 (errV a))) (fun i _ => N - (intOf i).toNat)
                  case atStart => exact ⟨.slice none 0 0, [], L4, rfl, Nat.zero_le _, rfl, HS9, HVa⟩
                  case round =>
                    clear HS9 HVa
                    obtain ⟨v3, C, Lr, rfl, hCN, HLr, HS, HVr⟩ := hrel
                    have HCl : Hid (7 * C.length + Lr.length = L4.length) := by
                      show _ = _
                      rw [HLr.out, List.length_append, flat_len]
                    have hC3 : C.length ≤ 20000 := by have := HCl.out; omega
                    have hLr : Lr.length ≤ 20000 := by have := HCl.out; omega
                    by_cases hlt : C.length < N
                    · have hltI : (C.length : Int) < (N : Int) := by omega
                      by_cases h7 : Lr.length < 7
                      · have N7 := takeN a Bp R Lr wr.drew HS.out.b.rw_ h7 ⟨HVr.out.cell, HVr.out.lt⟩
                        have HNo : Hid (¬ ∃ p, OkP s p) := by
                          rintro ⟨p, hp⟩
                          have h1 := (HOK.out p).1 hp
                          rw [HL.out, HLr.out] at h1
                          exact no_code hltI h7 ⟨p, h1⟩
                        have c3 : wr.cell? ⟨Bp, 3, none⟩ = some v3 := HS.out.b.box.cell 3
                        go_wp2_with fail
                        refine wp_region_held_drew (S := fun w' => w'.cell? ⟨Bp, 3, none⟩ = some v3) (by kernel_rfl) c3 (fun hHeld => ?_)
                        refine wpAnyH_take (i := 0) (v := ?_) rfl (by kernel_rfl) (by kernel_rfl) (by kernel_rfl) (fun _ _ _ h => h) (Or.inl ⟨by rfl, ?_⟩) hHeld ?_
                        rotate_left
                        · intro w9 hS9
                          go_simp
                          try with_reducible rfl
                        show wpAnyH _ _ _ _ _ _ _ (Act.put _ (some _) _) _
                        simp only [Act.put, List.setIfInBounds_toArray, List.set_cons_zero, List.set_cons_succ]
                        refine wpAnyH_take (i := 1) (v := ?_) rfl (by kernel_rfl) (by kernel_rfl) (by kernel_rfl) (fun _ _ _ h => h) (Or.inl ⟨by rfl, ?_⟩) hHeld ?_
                        rotate_left
                        · intro w9 hS9
                          have g0 := hS9
                          go_simp
                          try with_reducible rfl
                        show wpAnyH _ _ _ _ _ _ _ (Act.put _ (some _) _) _
                        simp only [Act.put, List.setIfInBounds_toArray, List.set_cons_zero, List.set_cons_succ]
                        refine wpAnyH_take (i := 2) (v := ?_) rfl (by kernel_rfl) (by kernel_rfl) (by kernel_rfl) (fun _ _ _ h => h) (Or.inl ⟨by rfl, ?_⟩) hHeld ?_
                        rotate_left
                        · intro w9 hS9
                          go_simp
                          try with_reducible rfl
                        show wpAnyH _ _ _ _ _ _ _ (Act.put _ (some _) _) _
                        simp only [Act.put, List.setIfInBounds_toArray, List.set_cons_zero, List.set_cons_succ]
                        refine wpAnyH_ready (rs := [3]) (by kernel_rfl) (by simp) ?_
                        refine AllReadyH.cons rfl (fun K hK => ?_) AllReadyH.nil
                        go_simp
                        go_wp2_with fail
                        refine N7.mono ?_
                        rintro e w9 ⟨rfl, k9⟩
                        have HB9 : Hid (Below w.heap.size w w9) := HS.out.b.below.trans ((OnlyR.down (R := R) (w := wr) ⟨k9.os, k9.tape, k9.output, k9.size, k9.block⟩) (Nat.le_of_lt HS.out.b.ltR) HS.out.b.below.size)
                        go_wp2_with fail
                        exact ⟨rfl, .inr ⟨HNo.out, rfl⟩, HB9.out⟩
                      · obtain ⟨y, Lq, rfl⟩ := minN_of (show 7 ≤ Lr.length by omega)
                        have N7 := fun (V : World) (hV : RwIn Bp V R (minN y ++ Lq)) (hz : Bp ≤ V.heap.size) => takeY Bp R y Lq V hV (by simp [minN] at hLr; omega) hz
                        obtain ⟨va3, vc3, hv3, _⟩ := HS.out.r3.mins (by omega)
                        subst hv3
                        have c3 : wr.cell? ⟨Bp, 3, none⟩ = some (.slice va3 C.length vc3) := HS.out.b.box.cell 3
                        have c4 : wr.drew.cell? ⟨Bp, 3, none⟩ = some (.slice va3 C.length vc3) := HS.out.b.box.cell 3
                        go_wp2_with fail
                        refine wp_region_any (by kernel_rfl) ?_
                        change wpAny _ _ _ _ _ _ _ (World.drew _)
                        refine wpAny_take (i := 0) (v := ?_) rfl (by kernel_rfl) (by kernel_rfl) (by kernel_rfl) (fun _ _ _ h => h) (Or.inl ⟨by rfl, ?_⟩) ?_
                        rotate_left
                        · intro w9
                          go_simp
                          try with_reducible rfl
                        show wpAny _ _ _ _ _ _ (Act.put _ (some _) _) _
                        simp only [Act.put, List.setIfInBounds_toArray, List.set_cons_zero, List.set_cons_succ]
                        refine wpAny_take (i := 2) (v := ?_) rfl (by kernel_rfl) (by kernel_rfl) (by kernel_rfl) (fun _ _ _ h => h) (Or.inl ⟨by rfl, ?_⟩) ?_
                        rotate_left
                        · intro w9
                          go_simp
                          try with_reducible rfl
                        show wpAny _ _ _ _ _ _ (Act.put _ (some _) _) _
                        simp only [Act.put, List.setIfInBounds_toArray, List.set_cons_zero, List.set_cons_succ]
                        refine wpAny_ready (rs := [1, 3]) (by kernel_rfl) (by simp) ?_
                        refine (AllReady.cons rfl (fun K hK => ?_) (AllReady.cons rfl (fun K hK => ?_) AllReady.nil))
                        · go_simp
                          refine hK _ _ ?_
                          clear hK K
                          refine wpAny_ready (rs := [3]) (by kernel_rfl) (by simp) ?_
                          refine (AllReady.cons rfl (fun K hK => ?_) AllReady.nil)
                          · go_simp
                            go_wp2_with fail
                            refine (N7 wr.drew HS.out.b.rw_ HS.out.b.size).mono ?_
                            rintro e w2 ⟨rfl, hr2, k2⟩
                            have k3 : OnlyR R wr w2 := ⟨k2.os, k2.tape, k2.output, k2.size, k2.block⟩
                            have HS2 : Hid (PSt w w2 R Bp Bp x (.slice va1 ps.length vc1) (.slice va2 ws.length vc2) (.slice va3 C.length vc3) ps ws C Lq) := HS.out.only k3 hr2
                            have HV2 : Hid (Gv w2 0 (errV a)) := HVr.out.only k3 hneR
                            have B4 : Below w2.heap.size w2 (w2.alloc (.cells #[.int .i64 y.op, .int .i64 y.w, .int .i64 y.d, .int .i64 y.a, .int .i64 y.b, .int .i64 y.c, .int .i64 y.imm] 38)) := (Below.refl _ _).alloc (Nat.le_refl _) _
                            have HS4 : Hid (PSt w (w2.alloc (.cells #[.int .i64 y.op, .int .i64 y.w, .int .i64 y.d, .int .i64 y.a, .int .i64 y.b, .int .i64 y.c, .int .i64 y.imm] 38)) R Bp Bp x (.slice va1 ps.length vc1) (.slice va2 ws.length vc2) (.slice va3 C.length vc3) ps ws C Lq) := HS2.out.keep B4
                            have HV4 : Hid (Gv (w2.alloc (.cells #[.int .i64 y.op, .int .i64 y.w, .int .i64 y.d, .int .i64 y.a, .int .i64 y.b, .int .i64 y.c, .int .i64 y.imm] 38)) 0 (errV a)) := HV2.out.keep B4
                            have d3 : w2.cell? ⟨Bp, 3, none⟩ = some (.slice va3 C.length vc3) := HS2.out.b.box.cell 3
                            have d4 : (w2.alloc (.cells #[.int .i64 y.op, .int .i64 y.w, .int .i64 y.d, .int .i64 y.a, .int .i64 y.b, .int .i64 y.c, .int .i64 y.imm] 38)).cell? ⟨Bp, 3, none⟩ = some (.slice va3 C.length vc3) := HS4.out.b.box.cell 3
                            obtain ⟨g5, cap5, w5, hrun, hown5, hgr5, _, _⟩ := run_append_lies (P := Tryd.prog) (w2.alloc (.cells #[.int .i64 y.op, .int .i64 y.w, .int .i64 y.d, .int .i64 y.a, .int .i64 y.b, .int .i64 y.c, .int .i64 y.imm] 38)) 23 23 Bp 38 iM (.agg #[.int .i64 0, .int .i64 0, .int .i64 0, .int .i64 0, .int .i64 0, .int .i64 0, .int .i64 0]) 7 56 Tryd.underlying23 hiM hzM0 hzM1 hzM2 rfl (by decide) (.slice va3 C.length vc3) C.length (C.flatMap minV) HS4.out.r3 ⟨w2.heap.size, 0, none⟩ 1 1 (minV y) rfl (World.news_of_block (At.new w2 #[.int .i64 y.op, .int .i64 y.w, .int .i64 y.d, .int .i64 y.a, .int .i64 y.b, .int .i64 y.c, .int .i64 y.imm] 38)) (by simp [minV, Value.oneCell']) (by decide) (by unfold maxLen; omega) (by omega) HS4.out.b.size _ rfl
                            have HS5 : Hid (PSt w (w5.setCell ⟨Bp, 3, none⟩ (.slice (some ⟨g5, 0, none⟩) (C.length + 1) cap5)) R Bp Bp x (.slice va1 ps.length vc1) (.slice va2 ws.length vc2) (.slice (some ⟨g5, 0, none⟩) (C.length + 1) cap5) ps ws (C ++ [y]) Lq) := HS4.out.put3 hgr5 (by
                              show World.ownsRow _ _ _ _ _ _ _
                              rw [List.length_append, List.flatMap_append]
                              simpa using hown5)
                            have HG5 := HS4.out.b.grown HS4.out.r3 hgr5
                            have d5 : w5.cell? ⟨Bp, 3, none⟩ = some (.slice va3 C.length vc3) := HG5.box.cell 3
                            have f5 : w5.frozen? ⟨Bp, 3, none⟩ = false := froz_of_heap HG5.box
                            have HV5 : Hid (Gv (w5.setCell ⟨Bp, 3, none⟩ (.slice (some ⟨g5, 0, none⟩) (C.length + 1) cap5)) 0 (errV a)) := gv_set (gv_low HV4.out hgr5 (fun b e => by have := (HS4.out.r3.ge e).1; have := HS4.out.b.geB; omega)) (by have := HS4.out.b.lt; omega)
                            clear HG5 hown5 hgr5 B4 k2 k3 hr2
                            refine hK _ _ ?_
                            clear hK K
                            try simp only [Act.put, List.setIfInBounds_toArray, List.set_cons_zero, List.set_cons_succ]
                            refine wpAny_ready (rs := [4]) (by kernel_rfl) (by simp) ?_
                            refine (AllReady.cons rfl (fun K hK => ?_) AllReady.nil)
                            · go_simp
                              refine hK _ _ ?_
                              clear hK K
                              refine wpAny_ready (rs := [5]) (by kernel_rfl) (by simp) ?_
                              refine (AllReady.cons rfl (fun K hK => ?_) AllReady.nil)
                              · refine step_runP rfl _ _ _ rfl rfl rfl hrun ?_
                                refine hK _ _ ?_
                                clear hK K
                                try simp only [Act.put, List.setIfInBounds_toArray, List.set_cons_zero, List.set_cons_succ]
                                refine wpAny_take (i := 6) (v := ?_) rfl (by kernel_rfl) (by kernel_rfl) (by kernel_rfl) (fun _ _ _ h => h) (Or.inl ⟨by rfl, ?_⟩) ?_
                                rotate_left
                                · intro w9
                                  go_simp
                                  try with_reducible rfl
                                show wpAny _ _ _ _ _ _ (Act.put _ (some _) _) _
                                simp only [Act.put, List.setIfInBounds_toArray, List.set_cons_zero, List.set_cons_succ]
                                refine wpAny_ready (rs := [7]) (by kernel_rfl) (by simp) ?_
                                refine (AllReady.cons rfl (fun K hK => ?_) AllReady.nil)
                                · go_simp
                                  refine hK _ _ ?_
                                  clear hK K
                                  refine wpAny_done (by kernel_rfl) ?_ _
                                  have HLq : Hid (L4 = (C ++ [y]).flatMap minN ++ Lq) := by
                                    show _ = _
                                    rw [HLr.out, List.flatMap_append, List.append_assoc]
                                    simp
                                  go_wp2_with fail
                                  go_roundw
                                  case rel => exact ⟨_, C ++ [y], Lq, by simp only [List.length_append, List.length_singleton]; go_num, by simp; omega, HLq, HS5, HV5⟩
                                  case measure => simp [intOf]; omega
                        · go_simp
                          go_wp2_with fail
                          refine (N7 wr.drew HS.out.b.rw_ HS.out.b.size).mono ?_
                          rintro e w2 ⟨rfl, hr2, k2⟩
                          have k3 : OnlyR R wr w2 := ⟨k2.os, k2.tape, k2.output, k2.size, k2.block⟩
                          have HS2 : Hid (PSt w w2 R Bp Bp x (.slice va1 ps.length vc1) (.slice va2 ws.length vc2) (.slice va3 C.length vc3) ps ws C Lq) := HS.out.only k3 hr2
                          have HV2 : Hid (Gv w2 0 (errV a)) := HVr.out.only k3 hneR
                          have B4 : Below w2.heap.size w2 (w2.alloc (.cells #[.int .i64 y.op, .int .i64 y.w, .int .i64 y.d, .int .i64 y.a, .int .i64 y.b, .int .i64 y.c, .int .i64 y.imm] 38)) := (Below.refl _ _).alloc (Nat.le_refl _) _
                          have HS4 : Hid (PSt w (w2.alloc (.cells #[.int .i64 y.op, .int .i64 y.w, .int .i64 y.d, .int .i64 y.a, .int .i64 y.b, .int .i64 y.c, .int .i64 y.imm] 38)) R Bp Bp x (.slice va1 ps.length vc1) (.slice va2 ws.length vc2) (.slice va3 C.length vc3) ps ws C Lq) := HS2.out.keep B4
                          have HV4 : Hid (Gv (w2.alloc (.cells #[.int .i64 y.op, .int .i64 y.w, .int .i64 y.d, .int .i64 y.a, .int .i64 y.b, .int .i64 y.c, .int .i64 y.imm] 38)) 0 (errV a)) := HV2.out.keep B4
                          have d3 : w2.cell? ⟨Bp, 3, none⟩ = some (.slice va3 C.length vc3) := HS2.out.b.box.cell 3
                          have d4 : (w2.alloc (.cells #[.int .i64 y.op, .int .i64 y.w, .int .i64 y.d, .int .i64 y.a, .int .i64 y.b, .int .i64 y.c, .int .i64 y.imm] 38)).cell? ⟨Bp, 3, none⟩ = some (.slice va3 C.length vc3) := HS4.out.b.box.cell 3
                          obtain ⟨g5, cap5, w5, hrun, hown5, hgr5, _, _⟩ := run_append_lies (P := Tryd.prog) (w2.alloc (.cells #[.int .i64 y.op, .int .i64 y.w, .int .i64 y.d, .int .i64 y.a, .int .i64 y.b, .int .i64 y.c, .int .i64 y.imm] 38)) 23 23 Bp 38 iM (.agg #[.int .i64 0, .int .i64 0, .int .i64 0, .int .i64 0, .int .i64 0, .int .i64 0, .int .i64 0]) 7 56 Tryd.underlying23 hiM hzM0 hzM1 hzM2 rfl (by decide) (.slice va3 C.length vc3) C.length (C.flatMap minV) HS4.out.r3 ⟨w2.heap.size, 0, none⟩ 1 1 (minV y) rfl (World.news_of_block (At.new w2 #[.int .i64 y.op, .int .i64 y.w, .int .i64 y.d, .int .i64 y.a, .int .i64 y.b, .int .i64 y.c, .int .i64 y.imm] 38)) (by simp [minV, Value.oneCell']) (by decide) (by unfold maxLen; omega) (by omega) HS4.out.b.size _ rfl
                          have HS5 : Hid (PSt w (w5.setCell ⟨Bp, 3, none⟩ (.slice (some ⟨g5, 0, none⟩) (C.length + 1) cap5)) R Bp Bp x (.slice va1 ps.length vc1) (.slice va2 ws.length vc2) (.slice (some ⟨g5, 0, none⟩) (C.length + 1) cap5) ps ws (C ++ [y]) Lq) := HS4.out.put3 hgr5 (by
                            show World.ownsRow _ _ _ _ _ _ _
                            rw [List.length_append, List.flatMap_append]
                            simpa using hown5)
                          have HG5 := HS4.out.b.grown HS4.out.r3 hgr5
                          have d5 : w5.cell? ⟨Bp, 3, none⟩ = some (.slice va3 C.length vc3) := HG5.box.cell 3
                          have f5 : w5.frozen? ⟨Bp, 3, none⟩ = false := froz_of_heap HG5.box
                          have HV5 : Hid (Gv (w5.setCell ⟨Bp, 3, none⟩ (.slice (some ⟨g5, 0, none⟩) (C.length + 1) cap5)) 0 (errV a)) := gv_set (gv_low HV4.out hgr5 (fun b e => by have := (HS4.out.r3.ge e).1; have := HS4.out.b.geB; omega)) (by have := HS4.out.b.lt; omega)
                          clear HG5 hown5 hgr5 B4 k2 k3 hr2
                          refine hK _ _ ?_
                          clear hK K
                          try simp only [Act.put, List.setIfInBounds_toArray, List.set_cons_zero, List.set_cons_succ]
                          refine wpAny_ready (rs := [1, 4]) (by kernel_rfl) (by simp) ?_
                          refine (AllReady.cons rfl (fun K hK => ?_) (AllReady.cons rfl (fun K hK => ?_) AllReady.nil))
                          · go_simp
                            refine hK _ _ ?_
                            clear hK K
                            refine wpAny_ready (rs := [4]) (by kernel_rfl) (by simp) ?_
                            refine (AllReady.cons rfl (fun K hK => ?_) AllReady.nil)
                            · go_simp
                              refine hK _ _ ?_
                              clear hK K
                              refine wpAny_ready (rs := [5]) (by kernel_rfl) (by simp) ?_
                              refine (AllReady.cons rfl (fun K hK => ?_) AllReady.nil)
                              · refine step_runP rfl _ _ _ rfl rfl rfl hrun ?_
                                refine hK _ _ ?_
                                clear hK K
                                try simp only [Act.put, List.setIfInBounds_toArray, List.set_cons_zero, List.set_cons_succ]
                                refine wpAny_take (i := 6) (v := ?_) rfl (by kernel_rfl) (by kernel_rfl) (by kernel_rfl) (fun _ _ _ h => h) (Or.inl ⟨by rfl, ?_⟩) ?_
                                rotate_left
                                · intro w9
                                  go_simp
                                  try with_reducible rfl
                                show wpAny _ _ _ _ _ _ (Act.put _ (some _) _) _
                                simp only [Act.put, List.setIfInBounds_toArray, List.set_cons_zero, List.set_cons_succ]
                                refine wpAny_ready (rs := [7]) (by kernel_rfl) (by simp) ?_
                                refine (AllReady.cons rfl (fun K hK => ?_) AllReady.nil)
                                · go_simp
                                  refine hK _ _ ?_
                                  clear hK K
                                  refine wpAny_done (by kernel_rfl) ?_ _
                                  have HLq : Hid (L4 = (C ++ [y]).flatMap minN ++ Lq) := by
                                    show _ = _
                                    rw [HLr.out, List.flatMap_append, List.append_assoc]
                                    simp
                                  go_wp2_with fail
                                  go_roundw
                                  case rel => exact ⟨_, C ++ [y], Lq, by simp only [List.length_append, List.length_singleton]; go_num, by simp; omega, HLq, HS5, HV5⟩
                                  case measure => simp [intOf]; omega
                          · go_simp
                            refine hK _ _ ?_
                            clear hK K
                            refine wpAny_ready (rs := [1]) (by kernel_rfl) (by simp) ?_
                            refine (AllReady.cons rfl (fun K hK => ?_) AllReady.nil)
                            · go_simp
                              refine hK _ _ ?_
                              clear hK K
                              refine wpAny_ready (rs := [5]) (by kernel_rfl) (by simp) ?_
                              refine (AllReady.cons rfl (fun K hK => ?_) AllReady.nil)
                              · refine step_runP rfl _ _ _ rfl rfl rfl hrun ?_
                                refine hK _ _ ?_
                                clear hK K
                                try simp only [Act.put, List.setIfInBounds_toArray, List.set_cons_zero, List.set_cons_succ]
                                refine wpAny_take (i := 6) (v := ?_) rfl (by kernel_rfl) (by kernel_rfl) (by kernel_rfl) (fun _ _ _ h => h) (Or.inl ⟨by rfl, ?_⟩) ?_
                                rotate_left
                                · intro w9
                                  go_simp
                                  try with_reducible rfl
                                show wpAny _ _ _ _ _ _ (Act.put _ (some _) _) _
                                simp only [Act.put, List.setIfInBounds_toArray, List.set_cons_zero, List.set_cons_succ]
                                refine wpAny_ready (rs := [7]) (by kernel_rfl) (by simp) ?_
                                refine (AllReady.cons rfl (fun K hK => ?_) AllReady.nil)
                                · go_simp
                                  refine hK _ _ ?_
                                  clear hK K
                                  refine wpAny_done (by kernel_rfl) ?_ _
                                  have HLq : Hid (L4 = (C ++ [y]).flatMap minN ++ Lq) := by
                                    show _ = _
                                    rw [HLr.out, List.flatMap_append, List.append_assoc]
                                    simp
                                  go_wp2_with fail
                                  go_roundw
                                  case rel => exact ⟨_, C ++ [y], Lq, by simp only [List.length_append, List.length_singleton]; go_num, by simp; omega, HLq, HS5, HV5⟩
                                  case measure => simp [intOf]; omega
                    · have hltI : ¬ (C.length : Int) < (N : Int) := by omega
                      have hCn : C.length = N := by omega
                      have HLf : Hid (L = x :: (listN ps ++ (listN ws ++ (((C.length : Nat) : Int) :: (C.flatMap minN ++ Lr))))) := by
                        show _ = _
                        rw [HL.out, HLr.out, hCn]
                      clear hCn hlt
                      by_cases hL0 : Lr = []
                      · have HLp : Hid (L = progN ⟨x, ps, ws, C⟩) := by
                          show _ = _
                          rw [HLf.out, hL0, progN_eq]
                          simp
                        rw [hL0] at HS
                        obtain ⟨va3, vc3, hv3, hM3⟩ := HS.out.r3.mins (by omega)
                        subst hv3
                        obtain ⟨u1, q1, e1, hI1⟩ := HS.out.r1.ints (by omega)
                        obtain ⟨u2, q2, e2, hI2⟩ := HS.out.r2.ints (by omega)
                        cases e1
                        cases e2
                        have PI := progI Bp ⟨x, ps, ws, C⟩ va1 vc1 va2 vc2 va3 vc3 wr hI1 hI2 hM3
                        have EY := endY Bp R wr HS.out.b.rw_
                        clear hI1 hI2 hM3
                        have c0 : wr.cell? ⟨Bp, 0, none⟩ = some (.int .i64 x) := HS.out.b.box.cell 0
                        have c1 : wr.cell? ⟨Bp, 1, none⟩ = some (.slice va1 ps.length vc1) := HS.out.b.box.cell 1
                        have c2 : wr.cell? ⟨Bp, 2, none⟩ = some (.slice va2 ws.length vc2) := HS.out.b.box.cell 2
                        have c3 : wr.cell? ⟨Bp, 3, none⟩ = some (.slice va3 C.length vc3) := HS.out.b.box.cell 3
                        go_wp2_with fail
                        refine EY.mono ?_
                        rintro e w9 ⟨rfl, h9⟩
                        have h8 := h9.symm
                        clear h9
                        subst h8
                        go_wp2_with fail
                        refine PI.mono ?_
                        rintro e w9 ⟨rfl, b9⟩
                        have HS9 : Hid (PSt w w9 R Bp Bp x (.slice va1 ps.length vc1) (.slice va2 ws.length vc2) (.slice va3 C.length vc3) ps ws C []) := HS.out.keep b9
                        have HV9 : Hid (Gv w9 0 (errV a)) := HVr.out.keep b9
                        clear PI EY HS HVr b9 c0 c1 c2 c3
                        cases hpb : progB ⟨x, ps, ws, C⟩
                        · have HNo : Hid (¬ ∃ p, OkP s p) := by
                            rintro ⟨p, hp⟩
                            obtain ⟨h1, h2⟩ := (HOK.out p).1 hp
                            have h3 := progN_inj (h2.symm.trans HLp.out)
                            rw [h3, hpb] at h1
                            cases h1
                          have Wn := wantN a w9 HV9.out
                          go_wp2_with fail
                          refine Wn.mono ?_
                          rintro e w8 ⟨rfl, h9⟩
                          have h8 := h9.symm
                          clear h9
                          subst h8
                          go_wp2_with fail
                          exact ⟨rfl, .inr ⟨HNo.out, rfl⟩, HS9.out.b.below⟩
                        · have HOkP : Hid (OkP s ⟨x, ps, ws, C⟩) := (HOK.out _).2 ⟨hpb, HLp.out⟩
                          have Wy := wantY w9
                          have c0 : w9.cell? ⟨Bp, 0, none⟩ = some (.int .i64 x) := HS9.out.b.box.cell 0
                          have c1 : w9.cell? ⟨Bp, 1, none⟩ = some (.slice va1 ps.length vc1) := HS9.out.b.box.cell 1
                          have c2 : w9.cell? ⟨Bp, 2, none⟩ = some (.slice va2 ws.length vc2) := HS9.out.b.box.cell 2
                          have c3 : w9.cell? ⟨Bp, 3, none⟩ = some (.slice va3 C.length vc3) := HS9.out.b.box.cell 3
                          have y0 : w9.cell? ⟨w.heap.size, 0, none⟩ = some (.int .i64 0) := HS9.out.b.res.cell 0
                          have y1 : w9.cell? ⟨w.heap.size, 1, none⟩ = some (.slice none 0 0) := HS9.out.b.res.cell 1
                          have y2 : w9.cell? ⟨w.heap.size, 2, none⟩ = some (.slice none 0 0) := HS9.out.b.res.cell 2
                          have y3 : w9.cell? ⟨w.heap.size, 3, none⟩ = some (.slice none 0 0) := HS9.out.b.res.cell 3
                          have yf : ∀ o, w9.frozen? ⟨w.heap.size, o, none⟩ = false := fun o => froz_of_heap HS9.out.b.res
                          go_wp2_with fail
                          refine Wy.mono ?_
                          rintro e w8 ⟨rfl, h9⟩
                          have h8 := h9.symm
                          clear h9
                          subst h8
                          go_wp2_with fail
                          have s0 := heap_set (o := 0) (v := .int .i64 x) HS9.out.b.res
                          have s1 := heap_set (o := 1) (v := .slice va1 ps.length vc1) s0
                          have s2 := heap_set (o := 2) (v := .slice va2 ws.length vc2) s1
                          have s3 := heap_set (o := 3) (v := .slice va3 C.length vc3) s2
                          have OW : ProgOwn ((((w9.setCell ⟨w.heap.size, 0, none⟩ (.int .i64 x)).setCell ⟨w.heap.size, 1, none⟩ (.slice va1 ps.length vc1)).setCell ⟨w.heap.size, 2, none⟩ (.slice va2 ws.length vc2)).setCell ⟨w.heap.size, 3, none⟩ (.slice va3 C.length vc3)) w.heap.size ⟨x, ps, ws, C⟩ va1 vc1 va2 vc2 va3 vc3 :=
                            ⟨((((HS9.out.r1.setT HS9.out.b.res (by decide)).setT s0 (by decide)).setT s1 (by decide)).setT s2 (by decide)).low HS9.out.b.geB, ((((HS9.out.r2.setT HS9.out.b.res (by decide)).setT s0 (by decide)).setT s1 (by decide)).setT s2 (by decide)).low HS9.out.b.geB, ((((HS9.out.r3.setT HS9.out.b.res (by decide)).setT s0 (by decide)).setT s1 (by decide)).setT s2 (by decide)).low HS9.out.b.geB, HS9.out.ap⟩
                          have BW : Below w.heap.size w ((((w9.setCell ⟨w.heap.size, 0, none⟩ (.int .i64 x)).setCell ⟨w.heap.size, 1, none⟩ (.slice va1 ps.length vc1)).setCell ⟨w.heap.size, 2, none⟩ (.slice va2 ws.length vc2)).setCell ⟨w.heap.size, 3, none⟩ (.slice va3 C.length vc3)) := (((HS9.out.b.below.setCell (Nat.le_refl _) _).setCell (Nat.le_refl _) _).setCell (Nat.le_refl _) _).setCell (Nat.le_refl _) _
                          exact bodyPost_ret (v := .agg #[.int .i64 x, .slice va1 ps.length vc1, .slice va2 ws.length vc2, .slice va3 C.length vc3]) ((results_cell_row Tryd.results15 _ _ w.heap.size 25 _ (0, 0) _ rfl s3 Tryd.underlying25 rfl (by kernel_rfl)).trans (by rfl)) rfl ⟨.inl ⟨⟨x, ps, ws, C⟩, va1, vc1, va2, vc2, va3, vc3, HOkP.out, rfl, OW⟩, BW⟩
                      · have HNo : Hid (¬ ∃ p, OkP s p) := by
                          rintro ⟨p, hp⟩
                          have h1 := (HOK.out p).1 hp
                          rw [HLf.out] at h1
                          exact no_end rfl hL0 ⟨p, h1⟩
                        have EN := endN a Bp R Lr wr HS.out.b.rw_ hL0 HVr.out
                        go_wp2_with fail
                        refine EN.mono ?_
                        rintro e w9 ⟨rfl, h9⟩
                        have h8 := h9.symm
                        clear h9
                        subst h8
                        go_wp2_with fail
                        exact ⟨rfl, .inr ⟨HNo.out, rfl⟩, HS.out.b.below⟩
    · have HNo : Hid (¬ ∃ p, OkP s p) := by
        rintro ⟨p, hp⟩
        exact hno ⟨_, prog_rng hp.1, ok_data hp⟩
      go_wp2_with fail
      exact ⟨rfl, .inr ⟨HNo.out, rfl⟩, HB2.out⟩
  · have hzI : ¬ (s.size : Int) ≤ 20000 := by omega
    have HNo : Hid (¬ ∃ p, OkP s p) := by
      rintro ⟨p, hp⟩
      exact hz hp.2.2
    have Wn := wantN a W0 HV0.out
    go_enter Tryd.func15, Tryd.ntmps15
    go_wp2_with fail
    refine Wn.mono ?_
    rintro e w9 ⟨rfl, h9⟩
    have h8 := h9.symm
    clear h9
    subst h8
    go_wp2_with fail
    exact ⟨rfl, .inr ⟨HNo.out, rfl⟩, HB0.out⟩
end Go.Proofs.YtpmanjkaiknlhaaDoor
namespace Go.Proofs.YtpmanjkaiknlhaaDoor
open Go.RowKit
set_option linter.unusedVariables false
set_option linter.unusedSimpArgs false

theorem ProgOwn.setT {w : World} {base Bx o : Nat} {p : ProgD} {u1 : Option Addr} {c1 : Nat} {u2 : Option Addr} {c2 : Nat} {u3 : Option Addr} {c3 : Nat} {x : Value} (h : ProgOwn w base p u1 c1 u2 c2 u3 c3) (hB : Bx < base) : ProgOwn (w.setCell ⟨Bx, o, none⟩ x) base p u1 c1 u2 c2 u3 c3 :=
  ⟨h.r1.block fun g hg _ => Below.heap_setCell _ _ _ _ (by have := (h.r1.ge hg).1; show g ≠ Bx; omega), h.r2.block fun g hg _ => Below.heap_setCell _ _ _ _ (by have := (h.r2.ge hg).1; show g ≠ Bx; omega), h.r3.block fun g hg _ => Below.heap_setCell _ _ _ _ (by have := (h.r3.ge hg).1; show g ≠ Bx; omega), h.ap⟩
theorem ProgOwn.low {w : World} {base base' : Nat} {p : ProgD} {u1 : Option Addr} {c1 : Nat} {u2 : Option Addr} {c2 : Nat} {u3 : Option Addr} {c3 : Nat} (h : ProgOwn w base p u1 c1 u2 c2 u3 c3) (hb : base' ≤ base) : ProgOwn w base' p u1 c1 u2 c2 u3 c3 :=
  ⟨h.r1.low hb, h.r2.low hb, h.r3.low hb, h.ap⟩
set_option maxHeartbeats 8000000 in
set_option maxRecDepth 100000 in
theorem readP1 (a : Addr) (g : Nat) (s : ByteArray) (w : World) (hg : Gv w g (.string s)) (hs : s.size ≤ 1048576) (hv : Gv w 0 (errV a)) :
    Calls Tryd.prog 14 #[.pointer (some ⟨g, 0, none⟩)] w fun e w' => ProgTold s a w.heap.size w' e ∧ Below w.heap.size w w' := by
  have B1 : Below w.heap.size w (w.alloc (.cells #[.int .i64 0, .slice none 0 0, .slice none 0 0, .slice none 0 0] 25)) := (Below.refl _ _).alloc (Nat.le_refl _) _
  have A1 := At.new w #[.int .i64 0, .slice none 0 0, .slice none 0 0, .slice none 0 0] 25
  have e1 : (w.alloc (.cells #[.int .i64 0, .slice none 0 0, .slice none 0 0, .slice none 0 0] 25)).heap.size = w.heap.size + 1 := by simp
  have P := progOfI a s (w.alloc (.cells #[.int .i64 0, .slice none 0 0, .slice none 0 0, .slice none 0 0] 25)) hs (hv.keep B1)
  rw [e1] at P
  have c := (hg.keep B1).cell
  have HB1 : Hid (Below w.heap.size w _) := B1
  have HA1 : Hid (At _ w.heap.size #[.int .i64 0, .slice none 0 0, .slice none 0 0, .slice none 0 0] 25) := A1
  have he1 : Hid ((w.alloc (.cells #[.int .i64 0, .slice none 0 0, .slice none 0 0, .slice none 0 0] 25)).heap.size = w.heap.size + 1) := e1
  clear B1 A1 hv hg e1
  go_enter Tryd.func14, Tryd.ntmps14
  go_wp2_with fail
  generalize (w.alloc (.cells #[.int .i64 0, .slice none 0 0, .slice none 0 0, .slice none 0 0] 25)) = W1 at HB1 HA1 P c he1 ⊢
  refine P.mono ?_
  rintro e w2 ⟨hc, b2⟩
  rw [← he1.out] at b2
  have HB2 : Hid (Below w.heap.size w w2) := HB1.out.trans (b2.mono HB1.out.size)
  have HA2 : Hid (At w2 w.heap.size #[.int .i64 0, .slice none 0 0, .slice none 0 0, .slice none 0 0] 25) := HA1.out.below b2
  clear P c b2 HB1 HA1
  rcases hc with ⟨p, u1, c1, u2, c2, u3, c3, hi, rfl, hR⟩ | ⟨hno, rfl⟩
  · have HR : Hid (ProgOwn w2 (w.heap.size + 1) p u1 c1 u2 c2 u3 c3) := hR
    have HRd : Hid (OkP s p) := hi
    clear hi hR he1
    have z0 : w2.cell? ⟨w.heap.size, 0, none⟩ = some (.int .i64 0) := HA2.out.cell 0
    have z1 : w2.cell? ⟨w.heap.size, 1, none⟩ = some (.slice none 0 0) := HA2.out.cell 1
    have z2 : w2.cell? ⟨w.heap.size, 2, none⟩ = some (.slice none 0 0) := HA2.out.cell 2
    have z3 : w2.cell? ⟨w.heap.size, 3, none⟩ = some (.slice none 0 0) := HA2.out.cell 3
    have zf : ∀ o, w2.frozen? ⟨w.heap.size, o, none⟩ = false := fun o => froz_of_heap HA2.out
    go_wp2_with fail
    have hrr := (heap_set (o := 3) (v := .slice u3 p.code.length c3) (heap_set (o := 2) (v := .slice u2 p.widths.length c2) (heap_set (o := 1) (v := .slice u1 p.params.length c1) (heap_set (o := 0) (v := .int .i64 p.regs) HA2.out))))
    refine bodyPost_ret (v := .agg #[.int .i64 p.regs, .slice u1 p.params.length c1, .slice u2 p.widths.length c2, .slice u3 p.code.length c3]) ((results_cell_row Tryd.results14 _ _ w.heap.size 25 _ (0, 0) _ rfl hrr Tryd.underlying25 rfl (by kernel_rfl)).trans (by rfl)) rfl ⟨.inl ⟨p, u1, c1, u2, c2, u3, c3, HRd.out, rfl, ProgOwn.low (ProgOwn.setT (ProgOwn.setT (ProgOwn.setT (ProgOwn.setT HR.out (by omega)) (by omega)) (by omega)) (by omega)) (by omega)⟩, ?_⟩
    exact (by repeat (first | refine Below.setCell ?_ (by dsimp only; omega) _ | exact HB2.out))
  · have HNo : Hid (¬ ∃ p, OkP s p) := hno
    clear hno
    go_wp2_with fail
    exact ⟨rfl, .inr ⟨HNo.out, rfl⟩, HB2.out⟩
set_option maxHeartbeats 8000000 in
set_option maxRecDepth 100000 in
theorem catchY (p r : Nat) (u : TypeId) (pv : Value) (older : List PanicEntry) (w : World) (b : Bool) (hpr : p < r) (hp : At w p #[.int .i64 0, .slice none 0 0, .slice none 0 0, .slice none 0 0] 25) (hr : At w r #[.bool b] 4) :
    CallsD Tryd.prog 26 #[.pointer (some ⟨p, 0, none⟩), .pointer (some ⟨r, 0, none⟩)] (.panicking ({ v := .iface u pv, recovered := false } :: older)) w fun e u' w' =>
      e = .returned (.tuple #[]) ∧ u' = .panicking ({ v := .iface u pv, recovered := true } :: older) ∧ At w' p #[.int .i64 0, .slice none 0 0, .slice none 0 0, .slice none 0 0] 25 ∧ At w' r #[.bool false] 4 ∧ Below p w w' := by
  have hlp : p < w.heap.size := hp.lt
  have hlr : r < w.heap.size := hr.lt
  have B1 : Below w.heap.size w (w.alloc (.cells #[.int .i64 0, .slice none 0 0, .slice none 0 0, .slice none 0 0] 25)) := (Below.refl _ _).alloc (Nat.le_refl _) _
  have HP : Hid (At (w.alloc (.cells #[.int .i64 0, .slice none 0 0, .slice none 0 0, .slice none 0 0] 25)) p #[.int .i64 0, .slice none 0 0, .slice none 0 0, .slice none 0 0] 25) := hp.below B1
  have HR : Hid (At (w.alloc (.cells #[.int .i64 0, .slice none 0 0, .slice none 0 0, .slice none 0 0] 25)) r #[.bool b] 4) := hr.below B1
  have HN : Hid (At (w.alloc (.cells #[.int .i64 0, .slice none 0 0, .slice none 0 0, .slice none 0 0] 25)) w.heap.size #[.int .i64 0, .slice none 0 0, .slice none 0 0, .slice none 0 0] 25) := At.new _ _ _
  have HB : Hid (Below p w (w.alloc (.cells #[.int .i64 0, .slice none 0 0, .slice none 0 0, .slice none 0 0] 25))) := B1.mono (by omega)
  clear B1 hp hr
  refine callsD_of_wpS Tryd.func26 rfl fun c₀ cs hu => ?_
  apply wpS_seq
  apply wpS_region
  simp [wpOpsS, go_sem, recoverD, hu, Tryd.ntmps26, Exit.thenS]
  refine wpS_cond (t := true) (by simp [Act.eval, Array.replicate]) ?_
  simp only [if_true]
  refine wpS_of_wp ?_
  simp only [Array.replicate, List.replicate, List.setIfInBounds_toArray, List.set_cons_zero, List.set_cons_succ, List.append_toArray, List.cons_append, List.nil_append]
  obtain ⟨W, hW⟩ : ∃ W, (w.alloc (.cells #[.int .i64 0, .slice none 0 0, .slice none 0 0, .slice none 0 0] 25)) = W := ⟨_, rfl⟩
  rw [hW] at HP HR HN HB
  have z0 : W.cell? ⟨p, 0, none⟩ = some (.int .i64 0) := HP.out.cell 0
  have z1 : W.cell? ⟨p, 1, none⟩ = some (.slice none 0 0) := HP.out.cell 1
  have z2 : W.cell? ⟨p, 2, none⟩ = some (.slice none 0 0) := HP.out.cell 2
  have z3 : W.cell? ⟨p, 3, none⟩ = some (.slice none 0 0) := HP.out.cell 3
  have y0 : W.cell? ⟨w.heap.size, 0, none⟩ = some (.int .i64 0) := HN.out.cell 0
  have y1 : W.cell? ⟨w.heap.size, 1, none⟩ = some (.slice none 0 0) := HN.out.cell 1
  have y2 : W.cell? ⟨w.heap.size, 2, none⟩ = some (.slice none 0 0) := HN.out.cell 2
  have y3 : W.cell? ⟨w.heap.size, 3, none⟩ = some (.slice none 0 0) := HN.out.cell 3
  have zf : ∀ o, W.frozen? ⟨p, o, none⟩ = false := fun o => froz_of_heap HP.out
  have x0 : W.cell? ⟨r, 0, none⟩ = some (.bool b) := HR.out.cell 0
  have xf : W.frozen? ⟨r, 0, none⟩ = false := froz_of_heap HR.out
  have npr : p ≠ r := by omega
  have nrp : r ≠ p := by omega
  go_wp2_with fail
  have h0 : At ((((W.setCell ⟨p, 0, none⟩ (.int .i64 0)).setCell ⟨p, 1, none⟩ (.slice none 0 0)).setCell ⟨p, 2, none⟩ (.slice none 0 0)).setCell ⟨p, 3, none⟩ (.slice none 0 0)) p #[.int .i64 0, .slice none 0 0, .slice none 0 0, .slice none 0 0] 25 := (heap_set (o := 3) (v := .slice none 0 0) (heap_set (o := 2) (v := .slice none 0 0) (heap_set (o := 1) (v := .slice none 0 0) (heap_set (o := 0) (v := .int .i64 0) HP.out))))
  have h1 := h0.setOther (gi := r) (o := 0) (v := .bool false) npr
  clear h0
  have h2 := heap_set (o := 0) (v := .bool false) ((((HR.out.setOther (gi := p) (o := 0) (v := .int .i64 0) nrp).setOther (gi := p) (o := 1) (v := .slice none 0 0) nrp).setOther (gi := p) (o := 2) (v := .slice none 0 0) nrp).setOther (gi := p) (o := 3) (v := .slice none 0 0) nrp)
  have h3 : Below p w (((((W.setCell ⟨p, 0, none⟩ (.int .i64 0)).setCell ⟨p, 1, none⟩ (.slice none 0 0)).setCell ⟨p, 2, none⟩ (.slice none 0 0)).setCell ⟨p, 3, none⟩ (.slice none 0 0)).setCell ⟨r, 0, none⟩ (.bool false)) := by repeat (first | refine Below.setCell ?_ (by dsimp only; omega) _ | exact HB.out)
  clear HP HR HN HB z0 z1 z2 z3 y0 y1 y2 y3 zf x0 xf hW
  generalize (((((W.setCell ⟨p, 0, none⟩ (.int .i64 0)).setCell ⟨p, 1, none⟩ (.slice none 0 0)).setCell ⟨p, 2, none⟩ (.slice none 0 0)).setCell ⟨p, 3, none⟩ (.slice none 0 0)).setCell ⟨r, 0, none⟩ (.bool false)) = W9 at h1 h2 h3 ⊢
  simp [bodyPostS, results, Tryd.results26]
  exact ⟨h1, h2, h3⟩
theorem catchN (p r : Nat) (w : World) :
    CallsD Tryd.prog 26 #[.pointer (some ⟨p, 0, none⟩), .pointer (some ⟨r, 0, none⟩)] .returning w fun e u' w' => e = .returned (.tuple #[]) ∧ u' = .returning ∧ w' = w := by
  refine callsD_of_wpS Tryd.func26 rfl fun c₀ cs hu => ?_
  apply wpS_seq
  apply wpS_region
  simp [wpOpsS, go_sem, recoverD, hu, Tryd.ntmps26, Exit.thenS]
  refine wpS_cond (t := false) (by simp [Act.eval, Array.replicate]) ?_
  simp only [Bool.false_eq_true, if_false]
  refine wpS_of_wp (wp_skip ?_)
  cases c₀
  simp_all [bodyPostS, results, Tryd.results26]
theorem results_two {P : Program} {fn : Func} {p r : Tmp} {ty tb : TypeId} (h : fn.results = #[.cell p ty, .cell r tb]) (tmps : Array Value) (w : World) (g k : Nat) (v1 v2 : Value)
    (hp : tmps.getD p undef = .pointer (some ⟨g, 0, none⟩)) (hr : tmps.getD r undef = .pointer (some ⟨k, 0, none⟩)) (h1 : (loadVar ty ⟨g, 0, none⟩).run P w = .ok v1 w) (h2 : (loadVar tb ⟨k, 0, none⟩).run P w = .ok v2 w) :
    (results fn tmps).run P w = .ok (.tuple #[v1, v2]) w := by
  have hp' : tmps[p]?.getD undef = .pointer (some ⟨g, 0, none⟩) := by simpa using hp
  have hr' : tmps[r]?.getD undef = .pointer (some ⟨k, 0, none⟩) := by simpa using hr
  simp [results, h, hp', hr', asAddr, h1, h2, Result.andThen]
theorem load_bool {w : World} {k : Nat} {b : Bool} (h : At w k #[.bool b] 4) : (loadVar 4 ⟨k, 0, none⟩).run Tryd.prog w = .ok (.bool b) w := by
  have c : w.cell? ⟨k, 0, none⟩ = some (.bool b) := h.cell 0
  simp [go_sem, c]
/-- What reading a program tells. -/
def ReadTold (s : ByteArray) (base : Nat) (w : World) (e : Ending) : Prop :=
  (∃ p u1 c1 u2 c2 u3 c3, OkP s p ∧ e = .returned (.tuple #[.agg #[.int .i64 p.regs, .slice u1 p.params.length c1, .slice u2 p.widths.length c2, .slice u3 p.code.length c3], .bool true]) ∧ ProgOwn w base p u1 c1 u2 c2 u3 c3) ∨ ((¬ ∃ p, OkP s p) ∧ e = .returned (.tuple #[.agg #[.int .i64 0, .slice none 0 0, .slice none 0 0, .slice none 0 0], .bool false]))
set_option maxHeartbeats 8000000 in
set_option maxRecDepth 100000 in
theorem readingP (a : Addr) (g : Nat) (s : ByteArray) (w : World) (hg : Gv w g (.string s)) (hs : s.size ≤ 1048576) (hv : Gv w 0 (errV a)) :
    Calls Tryd.prog 13 #[.func (.func 14) #[] #[.pointer (some ⟨g, 0, none⟩)]] w fun e w' => ReadTold s w.heap.size w' e ∧ Below w.heap.size w w' := by
  have hmf : ∀ (fn : Fn) (first cap : Array Value) (w : World), (Instr.makeFunc fn first cap).run Tryd.prog w = .ok (.func fn first cap) w := fun _ _ _ _ => rfl
  have B1 : Below w.heap.size w ((w.alloc (.cells #[.int .i64 0, .slice none 0 0, .slice none 0 0, .slice none 0 0] 25)).alloc (.cells #[.bool false] 4)) := ((Below.refl _ _).alloc (Nat.le_refl _) _).alloc (by simp) _
  have e1 : ((w.alloc (.cells #[.int .i64 0, .slice none 0 0, .slice none 0 0, .slice none 0 0] 25)).alloc (.cells #[.bool false] 4)).heap.size = w.heap.size + 2 := by simp
  have A0 : At ((w.alloc (.cells #[.int .i64 0, .slice none 0 0, .slice none 0 0, .slice none 0 0] 25)).alloc (.cells #[.bool false] 4)) w.heap.size #[.int .i64 0, .slice none 0 0, .slice none 0 0, .slice none 0 0] 25 := (At.new _ _ _).below ((Below.refl _ _).alloc (Nat.le_refl _) _)
  have A1 : At ((w.alloc (.cells #[.int .i64 0, .slice none 0 0, .slice none 0 0, .slice none 0 0] 25)).alloc (.cells #[.bool false] 4)) (w.heap.size + 1) #[.bool false] 4 := by
    have h := At.new (w.alloc (.cells #[.int .i64 0, .slice none 0 0, .slice none 0 0, .slice none 0 0] 25)) #[.bool false] 4
    have e : (w.alloc (.cells #[.int .i64 0, .slice none 0 0, .slice none 0 0, .slice none 0 0] 25)).heap.size = w.heap.size + 1 := by simp
    rw [e] at h
    exact h
  have P := readP1 a g s _ (hg.keep B1) hs (hv.keep B1)
  rw [e1] at P
  have HB1 : Hid (Below w.heap.size w _) := B1
  have HA0 : Hid (At _ w.heap.size #[.int .i64 0, .slice none 0 0, .slice none 0 0, .slice none 0 0] 25) := A0
  have HA1 : Hid (At _ (w.heap.size + 1) #[.bool false] 4) := A1
  have he1 : Hid (_ = w.heap.size + 2) := e1
  clear B1 A0 A1 e1 hg hv hs
  go_enter_defers Tryd.func13, Tryd.ntmps13
  go_wp2_with fail
  generalize ((w.alloc (.cells #[.int .i64 0, .slice none 0 0, .slice none 0 0, .slice none 0 0] 25)).alloc (.cells #[.bool false] 4)) = W1 at HB1 HA0 HA1 he1 P ⊢
  refine P.mono ?_
  rintro e w2 ⟨hc, b2⟩
  rw [← he1.out] at b2
  have HB2 : Hid (Below w.heap.size w w2) := HB1.out.trans (b2.mono HB1.out.size)
  have HA2 : Hid (At w2 w.heap.size #[.int .i64 0, .slice none 0 0, .slice none 0 0, .slice none 0 0] 25) := HA0.out.below b2
  have HA3 : Hid (At w2 (w.heap.size + 1) #[.bool false] 4) := HA1.out.below b2
  clear P b2 HB1 HA0 HA1
  rcases hc with ⟨p, u1, c1, u2, c2, u3, c3, hi, rfl, hR⟩ | ⟨hno, rfl⟩
  · have HR : Hid (ProgOwn w2 (w.heap.size + 2) p u1 c1 u2 c2 u3 c3) := hR
    have HRd : Hid (OkP s p) := hi
    clear hi hR he1
    have z0 : w2.cell? ⟨w.heap.size, 0, none⟩ = some (.int .i64 0) := HA2.out.cell 0
    have z1 : w2.cell? ⟨w.heap.size, 1, none⟩ = some (.slice none 0 0) := HA2.out.cell 1
    have z2 : w2.cell? ⟨w.heap.size, 2, none⟩ = some (.slice none 0 0) := HA2.out.cell 2
    have z3 : w2.cell? ⟨w.heap.size, 3, none⟩ = some (.slice none 0 0) := HA2.out.cell 3
    have zf : ∀ o, w2.frozen? ⟨w.heap.size, o, none⟩ = false := fun o => froz_of_heap HA2.out
    have x0 : w2.cell? ⟨w.heap.size + 1, 0, none⟩ = some (.bool false) := HA3.out.cell 0
    have xf : w2.frozen? ⟨w.heap.size + 1, 0, none⟩ = false := froz_of_heap HA3.out
    go_wp2_with fail
    have h0 : At ((((w2.setCell ⟨w.heap.size, 0, none⟩ (.int .i64 p.regs)).setCell ⟨w.heap.size, 1, none⟩ (.slice u1 p.params.length c1)).setCell ⟨w.heap.size, 2, none⟩ (.slice u2 p.widths.length c2)).setCell ⟨w.heap.size, 3, none⟩ (.slice u3 p.code.length c3)) w.heap.size #[.int .i64 p.regs, .slice u1 p.params.length c1, .slice u2 p.widths.length c2, .slice u3 p.code.length c3] 25 := (heap_set (o := 3) (v := .slice u3 p.code.length c3) (heap_set (o := 2) (v := .slice u2 p.widths.length c2) (heap_set (o := 1) (v := .slice u1 p.params.length c1) (heap_set (o := 0) (v := .int .i64 p.regs) HA2.out))))
    have h1 := h0.setOther (gi := w.heap.size + 1) (o := 0) (v := .bool true) (by omega)
    have h2 := heap_set (o := 0) (v := .bool true) ((((HA3.out.setOther (gi := w.heap.size) (o := 0) (v := .int .i64 p.regs) (by omega)).setOther (gi := w.heap.size) (o := 1) (v := .slice u1 p.params.length c1) (by omega)).setOther (gi := w.heap.size) (o := 2) (v := .slice u2 p.widths.length c2) (by omega)).setOther (gi := w.heap.size) (o := 3) (v := .slice u3 p.code.length c3) (by omega))
    have h3 : Below w.heap.size w (((((w2.setCell ⟨w.heap.size, 0, none⟩ (.int .i64 p.regs)).setCell ⟨w.heap.size, 1, none⟩ (.slice u1 p.params.length c1)).setCell ⟨w.heap.size, 2, none⟩ (.slice u2 p.widths.length c2)).setCell ⟨w.heap.size, 3, none⟩ (.slice u3 p.code.length c3)).setCell ⟨w.heap.size + 1, 0, none⟩ (.bool true)) := by repeat (first | refine Below.setCell ?_ (by dsimp only; omega) _ | exact HB2.out)
    have h4 : ProgOwn (((((w2.setCell ⟨w.heap.size, 0, none⟩ (.int .i64 p.regs)).setCell ⟨w.heap.size, 1, none⟩ (.slice u1 p.params.length c1)).setCell ⟨w.heap.size, 2, none⟩ (.slice u2 p.widths.length c2)).setCell ⟨w.heap.size, 3, none⟩ (.slice u3 p.code.length c3)).setCell ⟨w.heap.size + 1, 0, none⟩ (.bool true)) (w.heap.size + 2) p u1 c1 u2 c2 u3 c3 := (ProgOwn.setT (ProgOwn.setT (ProgOwn.setT (ProgOwn.setT (ProgOwn.setT HR.out (by omega)) (by omega)) (by omega)) (by omega)) (by omega))
    clear HA2 HA3 HR z0 z1 z2 z3 zf x0 xf h0 HB2
    generalize (((((w2.setCell ⟨w.heap.size, 0, none⟩ (.int .i64 p.regs)).setCell ⟨w.heap.size, 1, none⟩ (.slice u1 p.params.length c1)).setCell ⟨w.heap.size, 2, none⟩ (.slice u2 p.widths.length c2)).setCell ⟨w.heap.size, 3, none⟩ (.slice u3 p.code.length c3)).setCell ⟨w.heap.size + 1, 0, none⟩ (.bool true)) = W9 at h1 h2 h3 h4 ⊢
    refine leaves_cons (f := 26) (args := #[.pointer (some ⟨w.heap.size, 0, none⟩), .pointer (some ⟨w.heap.size + 1, 0, none⟩)]) (by simp) (by simp [go_sem]) ?_
    refine (catchN w.heap.size (w.heap.size + 1) _).mono ?_
    rintro e u' w'' ⟨rfl, rfl, h9⟩
    have h8 := h9.symm
    clear h9
    subst h8
    simp [Leaves, settle]
    refine ⟨.tuple #[.agg #[.int .i64 p.regs, .slice u1 p.params.length c1, .slice u2 p.widths.length c2, .slice u3 p.code.length c3], .bool true], ?_, .inl ⟨p, u1, c1, u2, c2, u3, c3, HRd.out, rfl, h4.low (by omega)⟩, h3⟩
    exact results_two Tryd.results13 _ _ w.heap.size (w.heap.size + 1) _ _ rfl rfl (run_loadVar_row _ _ 25 _ _ (0, 0) _ h1 Tryd.underlying25 rfl (by kernel_rfl)) (load_bool h2)
  · have HNo : Hid (¬ ∃ p, OkP s p) := hno
    clear hno he1
    go_wp2_with fail
    refine leaves_cons (f := 26) (args := #[.pointer (some ⟨w.heap.size, 0, none⟩), .pointer (some ⟨w.heap.size + 1, 0, none⟩)]) (by simp) (by simp [go_sem]) ?_
    unfold errV
    refine (catchY w.heap.size (w.heap.size + 1) _ _ [] w2 false (by omega) HA2.out HA3.out).mono ?_
    rintro e u' w9 ⟨rfl, rfl, h1, h2, b9⟩
    have h3 : Below w.heap.size w w9 := HB2.out.trans b9
    clear HA2 HA3 HB2 b9
    simp [Leaves, settle]
    refine ⟨.tuple #[.agg #[.int .i64 0, .slice none 0 0, .slice none 0 0, .slice none 0 0], .bool false], ?_, .inr ⟨HNo.out, rfl⟩, h3⟩
    exact results_two Tryd.results13 _ _ w.heap.size (w.heap.size + 1) _ _ rfl rfl (run_loadVar_row _ _ 25 _ _ (0, 0) _ h1 Tryd.underlying25 rfl (by kernel_rfl)) (load_bool h2)
theorem results_row_tmp {P : Program} {fn : Func} {p u : Tmp} {ty : TypeId} (h : fn.results = #[.cell p ty, .tmp u]) (tmps : Array Value) (w : World) (g : Nat) (cs : Array Value)
    (hp : tmps.getD p undef = .pointer (some ⟨g, 0, none⟩)) (hl : (loadVar ty ⟨g, 0, none⟩).run P w = .ok (.agg cs) w) :
    (results fn tmps).run P w = .ok (.tuple #[.agg cs, tmps.getD u undef]) w := by
  have hp' : tmps[p]?.getD undef = .pointer (some ⟨g, 0, none⟩) := by simpa using hp
  rw [results_cell_tmp h]
  simp [hp', asAddr, hl, Result.andThen]
set_option maxHeartbeats 8000000 in
set_option maxRecDepth 100000 in
theorem readPI (a : Addr) (s : ByteArray) (w : World) (hs : s.size ≤ 1048576) (hv : Gv w 0 (errV a)) :
    Calls Tryd.prog 5 #[.string s] w fun e w' => ReadTold s w.heap.size w' e ∧ Below w.heap.size w w' := by
  have hmf : ∀ (fn : Fn) (first cap : Array Value) (w : World), (Instr.makeFunc fn first cap).run Tryd.prog w = .ok (.func fn first cap) w := fun _ _ _ _ => rfl
  have B1 : Below w.heap.size w ((w.alloc (.cells #[.string s] 9)).alloc (.cells #[.int .i64 0, .slice none 0 0, .slice none 0 0, .slice none 0 0] 25)) := ((Below.refl _ _).alloc (Nat.le_refl _) _).alloc (by simp) _
  have e1 : ((w.alloc (.cells #[.string s] 9)).alloc (.cells #[.int .i64 0, .slice none 0 0, .slice none 0 0, .slice none 0 0] 25)).heap.size = w.heap.size + 2 := by simp
  have A0 : At ((w.alloc (.cells #[.string s] 9)).alloc (.cells #[.int .i64 0, .slice none 0 0, .slice none 0 0, .slice none 0 0] 25)) w.heap.size #[.string s] 9 := (At.new _ _ _).below ((Below.refl _ _).alloc (Nat.le_refl _) _)
  have A1 : At ((w.alloc (.cells #[.string s] 9)).alloc (.cells #[.int .i64 0, .slice none 0 0, .slice none 0 0, .slice none 0 0] 25)) (w.heap.size + 1) #[.int .i64 0, .slice none 0 0, .slice none 0 0, .slice none 0 0] 25 := by
    have h := At.new (w.alloc (.cells #[.string s] 9)) #[.int .i64 0, .slice none 0 0, .slice none 0 0, .slice none 0 0] 25
    have e : (w.alloc (.cells #[.string s] 9)).heap.size = w.heap.size + 1 := by simp
    rw [e] at h
    exact h
  have P := readingP a w.heap.size s _ ⟨A0.cell 0, A0.lt⟩ hs (hv.keep B1)
  rw [e1] at P
  have HB1 : Hid (Below w.heap.size w _) := B1
  have HA1 : Hid (At _ (w.heap.size + 1) #[.int .i64 0, .slice none 0 0, .slice none 0 0, .slice none 0 0] 25) := A1
  have he1 : Hid (_ = w.heap.size + 2) := e1
  clear B1 A0 A1 e1 hv hs
  go_enter Tryd.func5, Tryd.ntmps5
  go_wp2_with fail
  generalize ((w.alloc (.cells #[.string s] 9)).alloc (.cells #[.int .i64 0, .slice none 0 0, .slice none 0 0, .slice none 0 0] 25)) = W1 at HB1 HA1 he1 P ⊢
  refine P.mono ?_
  rintro e w2 ⟨hc, b2⟩
  rw [← he1.out] at b2
  have HB2 : Hid (Below w.heap.size w w2) := HB1.out.trans (b2.mono HB1.out.size)
  have HA2 : Hid (At w2 (w.heap.size + 1) #[.int .i64 0, .slice none 0 0, .slice none 0 0, .slice none 0 0] 25) := HA1.out.below b2
  have z0 : w2.cell? ⟨w.heap.size + 1, 0, none⟩ = some (.int .i64 0) := HA2.out.cell 0
  have z1 : w2.cell? ⟨w.heap.size + 1, 1, none⟩ = some (.slice none 0 0) := HA2.out.cell 1
  have z2 : w2.cell? ⟨w.heap.size + 1, 2, none⟩ = some (.slice none 0 0) := HA2.out.cell 2
  have z3 : w2.cell? ⟨w.heap.size + 1, 3, none⟩ = some (.slice none 0 0) := HA2.out.cell 3
  have zf : ∀ o, w2.frozen? ⟨w.heap.size + 1, o, none⟩ = false := fun o => froz_of_heap HA2.out
  clear P b2 HB1 HA1 he1 hmf
  rcases hc with ⟨p, u1, c1, u2, c2, u3, c3, hi, rfl, hR⟩ | ⟨hno, rfl⟩
  · have HR : Hid (ProgOwn w2 (w.heap.size + 2) p u1 c1 u2 c2 u3 c3) := hR
    have HRd : Hid (OkP s p) := hi
    clear hi hR
    go_wp2_with fail
    have hrr := (heap_set (o := 3) (v := .slice u3 p.code.length c3) (heap_set (o := 2) (v := .slice u2 p.widths.length c2) (heap_set (o := 1) (v := .slice u1 p.params.length c1) (heap_set (o := 0) (v := .int .i64 p.regs) HA2.out))))
    refine bodyPost_ret (v := .tuple #[.agg #[.int .i64 p.regs, .slice u1 p.params.length c1, .slice u2 p.widths.length c2, .slice u3 p.code.length c3], .bool true]) ((results_row_tmp Tryd.results5 _ _ (w.heap.size + 1) _ rfl (run_loadVar_row _ _ 25 _ _ (0, 0) _ hrr Tryd.underlying25 rfl (by kernel_rfl))).trans (by rfl)) rfl ⟨.inl ⟨p, u1, c1, u2, c2, u3, c3, HRd.out, rfl, ProgOwn.low (ProgOwn.setT (ProgOwn.setT (ProgOwn.setT (ProgOwn.setT HR.out (by omega)) (by omega)) (by omega)) (by omega)) (by omega)⟩, ?_⟩
    exact (by repeat (first | refine Below.setCell ?_ (by dsimp only; omega) _ | exact HB2.out))
  · have HNo : Hid (¬ ∃ p, OkP s p) := hno
    clear hno
    go_wp2_with fail
    have hrr := (heap_set (o := 3) (v := .slice none 0 0) (heap_set (o := 2) (v := .slice none 0 0) (heap_set (o := 1) (v := .slice none 0 0) (heap_set (o := 0) (v := .int .i64 0) HA2.out))))
    refine bodyPost_ret (v := .tuple #[.agg #[.int .i64 0, .slice none 0 0, .slice none 0 0, .slice none 0 0], .bool false]) ((results_row_tmp Tryd.results5 _ _ (w.heap.size + 1) _ rfl (run_loadVar_row _ _ 25 _ _ (0, 0) _ hrr Tryd.underlying25 rfl (by kernel_rfl))).trans (by rfl)) rfl ⟨.inr ⟨HNo.out, rfl⟩, ?_⟩
    exact (by repeat (first | refine Below.setCell ?_ (by dsimp only; omega) _ | exact HB2.out))
end Go.Proofs.YtpmanjkaiknlhaaDoor
