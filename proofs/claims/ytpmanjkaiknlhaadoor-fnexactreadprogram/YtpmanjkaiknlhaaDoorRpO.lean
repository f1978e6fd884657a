/- The walk of the model's ReadProgram. -/
import Derived.Test.YtpmanjkaiknlhaaDoorRpMQ
import Derived.Test.YtpmanjkaiknlhaaDoorRpKQ
namespace Go.Proofs.YtpmanjkaiknlhaaDoor
open Go.RowKit
set_option linter.unusedVariables false
set_option linter.unusedSimpArgs false

theorem reg_list : reg1.toList = [82, 69, 71, 49] := by rw [ByteArray.toList_eq]; rfl
theorem MdS.ints {w wr : World} {G Bp B : Nat} {s : ByteArray} {x : Int} {u1 : Option Addr} {c1 : Nat} {u2 : Option Addr} {c2 : Nat} {u3 : Option Addr} {c3 : Nat} {ps ws : List Int} {C : List MInsD} {k : Nat} {bad : Bool} (h : MdS w wr G Bp B s x (.slice u1 ps.length c1) (.slice u2 ws.length c2) (.slice u3 C.length c3) ps ws C k bad) (h1 : ps.length ≤ 1000) (h2 : ws.length ≤ 1000) (h3 : C.length ≤ 1000) : IntsAt wr B u1 ps ∧ IntsAt wr B u2 ws ∧ MinsAt wr B u3 C := by
  obtain ⟨a1, b1, e1, i1⟩ := h.r1.ints (by omega)
  obtain ⟨a2, b2, e2, i2⟩ := h.r2.ints (by omega)
  obtain ⟨a3, b3, e3, i3⟩ := h.r3.mins (by omega)
  cases e1; cases e2; cases e3
  exact ⟨i1, i2, i3⟩
set_option maxHeartbeats 8000000 in
set_option maxRecDepth 100000 in
theorem readPS (s : ByteArray) (w : World) (hs : s.size ≤ 1048576) :
    Calls Tryd.prog 4 #[.string s] w fun e w' => ReadToldS s w.heap.size w' e ∧ Below w.heap.size w w' := by
  have B0 : Below w.heap.size w (w.alloc (.cells #[.int .i64 0, .slice none 0 0, .slice none 0 0, .slice none 0 0] 25)) := (Below.refl _ _).alloc (Nat.le_refl _) _
  have A0 := At.new w #[.int .i64 0, .slice none 0 0, .slice none 0 0, .slice none 0 0] 25
  have z0 : (w.alloc (.cells #[.int .i64 0, .slice none 0 0, .slice none 0 0, .slice none 0 0] 25)).heap.size = w.heap.size + 1 := by simp
  have HB0 : Hid (Below w.heap.size w (w.alloc (.cells #[.int .i64 0, .slice none 0 0, .slice none 0 0, .slice none 0 0] 25))) := B0
  have HA0 : Hid (At (w.alloc (.cells #[.int .i64 0, .slice none 0 0, .slice none 0 0, .slice none 0 0] 25)) w.heap.size #[.int .i64 0, .slice none 0 0, .slice none 0 0, .slice none 0 0] 25) := A0
  clear B0 A0
  by_cases hok : 4 ≤ s.size ∧ s.size ≤ 20000 ∧ s.extract 0 4 = reg1
  · obtain ⟨h4, hz, he⟩ := hok
    have h1I : ¬ (s.size : Int) < 4 := by omega
    have h2I : ¬ (20000 : Int) < (s.size : Int) := by omega
    have h4I : (4 : Int) ≤ (s.size : Int) := by omega
    have E : ((s.extract 0 4).toList == [82, 69, 71, 49]) = true := reg_list ▸ str_eqq he
    clear he
    have B1 : Below (w.alloc (.cells #[.int .i64 0, .slice none 0 0, .slice none 0 0, .slice none 0 0] 25)).heap.size (w.alloc (.cells #[.int .i64 0, .slice none 0 0, .slice none 0 0, .slice none 0 0] 25)) ((w.alloc (.cells #[.int .i64 0, .slice none 0 0, .slice none 0 0, .slice none 0 0] 25)).alloc (.cells #[.string s, .int .i64 4, .bool false] 33)) := (Below.refl _ _).alloc (Nat.le_refl _) _
    have A1 := At.new (w.alloc (.cells #[.int .i64 0, .slice none 0 0, .slice none 0 0, .slice none 0 0] 25)) #[.string s, .int .i64 4, .bool false] 33
    rw [z0] at A1
    have z1 : ((w.alloc (.cells #[.int .i64 0, .slice none 0 0, .slice none 0 0, .slice none 0 0] 25)).alloc (.cells #[.string s, .int .i64 4, .bool false] 33)).heap.size = w.heap.size + 2 := by simp
    obtain ⟨W1, hW1⟩ : ∃ W1, (w.alloc (.cells #[.int .i64 0, .slice none 0 0, .slice none 0 0, .slice none 0 0] 25)).alloc (.cells #[.string s, .int .i64 4, .bool false] 33) = W1 := ⟨_, rfl⟩
    rw [hW1] at B1 A1 z1
    have HB1 : Hid (Below w.heap.size w W1) := HB0.out.trans (B1.mono HB0.out.size)
    have HA1 : Hid (At W1 w.heap.size #[.int .i64 0, .slice none 0 0, .slice none 0 0, .slice none 0 0] 25) := HA0.out.below B1
    have HR1 : Hid (RdM W1 (w.heap.size + 1) s 4 false) := A1
    clear B1 A1 HB0 HA0 z0
    have N := numS (w.heap.size + 1) s 4 false W1 HR1.out hz h4
    go_enter Tryd.func4, Tryd.ntmps4
    go_wp2_with fail
    try rw [hW1]
    refine N.mono ?_
    rintro e w2 ⟨x, k0, b0, rfl, hx, hr2, ko2⟩
    have HX : Hid (NumIs s 4 false x k0 b0) := hx
    have hk0 : k0 ≤ s.size := hx.2.2.1
    have HR2 : Hid (RdM w2 (w.heap.size + 1) s k0 b0) := hr2
    have HB2 : Hid (Below w.heap.size w w2) := HB1.out.trans (ko2.down (by omega) HB1.out.size)
    have HA2 : Hid (At w2 w.heap.size #[.int .i64 0, .slice none 0 0, .slice none 0 0, .slice none 0 0] 25) := (ko2.block _ HA1.out.lt (by omega)).trans HA1.out
    have z2 : w.heap.size + 2 ≤ w2.heap.size := by have := ko2.size; omega
    clear N hx hr2 ko2 HB1 HA1 HR1 hW1
    have L1 := listS 4 (w.heap.size + 1) s k0 b0 w2 HR2.out hz hk0 (by omega)
    go_wp2_with fail
    refine L1.mono ?_
    rintro e w3 ⟨v1, l1, k1, b1, rfl, hv1, hl1, hk1, hon1, hr3, ko3⟩
    have HV1 : Hid (Row w3 (w.heap.size + 2) v1 l1) := hv1.low z2
    have HON1 : Hid (∀ l' L, On s k0 b0 (listN l' ++ L) → (l'.length : Int) ≤ 4 → l1 = l' ∧ On s k1 b1 L) := hon1
    have HR3 : Hid (RdM w3 (w.heap.size + 1) s k1 b1) := hr3
    have HB3 : Hid (Below w.heap.size w w3) := HB2.out.trans (ko3.down (by omega) HB2.out.size)
    have HA3 : Hid (At w3 w.heap.size #[.int .i64 0, .slice none 0 0, .slice none 0 0, .slice none 0 0] 25) := (ko3.block _ HA2.out.lt (by omega)).trans HA2.out
    have z3 : w.heap.size + 2 ≤ w3.heap.size := by have := ko3.size; omega
    clear L1 hv1 hon1 hr3 ko3 HB2 HA2 HR2
    obtain ⟨va1, vc1, rfl⟩ := HV1.out.slice
    have L2 := listS 4 (w.heap.size + 1) s k1 b1 w3 HR3.out hz hk1 (by omega)
    go_wp2_with fail
    refine L2.mono ?_
    rintro e w4 ⟨v2, l2, k2, b2, rfl, hv2, hl2, hk2, hon2, hr4, ko4⟩
    have HV2 : Hid (Row w4 (w.heap.size + 2) v2 l2) := hv2.low z3
    have HV3 : Hid (Row w4 (w.heap.size + 2) (.slice va1 l1.length vc1) l1) := HV1.out.onlyM ko4 HR3.out
    have HON2 : Hid (∀ l' L, On s k1 b1 (listN l' ++ L) → (l'.length : Int) ≤ 4 → l2 = l' ∧ On s k2 b2 L) := hon2
    have HR4 : Hid (RdM w4 (w.heap.size + 1) s k2 b2) := hr4
    have HB4 : Hid (Below w.heap.size w w4) := HB3.out.trans (ko4.down (by omega) HB3.out.size)
    have HA4 : Hid (At w4 w.heap.size #[.int .i64 0, .slice none 0 0, .slice none 0 0, .slice none 0 0] 25) := (ko4.block _ HA3.out.lt (by omega)).trans HA3.out
    have z4 : w.heap.size + 2 ≤ w4.heap.size := by have := ko4.size; omega
    clear L2 hv2 hon2 hr4 ko4 HB3 HA3 HR3 HV1
    obtain ⟨va2, vc2, rfl⟩ := HV2.out.slice
    have B5 : Below w4.heap.size w4 (w4.alloc (.cells #[.int .i64 x, .slice va1 l1.length vc1, .slice va2 l2.length vc2, .slice none 0 0] 25)) := (Below.refl _ _).alloc (Nat.le_refl _) _
    have HS5 : Hid (MdS w (w4.alloc (.cells #[.int .i64 x, .slice va1 l1.length vc1, .slice va2 l2.length vc2, .slice none 0 0] 25)) (w.heap.size + 1) w4.heap.size (w.heap.size + 2) s x (.slice va1 l1.length vc1) (.slice va2 l2.length vc2) (.slice none 0 0) l1 l2 [] k2 b2) :=
      ⟨At.below HR4.out B5, At.new _ _ _, HA4.out.below B5, HV3.out.keep B5, HV2.out.keep B5, World.ownsRow_nil _ _ _ _, HB4.out.trans (B5.mono HB4.out.size), by omega, by omega, by omega, by omega, by have := B5.size; omega⟩
    have HF : Hid (∀ p, OkP s p → x = p.regs ∧ l1 = p.params ∧ l2 = p.widths ∧ On s k2 b2 ((p.code.length : Int) :: p.code.flatMap minN)) := fun p hp => by
      have h0 := ok_on hp
      rw [progN_eq] at h0
      obtain ⟨hs1, hs2, _⟩ := progB_small hp.1
      obtain ⟨e1, h1⟩ := HX.out.2.2.2 _ _ h0
      obtain ⟨e2, h2⟩ := HON1.out _ _ h1 (by omega)
      obtain ⟨e3, h3⟩ := HON2.out _ _ h2 (by omega)
      exact ⟨e1, e2, e3, h3⟩
    clear B5 HX HON1 HON2 HR4 HB4 HA4 HV2 HV3
    have M := manyS 600 (w.heap.size + 1) s k2 b2 _ HS5.out.rd hz hk2 (by omega)
    go_wp2_with fail
    refine M.mono ?_
    rintro e w6 ⟨q0, k3, b3, rfl, hq0, hk3, hon3, hr6, ko6⟩
    have HS6 : Hid (MdS w w6 (w.heap.size + 1) w4.heap.size (w.heap.size + 2) s x (.slice va1 l1.length vc1) (.slice va2 l2.length vc2) (.slice none 0 0) l1 l2 [] k3 b3) := HS5.out.only ko6 hr6
    have HF6 : Hid (Fits s x l1 l2 [] q0 k3 b3) := fun p hp => by
      obtain ⟨e1, e2, e3, h3⟩ := HF.out p hp
      obtain ⟨_, _, hs3⟩ := progB_small hp.1
      obtain ⟨e4, h4⟩ := hon3 _ _ h3 (by omega)
      exact ⟨e1, e2, e3, p.code, rfl, by omega, h4⟩
    clear M hon3 hr6 ko6 HS5 HF E
    obtain ⟨Bp, hBp⟩ : ∃ Bp, w4.heap.size = Bp := ⟨_, rfl⟩
    rw [hBp] at HS6
    try rw [hBp]
    obtain ⟨iM, hiM, hzM0, hzM1, hzM2⟩ := info_parts infoM
    go_wp2_with fail
    clear hBp
    go_loopw [6] (fun i wr => ∃ (v3 : Value) (C : List MInsD) (q k : Nat) (bad : Bool), i = .int .i64 (q : Int) ∧ C.length + q ≤ 600 ∧ k ≤ s.size ∧ Hid (MdS w wr (w.heap.size + 1) Bp (w.heap.size + 2) s x (.slice va1 l1.length vc1) (.slice va2 l2.length vc2) v3 l1 l2 C k bad) ∧ Hid (Fits s x l1 l2 C q k bad)) (fun i _ => (intOf i).toNat)
    case atStart => exact ⟨.slice none 0 0, [], q0, k3, b3, rfl, by simp; omega, hk3, HS6, HF6⟩
    case round =>
      clear HS6 HF6
      obtain ⟨v3, C, q, k, bad, rfl, hCq, hk, HS, HF⟩ := hrel
      have cb : wr.cell? ⟨w.heap.size + 1, 2, none⟩ = some (.bool bad) := HS.out.rd.cell 2
      obtain ⟨va3, vc3, hv3, _⟩ := HS.out.r3.mins (by omega)
      subst hv3
      by_cases hq : 0 < q
      · have hqI : (0 : Int) < (q : Int) := by omega
        cases bad
        · have HT0 : Hid (MdS w wr.drew (w.heap.size + 1) Bp (w.heap.size + 2) s x (.slice va1 l1.length vc1) (.slice va2 l2.length vc2) (.slice va3 C.length vc3) l1 l2 C k false) := HS.out.keep ((Below.refl _ _).drew)
          have hm0 : k ≤ s.size := hk
          have d0 : wr.cell? ⟨Bp, 3, none⟩ = some (.slice va3 C.length vc3) := HS.out.box.cell 3
          have d00 : wr.drew.cell? ⟨Bp, 3, none⟩ = some (.slice va3 C.length vc3) := HS.out.box.cell 3
          go_wp2_with fail
          refine wp_region_any (by kernel_rfl) ?_
          change wpAny _ _ _ _ _ _ _ (World.drew _)
          clear HS cb
          refine wpAny_take (i := 0) (v := ?_) rfl (by kernel_rfl) (by kernel_rfl) (by kernel_rfl) (fun _ _ _ h => h) (Or.inl ⟨by rfl, ?_⟩) ?_
          rotate_left
          · intro w9
            go_simp
            try with_reducible rfl
          show wpAny _ _ _ _ _ _ (Act.put _ (some _) _) _
          simp only [Act.put, List.setIfInBounds_toArray, List.set_cons_zero, List.set_cons_succ]
          refine wpAny_take (i := 2) (v := ?_) rfl (by kernel_rfl) (by kernel_rfl) (by kernel_rfl) (fun _ _ _ h => h) (Or.inl ⟨by rfl, ?_⟩) ?_
          rotate_left
          · intro w9
            go_simp
            try with_reducible rfl
          show wpAny _ _ _ _ _ _ (Act.put _ (some _) _) _
          simp only [Act.put, List.setIfInBounds_toArray, List.set_cons_zero, List.set_cons_succ]
          refine wpAny_take (i := 4) (v := ?_) rfl (by kernel_rfl) (by kernel_rfl) (by kernel_rfl) (fun _ _ _ h => h) (Or.inl ⟨by rfl, ?_⟩) ?_
          rotate_left
          · intro w9
            go_simp
            try with_reducible rfl
          show wpAny _ _ _ _ _ _ (Act.put _ (some _) _) _
          simp only [Act.put, List.setIfInBounds_toArray, List.set_cons_zero, List.set_cons_succ]
          refine wpAny_take (i := 6) (v := ?_) rfl (by kernel_rfl) (by kernel_rfl) (by kernel_rfl) (fun _ _ _ h => h) (Or.inl ⟨by rfl, ?_⟩) ?_
          rotate_left
          · intro w9
            go_simp
            try with_reducible rfl
          show wpAny _ _ _ _ _ _ (Act.put _ (some _) _) _
          simp only [Act.put, List.setIfInBounds_toArray, List.set_cons_zero, List.set_cons_succ]
          refine wpAny_take (i := 8) (v := ?_) rfl (by kernel_rfl) (by kernel_rfl) (by kernel_rfl) (fun _ _ _ h => h) (Or.inl ⟨by rfl, ?_⟩) ?_
          rotate_left
          · intro w9
            go_simp
            try with_reducible rfl
          show wpAny _ _ _ _ _ _ (Act.put _ (some _) _) _
          simp only [Act.put, List.setIfInBounds_toArray, List.set_cons_zero, List.set_cons_succ]
          refine wpAny_take (i := 10) (v := ?_) rfl (by kernel_rfl) (by kernel_rfl) (by kernel_rfl) (fun _ _ _ h => h) (Or.inl ⟨by rfl, ?_⟩) ?_
          rotate_left
          · intro w9
            go_simp
            try with_reducible rfl
          show wpAny _ _ _ _ _ _ (Act.put _ (some _) _) _
          simp only [Act.put, List.setIfInBounds_toArray, List.set_cons_zero, List.set_cons_succ]
          refine wpAny_take (i := 12) (v := ?_) rfl (by kernel_rfl) (by kernel_rfl) (by kernel_rfl) (fun _ _ _ h => h) (Or.inl ⟨by rfl, ?_⟩) ?_
          rotate_left
          · intro w9
            go_simp
            try with_reducible rfl
          show wpAny _ _ _ _ _ _ (Act.put _ (some _) _) _
          simp only [Act.put, List.setIfInBounds_toArray, List.set_cons_zero, List.set_cons_succ]
          refine wpAny_take (i := 14) (v := ?_) rfl (by kernel_rfl) (by kernel_rfl) (by kernel_rfl) (fun _ _ _ h => h) (Or.inl ⟨by rfl, ?_⟩) ?_
          rotate_left
          · intro w9
            go_simp
            try with_reducible rfl
          show wpAny _ _ _ _ _ _ (Act.put _ (some _) _) _
          simp only [Act.put, List.setIfInBounds_toArray, List.set_cons_zero, List.set_cons_succ]
          refine wpAny_ready (rs := [1, 3]) (by kernel_rfl) (by simp) ?_
          refine (AllReady.cons rfl (fun K hK => ?_) (AllReady.cons rfl (fun K hK => ?_) AllReady.nil))
          · go_simp
            refine hK _ _ ?_
            clear hK K
            refine wpAny_ready (rs := [3]) (by kernel_rfl) (by simp) ?_
            refine (AllReady.cons rfl (fun K hK => ?_) AllReady.nil)
            · go_simp
              go_wp2_with fail
              refine (numS (w.heap.size + 1) s k false _ HT0.out.rd hz hm0).mono ?_
              rintro e V1 ⟨n0, m0, e0, rfl, hx, hr, ko⟩
              have HT1 : Hid (MdS w V1 (w.heap.size + 1) Bp (w.heap.size + 2) s x (.slice va1 l1.length vc1) (.slice va2 l2.length vc2) (.slice va3 C.length vc3) l1 l2 C m0 e0) := HT0.out.only ko hr
              have HX0 : Hid (NumIs s k false n0 m0 e0) := hx
              have hm1 : m0 ≤ s.size := hx.2.2.1
              have d1 : V1.cell? ⟨Bp, 3, none⟩ = some (.slice va3 C.length vc3) := HT1.out.box.cell 3
              clear hx hr ko
              refine hK _ _ ?_
              clear hK K
              try simp only [Act.put, List.setIfInBounds_toArray, List.set_cons_zero, List.set_cons_succ]
              refine wpAny_ready (rs := [5]) (by kernel_rfl) (by simp) ?_
              refine (AllReady.cons rfl (fun K hK => ?_) AllReady.nil)
              · go_simp
                go_wp2_with fail
                refine (numS (w.heap.size + 1) s m0 e0 _ HT1.out.rd hz hm1).mono ?_
                rintro e V2 ⟨n1, m1, e1, rfl, hx, hr, ko⟩
                have HT2 : Hid (MdS w V2 (w.heap.size + 1) Bp (w.heap.size + 2) s x (.slice va1 l1.length vc1) (.slice va2 l2.length vc2) (.slice va3 C.length vc3) l1 l2 C m1 e1) := HT1.out.only ko hr
                have HX1 : Hid (NumIs s m0 e0 n1 m1 e1) := hx
                have hm2 : m1 ≤ s.size := hx.2.2.1
                have d2 : V2.cell? ⟨Bp, 3, none⟩ = some (.slice va3 C.length vc3) := HT2.out.box.cell 3
                clear hx hr ko
                refine hK _ _ ?_
                clear hK K
                try simp only [Act.put, List.setIfInBounds_toArray, List.set_cons_zero, List.set_cons_succ]
                refine wpAny_ready (rs := [7]) (by kernel_rfl) (by simp) ?_
                refine (AllReady.cons rfl (fun K hK => ?_) AllReady.nil)
                · go_simp
                  go_wp2_with fail
                  refine (numS (w.heap.size + 1) s m1 e1 _ HT2.out.rd hz hm2).mono ?_
                  rintro e V3 ⟨n2, m2, e2, rfl, hx, hr, ko⟩
                  have HT3 : Hid (MdS w V3 (w.heap.size + 1) Bp (w.heap.size + 2) s x (.slice va1 l1.length vc1) (.slice va2 l2.length vc2) (.slice va3 C.length vc3) l1 l2 C m2 e2) := HT2.out.only ko hr
                  have HX2 : Hid (NumIs s m1 e1 n2 m2 e2) := hx
                  have hm3 : m2 ≤ s.size := hx.2.2.1
                  have d3 : V3.cell? ⟨Bp, 3, none⟩ = some (.slice va3 C.length vc3) := HT3.out.box.cell 3
                  clear hx hr ko
                  refine hK _ _ ?_
                  clear hK K
                  try simp only [Act.put, List.setIfInBounds_toArray, List.set_cons_zero, List.set_cons_succ]
                  refine wpAny_ready (rs := [9]) (by kernel_rfl) (by simp) ?_
                  refine (AllReady.cons rfl (fun K hK => ?_) AllReady.nil)
                  · go_simp
                    go_wp2_with fail
                    refine (numS (w.heap.size + 1) s m2 e2 _ HT3.out.rd hz hm3).mono ?_
                    rintro e V4 ⟨n3, m3, e3, rfl, hx, hr, ko⟩
                    have HT4 : Hid (MdS w V4 (w.heap.size + 1) Bp (w.heap.size + 2) s x (.slice va1 l1.length vc1) (.slice va2 l2.length vc2) (.slice va3 C.length vc3) l1 l2 C m3 e3) := HT3.out.only ko hr
                    have HX3 : Hid (NumIs s m2 e2 n3 m3 e3) := hx
                    have hm4 : m3 ≤ s.size := hx.2.2.1
                    have d4 : V4.cell? ⟨Bp, 3, none⟩ = some (.slice va3 C.length vc3) := HT4.out.box.cell 3
                    clear hx hr ko
                    refine hK _ _ ?_
                    clear hK K
                    try simp only [Act.put, List.setIfInBounds_toArray, List.set_cons_zero, List.set_cons_succ]
                    refine wpAny_ready (rs := [11]) (by kernel_rfl) (by simp) ?_
                    refine (AllReady.cons rfl (fun K hK => ?_) AllReady.nil)
                    · go_simp
                      go_wp2_with fail
                      refine (numS (w.heap.size + 1) s m3 e3 _ HT4.out.rd hz hm4).mono ?_
                      rintro e V5 ⟨n4, m4, e4, rfl, hx, hr, ko⟩
                      have HT5 : Hid (MdS w V5 (w.heap.size + 1) Bp (w.heap.size + 2) s x (.slice va1 l1.length vc1) (.slice va2 l2.length vc2) (.slice va3 C.length vc3) l1 l2 C m4 e4) := HT4.out.only ko hr
                      have HX4 : Hid (NumIs s m3 e3 n4 m4 e4) := hx
                      have hm5 : m4 ≤ s.size := hx.2.2.1
                      have d5 : V5.cell? ⟨Bp, 3, none⟩ = some (.slice va3 C.length vc3) := HT5.out.box.cell 3
                      clear hx hr ko
                      refine hK _ _ ?_
                      clear hK K
                      try simp only [Act.put, List.setIfInBounds_toArray, List.set_cons_zero, List.set_cons_succ]
                      refine wpAny_ready (rs := [13]) (by kernel_rfl) (by simp) ?_
                      refine (AllReady.cons rfl (fun K hK => ?_) AllReady.nil)
                      · go_simp
                        go_wp2_with fail
                        refine (numS (w.heap.size + 1) s m4 e4 _ HT5.out.rd hz hm5).mono ?_
                        rintro e V6 ⟨n5, m5, e5, rfl, hx, hr, ko⟩
                        have HT6 : Hid (MdS w V6 (w.heap.size + 1) Bp (w.heap.size + 2) s x (.slice va1 l1.length vc1) (.slice va2 l2.length vc2) (.slice va3 C.length vc3) l1 l2 C m5 e5) := HT5.out.only ko hr
                        have HX5 : Hid (NumIs s m4 e4 n5 m5 e5) := hx
                        have hm6 : m5 ≤ s.size := hx.2.2.1
                        have d6 : V6.cell? ⟨Bp, 3, none⟩ = some (.slice va3 C.length vc3) := HT6.out.box.cell 3
                        clear hx hr ko
                        refine hK _ _ ?_
                        clear hK K
                        try simp only [Act.put, List.setIfInBounds_toArray, List.set_cons_zero, List.set_cons_succ]
                        refine wpAny_ready (rs := [15]) (by kernel_rfl) (by simp) ?_
                        refine (AllReady.cons rfl (fun K hK => ?_) AllReady.nil)
                        · go_simp
                          go_wp2_with fail
                          refine (numS (w.heap.size + 1) s m5 e5 _ HT6.out.rd hz hm6).mono ?_
                          rintro e V7 ⟨n6, m6, e6, rfl, hx, hr, ko⟩
                          have HT7 : Hid (MdS w V7 (w.heap.size + 1) Bp (w.heap.size + 2) s x (.slice va1 l1.length vc1) (.slice va2 l2.length vc2) (.slice va3 C.length vc3) l1 l2 C m6 e6) := HT6.out.only ko hr
                          have HX6 : Hid (NumIs s m5 e5 n6 m6 e6) := hx
                          have hm7 : m6 ≤ s.size := hx.2.2.1
                          have d7 : V7.cell? ⟨Bp, 3, none⟩ = some (.slice va3 C.length vc3) := HT7.out.box.cell 3
                          clear hx hr ko
                          have B8 : Below V7.heap.size V7 (V7.alloc (.cells #[.int .i64 n0, .int .i64 n1, .int .i64 n2, .int .i64 n3, .int .i64 n4, .int .i64 n5, .int .i64 n6] 38)) := (Below.refl _ _).alloc (Nat.le_refl _) _
                          have HT8 : Hid (MdS w (V7.alloc (.cells #[.int .i64 n0, .int .i64 n1, .int .i64 n2, .int .i64 n3, .int .i64 n4, .int .i64 n5, .int .i64 n6] 38)) (w.heap.size + 1) Bp (w.heap.size + 2) s x (.slice va1 l1.length vc1) (.slice va2 l2.length vc2) (.slice va3 C.length vc3) l1 l2 C m6 e6) := HT7.out.keep B8
                          have d8 : (V7.alloc (.cells #[.int .i64 n0, .int .i64 n1, .int .i64 n2, .int .i64 n3, .int .i64 n4, .int .i64 n5, .int .i64 n6] 38)).cell? ⟨Bp, 3, none⟩ = some (.slice va3 C.length vc3) := HT8.out.box.cell 3
                          obtain ⟨g5, cap5, w5, hrun, hown5, hgr5, _, _⟩ := run_append_lies (P := Tryd.prog) (V7.alloc (.cells #[.int .i64 n0, .int .i64 n1, .int .i64 n2, .int .i64 n3, .int .i64 n4, .int .i64 n5, .int .i64 n6] 38)) 23 23 (w.heap.size + 2) 38 iM (.agg #[.int .i64 0, .int .i64 0, .int .i64 0, .int .i64 0, .int .i64 0, .int .i64 0, .int .i64 0]) 7 56 Tryd.underlying23 hiM hzM0 hzM1 hzM2 rfl (by decide) (.slice va3 C.length vc3) C.length (C.flatMap minV) HT8.out.r3 ⟨V7.heap.size, 0, none⟩ 1 1 (minV ⟨n0, n1, n2, n3, n4, n5, n6⟩) rfl (World.news_of_block (At.new V7 #[.int .i64 n0, .int .i64 n1, .int .i64 n2, .int .i64 n3, .int .i64 n4, .int .i64 n5, .int .i64 n6] 38)) (by simp [minV, Value.oneCell']) (by decide) (by unfold maxLen; omega) (by omega) HT8.out.leB _ rfl
                          obtain ⟨hS9, hbx⟩ := HT8.out.put3 (v := .slice (some ⟨g5, 0, none⟩) (C.length + 1) cap5) (D := C ++ [⟨n0, n1, n2, n3, n4, n5, n6⟩]) hgr5 (by
                            show World.ownsRow _ _ _ _ _ _ _
                            rw [List.length_append, List.flatMap_append]
                            simpa using hown5)
                          have HS9 : Hid (MdS w (w5.setCell ⟨Bp, 3, none⟩ (.slice (some ⟨g5, 0, none⟩) (C.length + 1) cap5)) (w.heap.size + 1) Bp (w.heap.size + 2) s x (.slice va1 l1.length vc1) (.slice va2 l2.length vc2) (.slice (some ⟨g5, 0, none⟩) (C.length + 1) cap5) l1 l2 (C ++ [⟨n0, n1, n2, n3, n4, n5, n6⟩]) m6 e6) := hS9
                          have d9 : w5.cell? ⟨Bp, 3, none⟩ = some (.slice va3 C.length vc3) := hbx.cell 3
                          have f9 : w5.frozen? ⟨Bp, 3, none⟩ = false := froz_of_heap hbx
                          have HF9 : Hid (Fits s x l1 l2 (C ++ [⟨n0, n1, n2, n3, n4, n5, n6⟩]) (q - 1) m6 e6) := HF.out.next hq HX0.out HX1.out HX2.out HX3.out HX4.out HX5.out HX6.out
                          clear hS9 hbx hown5 hgr5 B8
                          refine hK _ _ ?_
                          clear hK K
                          try simp only [Act.put, List.setIfInBounds_toArray, List.set_cons_zero, List.set_cons_succ]
                          refine wpAny_take (i := 16) (v := ?_) rfl (by kernel_rfl) (by kernel_rfl) (by kernel_rfl) (fun _ _ _ h => h) (Or.inl ⟨by rfl, ?_⟩) ?_
                          rotate_left
                          · intro w9
                            go_simp
                            try with_reducible rfl
                          show wpAny _ _ _ _ _ _ (Act.put _ (some _) _) _
                          simp only [Act.put, List.setIfInBounds_toArray, List.set_cons_zero, List.set_cons_succ]
                          refine wpAny_ready (rs := [17]) (by kernel_rfl) (by simp) ?_
                          refine (AllReady.cons rfl (fun K hK => ?_) AllReady.nil)
                          · go_simp
                            refine hK _ _ ?_
                            clear hK K
                            refine wpAny_ready (rs := [18]) (by kernel_rfl) (by simp) ?_
                            refine (AllReady.cons rfl (fun K hK => ?_) AllReady.nil)
                            · refine step_runP rfl _ _ _ rfl rfl rfl hrun ?_
                              refine hK _ _ ?_
                              clear hK K
                              try simp only [Act.put, List.setIfInBounds_toArray, List.set_cons_zero, List.set_cons_succ]
                              refine wpAny_take (i := 19) (v := ?_) rfl (by kernel_rfl) (by kernel_rfl) (by kernel_rfl) (fun _ _ _ h => h) (Or.inl ⟨by rfl, ?_⟩) ?_
                              rotate_left
                              · intro w9
                                go_simp
                                try with_reducible rfl
                              show wpAny _ _ _ _ _ _ (Act.put _ (some _) _) _
                              simp only [Act.put, List.setIfInBounds_toArray, List.set_cons_zero, List.set_cons_succ]
                              refine wpAny_ready (rs := [20]) (by kernel_rfl) (by simp) ?_
                              refine (AllReady.cons rfl (fun K hK => ?_) AllReady.nil)
                              · go_simp
                                refine hK _ _ ?_
                                clear hK K
                                refine wpAny_done (by kernel_rfl) ?_ _
                                go_wp2_with fail
                                go_roundw
                                case rel => exact ⟨_, C ++ [⟨n0, n1, n2, n3, n4, n5, n6⟩], q - 1, m6, e6, by go_num, by simp; omega, hm7, HS9, HF9⟩
                                case measure => simp [intOf]; omega
          · go_simp
            go_wp2_with fail
            refine (numS (w.heap.size + 1) s k false _ HT0.out.rd hz hm0).mono ?_
            rintro e V1 ⟨n0, m0, e0, rfl, hx, hr, ko⟩
            have HT1 : Hid (MdS w V1 (w.heap.size + 1) Bp (w.heap.size + 2) s x (.slice va1 l1.length vc1) (.slice va2 l2.length vc2) (.slice va3 C.length vc3) l1 l2 C m0 e0) := HT0.out.only ko hr
            have HX0 : Hid (NumIs s k false n0 m0 e0) := hx
            have hm1 : m0 ≤ s.size := hx.2.2.1
            have d1 : V1.cell? ⟨Bp, 3, none⟩ = some (.slice va3 C.length vc3) := HT1.out.box.cell 3
            clear hx hr ko
            refine hK _ _ ?_
            clear hK K
            try simp only [Act.put, List.setIfInBounds_toArray, List.set_cons_zero, List.set_cons_succ]
            refine wpAny_ready (rs := [1, 5]) (by kernel_rfl) (by simp) ?_
            refine (AllReady.cons rfl (fun K hK => ?_) (AllReady.cons rfl (fun K hK => ?_) AllReady.nil))
            · go_simp
              refine hK _ _ ?_
              clear hK K
              refine wpAny_ready (rs := [5]) (by kernel_rfl) (by simp) ?_
              refine (AllReady.cons rfl (fun K hK => ?_) AllReady.nil)
              · go_simp
                go_wp2_with fail
                refine (numS (w.heap.size + 1) s m0 e0 _ HT1.out.rd hz hm1).mono ?_
                rintro e V2 ⟨n1, m1, e1, rfl, hx, hr, ko⟩
                have HT2 : Hid (MdS w V2 (w.heap.size + 1) Bp (w.heap.size + 2) s x (.slice va1 l1.length vc1) (.slice va2 l2.length vc2) (.slice va3 C.length vc3) l1 l2 C m1 e1) := HT1.out.only ko hr
                have HX1 : Hid (NumIs s m0 e0 n1 m1 e1) := hx
                have hm2 : m1 ≤ s.size := hx.2.2.1
                have d2 : V2.cell? ⟨Bp, 3, none⟩ = some (.slice va3 C.length vc3) := HT2.out.box.cell 3
                clear hx hr ko
                refine hK _ _ ?_
                clear hK K
                try simp only [Act.put, List.setIfInBounds_toArray, List.set_cons_zero, List.set_cons_succ]
                refine wpAny_ready (rs := [7]) (by kernel_rfl) (by simp) ?_
                refine (AllReady.cons rfl (fun K hK => ?_) AllReady.nil)
                · go_simp
                  go_wp2_with fail
                  refine (numS (w.heap.size + 1) s m1 e1 _ HT2.out.rd hz hm2).mono ?_
                  rintro e V3 ⟨n2, m2, e2, rfl, hx, hr, ko⟩
                  have HT3 : Hid (MdS w V3 (w.heap.size + 1) Bp (w.heap.size + 2) s x (.slice va1 l1.length vc1) (.slice va2 l2.length vc2) (.slice va3 C.length vc3) l1 l2 C m2 e2) := HT2.out.only ko hr
                  have HX2 : Hid (NumIs s m1 e1 n2 m2 e2) := hx
                  have hm3 : m2 ≤ s.size := hx.2.2.1
                  have d3 : V3.cell? ⟨Bp, 3, none⟩ = some (.slice va3 C.length vc3) := HT3.out.box.cell 3
                  clear hx hr ko
                  refine hK _ _ ?_
                  clear hK K
                  try simp only [Act.put, List.setIfInBounds_toArray, List.set_cons_zero, List.set_cons_succ]
                  refine wpAny_ready (rs := [9]) (by kernel_rfl) (by simp) ?_
                  refine (AllReady.cons rfl (fun K hK => ?_) AllReady.nil)
                  · go_simp
                    go_wp2_with fail
                    refine (numS (w.heap.size + 1) s m2 e2 _ HT3.out.rd hz hm3).mono ?_
                    rintro e V4 ⟨n3, m3, e3, rfl, hx, hr, ko⟩
                    have HT4 : Hid (MdS w V4 (w.heap.size + 1) Bp (w.heap.size + 2) s x (.slice va1 l1.length vc1) (.slice va2 l2.length vc2) (.slice va3 C.length vc3) l1 l2 C m3 e3) := HT3.out.only ko hr
                    have HX3 : Hid (NumIs s m2 e2 n3 m3 e3) := hx
                    have hm4 : m3 ≤ s.size := hx.2.2.1
                    have d4 : V4.cell? ⟨Bp, 3, none⟩ = some (.slice va3 C.length vc3) := HT4.out.box.cell 3
                    clear hx hr ko
                    refine hK _ _ ?_
                    clear hK K
                    try simp only [Act.put, List.setIfInBounds_toArray, List.set_cons_zero, List.set_cons_succ]
                    refine wpAny_ready (rs := [11]) (by kernel_rfl) (by simp) ?_
                    refine (AllReady.cons rfl (fun K hK => ?_) AllReady.nil)
                    · go_simp
                      go_wp2_with fail
                      refine (numS (w.heap.size + 1) s m3 e3 _ HT4.out.rd hz hm4).mono ?_
                      rintro e V5 ⟨n4, m4, e4, rfl, hx, hr, ko⟩
                      have HT5 : Hid (MdS w V5 (w.heap.size + 1) Bp (w.heap.size + 2) s x (.slice va1 l1.length vc1) (.slice va2 l2.length vc2) (.slice va3 C.length vc3) l1 l2 C m4 e4) := HT4.out.only ko hr
                      have HX4 : Hid (NumIs s m3 e3 n4 m4 e4) := hx
                      have hm5 : m4 ≤ s.size := hx.2.2.1
                      have d5 : V5.cell? ⟨Bp, 3, none⟩ = some (.slice va3 C.length vc3) := HT5.out.box.cell 3
                      clear hx hr ko
                      refine hK _ _ ?_
                      clear hK K
                      try simp only [Act.put, List.setIfInBounds_toArray, List.set_cons_zero, List.set_cons_succ]
                      refine wpAny_ready (rs := [13]) (by kernel_rfl) (by simp) ?_
                      refine (AllReady.cons rfl (fun K hK => ?_) AllReady.nil)
                      · go_simp
                        go_wp2_with fail
                        refine (numS (w.heap.size + 1) s m4 e4 _ HT5.out.rd hz hm5).mono ?_
                        rintro e V6 ⟨n5, m5, e5, rfl, hx, hr, ko⟩
                        have HT6 : Hid (MdS w V6 (w.heap.size + 1) Bp (w.heap.size + 2) s x (.slice va1 l1.length vc1) (.slice va2 l2.length vc2) (.slice va3 C.length vc3) l1 l2 C m5 e5) := HT5.out.only ko hr
                        have HX5 : Hid (NumIs s m4 e4 n5 m5 e5) := hx
                        have hm6 : m5 ≤ s.size := hx.2.2.1
                        have d6 : V6.cell? ⟨Bp, 3, none⟩ = some (.slice va3 C.length vc3) := HT6.out.box.cell 3
                        clear hx hr ko
                        refine hK _ _ ?_
                        clear hK K
                        try simp only [Act.put, List.setIfInBounds_toArray, List.set_cons_zero, List.set_cons_succ]
                        refine wpAny_ready (rs := [15]) (by kernel_rfl) (by simp) ?_
                        refine (AllReady.cons rfl (fun K hK => ?_) AllReady.nil)
                        · go_simp
                          go_wp2_with fail
                          refine (numS (w.heap.size + 1) s m5 e5 _ HT6.out.rd hz hm6).mono ?_
                          rintro e V7 ⟨n6, m6, e6, rfl, hx, hr, ko⟩
                          have HT7 : Hid (MdS w V7 (w.heap.size + 1) Bp (w.heap.size + 2) s x (.slice va1 l1.length vc1) (.slice va2 l2.length vc2) (.slice va3 C.length vc3) l1 l2 C m6 e6) := HT6.out.only ko hr
                          have HX6 : Hid (NumIs s m5 e5 n6 m6 e6) := hx
                          have hm7 : m6 ≤ s.size := hx.2.2.1
                          have d7 : V7.cell? ⟨Bp, 3, none⟩ = some (.slice va3 C.length vc3) := HT7.out.box.cell 3
                          clear hx hr ko
                          have B8 : Below V7.heap.size V7 (V7.alloc (.cells #[.int .i64 n0, .int .i64 n1, .int .i64 n2, .int .i64 n3, .int .i64 n4, .int .i64 n5, .int .i64 n6] 38)) := (Below.refl _ _).alloc (Nat.le_refl _) _
                          have HT8 : Hid (MdS w (V7.alloc (.cells #[.int .i64 n0, .int .i64 n1, .int .i64 n2, .int .i64 n3, .int .i64 n4, .int .i64 n5, .int .i64 n6] 38)) (w.heap.size + 1) Bp (w.heap.size + 2) s x (.slice va1 l1.length vc1) (.slice va2 l2.length vc2) (.slice va3 C.length vc3) l1 l2 C m6 e6) := HT7.out.keep B8
                          have d8 : (V7.alloc (.cells #[.int .i64 n0, .int .i64 n1, .int .i64 n2, .int .i64 n3, .int .i64 n4, .int .i64 n5, .int .i64 n6] 38)).cell? ⟨Bp, 3, none⟩ = some (.slice va3 C.length vc3) := HT8.out.box.cell 3
                          obtain ⟨g5, cap5, w5, hrun, hown5, hgr5, _, _⟩ := run_append_lies (P := Tryd.prog) (V7.alloc (.cells #[.int .i64 n0, .int .i64 n1, .int .i64 n2, .int .i64 n3, .int .i64 n4, .int .i64 n5, .int .i64 n6] 38)) 23 23 (w.heap.size + 2) 38 iM (.agg #[.int .i64 0, .int .i64 0, .int .i64 0, .int .i64 0, .int .i64 0, .int .i64 0, .int .i64 0]) 7 56 Tryd.underlying23 hiM hzM0 hzM1 hzM2 rfl (by decide) (.slice va3 C.length vc3) C.length (C.flatMap minV) HT8.out.r3 ⟨V7.heap.size, 0, none⟩ 1 1 (minV ⟨n0, n1, n2, n3, n4, n5, n6⟩) rfl (World.news_of_block (At.new V7 #[.int .i64 n0, .int .i64 n1, .int .i64 n2, .int .i64 n3, .int .i64 n4, .int .i64 n5, .int .i64 n6] 38)) (by simp [minV, Value.oneCell']) (by decide) (by unfold maxLen; omega) (by omega) HT8.out.leB _ rfl
                          obtain ⟨hS9, hbx⟩ := HT8.out.put3 (v := .slice (some ⟨g5, 0, none⟩) (C.length + 1) cap5) (D := C ++ [⟨n0, n1, n2, n3, n4, n5, n6⟩]) hgr5 (by
                            show World.ownsRow _ _ _ _ _ _ _
                            rw [List.length_append, List.flatMap_append]
                            simpa using hown5)
                          have HS9 : Hid (MdS w (w5.setCell ⟨Bp, 3, none⟩ (.slice (some ⟨g5, 0, none⟩) (C.length + 1) cap5)) (w.heap.size + 1) Bp (w.heap.size + 2) s x (.slice va1 l1.length vc1) (.slice va2 l2.length vc2) (.slice (some ⟨g5, 0, none⟩) (C.length + 1) cap5) l1 l2 (C ++ [⟨n0, n1, n2, n3, n4, n5, n6⟩]) m6 e6) := hS9
                          have d9 : w5.cell? ⟨Bp, 3, none⟩ = some (.slice va3 C.length vc3) := hbx.cell 3
                          have f9 : w5.frozen? ⟨Bp, 3, none⟩ = false := froz_of_heap hbx
                          have HF9 : Hid (Fits s x l1 l2 (C ++ [⟨n0, n1, n2, n3, n4, n5, n6⟩]) (q - 1) m6 e6) := HF.out.next hq HX0.out HX1.out HX2.out HX3.out HX4.out HX5.out HX6.out
                          clear hS9 hbx hown5 hgr5 B8
                          refine hK _ _ ?_
                          clear hK K
                          try simp only [Act.put, List.setIfInBounds_toArray, List.set_cons_zero, List.set_cons_succ]
                          refine wpAny_take (i := 16) (v := ?_) rfl (by kernel_rfl) (by kernel_rfl) (by kernel_rfl) (fun _ _ _ h => h) (Or.inl ⟨by rfl, ?_⟩) ?_
                          rotate_left
                          · intro w9
                            go_simp
                            try with_reducible rfl
                          show wpAny _ _ _ _ _ _ (Act.put _ (some _) _) _
                          simp only [Act.put, List.setIfInBounds_toArray, List.set_cons_zero, List.set_cons_succ]
                          refine wpAny_ready (rs := [17]) (by kernel_rfl) (by simp) ?_
                          refine (AllReady.cons rfl (fun K hK => ?_) AllReady.nil)
                          · go_simp
                            refine hK _ _ ?_
                            clear hK K
                            refine wpAny_ready (rs := [18]) (by kernel_rfl) (by simp) ?_
                            refine (AllReady.cons rfl (fun K hK => ?_) AllReady.nil)
                            · refine step_runP rfl _ _ _ rfl rfl rfl hrun ?_
                              refine hK _ _ ?_
                              clear hK K
                              try simp only [Act.put, List.setIfInBounds_toArray, List.set_cons_zero, List.set_cons_succ]
                              refine wpAny_take (i := 19) (v := ?_) rfl (by kernel_rfl) (by kernel_rfl) (by kernel_rfl) (fun _ _ _ h => h) (Or.inl ⟨by rfl, ?_⟩) ?_
                              rotate_left
                              · intro w9
                                go_simp
                                try with_reducible rfl
                              show wpAny _ _ _ _ _ _ (Act.put _ (some _) _) _
                              simp only [Act.put, List.setIfInBounds_toArray, List.set_cons_zero, List.set_cons_succ]
                              refine wpAny_ready (rs := [20]) (by kernel_rfl) (by simp) ?_
                              refine (AllReady.cons rfl (fun K hK => ?_) AllReady.nil)
                              · go_simp
                                refine hK _ _ ?_
                                clear hK K
                                refine wpAny_done (by kernel_rfl) ?_ _
                                go_wp2_with fail
                                go_roundw
                                case rel => exact ⟨_, C ++ [⟨n0, n1, n2, n3, n4, n5, n6⟩], q - 1, m6, e6, by go_num, by simp; omega, hm7, HS9, HF9⟩
                                case measure => simp [intOf]; omega
            · go_simp
              go_wp2_with fail
              refine (numS (w.heap.size + 1) s m0 e0 _ HT1.out.rd hz hm1).mono ?_
              rintro e V2 ⟨n1, m1, e1, rfl, hx, hr, ko⟩
              have HT2 : Hid (MdS w V2 (w.heap.size + 1) Bp (w.heap.size + 2) s x (.slice va1 l1.length vc1) (.slice va2 l2.length vc2) (.slice va3 C.length vc3) l1 l2 C m1 e1) := HT1.out.only ko hr
              have HX1 : Hid (NumIs s m0 e0 n1 m1 e1) := hx
              have hm2 : m1 ≤ s.size := hx.2.2.1
              have d2 : V2.cell? ⟨Bp, 3, none⟩ = some (.slice va3 C.length vc3) := HT2.out.box.cell 3
              clear hx hr ko
              refine hK _ _ ?_
              clear hK K
              try simp only [Act.put, List.setIfInBounds_toArray, List.set_cons_zero, List.set_cons_succ]
              refine wpAny_ready (rs := [1, 7]) (by kernel_rfl) (by simp) ?_
              refine (AllReady.cons rfl (fun K hK => ?_) (AllReady.cons rfl (fun K hK => ?_) AllReady.nil))
              · go_simp
                refine hK _ _ ?_
                clear hK K
                refine wpAny_ready (rs := [7]) (by kernel_rfl) (by simp) ?_
                refine (AllReady.cons rfl (fun K hK => ?_) AllReady.nil)
                · go_simp
                  go_wp2_with fail
                  refine (numS (w.heap.size + 1) s m1 e1 _ HT2.out.rd hz hm2).mono ?_
                  rintro e V3 ⟨n2, m2, e2, rfl, hx, hr, ko⟩
                  have HT3 : Hid (MdS w V3 (w.heap.size + 1) Bp (w.heap.size + 2) s x (.slice va1 l1.length vc1) (.slice va2 l2.length vc2) (.slice va3 C.length vc3) l1 l2 C m2 e2) := HT2.out.only ko hr
                  have HX2 : Hid (NumIs s m1 e1 n2 m2 e2) := hx
                  have hm3 : m2 ≤ s.size := hx.2.2.1
                  have d3 : V3.cell? ⟨Bp, 3, none⟩ = some (.slice va3 C.length vc3) := HT3.out.box.cell 3
                  clear hx hr ko
                  refine hK _ _ ?_
                  clear hK K
                  try simp only [Act.put, List.setIfInBounds_toArray, List.set_cons_zero, List.set_cons_succ]
                  refine wpAny_ready (rs := [9]) (by kernel_rfl) (by simp) ?_
                  refine (AllReady.cons rfl (fun K hK => ?_) AllReady.nil)
                  · go_simp
                    go_wp2_with fail
                    refine (numS (w.heap.size + 1) s m2 e2 _ HT3.out.rd hz hm3).mono ?_
                    rintro e V4 ⟨n3, m3, e3, rfl, hx, hr, ko⟩
                    have HT4 : Hid (MdS w V4 (w.heap.size + 1) Bp (w.heap.size + 2) s x (.slice va1 l1.length vc1) (.slice va2 l2.length vc2) (.slice va3 C.length vc3) l1 l2 C m3 e3) := HT3.out.only ko hr
                    have HX3 : Hid (NumIs s m2 e2 n3 m3 e3) := hx
                    have hm4 : m3 ≤ s.size := hx.2.2.1
                    have d4 : V4.cell? ⟨Bp, 3, none⟩ = some (.slice va3 C.length vc3) := HT4.out.box.cell 3
                    clear hx hr ko
                    refine hK _ _ ?_
                    clear hK K
                    try simp only [Act.put, List.setIfInBounds_toArray, List.set_cons_zero, List.set_cons_succ]
                    refine wpAny_ready (rs := [11]) (by kernel_rfl) (by simp) ?_
                    refine (AllReady.cons rfl (fun K hK => ?_) AllReady.nil)
                    · go_simp
                      go_wp2_with fail
                      refine (numS (w.heap.size + 1) s m3 e3 _ HT4.out.rd hz hm4).mono ?_
                      rintro e V5 ⟨n4, m4, e4, rfl, hx, hr, ko⟩
                      have HT5 : Hid (MdS w V5 (w.heap.size + 1) Bp (w.heap.size + 2) s x (.slice va1 l1.length vc1) (.slice va2 l2.length vc2) (.slice va3 C.length vc3) l1 l2 C m4 e4) := HT4.out.only ko hr
                      have HX4 : Hid (NumIs s m3 e3 n4 m4 e4) := hx
                      have hm5 : m4 ≤ s.size := hx.2.2.1
                      have d5 : V5.cell? ⟨Bp, 3, none⟩ = some (.slice va3 C.length vc3) := HT5.out.box.cell 3
                      clear hx hr ko
                      refine hK _ _ ?_
                      clear hK K
                      try simp only [Act.put, List.setIfInBounds_toArray, List.set_cons_zero, List.set_cons_succ]
                      refine wpAny_ready (rs := [13]) (by kernel_rfl) (by simp) ?_
                      refine (AllReady.cons rfl (fun K hK => ?_) AllReady.nil)
                      · go_simp
                        go_wp2_with fail
                        refine (numS (w.heap.size + 1) s m4 e4 _ HT5.out.rd hz hm5).mono ?_
                        rintro e V6 ⟨n5, m5, e5, rfl, hx, hr, ko⟩
                        have HT6 : Hid (MdS w V6 (w.heap.size + 1) Bp (w.heap.size + 2) s x (.slice va1 l1.length vc1) (.slice va2 l2.length vc2) (.slice va3 C.length vc3) l1 l2 C m5 e5) := HT5.out.only ko hr
                        have HX5 : Hid (NumIs s m4 e4 n5 m5 e5) := hx
                        have hm6 : m5 ≤ s.size := hx.2.2.1
                        have d6 : V6.cell? ⟨Bp, 3, none⟩ = some (.slice va3 C.length vc3) := HT6.out.box.cell 3
                        clear hx hr ko
                        refine hK _ _ ?_
                        clear hK K
                        try simp only [Act.put, List.setIfInBounds_toArray, List.set_cons_zero, List.set_cons_succ]
                        refine wpAny_ready (rs := [15]) (by kernel_rfl) (by simp) ?_
                        refine (AllReady.cons rfl (fun K hK => ?_) AllReady.nil)
                        · go_simp
                          go_wp2_with fail
                          refine (numS (w.heap.size + 1) s m5 e5 _ HT6.out.rd hz hm6).mono ?_
                          rintro e V7 ⟨n6, m6, e6, rfl, hx, hr, ko⟩
                          have HT7 : Hid (MdS w V7 (w.heap.size + 1) Bp (w.heap.size + 2) s x (.slice va1 l1.length vc1) (.slice va2 l2.length vc2) (.slice va3 C.length vc3) l1 l2 C m6 e6) := HT6.out.only ko hr
                          have HX6 : Hid (NumIs s m5 e5 n6 m6 e6) := hx
                          have hm7 : m6 ≤ s.size := hx.2.2.1
                          have d7 : V7.cell? ⟨Bp, 3, none⟩ = some (.slice va3 C.length vc3) := HT7.out.box.cell 3
                          clear hx hr ko
                          have B8 : Below V7.heap.size V7 (V7.alloc (.cells #[.int .i64 n0, .int .i64 n1, .int .i64 n2, .int .i64 n3, .int .i64 n4, .int .i64 n5, .int .i64 n6] 38)) := (Below.refl _ _).alloc (Nat.le_refl _) _
                          have HT8 : Hid (MdS w (V7.alloc (.cells #[.int .i64 n0, .int .i64 n1, .int .i64 n2, .int .i64 n3, .int .i64 n4, .int .i64 n5, .int .i64 n6] 38)) (w.heap.size + 1) Bp (w.heap.size + 2) s x (.slice va1 l1.length vc1) (.slice va2 l2.length vc2) (.slice va3 C.length vc3) l1 l2 C m6 e6) := HT7.out.keep B8
                          have d8 : (V7.alloc (.cells #[.int .i64 n0, .int .i64 n1, .int .i64 n2, .int .i64 n3, .int .i64 n4, .int .i64 n5, .int .i64 n6] 38)).cell? ⟨Bp, 3, none⟩ = some (.slice va3 C.length vc3) := HT8.out.box.cell 3
                          obtain ⟨g5, cap5, w5, hrun, hown5, hgr5, _, _⟩ := run_append_lies (P := Tryd.prog) (V7.alloc (.cells #[.int .i64 n0, .int .i64 n1, .int .i64 n2, .int .i64 n3, .int .i64 n4, .int .i64 n5, .int .i64 n6] 38)) 23 23 (w.heap.size + 2) 38 iM (.agg #[.int .i64 0, .int .i64 0, .int .i64 0, .int .i64 0, .int .i64 0, .int .i64 0, .int .i64 0]) 7 56 Tryd.underlying23 hiM hzM0 hzM1 hzM2 rfl (by decide) (.slice va3 C.length vc3) C.length (C.flatMap minV) HT8.out.r3 ⟨V7.heap.size, 0, none⟩ 1 1 (minV ⟨n0, n1, n2, n3, n4, n5, n6⟩) rfl (World.news_of_block (At.new V7 #[.int .i64 n0, .int .i64 n1, .int .i64 n2, .int .i64 n3, .int .i64 n4, .int .i64 n5, .int .i64 n6] 38)) (by simp [minV, Value.oneCell']) (by decide) (by unfold maxLen; omega) (by omega) HT8.out.leB _ rfl
                          obtain ⟨hS9, hbx⟩ := HT8.out.put3 (v := .slice (some ⟨g5, 0, none⟩) (C.length + 1) cap5) (D := C ++ [⟨n0, n1, n2, n3, n4, n5, n6⟩]) hgr5 (by
                            show World.ownsRow _ _ _ _ _ _ _
                            rw [List.length_append, List.flatMap_append]
                            simpa using hown5)
                          have HS9 : Hid (MdS w (w5.setCell ⟨Bp, 3, none⟩ (.slice (some ⟨g5, 0, none⟩) (C.length + 1) cap5)) (w.heap.size + 1) Bp (w.heap.size + 2) s x (.slice va1 l1.length vc1) (.slice va2 l2.length vc2) (.slice (some ⟨g5, 0, none⟩) (C.length + 1) cap5) l1 l2 (C ++ [⟨n0, n1, n2, n3, n4, n5, n6⟩]) m6 e6) := hS9
                          have d9 : w5.cell? ⟨Bp, 3, none⟩ = some (.slice va3 C.length vc3) := hbx.cell 3
                          have f9 : w5.frozen? ⟨Bp, 3, none⟩ = false := froz_of_heap hbx
                          have HF9 : Hid (Fits s x l1 l2 (C ++ [⟨n0, n1, n2, n3, n4, n5, n6⟩]) (q - 1) m6 e6) := HF.out.next hq HX0.out HX1.out HX2.out HX3.out HX4.out HX5.out HX6.out
                          clear hS9 hbx hown5 hgr5 B8
                          refine hK _ _ ?_
                          clear hK K
                          try simp only [Act.put, List.setIfInBounds_toArray, List.set_cons_zero, List.set_cons_succ]
                          refine wpAny_take (i := 16) (v := ?_) rfl (by kernel_rfl) (by kernel_rfl) (by kernel_rfl) (fun _ _ _ h => h) (Or.inl ⟨by rfl, ?_⟩) ?_
                          rotate_left
                          · intro w9
                            go_simp
                            try with_reducible rfl
                          show wpAny _ _ _ _ _ _ (Act.put _ (some _) _) _
                          simp only [Act.put, List.setIfInBounds_toArray, List.set_cons_zero, List.set_cons_succ]
                          refine wpAny_ready (rs := [17]) (by kernel_rfl) (by simp) ?_
                          refine (AllReady.cons rfl (fun K hK => ?_) AllReady.nil)
                          · go_simp
                            refine hK _ _ ?_
                            clear hK K
                            refine wpAny_ready (rs := [18]) (by kernel_rfl) (by simp) ?_
                            refine (AllReady.cons rfl (fun K hK => ?_) AllReady.nil)
                            · refine step_runP rfl _ _ _ rfl rfl rfl hrun ?_
                              refine hK _ _ ?_
                              clear hK K
                              try simp only [Act.put, List.setIfInBounds_toArray, List.set_cons_zero, List.set_cons_succ]
                              refine wpAny_take (i := 19) (v := ?_) rfl (by kernel_rfl) (by kernel_rfl) (by kernel_rfl) (fun _ _ _ h => h) (Or.inl ⟨by rfl, ?_⟩) ?_
                              rotate_left
                              · intro w9
                                go_simp
                                try with_reducible rfl
                              show wpAny _ _ _ _ _ _ (Act.put _ (some _) _) _
                              simp only [Act.put, List.setIfInBounds_toArray, List.set_cons_zero, List.set_cons_succ]
                              refine wpAny_ready (rs := [20]) (by kernel_rfl) (by simp) ?_
                              refine (AllReady.cons rfl (fun K hK => ?_) AllReady.nil)
                              · go_simp
                                refine hK _ _ ?_
                                clear hK K
                                refine wpAny_done (by kernel_rfl) ?_ _
                                go_wp2_with fail
                                go_roundw
                                case rel => exact ⟨_, C ++ [⟨n0, n1, n2, n3, n4, n5, n6⟩], q - 1, m6, e6, by go_num, by simp; omega, hm7, HS9, HF9⟩
                                case measure => simp [intOf]; omega
              · go_simp
                go_wp2_with fail
                refine (numS (w.heap.size + 1) s m1 e1 _ HT2.out.rd hz hm2).mono ?_
                rintro e V3 ⟨n2, m2, e2, rfl, hx, hr, ko⟩
                have HT3 : Hid (MdS w V3 (w.heap.size + 1) Bp (w.heap.size + 2) s x (.slice va1 l1.length vc1) (.slice va2 l2.length vc2) (.slice va3 C.length vc3) l1 l2 C m2 e2) := HT2.out.only ko hr
                have HX2 : Hid (NumIs s m1 e1 n2 m2 e2) := hx
                have hm3 : m2 ≤ s.size := hx.2.2.1
                have d3 : V3.cell? ⟨Bp, 3, none⟩ = some (.slice va3 C.length vc3) := HT3.out.box.cell 3
                clear hx hr ko
                refine hK _ _ ?_
                clear hK K
                try simp only [Act.put, List.setIfInBounds_toArray, List.set_cons_zero, List.set_cons_succ]
                refine wpAny_ready (rs := [1, 9]) (by kernel_rfl) (by simp) ?_
                refine (AllReady.cons rfl (fun K hK => ?_) (AllReady.cons rfl (fun K hK => ?_) AllReady.nil))
                · go_simp
                  refine hK _ _ ?_
                  clear hK K
                  refine wpAny_ready (rs := [9]) (by kernel_rfl) (by simp) ?_
                  refine (AllReady.cons rfl (fun K hK => ?_) AllReady.nil)
                  · go_simp
                    go_wp2_with fail
                    refine (numS (w.heap.size + 1) s m2 e2 _ HT3.out.rd hz hm3).mono ?_
                    rintro e V4 ⟨n3, m3, e3, rfl, hx, hr, ko⟩
                    have HT4 : Hid (MdS w V4 (w.heap.size + 1) Bp (w.heap.size + 2) s x (.slice va1 l1.length vc1) (.slice va2 l2.length vc2) (.slice va3 C.length vc3) l1 l2 C m3 e3) := HT3.out.only ko hr
                    have HX3 : Hid (NumIs s m2 e2 n3 m3 e3) := hx
                    have hm4 : m3 ≤ s.size := hx.2.2.1
                    have d4 : V4.cell? ⟨Bp, 3, none⟩ = some (.slice va3 C.length vc3) := HT4.out.box.cell 3
                    clear hx hr ko
                    refine hK _ _ ?_
                    clear hK K
                    try simp only [Act.put, List.setIfInBounds_toArray, List.set_cons_zero, List.set_cons_succ]
                    refine wpAny_ready (rs := [11]) (by kernel_rfl) (by simp) ?_
                    refine (AllReady.cons rfl (fun K hK => ?_) AllReady.nil)
                    · go_simp
                      go_wp2_with fail
                      refine (numS (w.heap.size + 1) s m3 e3 _ HT4.out.rd hz hm4).mono ?_
                      rintro e V5 ⟨n4, m4, e4, rfl, hx, hr, ko⟩
                      have HT5 : Hid (MdS w V5 (w.heap.size + 1) Bp (w.heap.size + 2) s x (.slice va1 l1.length vc1) (.slice va2 l2.length vc2) (.slice va3 C.length vc3) l1 l2 C m4 e4) := HT4.out.only ko hr
                      have HX4 : Hid (NumIs s m3 e3 n4 m4 e4) := hx
                      have hm5 : m4 ≤ s.size := hx.2.2.1
                      have d5 : V5.cell? ⟨Bp, 3, none⟩ = some (.slice va3 C.length vc3) := HT5.out.box.cell 3
                      clear hx hr ko
                      refine hK _ _ ?_
                      clear hK K
                      try simp only [Act.put, List.setIfInBounds_toArray, List.set_cons_zero, List.set_cons_succ]
                      refine wpAny_ready (rs := [13]) (by kernel_rfl) (by simp) ?_
                      refine (AllReady.cons rfl (fun K hK => ?_) AllReady.nil)
                      · go_simp
                        go_wp2_with fail
                        refine (numS (w.heap.size + 1) s m4 e4 _ HT5.out.rd hz hm5).mono ?_
                        rintro e V6 ⟨n5, m5, e5, rfl, hx, hr, ko⟩
                        have HT6 : Hid (MdS w V6 (w.heap.size + 1) Bp (w.heap.size + 2) s x (.slice va1 l1.length vc1) (.slice va2 l2.length vc2) (.slice va3 C.length vc3) l1 l2 C m5 e5) := HT5.out.only ko hr
                        have HX5 : Hid (NumIs s m4 e4 n5 m5 e5) := hx
                        have hm6 : m5 ≤ s.size := hx.2.2.1
                        have d6 : V6.cell? ⟨Bp, 3, none⟩ = some (.slice va3 C.length vc3) := HT6.out.box.cell 3
                        clear hx hr ko
                        refine hK _ _ ?_
                        clear hK K
                        try simp only [Act.put, List.setIfInBounds_toArray, List.set_cons_zero, List.set_cons_succ]
                        refine wpAny_ready (rs := [15]) (by kernel_rfl) (by simp) ?_
                        refine (AllReady.cons rfl (fun K hK => ?_) AllReady.nil)
                        · go_simp
                          go_wp2_with fail
                          refine (numS (w.heap.size + 1) s m5 e5 _ HT6.out.rd hz hm6).mono ?_
                          rintro e V7 ⟨n6, m6, e6, rfl, hx, hr, ko⟩
                          have HT7 : Hid (MdS w V7 (w.heap.size + 1) Bp (w.heap.size + 2) s x (.slice va1 l1.length vc1) (.slice va2 l2.length vc2) (.slice va3 C.length vc3) l1 l2 C m6 e6) := HT6.out.only ko hr
                          have HX6 : Hid (NumIs s m5 e5 n6 m6 e6) := hx
                          have hm7 : m6 ≤ s.size := hx.2.2.1
                          have d7 : V7.cell? ⟨Bp, 3, none⟩ = some (.slice va3 C.length vc3) := HT7.out.box.cell 3
                          clear hx hr ko
                          have B8 : Below V7.heap.size V7 (V7.alloc (.cells #[.int .i64 n0, .int .i64 n1, .int .i64 n2, .int .i64 n3, .int .i64 n4, .int .i64 n5, .int .i64 n6] 38)) := (Below.refl _ _).alloc (Nat.le_refl _) _
                          have HT8 : Hid (MdS w (V7.alloc (.cells #[.int .i64 n0, .int .i64 n1, .int .i64 n2, .int .i64 n3, .int .i64 n4, .int .i64 n5, .int .i64 n6] 38)) (w.heap.size + 1) Bp (w.heap.size + 2) s x (.slice va1 l1.length vc1) (.slice va2 l2.length vc2) (.slice va3 C.length vc3) l1 l2 C m6 e6) := HT7.out.keep B8
                          have d8 : (V7.alloc (.cells #[.int .i64 n0, .int .i64 n1, .int .i64 n2, .int .i64 n3, .int .i64 n4, .int .i64 n5, .int .i64 n6] 38)).cell? ⟨Bp, 3, none⟩ = some (.slice va3 C.length vc3) := HT8.out.box.cell 3
                          obtain ⟨g5, cap5, w5, hrun, hown5, hgr5, _, _⟩ := run_append_lies (P := Tryd.prog) (V7.alloc (.cells #[.int .i64 n0, .int .i64 n1, .int .i64 n2, .int .i64 n3, .int .i64 n4, .int .i64 n5, .int .i64 n6] 38)) 23 23 (w.heap.size + 2) 38 iM (.agg #[.int .i64 0, .int .i64 0, .int .i64 0, .int .i64 0, .int .i64 0, .int .i64 0, .int .i64 0]) 7 56 Tryd.underlying23 hiM hzM0 hzM1 hzM2 rfl (by decide) (.slice va3 C.length vc3) C.length (C.flatMap minV) HT8.out.r3 ⟨V7.heap.size, 0, none⟩ 1 1 (minV ⟨n0, n1, n2, n3, n4, n5, n6⟩) rfl (World.news_of_block (At.new V7 #[.int .i64 n0, .int .i64 n1, .int .i64 n2, .int .i64 n3, .int .i64 n4, .int .i64 n5, .int .i64 n6] 38)) (by simp [minV, Value.oneCell']) (by decide) (by unfold maxLen; omega) (by omega) HT8.out.leB _ rfl
                          obtain ⟨hS9, hbx⟩ := HT8.out.put3 (v := .slice (some ⟨g5, 0, none⟩) (C.length + 1) cap5) (D := C ++ [⟨n0, n1, n2, n3, n4, n5, n6⟩]) hgr5 (by
                            show World.ownsRow _ _ _ _ _ _ _
                            rw [List.length_append, List.flatMap_append]
                            simpa using hown5)
                          have HS9 : Hid (MdS w (w5.setCell ⟨Bp, 3, none⟩ (.slice (some ⟨g5, 0, none⟩) (C.length + 1) cap5)) (w.heap.size + 1) Bp (w.heap.size + 2) s x (.slice va1 l1.length vc1) (.slice va2 l2.length vc2) (.slice (some ⟨g5, 0, none⟩) (C.length + 1) cap5) l1 l2 (C ++ [⟨n0, n1, n2, n3, n4, n5, n6⟩]) m6 e6) := hS9
                          have d9 : w5.cell? ⟨Bp, 3, none⟩ = some (.slice va3 C.length vc3) := hbx.cell 3
                          have f9 : w5.frozen? ⟨Bp, 3, none⟩ = false := froz_of_heap hbx
                          have HF9 : Hid (Fits s x l1 l2 (C ++ [⟨n0, n1, n2, n3, n4, n5, n6⟩]) (q - 1) m6 e6) := HF.out.next hq HX0.out HX1.out HX2.out HX3.out HX4.out HX5.out HX6.out
                          clear hS9 hbx hown5 hgr5 B8
                          refine hK _ _ ?_
                          clear hK K
                          try simp only [Act.put, List.setIfInBounds_toArray, List.set_cons_zero, List.set_cons_succ]
                          refine wpAny_take (i := 16) (v := ?_) rfl (by kernel_rfl) (by kernel_rfl) (by kernel_rfl) (fun _ _ _ h => h) (Or.inl ⟨by rfl, ?_⟩) ?_
                          rotate_left
                          · intro w9
                            go_simp
                            try with_reducible rfl
                          show wpAny _ _ _ _ _ _ (Act.put _ (some _) _) _
                          simp only [Act.put, List.setIfInBounds_toArray, List.set_cons_zero, List.set_cons_succ]
                          refine wpAny_ready (rs := [17]) (by kernel_rfl) (by simp) ?_
                          refine (AllReady.cons rfl (fun K hK => ?_) AllReady.nil)
                          · go_simp
                            refine hK _ _ ?_
                            clear hK K
                            refine wpAny_ready (rs := [18]) (by kernel_rfl) (by simp) ?_
                            refine (AllReady.cons rfl (fun K hK => ?_) AllReady.nil)
                            · refine step_runP rfl _ _ _ rfl rfl rfl hrun ?_
                              refine hK _ _ ?_
                              clear hK K
                              try simp only [Act.put, List.setIfInBounds_toArray, List.set_cons_zero, List.set_cons_succ]
                              refine wpAny_take (i := 19) (v := ?_) rfl (by kernel_rfl) (by kernel_rfl) (by kernel_rfl) (fun _ _ _ h => h) (Or.inl ⟨by rfl, ?_⟩) ?_
                              rotate_left
                              · intro w9
                                go_simp
                                try with_reducible rfl
                              show wpAny _ _ _ _ _ _ (Act.put _ (some _) _) _
                              simp only [Act.put, List.setIfInBounds_toArray, List.set_cons_zero, List.set_cons_succ]
                              refine wpAny_ready (rs := [20]) (by kernel_rfl) (by simp) ?_
                              refine (AllReady.cons rfl (fun K hK => ?_) AllReady.nil)
                              · go_simp
                                refine hK _ _ ?_
                                clear hK K
                                refine wpAny_done (by kernel_rfl) ?_ _
                                go_wp2_with fail
                                go_roundw
                                case rel => exact ⟨_, C ++ [⟨n0, n1, n2, n3, n4, n5, n6⟩], q - 1, m6, e6, by go_num, by simp; omega, hm7, HS9, HF9⟩
                                case measure => simp [intOf]; omega
                · go_simp
                  go_wp2_with fail
                  refine (numS (w.heap.size + 1) s m2 e2 _ HT3.out.rd hz hm3).mono ?_
                  rintro e V4 ⟨n3, m3, e3, rfl, hx, hr, ko⟩
                  have HT4 : Hid (MdS w V4 (w.heap.size + 1) Bp (w.heap.size + 2) s x (.slice va1 l1.length vc1) (.slice va2 l2.length vc2) (.slice va3 C.length vc3) l1 l2 C m3 e3) := HT3.out.only ko hr
                  have HX3 : Hid (NumIs s m2 e2 n3 m3 e3) := hx
                  have hm4 : m3 ≤ s.size := hx.2.2.1
                  have d4 : V4.cell? ⟨Bp, 3, none⟩ = some (.slice va3 C.length vc3) := HT4.out.box.cell 3
                  clear hx hr ko
                  refine hK _ _ ?_
                  clear hK K
                  try simp only [Act.put, List.setIfInBounds_toArray, List.set_cons_zero, List.set_cons_succ]
                  refine wpAny_ready (rs := [1, 11]) (by kernel_rfl) (by simp) ?_
                  refine (AllReady.cons rfl (fun K hK => ?_) (AllReady.cons rfl (fun K hK => ?_) AllReady.nil))
                  · go_simp
                    refine hK _ _ ?_
                    clear hK K
                    refine wpAny_ready (rs := [11]) (by kernel_rfl) (by simp) ?_
                    refine (AllReady.cons rfl (fun K hK => ?_) AllReady.nil)
                    · go_simp
                      go_wp2_with fail
                      refine (numS (w.heap.size + 1) s m3 e3 _ HT4.out.rd hz hm4).mono ?_
                      rintro e V5 ⟨n4, m4, e4, rfl, hx, hr, ko⟩
                      have HT5 : Hid (MdS w V5 (w.heap.size + 1) Bp (w.heap.size + 2) s x (.slice va1 l1.length vc1) (.slice va2 l2.length vc2) (.slice va3 C.length vc3) l1 l2 C m4 e4) := HT4.out.only ko hr
                      have HX4 : Hid (NumIs s m3 e3 n4 m4 e4) := hx
                      have hm5 : m4 ≤ s.size := hx.2.2.1
                      have d5 : V5.cell? ⟨Bp, 3, none⟩ = some (.slice va3 C.length vc3) := HT5.out.box.cell 3
                      clear hx hr ko
                      refine hK _ _ ?_
                      clear hK K
                      try simp only [Act.put, List.setIfInBounds_toArray, List.set_cons_zero, List.set_cons_succ]
                      refine wpAny_ready (rs := [13]) (by kernel_rfl) (by simp) ?_
                      refine (AllReady.cons rfl (fun K hK => ?_) AllReady.nil)
                      · go_simp
                        go_wp2_with fail
                        refine (numS (w.heap.size + 1) s m4 e4 _ HT5.out.rd hz hm5).mono ?_
                        rintro e V6 ⟨n5, m5, e5, rfl, hx, hr, ko⟩
                        have HT6 : Hid (MdS w V6 (w.heap.size + 1) Bp (w.heap.size + 2) s x (.slice va1 l1.length vc1) (.slice va2 l2.length vc2) (.slice va3 C.length vc3) l1 l2 C m5 e5) := HT5.out.only ko hr
                        have HX5 : Hid (NumIs s m4 e4 n5 m5 e5) := hx
                        have hm6 : m5 ≤ s.size := hx.2.2.1
                        have d6 : V6.cell? ⟨Bp, 3, none⟩ = some (.slice va3 C.length vc3) := HT6.out.box.cell 3
                        clear hx hr ko
                        refine hK _ _ ?_
                        clear hK K
                        try simp only [Act.put, List.setIfInBounds_toArray, List.set_cons_zero, List.set_cons_succ]
                        refine wpAny_ready (rs := [15]) (by kernel_rfl) (by simp) ?_
                        refine (AllReady.cons rfl (fun K hK => ?_) AllReady.nil)
                        · go_simp
                          go_wp2_with fail
                          refine (numS (w.heap.size + 1) s m5 e5 _ HT6.out.rd hz hm6).mono ?_
                          rintro e V7 ⟨n6, m6, e6, rfl, hx, hr, ko⟩
                          have HT7 : Hid (MdS w V7 (w.heap.size + 1) Bp (w.heap.size + 2) s x (.slice va1 l1.length vc1) (.slice va2 l2.length vc2) (.slice va3 C.length vc3) l1 l2 C m6 e6) := HT6.out.only ko hr
                          have HX6 : Hid (NumIs s m5 e5 n6 m6 e6) := hx
                          have hm7 : m6 ≤ s.size := hx.2.2.1
                          have d7 : V7.cell? ⟨Bp, 3, none⟩ = some (.slice va3 C.length vc3) := HT7.out.box.cell 3
                          clear hx hr ko
                          have B8 : Below V7.heap.size V7 (V7.alloc (.cells #[.int .i64 n0, .int .i64 n1, .int .i64 n2, .int .i64 n3, .int .i64 n4, .int .i64 n5, .int .i64 n6] 38)) := (Below.refl _ _).alloc (Nat.le_refl _) _
                          have HT8 : Hid (MdS w (V7.alloc (.cells #[.int .i64 n0, .int .i64 n1, .int .i64 n2, .int .i64 n3, .int .i64 n4, .int .i64 n5, .int .i64 n6] 38)) (w.heap.size + 1) Bp (w.heap.size + 2) s x (.slice va1 l1.length vc1) (.slice va2 l2.length vc2) (.slice va3 C.length vc3) l1 l2 C m6 e6) := HT7.out.keep B8
                          have d8 : (V7.alloc (.cells #[.int .i64 n0, .int .i64 n1, .int .i64 n2, .int .i64 n3, .int .i64 n4, .int .i64 n5, .int .i64 n6] 38)).cell? ⟨Bp, 3, none⟩ = some (.slice va3 C.length vc3) := HT8.out.box.cell 3
                          obtain ⟨g5, cap5, w5, hrun, hown5, hgr5, _, _⟩ := run_append_lies (P := Tryd.prog) (V7.alloc (.cells #[.int .i64 n0, .int .i64 n1, .int .i64 n2, .int .i64 n3, .int .i64 n4, .int .i64 n5, .int .i64 n6] 38)) 23 23 (w.heap.size + 2) 38 iM (.agg #[.int .i64 0, .int .i64 0, .int .i64 0, .int .i64 0, .int .i64 0, .int .i64 0, .int .i64 0]) 7 56 Tryd.underlying23 hiM hzM0 hzM1 hzM2 rfl (by decide) (.slice va3 C.length vc3) C.length (C.flatMap minV) HT8.out.r3 ⟨V7.heap.size, 0, none⟩ 1 1 (minV ⟨n0, n1, n2, n3, n4, n5, n6⟩) rfl (World.news_of_block (At.new V7 #[.int .i64 n0, .int .i64 n1, .int .i64 n2, .int .i64 n3, .int .i64 n4, .int .i64 n5, .int .i64 n6] 38)) (by simp [minV, Value.oneCell']) (by decide) (by unfold maxLen; omega) (by omega) HT8.out.leB _ rfl
                          obtain ⟨hS9, hbx⟩ := HT8.out.put3 (v := .slice (some ⟨g5, 0, none⟩) (C.length + 1) cap5) (D := C ++ [⟨n0, n1, n2, n3, n4, n5, n6⟩]) hgr5 (by
                            show World.ownsRow _ _ _ _ _ _ _
                            rw [List.length_append, List.flatMap_append]
                            simpa using hown5)
                          have HS9 : Hid (MdS w (w5.setCell ⟨Bp, 3, none⟩ (.slice (some ⟨g5, 0, none⟩) (C.length + 1) cap5)) (w.heap.size + 1) Bp (w.heap.size + 2) s x (.slice va1 l1.length vc1) (.slice va2 l2.length vc2) (.slice (some ⟨g5, 0, none⟩) (C.length + 1) cap5) l1 l2 (C ++ [⟨n0, n1, n2, n3, n4, n5, n6⟩]) m6 e6) := hS9
                          have d9 : w5.cell? ⟨Bp, 3, none⟩ = some (.slice va3 C.length vc3) := hbx.cell 3
                          have f9 : w5.frozen? ⟨Bp, 3, none⟩ = false := froz_of_heap hbx
                          have HF9 : Hid (Fits s x l1 l2 (C ++ [⟨n0, n1, n2, n3, n4, n5, n6⟩]) (q - 1) m6 e6) := HF.out.next hq HX0.out HX1.out HX2.out HX3.out HX4.out HX5.out HX6.out
                          clear hS9 hbx hown5 hgr5 B8
                          refine hK _ _ ?_
                          clear hK K
                          try simp only [Act.put, List.setIfInBounds_toArray, List.set_cons_zero, List.set_cons_succ]
                          refine wpAny_take (i := 16) (v := ?_) rfl (by kernel_rfl) (by kernel_rfl) (by kernel_rfl) (fun _ _ _ h => h) (Or.inl ⟨by rfl, ?_⟩) ?_
                          rotate_left
                          · intro w9
                            go_simp
                            try with_reducible rfl
                          show wpAny _ _ _ _ _ _ (Act.put _ (some _) _) _
                          simp only [Act.put, List.setIfInBounds_toArray, List.set_cons_zero, List.set_cons_succ]
                          refine wpAny_ready (rs := [17]) (by kernel_rfl) (by simp) ?_
                          refine (AllReady.cons rfl (fun K hK => ?_) AllReady.nil)
                          · go_simp
                            refine hK _ _ ?_
                            clear hK K
                            refine wpAny_ready (rs := [18]) (by kernel_rfl) (by simp) ?_
                            refine (AllReady.cons rfl (fun K hK => ?_) AllReady.nil)
                            · refine step_runP rfl _ _ _ rfl rfl rfl hrun ?_
                              refine hK _ _ ?_
                              clear hK K
                              try simp only [Act.put, List.setIfInBounds_toArray, List.set_cons_zero, List.set_cons_succ]
                              refine wpAny_take (i := 19) (v := ?_) rfl (by kernel_rfl) (by kernel_rfl) (by kernel_rfl) (fun _ _ _ h => h) (Or.inl ⟨by rfl, ?_⟩) ?_
                              rotate_left
                              · intro w9
                                go_simp
                                try with_reducible rfl
                              show wpAny _ _ _ _ _ _ (Act.put _ (some _) _) _
                              simp only [Act.put, List.setIfInBounds_toArray, List.set_cons_zero, List.set_cons_succ]
                              refine wpAny_ready (rs := [20]) (by kernel_rfl) (by simp) ?_
                              refine (AllReady.cons rfl (fun K hK => ?_) AllReady.nil)
                              · go_simp
                                refine hK _ _ ?_
                                clear hK K
                                refine wpAny_done (by kernel_rfl) ?_ _
                                go_wp2_with fail
                                go_roundw
                                case rel => exact ⟨_, C ++ [⟨n0, n1, n2, n3, n4, n5, n6⟩], q - 1, m6, e6, by go_num, by simp; omega, hm7, HS9, HF9⟩
                                case measure => simp [intOf]; omega
                  · go_simp
                    go_wp2_with fail
                    refine (numS (w.heap.size + 1) s m3 e3 _ HT4.out.rd hz hm4).mono ?_
                    rintro e V5 ⟨n4, m4, e4, rfl, hx, hr, ko⟩
                    have HT5 : Hid (MdS w V5 (w.heap.size + 1) Bp (w.heap.size + 2) s x (.slice va1 l1.length vc1) (.slice va2 l2.length vc2) (.slice va3 C.length vc3) l1 l2 C m4 e4) := HT4.out.only ko hr
                    have HX4 : Hid (NumIs s m3 e3 n4 m4 e4) := hx
                    have hm5 : m4 ≤ s.size := hx.2.2.1
                    have d5 : V5.cell? ⟨Bp, 3, none⟩ = some (.slice va3 C.length vc3) := HT5.out.box.cell 3
                    clear hx hr ko
                    refine hK _ _ ?_
                    clear hK K
                    try simp only [Act.put, List.setIfInBounds_toArray, List.set_cons_zero, List.set_cons_succ]
                    refine wpAny_ready (rs := [1, 13]) (by kernel_rfl) (by simp) ?_
                    refine (AllReady.cons rfl (fun K hK => ?_) (AllReady.cons rfl (fun K hK => ?_) AllReady.nil))
                    · go_simp
                      refine hK _ _ ?_
                      clear hK K
                      refine wpAny_ready (rs := [13]) (by kernel_rfl) (by simp) ?_
                      refine (AllReady.cons rfl (fun K hK => ?_) AllReady.nil)
                      · go_simp
                        go_wp2_with fail
                        refine (numS (w.heap.size + 1) s m4 e4 _ HT5.out.rd hz hm5).mono ?_
                        rintro e V6 ⟨n5, m5, e5, rfl, hx, hr, ko⟩
                        have HT6 : Hid (MdS w V6 (w.heap.size + 1) Bp (w.heap.size + 2) s x (.slice va1 l1.length vc1) (.slice va2 l2.length vc2) (.slice va3 C.length vc3) l1 l2 C m5 e5) := HT5.out.only ko hr
                        have HX5 : Hid (NumIs s m4 e4 n5 m5 e5) := hx
                        have hm6 : m5 ≤ s.size := hx.2.2.1
                        have d6 : V6.cell? ⟨Bp, 3, none⟩ = some (.slice va3 C.length vc3) := HT6.out.box.cell 3
                        clear hx hr ko
                        refine hK _ _ ?_
                        clear hK K
                        try simp only [Act.put, List.setIfInBounds_toArray, List.set_cons_zero, List.set_cons_succ]
                        refine wpAny_ready (rs := [15]) (by kernel_rfl) (by simp) ?_
                        refine (AllReady.cons rfl (fun K hK => ?_) AllReady.nil)
                        · go_simp
                          go_wp2_with fail
                          refine (numS (w.heap.size + 1) s m5 e5 _ HT6.out.rd hz hm6).mono ?_
                          rintro e V7 ⟨n6, m6, e6, rfl, hx, hr, ko⟩
                          have HT7 : Hid (MdS w V7 (w.heap.size + 1) Bp (w.heap.size + 2) s x (.slice va1 l1.length vc1) (.slice va2 l2.length vc2) (.slice va3 C.length vc3) l1 l2 C m6 e6) := HT6.out.only ko hr
                          have HX6 : Hid (NumIs s m5 e5 n6 m6 e6) := hx
                          have hm7 : m6 ≤ s.size := hx.2.2.1
                          have d7 : V7.cell? ⟨Bp, 3, none⟩ = some (.slice va3 C.length vc3) := HT7.out.box.cell 3
                          clear hx hr ko
                          have B8 : Below V7.heap.size V7 (V7.alloc (.cells #[.int .i64 n0, .int .i64 n1, .int .i64 n2, .int .i64 n3, .int .i64 n4, .int .i64 n5, .int .i64 n6] 38)) := (Below.refl _ _).alloc (Nat.le_refl _) _
                          have HT8 : Hid (MdS w (V7.alloc (.cells #[.int .i64 n0, .int .i64 n1, .int .i64 n2, .int .i64 n3, .int .i64 n4, .int .i64 n5, .int .i64 n6] 38)) (w.heap.size + 1) Bp (w.heap.size + 2) s x (.slice va1 l1.length vc1) (.slice va2 l2.length vc2) (.slice va3 C.length vc3) l1 l2 C m6 e6) := HT7.out.keep B8
                          have d8 : (V7.alloc (.cells #[.int .i64 n0, .int .i64 n1, .int .i64 n2, .int .i64 n3, .int .i64 n4, .int .i64 n5, .int .i64 n6] 38)).cell? ⟨Bp, 3, none⟩ = some (.slice va3 C.length vc3) := HT8.out.box.cell 3
                          obtain ⟨g5, cap5, w5, hrun, hown5, hgr5, _, _⟩ := run_append_lies (P := Tryd.prog) (V7.alloc (.cells #[.int .i64 n0, .int .i64 n1, .int .i64 n2, .int .i64 n3, .int .i64 n4, .int .i64 n5, .int .i64 n6] 38)) 23 23 (w.heap.size + 2) 38 iM (.agg #[.int .i64 0, .int .i64 0, .int .i64 0, .int .i64 0, .int .i64 0, .int .i64 0, .int .i64 0]) 7 56 Tryd.underlying23 hiM hzM0 hzM1 hzM2 rfl (by decide) (.slice va3 C.length vc3) C.length (C.flatMap minV) HT8.out.r3 ⟨V7.heap.size, 0, none⟩ 1 1 (minV ⟨n0, n1, n2, n3, n4, n5, n6⟩) rfl (World.news_of_block (At.new V7 #[.int .i64 n0, .int .i64 n1, .int .i64 n2, .int .i64 n3, .int .i64 n4, .int .i64 n5, .int .i64 n6] 38)) (by simp [minV, Value.oneCell']) (by decide) (by unfold maxLen; omega) (by omega) HT8.out.leB _ rfl
                          obtain ⟨hS9, hbx⟩ := HT8.out.put3 (v := .slice (some ⟨g5, 0, none⟩) (C.length + 1) cap5) (D := C ++ [⟨n0, n1, n2, n3, n4, n5, n6⟩]) hgr5 (by
                            show World.ownsRow _ _ _ _ _ _ _
                            rw [List.length_append, List.flatMap_append]
                            simpa using hown5)
                          have HS9 : Hid (MdS w (w5.setCell ⟨Bp, 3, none⟩ (.slice (some ⟨g5, 0, none⟩) (C.length + 1) cap5)) (w.heap.size + 1) Bp (w.heap.size + 2) s x (.slice va1 l1.length vc1) (.slice va2 l2.length vc2) (.slice (some ⟨g5, 0, none⟩) (C.length + 1) cap5) l1 l2 (C ++ [⟨n0, n1, n2, n3, n4, n5, n6⟩]) m6 e6) := hS9
                          have d9 : w5.cell? ⟨Bp, 3, none⟩ = some (.slice va3 C.length vc3) := hbx.cell 3
                          have f9 : w5.frozen? ⟨Bp, 3, none⟩ = false := froz_of_heap hbx
                          have HF9 : Hid (Fits s x l1 l2 (C ++ [⟨n0, n1, n2, n3, n4, n5, n6⟩]) (q - 1) m6 e6) := HF.out.next hq HX0.out HX1.out HX2.out HX3.out HX4.out HX5.out HX6.out
                          clear hS9 hbx hown5 hgr5 B8
                          refine hK _ _ ?_
                          clear hK K
                          try simp only [Act.put, List.setIfInBounds_toArray, List.set_cons_zero, List.set_cons_succ]
                          refine wpAny_take (i := 16) (v := ?_) rfl (by kernel_rfl) (by kernel_rfl) (by kernel_rfl) (fun _ _ _ h => h) (Or.inl ⟨by rfl, ?_⟩) ?_
                          rotate_left
                          · intro w9
                            go_simp
                            try with_reducible rfl
                          show wpAny _ _ _ _ _ _ (Act.put _ (some _) _) _
                          simp only [Act.put, List.setIfInBounds_toArray, List.set_cons_zero, List.set_cons_succ]
                          refine wpAny_ready (rs := [17]) (by kernel_rfl) (by simp) ?_
                          refine (AllReady.cons rfl (fun K hK => ?_) AllReady.nil)
                          · go_simp
                            refine hK _ _ ?_
                            clear hK K
                            refine wpAny_ready (rs := [18]) (by kernel_rfl) (by simp) ?_
                            refine (AllReady.cons rfl (fun K hK => ?_) AllReady.nil)
                            · refine step_runP rfl _ _ _ rfl rfl rfl hrun ?_
                              refine hK _ _ ?_
                              clear hK K
                              try simp only [Act.put, List.setIfInBounds_toArray, List.set_cons_zero, List.set_cons_succ]
                              refine wpAny_take (i := 19) (v := ?_) rfl (by kernel_rfl) (by kernel_rfl) (by kernel_rfl) (fun _ _ _ h => h) (Or.inl ⟨by rfl, ?_⟩) ?_
                              rotate_left
                              · intro w9
                                go_simp
                                try with_reducible rfl
                              show wpAny _ _ _ _ _ _ (Act.put _ (some _) _) _
                              simp only [Act.put, List.setIfInBounds_toArray, List.set_cons_zero, List.set_cons_succ]
                              refine wpAny_ready (rs := [20]) (by kernel_rfl) (by simp) ?_
                              refine (AllReady.cons rfl (fun K hK => ?_) AllReady.nil)
                              · go_simp
                                refine hK _ _ ?_
                                clear hK K
                                refine wpAny_done (by kernel_rfl) ?_ _
                                go_wp2_with fail
                                go_roundw
                                case rel => exact ⟨_, C ++ [⟨n0, n1, n2, n3, n4, n5, n6⟩], q - 1, m6, e6, by go_num, by simp; omega, hm7, HS9, HF9⟩
                                case measure => simp [intOf]; omega
                    · go_simp
                      go_wp2_with fail
                      refine (numS (w.heap.size + 1) s m4 e4 _ HT5.out.rd hz hm5).mono ?_
                      rintro e V6 ⟨n5, m5, e5, rfl, hx, hr, ko⟩
                      have HT6 : Hid (MdS w V6 (w.heap.size + 1) Bp (w.heap.size + 2) s x (.slice va1 l1.length vc1) (.slice va2 l2.length vc2) (.slice va3 C.length vc3) l1 l2 C m5 e5) := HT5.out.only ko hr
                      have HX5 : Hid (NumIs s m4 e4 n5 m5 e5) := hx
                      have hm6 : m5 ≤ s.size := hx.2.2.1
                      have d6 : V6.cell? ⟨Bp, 3, none⟩ = some (.slice va3 C.length vc3) := HT6.out.box.cell 3
                      clear hx hr ko
                      refine hK _ _ ?_
                      clear hK K
                      try simp only [Act.put, List.setIfInBounds_toArray, List.set_cons_zero, List.set_cons_succ]
                      refine wpAny_ready (rs := [1, 15]) (by kernel_rfl) (by simp) ?_
                      refine (AllReady.cons rfl (fun K hK => ?_) (AllReady.cons rfl (fun K hK => ?_) AllReady.nil))
                      · go_simp
                        refine hK _ _ ?_
                        clear hK K
                        refine wpAny_ready (rs := [15]) (by kernel_rfl) (by simp) ?_
                        refine (AllReady.cons rfl (fun K hK => ?_) AllReady.nil)
                        · go_simp
                          go_wp2_with fail
                          refine (numS (w.heap.size + 1) s m5 e5 _ HT6.out.rd hz hm6).mono ?_
                          rintro e V7 ⟨n6, m6, e6, rfl, hx, hr, ko⟩
                          have HT7 : Hid (MdS w V7 (w.heap.size + 1) Bp (w.heap.size + 2) s x (.slice va1 l1.length vc1) (.slice va2 l2.length vc2) (.slice va3 C.length vc3) l1 l2 C m6 e6) := HT6.out.only ko hr
                          have HX6 : Hid (NumIs s m5 e5 n6 m6 e6) := hx
                          have hm7 : m6 ≤ s.size := hx.2.2.1
                          have d7 : V7.cell? ⟨Bp, 3, none⟩ = some (.slice va3 C.length vc3) := HT7.out.box.cell 3
                          clear hx hr ko
                          have B8 : Below V7.heap.size V7 (V7.alloc (.cells #[.int .i64 n0, .int .i64 n1, .int .i64 n2, .int .i64 n3, .int .i64 n4, .int .i64 n5, .int .i64 n6] 38)) := (Below.refl _ _).alloc (Nat.le_refl _) _
                          have HT8 : Hid (MdS w (V7.alloc (.cells #[.int .i64 n0, .int .i64 n1, .int .i64 n2, .int .i64 n3, .int .i64 n4, .int .i64 n5, .int .i64 n6] 38)) (w.heap.size + 1) Bp (w.heap.size + 2) s x (.slice va1 l1.length vc1) (.slice va2 l2.length vc2) (.slice va3 C.length vc3) l1 l2 C m6 e6) := HT7.out.keep B8
                          have d8 : (V7.alloc (.cells #[.int .i64 n0, .int .i64 n1, .int .i64 n2, .int .i64 n3, .int .i64 n4, .int .i64 n5, .int .i64 n6] 38)).cell? ⟨Bp, 3, none⟩ = some (.slice va3 C.length vc3) := HT8.out.box.cell 3
                          obtain ⟨g5, cap5, w5, hrun, hown5, hgr5, _, _⟩ := run_append_lies (P := Tryd.prog) (V7.alloc (.cells #[.int .i64 n0, .int .i64 n1, .int .i64 n2, .int .i64 n3, .int .i64 n4, .int .i64 n5, .int .i64 n6] 38)) 23 23 (w.heap.size + 2) 38 iM (.agg #[.int .i64 0, .int .i64 0, .int .i64 0, .int .i64 0, .int .i64 0, .int .i64 0, .int .i64 0]) 7 56 Tryd.underlying23 hiM hzM0 hzM1 hzM2 rfl (by decide) (.slice va3 C.length vc3) C.length (C.flatMap minV) HT8.out.r3 ⟨V7.heap.size, 0, none⟩ 1 1 (minV ⟨n0, n1, n2, n3, n4, n5, n6⟩) rfl (World.news_of_block (At.new V7 #[.int .i64 n0, .int .i64 n1, .int .i64 n2, .int .i64 n3, .int .i64 n4, .int .i64 n5, .int .i64 n6] 38)) (by simp [minV, Value.oneCell']) (by decide) (by unfold maxLen; omega) (by omega) HT8.out.leB _ rfl
                          obtain ⟨hS9, hbx⟩ := HT8.out.put3 (v := .slice (some ⟨g5, 0, none⟩) (C.length + 1) cap5) (D := C ++ [⟨n0, n1, n2, n3, n4, n5, n6⟩]) hgr5 (by
                            show World.ownsRow _ _ _ _ _ _ _
                            rw [List.length_append, List.flatMap_append]
                            simpa using hown5)
                          have HS9 : Hid (MdS w (w5.setCell ⟨Bp, 3, none⟩ (.slice (some ⟨g5, 0, none⟩) (C.length + 1) cap5)) (w.heap.size + 1) Bp (w.heap.size + 2) s x (.slice va1 l1.length vc1) (.slice va2 l2.length vc2) (.slice (some ⟨g5, 0, none⟩) (C.length + 1) cap5) l1 l2 (C ++ [⟨n0, n1, n2, n3, n4, n5, n6⟩]) m6 e6) := hS9
                          have d9 : w5.cell? ⟨Bp, 3, none⟩ = some (.slice va3 C.length vc3) := hbx.cell 3
                          have f9 : w5.frozen? ⟨Bp, 3, none⟩ = false := froz_of_heap hbx
                          have HF9 : Hid (Fits s x l1 l2 (C ++ [⟨n0, n1, n2, n3, n4, n5, n6⟩]) (q - 1) m6 e6) := HF.out.next hq HX0.out HX1.out HX2.out HX3.out HX4.out HX5.out HX6.out
                          clear hS9 hbx hown5 hgr5 B8
                          refine hK _ _ ?_
                          clear hK K
                          try simp only [Act.put, List.setIfInBounds_toArray, List.set_cons_zero, List.set_cons_succ]
                          refine wpAny_take (i := 16) (v := ?_) rfl (by kernel_rfl) (by kernel_rfl) (by kernel_rfl) (fun _ _ _ h => h) (Or.inl ⟨by rfl, ?_⟩) ?_
                          rotate_left
                          · intro w9
                            go_simp
                            try with_reducible rfl
                          show wpAny _ _ _ _ _ _ (Act.put _ (some _) _) _
                          simp only [Act.put, List.setIfInBounds_toArray, List.set_cons_zero, List.set_cons_succ]
                          refine wpAny_ready (rs := [17]) (by kernel_rfl) (by simp) ?_
                          refine (AllReady.cons rfl (fun K hK => ?_) AllReady.nil)
                          · go_simp
                            refine hK _ _ ?_
                            clear hK K
                            refine wpAny_ready (rs := [18]) (by kernel_rfl) (by simp) ?_
                            refine (AllReady.cons rfl (fun K hK => ?_) AllReady.nil)
                            · refine step_runP rfl _ _ _ rfl rfl rfl hrun ?_
                              refine hK _ _ ?_
                              clear hK K
                              try simp only [Act.put, List.setIfInBounds_toArray, List.set_cons_zero, List.set_cons_succ]
                              refine wpAny_take (i := 19) (v := ?_) rfl (by kernel_rfl) (by kernel_rfl) (by kernel_rfl) (fun _ _ _ h => h) (Or.inl ⟨by rfl, ?_⟩) ?_
                              rotate_left
                              · intro w9
                                go_simp
                                try with_reducible rfl
                              show wpAny _ _ _ _ _ _ (Act.put _ (some _) _) _
                              simp only [Act.put, List.setIfInBounds_toArray, List.set_cons_zero, List.set_cons_succ]
                              refine wpAny_ready (rs := [20]) (by kernel_rfl) (by simp) ?_
                              refine (AllReady.cons rfl (fun K hK => ?_) AllReady.nil)
                              · go_simp
                                refine hK _ _ ?_
                                clear hK K
                                refine wpAny_done (by kernel_rfl) ?_ _
                                go_wp2_with fail
                                go_roundw
                                case rel => exact ⟨_, C ++ [⟨n0, n1, n2, n3, n4, n5, n6⟩], q - 1, m6, e6, by go_num, by simp; omega, hm7, HS9, HF9⟩
                                case measure => simp [intOf]; omega
                      · go_simp
                        go_wp2_with fail
                        refine (numS (w.heap.size + 1) s m5 e5 _ HT6.out.rd hz hm6).mono ?_
                        rintro e V7 ⟨n6, m6, e6, rfl, hx, hr, ko⟩
                        have HT7 : Hid (MdS w V7 (w.heap.size + 1) Bp (w.heap.size + 2) s x (.slice va1 l1.length vc1) (.slice va2 l2.length vc2) (.slice va3 C.length vc3) l1 l2 C m6 e6) := HT6.out.only ko hr
                        have HX6 : Hid (NumIs s m5 e5 n6 m6 e6) := hx
                        have hm7 : m6 ≤ s.size := hx.2.2.1
                        have d7 : V7.cell? ⟨Bp, 3, none⟩ = some (.slice va3 C.length vc3) := HT7.out.box.cell 3
                        clear hx hr ko
                        have B8 : Below V7.heap.size V7 (V7.alloc (.cells #[.int .i64 n0, .int .i64 n1, .int .i64 n2, .int .i64 n3, .int .i64 n4, .int .i64 n5, .int .i64 n6] 38)) := (Below.refl _ _).alloc (Nat.le_refl _) _
                        have HT8 : Hid (MdS w (V7.alloc (.cells #[.int .i64 n0, .int .i64 n1, .int .i64 n2, .int .i64 n3, .int .i64 n4, .int .i64 n5, .int .i64 n6] 38)) (w.heap.size + 1) Bp (w.heap.size + 2) s x (.slice va1 l1.length vc1) (.slice va2 l2.length vc2) (.slice va3 C.length vc3) l1 l2 C m6 e6) := HT7.out.keep B8
                        have d8 : (V7.alloc (.cells #[.int .i64 n0, .int .i64 n1, .int .i64 n2, .int .i64 n3, .int .i64 n4, .int .i64 n5, .int .i64 n6] 38)).cell? ⟨Bp, 3, none⟩ = some (.slice va3 C.length vc3) := HT8.out.box.cell 3
                        obtain ⟨g5, cap5, w5, hrun, hown5, hgr5, _, _⟩ := run_append_lies (P := Tryd.prog) (V7.alloc (.cells #[.int .i64 n0, .int .i64 n1, .int .i64 n2, .int .i64 n3, .int .i64 n4, .int .i64 n5, .int .i64 n6] 38)) 23 23 (w.heap.size + 2) 38 iM (.agg #[.int .i64 0, .int .i64 0, .int .i64 0, .int .i64 0, .int .i64 0, .int .i64 0, .int .i64 0]) 7 56 Tryd.underlying23 hiM hzM0 hzM1 hzM2 rfl (by decide) (.slice va3 C.length vc3) C.length (C.flatMap minV) HT8.out.r3 ⟨V7.heap.size, 0, none⟩ 1 1 (minV ⟨n0, n1, n2, n3, n4, n5, n6⟩) rfl (World.news_of_block (At.new V7 #[.int .i64 n0, .int .i64 n1, .int .i64 n2, .int .i64 n3, .int .i64 n4, .int .i64 n5, .int .i64 n6] 38)) (by simp [minV, Value.oneCell']) (by decide) (by unfold maxLen; omega) (by omega) HT8.out.leB _ rfl
                        obtain ⟨hS9, hbx⟩ := HT8.out.put3 (v := .slice (some ⟨g5, 0, none⟩) (C.length + 1) cap5) (D := C ++ [⟨n0, n1, n2, n3, n4, n5, n6⟩]) hgr5 (by
                          show World.ownsRow _ _ _ _ _ _ _
                          rw [List.length_append, List.flatMap_append]
                          simpa using hown5)
                        have HS9 : Hid (MdS w (w5.setCell ⟨Bp, 3, none⟩ (.slice (some ⟨g5, 0, none⟩) (C.length + 1) cap5)) (w.heap.size + 1) Bp (w.heap.size + 2) s x (.slice va1 l1.length vc1) (.slice va2 l2.length vc2) (.slice (some ⟨g5, 0, none⟩) (C.length + 1) cap5) l1 l2 (C ++ [⟨n0, n1, n2, n3, n4, n5, n6⟩]) m6 e6) := hS9
                        have d9 : w5.cell? ⟨Bp, 3, none⟩ = some (.slice va3 C.length vc3) := hbx.cell 3
                        have f9 : w5.frozen? ⟨Bp, 3, none⟩ = false := froz_of_heap hbx
                        have HF9 : Hid (Fits s x l1 l2 (C ++ [⟨n0, n1, n2, n3, n4, n5, n6⟩]) (q - 1) m6 e6) := HF.out.next hq HX0.out HX1.out HX2.out HX3.out HX4.out HX5.out HX6.out
                        clear hS9 hbx hown5 hgr5 B8
                        refine hK _ _ ?_
                        clear hK K
                        try simp only [Act.put, List.setIfInBounds_toArray, List.set_cons_zero, List.set_cons_succ]
                        refine wpAny_take (i := 16) (v := ?_) rfl (by kernel_rfl) (by kernel_rfl) (by kernel_rfl) (fun _ _ _ h => h) (Or.inl ⟨by rfl, ?_⟩) ?_
                        rotate_left
                        · intro w9
                          go_simp
                          try with_reducible rfl
                        show wpAny _ _ _ _ _ _ (Act.put _ (some _) _) _
                        simp only [Act.put, List.setIfInBounds_toArray, List.set_cons_zero, List.set_cons_succ]
                        refine wpAny_ready (rs := [1, 17]) (by kernel_rfl) (by simp) ?_
                        refine (AllReady.cons rfl (fun K hK => ?_) (AllReady.cons rfl (fun K hK => ?_) AllReady.nil))
                        · go_simp
                          refine hK _ _ ?_
                          clear hK K
                          refine wpAny_ready (rs := [17]) (by kernel_rfl) (by simp) ?_
                          refine (AllReady.cons rfl (fun K hK => ?_) AllReady.nil)
                          · go_simp
                            refine hK _ _ ?_
                            clear hK K
                            refine wpAny_ready (rs := [18]) (by kernel_rfl) (by simp) ?_
                            refine (AllReady.cons rfl (fun K hK => ?_) AllReady.nil)
                            · refine step_runP rfl _ _ _ rfl rfl rfl hrun ?_
                              refine hK _ _ ?_
                              clear hK K
                              try simp only [Act.put, List.setIfInBounds_toArray, List.set_cons_zero, List.set_cons_succ]
                              refine wpAny_take (i := 19) (v := ?_) rfl (by kernel_rfl) (by kernel_rfl) (by kernel_rfl) (fun _ _ _ h => h) (Or.inl ⟨by rfl, ?_⟩) ?_
                              rotate_left
                              · intro w9
                                go_simp
                                try with_reducible rfl
                              show wpAny _ _ _ _ _ _ (Act.put _ (some _) _) _
                              simp only [Act.put, List.setIfInBounds_toArray, List.set_cons_zero, List.set_cons_succ]
                              refine wpAny_ready (rs := [20]) (by kernel_rfl) (by simp) ?_
                              refine (AllReady.cons rfl (fun K hK => ?_) AllReady.nil)
                              · go_simp
                                refine hK _ _ ?_
                                clear hK K
                                refine wpAny_done (by kernel_rfl) ?_ _
                                go_wp2_with fail
                                go_roundw
                                case rel => exact ⟨_, C ++ [⟨n0, n1, n2, n3, n4, n5, n6⟩], q - 1, m6, e6, by go_num, by simp; omega, hm7, HS9, HF9⟩
                                case measure => simp [intOf]; omega
                        · go_simp
                          refine hK _ _ ?_
                          clear hK K
                          refine wpAny_ready (rs := [1]) (by kernel_rfl) (by simp) ?_
                          refine (AllReady.cons rfl (fun K hK => ?_) AllReady.nil)
                          · go_simp
                            refine hK _ _ ?_
                            clear hK K
                            refine wpAny_ready (rs := [18]) (by kernel_rfl) (by simp) ?_
                            refine (AllReady.cons rfl (fun K hK => ?_) AllReady.nil)
                            · refine step_runP rfl _ _ _ rfl rfl rfl hrun ?_
                              refine hK _ _ ?_
                              clear hK K
                              try simp only [Act.put, List.setIfInBounds_toArray, List.set_cons_zero, List.set_cons_succ]
                              refine wpAny_take (i := 19) (v := ?_) rfl (by kernel_rfl) (by kernel_rfl) (by kernel_rfl) (fun _ _ _ h => h) (Or.inl ⟨by rfl, ?_⟩) ?_
                              rotate_left
                              · intro w9
                                go_simp
                                try with_reducible rfl
                              show wpAny _ _ _ _ _ _ (Act.put _ (some _) _) _
                              simp only [Act.put, List.setIfInBounds_toArray, List.set_cons_zero, List.set_cons_succ]
                              refine wpAny_ready (rs := [20]) (by kernel_rfl) (by simp) ?_
                              refine (AllReady.cons rfl (fun K hK => ?_) AllReady.nil)
                              · go_simp
                                refine hK _ _ ?_
                                clear hK K
                                refine wpAny_done (by kernel_rfl) ?_ _
                                go_wp2_with fail
                                go_roundw
                                case rel => exact ⟨_, C ++ [⟨n0, n1, n2, n3, n4, n5, n6⟩], q - 1, m6, e6, by go_num, by simp; omega, hm7, HS9, HF9⟩
                                case measure => simp [intOf]; omega
        · have HNo : Hid (¬ ∃ p, OkP s p) := by
            rintro ⟨p, hp⟩
            obtain ⟨_, _, _, r, _, _, ho⟩ := HF.out p hp
            cases ho.1
          have y0 : wr.cell? ⟨w.heap.size, 0, none⟩ = some (.int .i64 0) := HS.out.res.cell 0
          have y1 : wr.cell? ⟨w.heap.size, 1, none⟩ = some (.slice none 0 0) := HS.out.res.cell 1
          have y2 : wr.cell? ⟨w.heap.size, 2, none⟩ = some (.slice none 0 0) := HS.out.res.cell 2
          have y3 : wr.cell? ⟨w.heap.size, 3, none⟩ = some (.slice none 0 0) := HS.out.res.cell 3
          have yf : ∀ o, wr.frozen? ⟨w.heap.size, o, none⟩ = false := fun o => froz_of_heap HS.out.res
          go_wp2_with fail
          have s3 := (heap_set (o := 3) (v := .slice none 0 0) (heap_set (o := 2) (v := .slice none 0 0) (heap_set (o := 1) (v := .slice none 0 0) (heap_set (o := 0) (v := .int .i64 0) HS.out.res))))
          have BW : Below w.heap.size w ((((wr.setCell ⟨w.heap.size, 0, none⟩ (.int .i64 0)).setCell ⟨w.heap.size, 1, none⟩ (.slice none 0 0)).setCell ⟨w.heap.size, 2, none⟩ (.slice none 0 0)).setCell ⟨w.heap.size, 3, none⟩ (.slice none 0 0)) := (((HS.out.below.setCell (Nat.le_refl _) _).setCell (Nat.le_refl _) _).setCell (Nat.le_refl _) _).setCell (Nat.le_refl _) _
          exact bodyPost_ret (v := .tuple #[.agg #[.int .i64 0, .slice none 0 0, .slice none 0 0, .slice none 0 0], .bool false]) ((results_row_tmp Tryd.results4 _ _ w.heap.size _ rfl (run_loadVar_row _ _ 25 _ _ (0, 0) _ s3 Tryd.underlying25 rfl (by kernel_rfl))).trans (by rfl)) rfl ⟨.inr ⟨HNo.out, rfl⟩, BW⟩
      · have hqI : ¬ (0 : Int) < (q : Int) := by omega
        have hq0 : q = 0 := by omega
        clear hq
        cases bad
        · have PB := bytesS (w.heap.size + 2) ⟨x, l1, l2, C⟩ va1 vc1 va2 vc2 va3 vc3 wr (HS.out.ints (by omega) (by omega) (by omega)).1 (HS.out.ints (by omega) (by omega) (by omega)).2.1 (HS.out.ints (by omega) (by omega) (by omega)).2.2
          have HFe : Hid (∀ p, OkP s p → p = ⟨x, l1, l2, C⟩) := fun p hp => by
            obtain ⟨e1, e2, e3, r, e4, e5, _⟩ := HF.out p hp
            have : r = [] := List.length_eq_zero_iff.1 (by omega)
            subst this
            cases p
            simp only at e1 e2 e3 e4
            simp [e1, e2, e3, e4]
          have HBK : Hid (progT ⟨x, l1, l2, C⟩ = s → OkP s ⟨x, l1, l2, C⟩) := ok_back h4 hz
          have HFR : Hid (OkP s ⟨x, l1, l2, C⟩ → progT ⟨x, l1, l2, C⟩ = s) := ok_forth
          generalize progT ⟨x, l1, l2, C⟩ = tb at PB HBK HFR
          have c0 : wr.cell? ⟨Bp, 0, none⟩ = some (.int .i64 x) := HS.out.box.cell 0
          have c1 : wr.cell? ⟨Bp, 1, none⟩ = some (.slice va1 l1.length vc1) := HS.out.box.cell 1
          have c2 : wr.cell? ⟨Bp, 2, none⟩ = some (.slice va2 l2.length vc2) := HS.out.box.cell 2
          have c3 : wr.cell? ⟨Bp, 3, none⟩ = some (.slice va3 C.length vc3) := HS.out.box.cell 3
          go_wp2_with fail
          refine PB.mono ?_
          rintro e w9 ⟨rfl, b9⟩
          have HS9 : Hid (MdS w w9 (w.heap.size + 1) Bp (w.heap.size + 2) s x (.slice va1 l1.length vc1) (.slice va2 l2.length vc2) (.slice va3 C.length vc3) l1 l2 C k false) := HS.out.keep b9
          clear PB b9 HS c0 c1 c2 c3 cb
          have HS := HS9
          clear HS9
          have y0 : w9.cell? ⟨w.heap.size, 0, none⟩ = some (.int .i64 0) := HS.out.res.cell 0
          have y1 : w9.cell? ⟨w.heap.size, 1, none⟩ = some (.slice none 0 0) := HS.out.res.cell 1
          have y2 : w9.cell? ⟨w.heap.size, 2, none⟩ = some (.slice none 0 0) := HS.out.res.cell 2
          have y3 : w9.cell? ⟨w.heap.size, 3, none⟩ = some (.slice none 0 0) := HS.out.res.cell 3
          have yf : ∀ o, w9.frozen? ⟨w.heap.size, o, none⟩ = false := fun o => froz_of_heap HS.out.res
          by_cases heq : tb = s
          · have E : (tb.toList == s.toList) = true := str_eqq heq
            have HOk : Hid (OkP s ⟨x, l1, l2, C⟩) := HBK.out heq
            clear heq
            have c0 : w9.cell? ⟨Bp, 0, none⟩ = some (.int .i64 x) := HS.out.box.cell 0
            have c1 : w9.cell? ⟨Bp, 1, none⟩ = some (.slice va1 l1.length vc1) := HS.out.box.cell 1
            have c2 : w9.cell? ⟨Bp, 2, none⟩ = some (.slice va2 l2.length vc2) := HS.out.box.cell 2
            have c3 : w9.cell? ⟨Bp, 3, none⟩ = some (.slice va3 C.length vc3) := HS.out.box.cell 3
            go_wp2_with fail
            have s0 := heap_set (o := 0) (v := .int .i64 x) HS.out.res
            have s1 := heap_set (o := 1) (v := .slice va1 l1.length vc1) s0
            have s2 := heap_set (o := 2) (v := .slice va2 l2.length vc2) s1
            have s3 := heap_set (o := 3) (v := .slice va3 C.length vc3) s2
            have q1 := (((HS.out.r1.setT (o := 0) (x := .int .i64 x) HS.out.res (by decide)).setT (o := 1) (x := .slice va1 l1.length vc1) s0 (by decide)).setT (o := 2) (x := .slice va2 l2.length vc2) s1 (by decide)).setT (o := 3) (x := .slice va3 C.length vc3) s2 (by decide)
            have q2 := (((HS.out.r2.setT (o := 0) (x := .int .i64 x) HS.out.res (by decide)).setT (o := 1) (x := .slice va1 l1.length vc1) s0 (by decide)).setT (o := 2) (x := .slice va2 l2.length vc2) s1 (by decide)).setT (o := 3) (x := .slice va3 C.length vc3) s2 (by decide)
            have q3 := (((HS.out.r3.setT (o := 0) (x := .int .i64 x) HS.out.res (by decide)).setT (o := 1) (x := .slice va1 l1.length vc1) s0 (by decide)).setT (o := 2) (x := .slice va2 l2.length vc2) s1 (by decide)).setT (o := 3) (x := .slice va3 C.length vc3) s2 (by decide)
            have BW : Below w.heap.size w ((((w9.setCell ⟨w.heap.size, 0, none⟩ (.int .i64 x)).setCell ⟨w.heap.size, 1, none⟩ (.slice va1 l1.length vc1)).setCell ⟨w.heap.size, 2, none⟩ (.slice va2 l2.length vc2)).setCell ⟨w.heap.size, 3, none⟩ (.slice va3 C.length vc3)) := (((HS.out.below.setCell (Nat.le_refl _) _).setCell (Nat.le_refl _) _).setCell (Nat.le_refl _) _).setCell (Nat.le_refl _) _
            obtain ⟨a1, d1, f1, i1⟩ := q1.ints (by omega)
            obtain ⟨a2, d2, f2, i2⟩ := q2.ints (by omega)
            obtain ⟨a3, d3, f3, i3⟩ := q3.mins (by omega)
            cases f1
            cases f2
            cases f3
            exact bodyPost_ret (v := .tuple #[.agg #[.int .i64 x, .slice va1 l1.length vc1, .slice va2 l2.length vc2, .slice va3 C.length vc3], .bool true]) ((results_row_tmp Tryd.results4 _ _ w.heap.size _ rfl (run_loadVar_row _ _ 25 _ _ (0, 0) _ s3 Tryd.underlying25 rfl (by kernel_rfl))).trans (by rfl)) rfl ⟨.inl ⟨⟨x, l1, l2, C⟩, va1, vc1, va2, vc2, va3, vc3, HOk.out, rfl, i1.low (by omega), i2.low (by omega), i3.low (by omega)⟩, BW⟩
          · have E : (tb.toList == s.toList) = false := str_neq heq
            have HNo : Hid (¬ ∃ p, OkP s p) := by
              rintro ⟨p, hp⟩
              have h1 := HFe.out p hp
              subst h1
              exact heq (HFR.out hp)
            clear heq
            go_wp2_with fail
            have s3 := (heap_set (o := 3) (v := .slice none 0 0) (heap_set (o := 2) (v := .slice none 0 0) (heap_set (o := 1) (v := .slice none 0 0) (heap_set (o := 0) (v := .int .i64 0) HS.out.res))))
            have BW : Below w.heap.size w ((((w9.setCell ⟨w.heap.size, 0, none⟩ (.int .i64 0)).setCell ⟨w.heap.size, 1, none⟩ (.slice none 0 0)).setCell ⟨w.heap.size, 2, none⟩ (.slice none 0 0)).setCell ⟨w.heap.size, 3, none⟩ (.slice none 0 0)) := (((HS.out.below.setCell (Nat.le_refl _) _).setCell (Nat.le_refl _) _).setCell (Nat.le_refl _) _).setCell (Nat.le_refl _) _
            exact bodyPost_ret (v := .tuple #[.agg #[.int .i64 0, .slice none 0 0, .slice none 0 0, .slice none 0 0], .bool false]) ((results_row_tmp Tryd.results4 _ _ w.heap.size _ rfl (run_loadVar_row _ _ 25 _ _ (0, 0) _ s3 Tryd.underlying25 rfl (by kernel_rfl))).trans (by rfl)) rfl ⟨.inr ⟨HNo.out, rfl⟩, BW⟩
        · have HNo : Hid (¬ ∃ p, OkP s p) := by
            rintro ⟨p, hp⟩
            obtain ⟨_, _, _, r, _, _, ho⟩ := HF.out p hp
            cases ho.1
          have y0 : wr.cell? ⟨w.heap.size, 0, none⟩ = some (.int .i64 0) := HS.out.res.cell 0
          have y1 : wr.cell? ⟨w.heap.size, 1, none⟩ = some (.slice none 0 0) := HS.out.res.cell 1
          have y2 : wr.cell? ⟨w.heap.size, 2, none⟩ = some (.slice none 0 0) := HS.out.res.cell 2
          have y3 : wr.cell? ⟨w.heap.size, 3, none⟩ = some (.slice none 0 0) := HS.out.res.cell 3
          have yf : ∀ o, wr.frozen? ⟨w.heap.size, o, none⟩ = false := fun o => froz_of_heap HS.out.res
          go_wp2_with fail
          have s3 := (heap_set (o := 3) (v := .slice none 0 0) (heap_set (o := 2) (v := .slice none 0 0) (heap_set (o := 1) (v := .slice none 0 0) (heap_set (o := 0) (v := .int .i64 0) HS.out.res))))
          have BW : Below w.heap.size w ((((wr.setCell ⟨w.heap.size, 0, none⟩ (.int .i64 0)).setCell ⟨w.heap.size, 1, none⟩ (.slice none 0 0)).setCell ⟨w.heap.size, 2, none⟩ (.slice none 0 0)).setCell ⟨w.heap.size, 3, none⟩ (.slice none 0 0)) := (((HS.out.below.setCell (Nat.le_refl _) _).setCell (Nat.le_refl _) _).setCell (Nat.le_refl _) _).setCell (Nat.le_refl _) _
          exact bodyPost_ret (v := .tuple #[.agg #[.int .i64 0, .slice none 0 0, .slice none 0 0, .slice none 0 0], .bool false]) ((results_row_tmp Tryd.results4 _ _ w.heap.size _ rfl (run_loadVar_row _ _ 25 _ _ (0, 0) _ s3 Tryd.underlying25 rfl (by kernel_rfl))).trans (by rfl)) rfl ⟨.inr ⟨HNo.out, rfl⟩, BW⟩
  · have HNo : Hid (¬ ∃ p, OkP s p) := by
      rintro ⟨p, hp⟩
      exact hok ⟨(ok_head hp).1, hp.2.2, (ok_head hp).2⟩
    by_cases h1 : s.size < 4
    · have h1I : (s.size : Int) < 4 := by omega
      go_enter Tryd.func4, Tryd.ntmps4
      go_wp2_with fail
      exact bodyPost_ret (v := .tuple #[.agg #[.int .i64 0, .slice none 0 0, .slice none 0 0, .slice none 0 0], .bool false]) ((results_row_tmp Tryd.results4 _ _ w.heap.size _ rfl (run_loadVar_row _ _ 25 _ _ (0, 0) _ HA0.out Tryd.underlying25 rfl (by kernel_rfl))).trans (by rfl)) rfl ⟨.inr ⟨HNo.out, rfl⟩, HB0.out⟩
    · have h1I : ¬ (s.size : Int) < 4 := by omega
      by_cases h2 : 20000 < s.size
      · have h2I : (20000 : Int) < (s.size : Int) := by omega
        go_enter Tryd.func4, Tryd.ntmps4
        go_wp2_with fail
        exact bodyPost_ret (v := .tuple #[.agg #[.int .i64 0, .slice none 0 0, .slice none 0 0, .slice none 0 0], .bool false]) ((results_row_tmp Tryd.results4 _ _ w.heap.size _ rfl (run_loadVar_row _ _ 25 _ _ (0, 0) _ HA0.out Tryd.underlying25 rfl (by kernel_rfl))).trans (by rfl)) rfl ⟨.inr ⟨HNo.out, rfl⟩, HB0.out⟩
      · have h2I : ¬ (20000 : Int) < (s.size : Int) := by omega
        have h4I : (4 : Int) ≤ (s.size : Int) := by omega
        have E : ((s.extract 0 4).toList == [82, 69, 71, 49]) = false := reg_list ▸ str_neq (fun e => hok ⟨by omega, by omega, e⟩)
        clear hok
        go_enter Tryd.func4, Tryd.ntmps4
        go_wp2_with fail
        exact bodyPost_ret (v := .tuple #[.agg #[.int .i64 0, .slice none 0 0, .slice none 0 0, .slice none 0 0], .bool false]) ((results_row_tmp Tryd.results4 _ _ w.heap.size _ rfl (run_loadVar_row _ _ 25 _ _ (0, 0) _ HA0.out Tryd.underlying25 rfl (by kernel_rfl))).trans (by rfl)) rfl ⟨.inr ⟨HNo.out, rfl⟩, HB0.out⟩
end Go.Proofs.YtpmanjkaiknlhaaDoor
