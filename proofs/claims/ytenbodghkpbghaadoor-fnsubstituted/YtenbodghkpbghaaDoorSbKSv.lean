import Derived.Test.YtenbodghkpbghaaDoorSbISv
namespace Go.Proofs.YtenbodghkpbghaaDoor
open Go.RowKit
set_option linter.unusedVariables false
set_option linter.unusedSimpArgs false
theorem SSt.far {w wr : World} {X q o : Nat} {T : TypeId} {ps cs zs : Array Value} {v : Value} (h : SSt w wr X T ps cs zs) (h1 : q ≠ X) (h2 : w.heap.size + 1 < q) : SSt w (wr.setCell ⟨q, o, Option.none⟩ v) X T ps cs zs :=
 ⟨h.par.setOther (by omega), h.res.setOther (by omega), h.box.setOther (by omega), h.bel.setCell (by dsimp only; omega) _, h.ltX⟩
theorem fB_get {p : InstD} (h : fB p = true) (ho : ¬ p.op = 26) : p.args = [] ∧ ((opsD p).length < 1 → p.a = 0) ∧ ((opsD p).length < 2 → p.b = 0) ∧ ((opsD p).length < 3 → p.c = 0) := by
 unfold fB at h
 rw [if_neg ho] at h
 simp only [Bool.and_eq_true, Bool.or_eq_true, decide_eq_true_eq, beq_iff_eq] at h
 obtain ⟨⟨⟨h0, h1⟩, h2⟩, h3⟩ := h
 exact ⟨List.length_eq_zero_iff.1 h0, fun k => h1.resolve_left (by omega), fun k => h2.resolve_left (by omega), fun k => h3.resolve_left (by omega)⟩
theorem fB_call {p : InstD} (h : fB p = true) (ho : p.op = 26) : p.args.length ≤ 4 ∧ p.a = 0 ∧ p.b = 0 ∧ p.c = 0 ∧ opsD p = p.args := by
 have h0 := h
 unfold fB at h
 rw [if_pos ho] at h
 simp only [Bool.and_eq_true, decide_eq_true_eq, beq_iff_eq] at h
 obtain ⟨⟨⟨h0, h1⟩, h2⟩, h3⟩ := h
 refine ⟨h0, h1, h2, h3, ?_⟩
 obtain ⟨op, iw, a, b, c, imm, args⟩ := p
 obtain rfl : op = 26 := ho
 rfl
def InstO (w : World) (q : InstD) (e : Ending) (w' : World) : Prop := ∃ ru rc, e = .returned (.agg #[.int .i64 q.op, .int .i64 q.w, .int .i64 q.a, .int .i64 q.b, .int .i64 q.c, .int .i64 q.imm, .slice ru q.args.length rc]) ∧ OwnI w' w.heap.size w'.heap.size ru q.args ∧ Below w.heap.size w w'
theorem sb_none {ρ : Int → Int} {p : InstD} (ho : ¬ p.op = 26) (l : List Int) (h : opsD p = l) : sbInst ρ p = ⟨p.op, p.w, (l.map ρ).getD 0 0, (l.map ρ).getD 1 0, (l.map ρ).getD 2 0, p.imm, []⟩ := by
 unfold sbInst mkD
 rw [if_neg ho, h]
set_option maxHeartbeats 8000000 in
set_option maxRecDepth 100000 in
theorem l8InstS (lo li : Nat) (p : InstD) (iu : Option Addr) (iq : Nat) (tt : List Int) (ut : Option Addr) (ct : Nat) (w : World) (hi : IntsAt w li iu p.args) (mt : IntsAt w lo ut tt) (hf : fB p = true) (ho : InT tt (opsD p)) (hl : p.args.length ≤ 1000) :
  Calls Tryd.prog 52 #[.agg #[.int .i64 p.op, .int .i64 p.w, .int .i64 p.a, .int .i64 p.b, .int .i64 p.c, .int .i64 p.imm, .slice iu p.args.length iq], .slice ut tt.length ct] w fun e w' => InstO w (sbInst (rhoT tt) p) e w' := by
 have b0 : Below w.heap.size w ((w.alloc (.cells #[.int .i64 p.op, .int .i64 p.w, .int .i64 p.a, .int .i64 p.b, .int .i64 p.c, .int .i64 p.imm, .slice iu p.args.length iq] 44)).alloc (.cells #[.int .i64 0, .int .i64 0, .int .i64 0, .int .i64 0, .int .i64 0, .int .i64 0, .slice none 0 0] 44)) := ((Below.refl _ _).alloc (Nat.le_refl _) _).alloc (by simp) _
 have A0 : At ((w.alloc (.cells #[.int .i64 p.op, .int .i64 p.w, .int .i64 p.a, .int .i64 p.b, .int .i64 p.c, .int .i64 p.imm, .slice iu p.args.length iq] 44)).alloc (.cells #[.int .i64 0, .int .i64 0, .int .i64 0, .int .i64 0, .int .i64 0, .int .i64 0, .slice none 0 0] 44)) w.heap.size #[.int .i64 p.op, .int .i64 p.w, .int .i64 p.a, .int .i64 p.b, .int .i64 p.c, .int .i64 p.imm, .slice iu p.args.length iq] 44 := (Below.heap_alloc _ _ _ (by simp)).trans (heap_alloc_last _ _)
 have HB : Hid (Below w.heap.size w ((w.alloc (.cells #[.int .i64 p.op, .int .i64 p.w, .int .i64 p.a, .int .i64 p.b, .int .i64 p.c, .int .i64 p.imm, .slice iu p.args.length iq] 44)).alloc (.cells #[.int .i64 0, .int .i64 0, .int .i64 0, .int .i64 0, .int .i64 0, .int .i64 0, .slice none 0 0] 44))) := b0
 have HZ : Hid (At ((w.alloc (.cells #[.int .i64 p.op, .int .i64 p.w, .int .i64 p.a, .int .i64 p.b, .int .i64 p.c, .int .i64 p.imm, .slice iu p.args.length iq] 44)).alloc (.cells #[.int .i64 0, .int .i64 0, .int .i64 0, .int .i64 0, .int .i64 0, .int .i64 0, .slice none 0 0] 44)) (w.heap.size + 1) #[.int .i64 0, .int .i64 0, .int .i64 0, .int .i64 0, .int .i64 0, .int .i64 0, .slice none 0 0] 44) := heap_two2 _ _ _
 have HA : Hid (At ((w.alloc (.cells #[.int .i64 p.op, .int .i64 p.w, .int .i64 p.a, .int .i64 p.b, .int .i64 p.c, .int .i64 p.imm, .slice iu p.args.length iq] 44)).alloc (.cells #[.int .i64 0, .int .i64 0, .int .i64 0, .int .i64 0, .int .i64 0, .int .i64 0, .slice none 0 0] 44)) w.heap.size #[.int .i64 p.op, .int .i64 p.w, .int .i64 p.a, .int .i64 p.b, .int .i64 p.c, .int .i64 p.imm, .slice iu p.args.length iq] 44) := A0
 have hz : (((w.alloc (.cells #[.int .i64 p.op, .int .i64 p.w, .int .i64 p.a, .int .i64 p.b, .int .i64 p.c, .int .i64 p.imm, .slice iu p.args.length iq] 44)).alloc (.cells #[.int .i64 0, .int .i64 0, .int .i64 0, .int .i64 0, .int .i64 0, .int .i64 0, .slice none 0 0] 44))).heap.size = w.heap.size + 2 := by simp
 have HIK : Hid (IntsAt w li iu p.args) := hi
 have HMT : Hid (IntsAt w lo ut tt) := mt
 have HF : Hid (fB p = true) := hf
 have HOI : Hid (InT tt (opsD p)) := ho
 have P := copyInstO li p iu iq ((w.alloc (.cells #[.int .i64 p.op, .int .i64 p.w, .int .i64 p.a, .int .i64 p.b, .int .i64 p.c, .int .i64 p.imm, .slice iu p.args.length iq] 44)).alloc (.cells #[.int .i64 0, .int .i64 0, .int .i64 0, .int .i64 0, .int .i64 0, .int .i64 0, .slice none 0 0] 44)) hl (hi.keep (agree_of_below b0 li))
 have x0 : (((w.alloc (.cells #[.int .i64 p.op, .int .i64 p.w, .int .i64 p.a, .int .i64 p.b, .int .i64 p.c, .int .i64 p.imm, .slice iu p.args.length iq] 44)).alloc (.cells #[.int .i64 0, .int .i64 0, .int .i64 0, .int .i64 0, .int .i64 0, .int .i64 0, .slice none 0 0] 44))).cell? ⟨w.heap.size, 0, none⟩ = some (.int .i64 p.op) := A0.cell 0
 have x1 : (((w.alloc (.cells #[.int .i64 p.op, .int .i64 p.w, .int .i64 p.a, .int .i64 p.b, .int .i64 p.c, .int .i64 p.imm, .slice iu p.args.length iq] 44)).alloc (.cells #[.int .i64 0, .int .i64 0, .int .i64 0, .int .i64 0, .int .i64 0, .int .i64 0, .slice none 0 0] 44))).cell? ⟨w.heap.size, 1, none⟩ = some (.int .i64 p.w) := A0.cell 1
 have x2 : (((w.alloc (.cells #[.int .i64 p.op, .int .i64 p.w, .int .i64 p.a, .int .i64 p.b, .int .i64 p.c, .int .i64 p.imm, .slice iu p.args.length iq] 44)).alloc (.cells #[.int .i64 0, .int .i64 0, .int .i64 0, .int .i64 0, .int .i64 0, .int .i64 0, .slice none 0 0] 44))).cell? ⟨w.heap.size, 2, none⟩ = some (.int .i64 p.a) := A0.cell 2
 have x3 : (((w.alloc (.cells #[.int .i64 p.op, .int .i64 p.w, .int .i64 p.a, .int .i64 p.b, .int .i64 p.c, .int .i64 p.imm, .slice iu p.args.length iq] 44)).alloc (.cells #[.int .i64 0, .int .i64 0, .int .i64 0, .int .i64 0, .int .i64 0, .int .i64 0, .slice none 0 0] 44))).cell? ⟨w.heap.size, 3, none⟩ = some (.int .i64 p.b) := A0.cell 3
 have x4 : (((w.alloc (.cells #[.int .i64 p.op, .int .i64 p.w, .int .i64 p.a, .int .i64 p.b, .int .i64 p.c, .int .i64 p.imm, .slice iu p.args.length iq] 44)).alloc (.cells #[.int .i64 0, .int .i64 0, .int .i64 0, .int .i64 0, .int .i64 0, .int .i64 0, .slice none 0 0] 44))).cell? ⟨w.heap.size, 4, none⟩ = some (.int .i64 p.c) := A0.cell 4
 have x5 : (((w.alloc (.cells #[.int .i64 p.op, .int .i64 p.w, .int .i64 p.a, .int .i64 p.b, .int .i64 p.c, .int .i64 p.imm, .slice iu p.args.length iq] 44)).alloc (.cells #[.int .i64 0, .int .i64 0, .int .i64 0, .int .i64 0, .int .i64 0, .int .i64 0, .slice none 0 0] 44))).cell? ⟨w.heap.size, 5, none⟩ = some (.int .i64 p.imm) := A0.cell 5
 have x6 : (((w.alloc (.cells #[.int .i64 p.op, .int .i64 p.w, .int .i64 p.a, .int .i64 p.b, .int .i64 p.c, .int .i64 p.imm, .slice iu p.args.length iq] 44)).alloc (.cells #[.int .i64 0, .int .i64 0, .int .i64 0, .int .i64 0, .int .i64 0, .int .i64 0, .slice none 0 0] 44))).cell? ⟨w.heap.size, 6, none⟩ = some (.slice iu p.args.length iq) := A0.cell 6
 clear b0 A0 hi mt hf ho
 go_enter Tryd.func52, Tryd.ntmps52
 go_upto_region 1 with fail
 generalize ((w.alloc (.cells #[.int .i64 p.op, .int .i64 p.w, .int .i64 p.a, .int .i64 p.b, .int .i64 p.c, .int .i64 p.imm, .slice iu p.args.length iq] 44)).alloc (.cells #[.int .i64 0, .int .i64 0, .int .i64 0, .int .i64 0, .int .i64 0, .int .i64 0, .slice none 0 0] 44)) = W1 at *
 go_wp2_with fail
 refine P.mono ?_
 rintro e w2 ⟨ru, rc, rfl, hown, b2⟩
 clear P x0 x1 x2 x3 x4 x5 x6
 have b3 : Below w2.heap.size w2 (w2.alloc (.cells #[.int .i64 p.op, .int .i64 p.w, .int .i64 p.a, .int .i64 p.b, .int .i64 p.c, .int .i64 p.imm, .slice ru p.args.length rc] 44)) := (Below.refl _ _).alloc (Nat.le_refl _) _
 have HS3 : Hid (SSt w (w2.alloc (.cells #[.int .i64 p.op, .int .i64 p.w, .int .i64 p.a, .int .i64 p.b, .int .i64 p.c, .int .i64 p.imm, .slice ru p.args.length rc] 44)) w2.heap.size 44 #[.int .i64 p.op, .int .i64 p.w, .int .i64 p.a, .int .i64 p.b, .int .i64 p.c, .int .i64 p.imm, .slice iu p.args.length iq] #[.int .i64 p.op, .int .i64 p.w, .int .i64 p.a, .int .i64 p.b, .int .i64 p.c, .int .i64 p.imm, .slice ru p.args.length rc] #[.int .i64 0, .int .i64 0, .int .i64 0, .int .i64 0, .int .i64 0, .int .i64 0, .slice none 0 0]) := ⟨(HA.out.below b2).below b3, (HZ.out.below b2).below b3, At.new _ _ _, HB.out.trans ((b2.mono (by omega)).trans (b3.mono (by have := b2.size; omega))), by have := b2.size; omega⟩
 have HO3 : Hid (OwnI (w2.alloc (.cells #[.int .i64 p.op, .int .i64 p.w, .int .i64 p.a, .int .i64 p.b, .int .i64 p.c, .int .i64 p.imm, .slice ru p.args.length rc] 44)) (w.heap.size + 2) w2.heap.size ru p.args) := by
  rw [hz] at hown
  exact hown.still (Still.below (k := 9) b3) (by decide)
 go_upto_region 2 with fail
 clear b2 hown HA HZ HB b3 hz
 generalize (w2.alloc (.cells #[.int .i64 p.op, .int .i64 p.w, .int .i64 p.a, .int .i64 p.b, .int .i64 p.c, .int .i64 p.imm, .slice ru p.args.length rc] 44)) = W3 at *
 generalize w2.heap.size = X at *
 clear w2
 have P2 := operS li p iu iq W3 (by omega) (HIK.out.keep (agree_of_below HS3.out.bel li))
 have x0 : W3.cell? ⟨w.heap.size, 0, none⟩ = some (.int .i64 p.op) := HS3.out.par.cell 0
 have x1 : W3.cell? ⟨w.heap.size, 1, none⟩ = some (.int .i64 p.w) := HS3.out.par.cell 1
 have x2 : W3.cell? ⟨w.heap.size, 2, none⟩ = some (.int .i64 p.a) := HS3.out.par.cell 2
 have x3 : W3.cell? ⟨w.heap.size, 3, none⟩ = some (.int .i64 p.b) := HS3.out.par.cell 3
 have x4 : W3.cell? ⟨w.heap.size, 4, none⟩ = some (.int .i64 p.c) := HS3.out.par.cell 4
 have x5 : W3.cell? ⟨w.heap.size, 5, none⟩ = some (.int .i64 p.imm) := HS3.out.par.cell 5
 have x6 : W3.cell? ⟨w.heap.size, 6, none⟩ = some (.slice iu p.args.length iq) := HS3.out.par.cell 6
 go_wp2_with fail
 refine P2.mono ?_
 rintro e w4 ⟨ov, oc, rfl, hov, b4⟩
 clear P2 x0 x1 x2 x3 x4 x5 x6 hov
 have HS4 : Hid (SSt w w4 X 44 #[.int .i64 p.op, .int .i64 p.w, .int .i64 p.a, .int .i64 p.b, .int .i64 p.c, .int .i64 p.imm, .slice iu p.args.length iq] #[.int .i64 p.op, .int .i64 p.w, .int .i64 p.a, .int .i64 p.b, .int .i64 p.c, .int .i64 p.imm, .slice ru p.args.length rc] #[.int .i64 0, .int .i64 0, .int .i64 0, .int .i64 0, .int .i64 0, .int .i64 0, .slice none 0 0]) := HS3.out.keep b4
 have HO4 : Hid (OwnI w4 (w.heap.size + 2) X ru p.args) := HO3.out.still (Still.below (k := 9) b4) (by decide)
 clear b4 HS3 HO3
 have xo : w4.cell? ⟨w.heap.size, 0, none⟩ = some (.int .i64 p.op) := HS4.out.par.cell 0
 by_cases hop : p.op = 26
 ·obtain ⟨hf4, ha0, hb0, hc0, hops⟩ := fB_call HF.out hop
  have HOI' : Hid (InT tt p.args) := by show InT _ _; rw [← hops]; exact HOI.out
  have HSB : Hid (sbInst (rhoT tt) p = ⟨p.op, p.w, p.a, p.b, p.c, p.imm, p.args.map (rhoT tt)⟩) := by
   show _ = _
   unfold sbInst mkD
   rw [if_pos hop, hops, ha0, hb0, hc0]
  have hopb : (p.op == 26) = true := by simp [hop]
  clear hop ha0 hb0 hc0 hops HOI HF
  go_upto_region 4 with fail
  clear xo hopb
  have SP : Hid (∀ (W : World) (CS : Array Value), SSt w W X 44 #[.int .i64 p.op, .int .i64 p.w, .int .i64 p.a, .int .i64 p.b, .int .i64 p.c, .int .i64 p.imm, .slice iu p.args.length iq] #[.int .i64 p.op, .int .i64 p.w, .int .i64 p.a, .int .i64 p.b, .int .i64 p.c, .int .i64 p.imm, .slice ru p.args.length rc] #[.int .i64 0, .int .i64 0, .int .i64 0, .int .i64 0, .int .i64 0, .int .i64 0, .slice none 0 0] → W.cell? ⟨X, 6, none⟩ = some (.slice ru p.args.length rc)) := fun W CS h => h.box.cell 6
  go_wp2_with fail
  go_loopw [7] (fun i wr => ∃ k : Nat, k ≤ p.args.length ∧ i = .int .i64 k ∧ Hid (SSt w wr X 44 #[.int .i64 p.op, .int .i64 p.w, .int .i64 p.a, .int .i64 p.b, .int .i64 p.c, .int .i64 p.imm, .slice iu p.args.length iq] #[.int .i64 p.op, .int .i64 p.w, .int .i64 p.a, .int .i64 p.b, .int .i64 p.c, .int .i64 p.imm, .slice ru p.args.length rc] #[.int .i64 0, .int .i64 0, .int .i64 0, .int .i64 0, .int .i64 0, .int .i64 0, .slice none 0 0]) ∧ Hid (OwnI wr (w.heap.size + 2) X ru ((p.args.take k).map (rhoT tt) ++ p.args.drop k))) (fun i _ => p.args.length - (intOf i).toNat)
  case atStart => exact ⟨0, by omega, rfl, HS4.out, HO4.out⟩
  case round =>
   clear HS4 HO4
   obtain ⟨k, hk, rfl, HS, HO⟩ := hrel
   obtain ⟨w5, hwo⟩ : ∃ w1, w1 = wr := ⟨_, rfl⟩
   subst hwo
   by_cases hkl : k < p.args.length
   ·obtain ⟨gi, oi, hiu, hgi, e1⟩ := ints_get HIK.out hkl
    obtain ⟨n, hn, hnl⟩ := nat_of (HOI'.out _ (getD_mem 0 p.args k hkl))
    obtain ⟨ga, off, hut, hga, e2⟩ := ints_get HMT.out hnl
    have hml : ((p.args.take k).map (rhoT tt) ++ p.args.drop k).length = p.args.length := mid_len _ _ _
    obtain ⟨q, cur, hru, hq, hcur⟩ := OwnI.block HO.out (by omega)
    have hqi := OwnI.q_in HO.out (by omega) hru
    have hset := set_mid (rhoT tt) 0 p.args k hkl
    rw [hn] at e1 hset
    rw [rho_at hnl] at hset
    have hv := OwnI.setK HO.out (by omega : k < ((p.args.take k).map (rhoT tt) ++ p.args.drop k).length) hru (tt.getD n 0)
    rw [hset] at hv
    generalize tt.getD n 0 = y at *
    have hkI : (k : Int) < p.args.length := by omega
    have hnI : (n : Int) < tt.length := by omega
    have HO5 : Hid (OwnI (w5.setCell ⟨q, k, none⟩ (.int .i64 y)) (w.heap.size + 2) X ru ((p.args.take (k + 1)).map (rhoT tt) ++ p.args.drop (k + 1))) := hv
    have HS5 : Hid (SSt w (w5.setCell ⟨q, k, none⟩ (.int .i64 y)) X 44 #[.int .i64 p.op, .int .i64 p.w, .int .i64 p.a, .int .i64 p.b, .int .i64 p.c, .int .i64 p.imm, .slice iu p.args.length iq] #[.int .i64 p.op, .int .i64 p.w, .int .i64 p.a, .int .i64 p.b, .int .i64 p.c, .int .i64 p.imm, .slice ru p.args.length rc] #[.int .i64 0, .int .i64 0, .int .i64 0, .int .i64 0, .int .i64 0, .int .i64 0, .slice none 0 0]) := HS.out.far (by omega) (by omega)
    have SRC : Hid (∀ (W : World), SSt w W X 44 #[.int .i64 p.op, .int .i64 p.w, .int .i64 p.a, .int .i64 p.b, .int .i64 p.c, .int .i64 p.imm, .slice iu p.args.length iq] #[.int .i64 p.op, .int .i64 p.w, .int .i64 p.a, .int .i64 p.b, .int .i64 p.c, .int .i64 p.imm, .slice ru p.args.length rc] #[.int .i64 0, .int .i64 0, .int .i64 0, .int .i64 0, .int .i64 0, .int .i64 0, .slice none 0 0] → W.cell? ⟨X, 6, none⟩ = some (.slice (some ⟨q, 0, none⟩) p.args.length rc) ∧ W.cell? ⟨w.heap.size, 6, none⟩ = some (.slice (some ⟨gi, oi, none⟩) p.args.length iq) ∧ W.cell? ⟨gi, oi + k, none⟩ = some (.int .i64 (n : Int)) ∧ W.cell? ⟨ga, off + n, none⟩ = some (.int .i64 y)) := fun W h => ⟨by rw [← hru]; exact h.box.cell 6, by rw [← hiu]; exact h.par.cell 6, (cell_block (h.bel.block gi hgi)).trans e1, (cell_block (h.bel.block ga hga)).trans e2⟩
    have y0 := (SRC.out _ HS.out).1
    have s0 : SSt w w5.drew X 44 #[.int .i64 p.op, .int .i64 p.w, .int .i64 p.a, .int .i64 p.b, .int .i64 p.c, .int .i64 p.imm, .slice iu p.args.length iq] #[.int .i64 p.op, .int .i64 p.w, .int .i64 p.a, .int .i64 p.b, .int .i64 p.c, .int .i64 p.imm, .slice ru p.args.length rc] #[.int .i64 0, .int .i64 0, .int .i64 0, .int .i64 0, .int .i64 0, .int .i64 0, .slice none 0 0] := HS.out.drew
    have hck := hcur k (by omega)
    have c9 : w5.cell? ⟨q, k, none⟩ = some (.int .i64 (((p.args.take k).map (rhoT tt) ++ p.args.drop k).getD k 0)) := (hq.cell k).trans hck
    have f9 : w5.frozen? ⟨q, k, none⟩ = false := froz_of_heap hq
    generalize ((p.args.take k).map (rhoT tt) ++ p.args.drop k).getD k 0 = old at c9
    subst hut
    clear hcur hq hv hset hml hck HO HS e1 e2 hn hqi hiu hru
    go_wp2_with fail
    clear y0
    refine startX (fun w' => SSt w w' X 44 #[.int .i64 p.op, .int .i64 p.w, .int .i64 p.a, .int .i64 p.b, .int .i64 p.c, .int .i64 p.imm, .slice iu p.args.length iq] #[.int .i64 p.op, .int .i64 p.w, .int .i64 p.a, .int .i64 p.b, .int .i64 p.c, .int .i64 p.imm, .slice ru p.args.length rc] #[.int .i64 0, .int .i64 0, .int .i64 0, .int .i64 0, .int .i64 0, .int .i64 0, .slice none 0 0]) (fun i => decide (i = 12)) (by kernel_rfl) ?_
    refine takeX 0 (v := ?_) rfl rfl (by kernel_rfl) (fun _ _ _ h => h) (yesH (by rfl) ?_) s0 ?_
    rotate_left
    ·intro w9 hS9
     obtain ⟨g0, g1, g2, g3⟩ := SRC.out w9 hS9
     go_simp
     try with_reducible rfl
    try simp only [Act.put, sA, sB, sC]
    refine takeX 1 (v := ?_) rfl rfl (by kernel_rfl) (fun _ _ _ h => h) (yesH (by rfl) ?_) s0 ?_
    rotate_left
    ·intro w9 hS9
     obtain ⟨g0, g1, g2, g3⟩ := SRC.out w9 hS9
     go_simp
     try with_reducible rfl
    try simp only [Act.put, sA, sB, sC]
    refine takeX 2 (v := ?_) rfl rfl (by kernel_rfl) (fun _ _ _ h => h) (yesH (by rfl) ?_) s0 ?_
    rotate_left
    ·intro w9 hS9
     obtain ⟨g0, g1, g2, g3⟩ := SRC.out w9 hS9
     go_simp
     try with_reducible rfl
    try simp only [Act.put, sA, sB, sC]
    refine takeX 3 (v := ?_) rfl rfl (by kernel_rfl) (fun _ _ _ h => h) (yesH (by rfl) ?_) s0 ?_
    rotate_left
    ·intro w9 hS9
     obtain ⟨g0, g1, g2, g3⟩ := SRC.out w9 hS9
     go_simp
     try with_reducible rfl
    try simp only [Act.put, sA, sB, sC]
    refine takeX 4 (v := ?_) rfl rfl (by kernel_rfl) (fun _ _ _ h => h) (yesH (by rfl) ?_) s0 ?_
    rotate_left
    ·intro w9 hS9
     obtain ⟨g0, g1, g2, g3⟩ := SRC.out w9 hS9
     go_simp
     try with_reducible rfl
    try simp only [Act.put, sA, sB, sC]
    refine takeX 5 (v := ?_) rfl rfl (by kernel_rfl) (fun _ _ _ h => h) (yesH (by rfl) ?_) s0 ?_
    rotate_left
    ·intro w9 hS9
     obtain ⟨g0, g1, g2, g3⟩ := SRC.out w9 hS9
     go_simp
     try with_reducible rfl
    try simp only [Act.put, sA, sB, sC]
    refine takeX 6 (v := ?_) rfl rfl (by kernel_rfl) (fun _ _ _ h => h) (yesH (by rfl) ?_) s0 ?_
    rotate_left
    ·intro w9 hS9
     obtain ⟨g0, g1, g2, g3⟩ := SRC.out w9 hS9
     go_simp
     try with_reducible rfl
    try simp only [Act.put, sA, sB, sC]
    refine takeX 7 (v := ?_) rfl rfl (by kernel_rfl) (fun _ _ _ h => h) (yesH (by rfl) ?_) s0 ?_
    rotate_left
    ·intro w9 hS9
     obtain ⟨g0, g1, g2, g3⟩ := SRC.out w9 hS9
     go_simp
     try with_reducible rfl
    try simp only [Act.put, sA, sB, sC]
    refine takeX 8 (v := ?_) rfl rfl (by kernel_rfl) (fun _ _ _ h => h) (yesH (by rfl) ?_) s0 ?_
    rotate_left
    ·intro w9 hS9
     obtain ⟨g0, g1, g2, g3⟩ := SRC.out w9 hS9
     go_simp
     try with_reducible rfl
    try simp only [Act.put, sA, sB, sC]
    refine takeX 9 (v := ?_) rfl rfl (by kernel_rfl) (fun _ _ _ h => h) (yesH (by rfl) ?_) s0 ?_
    rotate_left
    ·intro w9 hS9
     obtain ⟨g0, g1, g2, g3⟩ := SRC.out w9 hS9
     go_simp
     try with_reducible rfl
    try simp only [Act.put, sA, sB, sC]
    refine takeX 10 (v := ?_) rfl rfl (by kernel_rfl) (fun _ _ _ h => h) (yesH (by rfl) ?_) s0 ?_
    rotate_left
    ·intro w9 hS9
     obtain ⟨g0, g1, g2, g3⟩ := SRC.out w9 hS9
     go_simp
     try with_reducible rfl
    try simp only [Act.put, sA, sB, sC]
    refine takeX 11 (v := ?_) rfl rfl (by kernel_rfl) (fun _ _ _ h => h) (yesH (by rfl) ?_) s0 ?_
    rotate_left
    ·intro w9 hS9
     obtain ⟨g0, g1, g2, g3⟩ := SRC.out w9 hS9
     go_simp
     try with_reducible rfl
    try simp only [Act.put, sA, sB, sC]
    clear s0 SRC
    refine readyX 12 rfl (by kernel_rfl) (fun K hK => ?_)
    go_simp
    refine hK.out _ _ (.inl rfl) ?_
    clear hK K
    refine doneX (by kernel_rfl) ?_ _
    go_wp2_with fail
    go_roundw
    case rel => exact ⟨k + 1, by omega, by go_num, HS5.out.drew, HO5.out⟩
    case measure => simp [intOf]; omega
   ·have hke : k = p.args.length := by omega
    have HOe : Hid (OwnI w5 (w.heap.size + 2) X ru (p.args.map (rhoT tt))) := by
     have := HO.out
     rw [hke, List.take_length, List.drop_length, List.append_nil] at this
     exact this
    clear HO
    have x0 : w5.cell? ⟨X, 0, none⟩ = some (.int .i64 p.op) := HS.out.box.cell 0
    have x1 : w5.cell? ⟨X, 1, none⟩ = some (.int .i64 p.w) := HS.out.box.cell 1
    have x2 : w5.cell? ⟨X, 2, none⟩ = some (.int .i64 p.a) := HS.out.box.cell 2
    have x3 : w5.cell? ⟨X, 3, none⟩ = some (.int .i64 p.b) := HS.out.box.cell 3
    have x4 : w5.cell? ⟨X, 4, none⟩ = some (.int .i64 p.c) := HS.out.box.cell 4
    have x5 : w5.cell? ⟨X, 5, none⟩ = some (.int .i64 p.imm) := HS.out.box.cell 5
    have x6 : w5.cell? ⟨X, 6, none⟩ = some (.slice ru p.args.length rc) := HS.out.box.cell 6
    have r0 : w5.cell? ⟨w.heap.size + 1, 0, none⟩ = some (.int .i64 0) := HS.out.res.cell 0
    have r1 : w5.cell? ⟨w.heap.size + 1, 1, none⟩ = some (.int .i64 0) := HS.out.res.cell 1
    have r2 : w5.cell? ⟨w.heap.size + 1, 2, none⟩ = some (.int .i64 0) := HS.out.res.cell 2
    have r3 : w5.cell? ⟨w.heap.size + 1, 3, none⟩ = some (.int .i64 0) := HS.out.res.cell 3
    have r4 : w5.cell? ⟨w.heap.size + 1, 4, none⟩ = some (.int .i64 0) := HS.out.res.cell 4
    have r5 : w5.cell? ⟨w.heap.size + 1, 5, none⟩ = some (.int .i64 0) := HS.out.res.cell 5
    have r6 : w5.cell? ⟨w.heap.size + 1, 6, none⟩ = some (.slice none 0 0) := HS.out.res.cell 6
    have rf : ∀ o, w5.frozen? ⟨w.heap.size + 1, o, none⟩ = false := fun o => froz_of_heap HS.out.res
    have hX0 := HS.out.box.lt
    go_wp2_with fail
    have hr := (heap_set (o := 6) (v := .slice ru p.args.length rc) (heap_set (o := 5) (v := .int .i64 p.imm) (heap_set (o := 4) (v := .int .i64 p.c) (heap_set (o := 3) (v := .int .i64 p.b) (heap_set (o := 2) (v := .int .i64 p.a) (heap_set (o := 1) (v := .int .i64 p.w) (heap_set (o := 0) (v := .int .i64 p.op) HS.out.res)))))))
    have BB : Below w.heap.size w (((((((w5.setCell ⟨w.heap.size + 1, 0, none⟩ (.int .i64 p.op)).setCell ⟨w.heap.size + 1, 1, none⟩ (.int .i64 p.w)).setCell ⟨w.heap.size + 1, 2, none⟩ (.int .i64 p.a)).setCell ⟨w.heap.size + 1, 3, none⟩ (.int .i64 p.b)).setCell ⟨w.heap.size + 1, 4, none⟩ (.int .i64 p.c)).setCell ⟨w.heap.size + 1, 5, none⟩ (.int .i64 p.imm)).setCell ⟨w.heap.size + 1, 6, none⟩ (.slice ru p.args.length rc)) := ((((((((((((((HS.out.bel).setCell (by dsimp only; omega) _)).setCell (by dsimp only; omega) _)).setCell (by dsimp only; omega) _)).setCell (by dsimp only; omega) _)).setCell (by dsimp only; omega) _)).setCell (by dsimp only; omega) _)).setCell (by dsimp only; omega) _)
    have hzr : w5.heap.size ≤ ((((((((w5.setCell ⟨w.heap.size + 1, 0, none⟩ (.int .i64 p.op)).setCell ⟨w.heap.size + 1, 1, none⟩ (.int .i64 p.w)).setCell ⟨w.heap.size + 1, 2, none⟩ (.int .i64 p.a)).setCell ⟨w.heap.size + 1, 3, none⟩ (.int .i64 p.b)).setCell ⟨w.heap.size + 1, 4, none⟩ (.int .i64 p.c)).setCell ⟨w.heap.size + 1, 5, none⟩ (.int .i64 p.imm)).setCell ⟨w.heap.size + 1, 6, none⟩ (.slice ru p.args.length rc))).heap.size := by simp only [World.size_setCell]; exact Nat.le_refl _
    have SS : Still 2 w5 (((((((w5.setCell ⟨w.heap.size + 1, 0, none⟩ (.int .i64 p.op)).setCell ⟨w.heap.size + 1, 1, none⟩ (.int .i64 p.w)).setCell ⟨w.heap.size + 1, 2, none⟩ (.int .i64 p.a)).setCell ⟨w.heap.size + 1, 3, none⟩ (.int .i64 p.b)).setCell ⟨w.heap.size + 1, 4, none⟩ (.int .i64 p.c)).setCell ⟨w.heap.size + 1, 5, none⟩ (.int .i64 p.imm)).setCell ⟨w.heap.size + 1, 6, none⟩ (.slice ru p.args.length rc)) := (Still.trans (Still.set (k := 2) (o := 0) (v := .int .i64 p.op) HS.out.res (by decide)) (Still.trans (Still.set (k := 2) (o := 1) (v := .int .i64 p.w) (heap_set (o := 0) (v := .int .i64 p.op) HS.out.res) (by decide)) (Still.trans (Still.set (k := 2) (o := 2) (v := .int .i64 p.a) (heap_set (o := 1) (v := .int .i64 p.w) (heap_set (o := 0) (v := .int .i64 p.op) HS.out.res)) (by decide)) (Still.trans (Still.set (k := 2) (o := 3) (v := .int .i64 p.b) (heap_set (o := 2) (v := .int .i64 p.a) (heap_set (o := 1) (v := .int .i64 p.w) (heap_set (o := 0) (v := .int .i64 p.op) HS.out.res))) (by decide)) (Still.trans (Still.set (k := 2) (o := 4) (v := .int .i64 p.c) (heap_set (o := 3) (v := .int .i64 p.b) (heap_set (o := 2) (v := .int .i64 p.a) (heap_set (o := 1) (v := .int .i64 p.w) (heap_set (o := 0) (v := .int .i64 p.op) HS.out.res)))) (by decide)) (Still.trans (Still.set (k := 2) (o := 5) (v := .int .i64 p.imm) (heap_set (o := 4) (v := .int .i64 p.c) (heap_set (o := 3) (v := .int .i64 p.b) (heap_set (o := 2) (v := .int .i64 p.a) (heap_set (o := 1) (v := .int .i64 p.w) (heap_set (o := 0) (v := .int .i64 p.op) HS.out.res))))) (by decide)) (Still.set (k := 2) (o := 6) (v := .slice ru p.args.length rc) (heap_set (o := 5) (v := .int .i64 p.imm) (heap_set (o := 4) (v := .int .i64 p.c) (heap_set (o := 3) (v := .int .i64 p.b) (heap_set (o := 2) (v := .int .i64 p.a) (heap_set (o := 1) (v := .int .i64 p.w) (heap_set (o := 0) (v := .int .i64 p.op) HS.out.res)))))) (by decide))))))))
    generalize (((((((w5.setCell ⟨w.heap.size + 1, 0, none⟩ (.int .i64 p.op)).setCell ⟨w.heap.size + 1, 1, none⟩ (.int .i64 p.w)).setCell ⟨w.heap.size + 1, 2, none⟩ (.int .i64 p.a)).setCell ⟨w.heap.size + 1, 3, none⟩ (.int .i64 p.b)).setCell ⟨w.heap.size + 1, 4, none⟩ (.int .i64 p.c)).setCell ⟨w.heap.size + 1, 5, none⟩ (.int .i64 p.imm)).setCell ⟨w.heap.size + 1, 6, none⟩ (.slice ru p.args.length rc)) = W9 at *
    refine bodyPost_ret (v := .agg #[.int .i64 p.op, .int .i64 p.w, .int .i64 p.a, .int .i64 p.b, .int .i64 p.c, .int .i64 p.imm, .slice ru p.args.length rc]) ((results_cell_row Tryd.results52 _ _ (w.heap.size + 1) 44 _ (0, 0) _ rfl hr Tryd.underlying44 rfl (by kernel_rfl)).trans (by rfl)) rfl ?_
    rw [HSB.out]
    exact ⟨ru, rc, by simp only [List.length_map], (HOe.out.still SS (by decide)).wide (by omega) (by omega), BB⟩
 ·obtain ⟨hargs, ha, hb, hc⟩ := fB_get HF.out hop
  have hopb : (p.op == 26) = false := by simpa using hop
  have SB := fun l h => sb_none (ρ := rhoT tt) hop l h
  have HA0 : Hid (p.args.length = 0) := by show _ = _; rw [hargs]; rfl
  have OS := ops_shape p hop
  rcases OS with h | h | h | h
  ·have HSB : Hid (sbInst (rhoT tt) p = _) := SB _ h
   have hn0 : (opsD p).length = 0 := by rw [h]; rfl
   have HIT := HOI.out
   rw [h] at HIT
   have z0 : Hid (p.a = 0) := ha (by omega)
   have z1 : Hid (p.b = 0) := hb (by omega)
   have z2 : Hid (p.c = 0) := hc (by omega)
   clear HIT
   have HQ : Hid (sbInst (rhoT tt) p = ⟨p.op, p.w, 0, 0, 0, p.imm, []⟩) := by
    show _ = _
    rw [HSB.out]
    rfl
   try rw [hn0]
   clear HSB SB hn0 HOI HF hop hargs ha hb hc h HMT HIK
   have HS0 := HS4
   have HO0 := HO4
   clear HS4 HO4
   go_upto_region 15 with fail
   clear xo hopb
   obtain ⟨w5, hw5⟩ : ∃ w5, w5 = w4 := ⟨_, rfl⟩
   subst hw5
   have HS5 := HS0
   have HOX := HO0
   have x0 : w5.cell? ⟨X, 0, none⟩ = some (.int .i64 p.op) := HS5.out.box.cell 0
   have x1 : w5.cell? ⟨X, 1, none⟩ = some (.int .i64 p.w) := HS5.out.box.cell 1
   have x2 : w5.cell? ⟨X, 2, none⟩ = some (.int .i64 p.a) := HS5.out.box.cell 2
   have x3 : w5.cell? ⟨X, 3, none⟩ = some (.int .i64 p.b) := HS5.out.box.cell 3
   have x4 : w5.cell? ⟨X, 4, none⟩ = some (.int .i64 p.c) := HS5.out.box.cell 4
   have x5 : w5.cell? ⟨X, 5, none⟩ = some (.int .i64 p.imm) := HS5.out.box.cell 5
   have x6 : w5.cell? ⟨X, 6, none⟩ = some (.slice ru p.args.length rc) := HS5.out.box.cell 6
   have r0 : w5.cell? ⟨w.heap.size + 1, 0, none⟩ = some (.int .i64 0) := HS5.out.res.cell 0
   have r1 : w5.cell? ⟨w.heap.size + 1, 1, none⟩ = some (.int .i64 0) := HS5.out.res.cell 1
   have r2 : w5.cell? ⟨w.heap.size + 1, 2, none⟩ = some (.int .i64 0) := HS5.out.res.cell 2
   have r3 : w5.cell? ⟨w.heap.size + 1, 3, none⟩ = some (.int .i64 0) := HS5.out.res.cell 3
   have r4 : w5.cell? ⟨w.heap.size + 1, 4, none⟩ = some (.int .i64 0) := HS5.out.res.cell 4
   have r5 : w5.cell? ⟨w.heap.size + 1, 5, none⟩ = some (.int .i64 0) := HS5.out.res.cell 5
   have r6 : w5.cell? ⟨w.heap.size + 1, 6, none⟩ = some (.slice none 0 0) := HS5.out.res.cell 6
   have rf : ∀ o, w5.frozen? ⟨w.heap.size + 1, o, none⟩ = false := fun o => froz_of_heap HS5.out.res
   have hX0 := HS5.out.box.lt
   go_wp2_with fail
   have hr := (heap_set (o := 6) (v := .slice ru p.args.length rc) (heap_set (o := 5) (v := .int .i64 p.imm) (heap_set (o := 4) (v := .int .i64 p.c) (heap_set (o := 3) (v := .int .i64 p.b) (heap_set (o := 2) (v := .int .i64 p.a) (heap_set (o := 1) (v := .int .i64 p.w) (heap_set (o := 0) (v := .int .i64 p.op) HS5.out.res)))))))
   have BB : Below w.heap.size w (((((((w5.setCell ⟨w.heap.size + 1, 0, none⟩ (.int .i64 p.op)).setCell ⟨w.heap.size + 1, 1, none⟩ (.int .i64 p.w)).setCell ⟨w.heap.size + 1, 2, none⟩ (.int .i64 p.a)).setCell ⟨w.heap.size + 1, 3, none⟩ (.int .i64 p.b)).setCell ⟨w.heap.size + 1, 4, none⟩ (.int .i64 p.c)).setCell ⟨w.heap.size + 1, 5, none⟩ (.int .i64 p.imm)).setCell ⟨w.heap.size + 1, 6, none⟩ (.slice ru p.args.length rc)) := ((((((((((((((HS5.out.bel).setCell (by dsimp only; omega) _)).setCell (by dsimp only; omega) _)).setCell (by dsimp only; omega) _)).setCell (by dsimp only; omega) _)).setCell (by dsimp only; omega) _)).setCell (by dsimp only; omega) _)).setCell (by dsimp only; omega) _)
   have hzr : w5.heap.size ≤ ((((((((w5.setCell ⟨w.heap.size + 1, 0, none⟩ (.int .i64 p.op)).setCell ⟨w.heap.size + 1, 1, none⟩ (.int .i64 p.w)).setCell ⟨w.heap.size + 1, 2, none⟩ (.int .i64 p.a)).setCell ⟨w.heap.size + 1, 3, none⟩ (.int .i64 p.b)).setCell ⟨w.heap.size + 1, 4, none⟩ (.int .i64 p.c)).setCell ⟨w.heap.size + 1, 5, none⟩ (.int .i64 p.imm)).setCell ⟨w.heap.size + 1, 6, none⟩ (.slice ru p.args.length rc))).heap.size := by simp only [World.size_setCell]; exact Nat.le_refl _
   have SS : Still 2 w5 (((((((w5.setCell ⟨w.heap.size + 1, 0, none⟩ (.int .i64 p.op)).setCell ⟨w.heap.size + 1, 1, none⟩ (.int .i64 p.w)).setCell ⟨w.heap.size + 1, 2, none⟩ (.int .i64 p.a)).setCell ⟨w.heap.size + 1, 3, none⟩ (.int .i64 p.b)).setCell ⟨w.heap.size + 1, 4, none⟩ (.int .i64 p.c)).setCell ⟨w.heap.size + 1, 5, none⟩ (.int .i64 p.imm)).setCell ⟨w.heap.size + 1, 6, none⟩ (.slice ru p.args.length rc)) := (Still.trans (Still.set (k := 2) (o := 0) (v := .int .i64 p.op) HS5.out.res (by decide)) (Still.trans (Still.set (k := 2) (o := 1) (v := .int .i64 p.w) (heap_set (o := 0) (v := .int .i64 p.op) HS5.out.res) (by decide)) (Still.trans (Still.set (k := 2) (o := 2) (v := .int .i64 p.a) (heap_set (o := 1) (v := .int .i64 p.w) (heap_set (o := 0) (v := .int .i64 p.op) HS5.out.res)) (by decide)) (Still.trans (Still.set (k := 2) (o := 3) (v := .int .i64 p.b) (heap_set (o := 2) (v := .int .i64 p.a) (heap_set (o := 1) (v := .int .i64 p.w) (heap_set (o := 0) (v := .int .i64 p.op) HS5.out.res))) (by decide)) (Still.trans (Still.set (k := 2) (o := 4) (v := .int .i64 p.c) (heap_set (o := 3) (v := .int .i64 p.b) (heap_set (o := 2) (v := .int .i64 p.a) (heap_set (o := 1) (v := .int .i64 p.w) (heap_set (o := 0) (v := .int .i64 p.op) HS5.out.res)))) (by decide)) (Still.trans (Still.set (k := 2) (o := 5) (v := .int .i64 p.imm) (heap_set (o := 4) (v := .int .i64 p.c) (heap_set (o := 3) (v := .int .i64 p.b) (heap_set (o := 2) (v := .int .i64 p.a) (heap_set (o := 1) (v := .int .i64 p.w) (heap_set (o := 0) (v := .int .i64 p.op) HS5.out.res))))) (by decide)) (Still.set (k := 2) (o := 6) (v := .slice ru p.args.length rc) (heap_set (o := 5) (v := .int .i64 p.imm) (heap_set (o := 4) (v := .int .i64 p.c) (heap_set (o := 3) (v := .int .i64 p.b) (heap_set (o := 2) (v := .int .i64 p.a) (heap_set (o := 1) (v := .int .i64 p.w) (heap_set (o := 0) (v := .int .i64 p.op) HS5.out.res)))))) (by decide))))))))
   generalize (((((((w5.setCell ⟨w.heap.size + 1, 0, none⟩ (.int .i64 p.op)).setCell ⟨w.heap.size + 1, 1, none⟩ (.int .i64 p.w)).setCell ⟨w.heap.size + 1, 2, none⟩ (.int .i64 p.a)).setCell ⟨w.heap.size + 1, 3, none⟩ (.int .i64 p.b)).setCell ⟨w.heap.size + 1, 4, none⟩ (.int .i64 p.c)).setCell ⟨w.heap.size + 1, 5, none⟩ (.int .i64 p.imm)).setCell ⟨w.heap.size + 1, 6, none⟩ (.slice ru p.args.length rc)) = W9 at *
   refine bodyPost_ret (v := .agg #[.int .i64 p.op, .int .i64 p.w, .int .i64 p.a, .int .i64 p.b, .int .i64 p.c, .int .i64 p.imm, .slice ru p.args.length rc]) ((results_cell_row Tryd.results52 _ _ (w.heap.size + 1) 44 _ (0, 0) _ rfl hr Tryd.underlying44 rfl (by kernel_rfl)).trans (by rfl)) rfl ?_
   rw [HQ.out, z0.out, z1.out, z2.out, HA0.out]
   exact ⟨ru, rc, rfl, ⟨by simp, .inl rfl⟩, BB⟩
  ·have HSB : Hid (sbInst (rhoT tt) p = _) := SB _ h
   have hn1 : (opsD p).length = 1 := by rw [h]; rfl
   have HIT := HOI.out
   rw [h] at HIT
   have z1 : Hid (p.b = 0) := hb (by omega)
   have z2 : Hid (p.c = 0) := hc (by omega)
   obtain ⟨n0, e0, hl0⟩ := nat_of (HIT p.a (by simp))
   obtain ⟨g0, o0, hu0, hg0, k0⟩ := ints_get HMT.out hl0
   have hI0 : (n0 : Int) < tt.length := by omega
   have HQ : Hid (sbInst (rhoT tt) p = ⟨p.op, p.w, tt.getD n0 0, 0, 0, p.imm, []⟩) := by
    show _ = _
    rw [HSB.out]
    rw [e0]
    simp only [List.map_cons, List.map_nil, rho_at hl0]
    rfl
   generalize hv0 : tt.getD n0 0 = v0 at *
   subst hu0
   try rw [hn1]
   clear HSB SB hn1 HOI HF hop hargs ha hb hc h HMT HIK HIT hl0 hv0
   have HS0 := HS4
   have HO0 := HO4
   clear HS4 HO4
   have q0 : w4.cell? ⟨w.heap.size, 2, none⟩ = some (.int .i64 (n0 : Int)) := by rw [← e0]; exact HS0.out.par.cell 2
   have t0 : w4.cell? ⟨g0, o0 + n0, none⟩ = some (.int .i64 v0) := (cell_block (HS0.out.bel.block g0 hg0)).trans k0
   have X0 : w4.cell? ⟨X, 2, none⟩ = some (.int .i64 p.a) := HS0.out.box.cell 2
   have Xf : ∀ o, w4.frozen? ⟨X, o, none⟩ = false := fun o => froz_of_heap HS0.out.box
   have HS1 : Hid (SSt w (w4.setCell ⟨X, 2, none⟩ (.int .i64 v0)) X 44 #[.int .i64 p.op, .int .i64 p.w, .int .i64 p.a, .int .i64 p.b, .int .i64 p.c, .int .i64 p.imm, .slice iu p.args.length iq] #[.int .i64 p.op, .int .i64 p.w, .int .i64 v0, .int .i64 p.b, .int .i64 p.c, .int .i64 p.imm, .slice ru p.args.length rc] #[.int .i64 0, .int .i64 0, .int .i64 0, .int .i64 0, .int .i64 0, .int .i64 0, .slice none 0 0]) := HS0.out.set 2 _
   have HO1 : Hid (OwnI (w4.setCell ⟨X, 2, none⟩ (.int .i64 v0)) (w.heap.size + 2) X ru p.args) := HO0.out.still (Still.set (k := 2) HS0.out.box (by decide)) (by decide)
   go_upto_region 15 with fail
   clear q0 t0 X0 hI0 Xf HS0 HO0 e0 k0 xo hopb
   generalize (w4.setCell ⟨X, 2, none⟩ (.int .i64 v0)) = w5 at *
   clear w4
   have HS5 := HS1
   have HOX := HO1
   clear HS1 HO1
   have x0 : w5.cell? ⟨X, 0, none⟩ = some (.int .i64 p.op) := HS5.out.box.cell 0
   have x1 : w5.cell? ⟨X, 1, none⟩ = some (.int .i64 p.w) := HS5.out.box.cell 1
   have x2 : w5.cell? ⟨X, 2, none⟩ = some (.int .i64 v0) := HS5.out.box.cell 2
   have x3 : w5.cell? ⟨X, 3, none⟩ = some (.int .i64 p.b) := HS5.out.box.cell 3
   have x4 : w5.cell? ⟨X, 4, none⟩ = some (.int .i64 p.c) := HS5.out.box.cell 4
   have x5 : w5.cell? ⟨X, 5, none⟩ = some (.int .i64 p.imm) := HS5.out.box.cell 5
   have x6 : w5.cell? ⟨X, 6, none⟩ = some (.slice ru p.args.length rc) := HS5.out.box.cell 6
   have r0 : w5.cell? ⟨w.heap.size + 1, 0, none⟩ = some (.int .i64 0) := HS5.out.res.cell 0
   have r1 : w5.cell? ⟨w.heap.size + 1, 1, none⟩ = some (.int .i64 0) := HS5.out.res.cell 1
   have r2 : w5.cell? ⟨w.heap.size + 1, 2, none⟩ = some (.int .i64 0) := HS5.out.res.cell 2
   have r3 : w5.cell? ⟨w.heap.size + 1, 3, none⟩ = some (.int .i64 0) := HS5.out.res.cell 3
   have r4 : w5.cell? ⟨w.heap.size + 1, 4, none⟩ = some (.int .i64 0) := HS5.out.res.cell 4
   have r5 : w5.cell? ⟨w.heap.size + 1, 5, none⟩ = some (.int .i64 0) := HS5.out.res.cell 5
   have r6 : w5.cell? ⟨w.heap.size + 1, 6, none⟩ = some (.slice none 0 0) := HS5.out.res.cell 6
   have rf : ∀ o, w5.frozen? ⟨w.heap.size + 1, o, none⟩ = false := fun o => froz_of_heap HS5.out.res
   have hX0 := HS5.out.box.lt
   go_wp2_with fail
   have hr := (heap_set (o := 6) (v := .slice ru p.args.length rc) (heap_set (o := 5) (v := .int .i64 p.imm) (heap_set (o := 4) (v := .int .i64 p.c) (heap_set (o := 3) (v := .int .i64 p.b) (heap_set (o := 2) (v := .int .i64 v0) (heap_set (o := 1) (v := .int .i64 p.w) (heap_set (o := 0) (v := .int .i64 p.op) HS5.out.res)))))))
   have BB : Below w.heap.size w (((((((w5.setCell ⟨w.heap.size + 1, 0, none⟩ (.int .i64 p.op)).setCell ⟨w.heap.size + 1, 1, none⟩ (.int .i64 p.w)).setCell ⟨w.heap.size + 1, 2, none⟩ (.int .i64 v0)).setCell ⟨w.heap.size + 1, 3, none⟩ (.int .i64 p.b)).setCell ⟨w.heap.size + 1, 4, none⟩ (.int .i64 p.c)).setCell ⟨w.heap.size + 1, 5, none⟩ (.int .i64 p.imm)).setCell ⟨w.heap.size + 1, 6, none⟩ (.slice ru p.args.length rc)) := ((((((((((((((HS5.out.bel).setCell (by dsimp only; omega) _)).setCell (by dsimp only; omega) _)).setCell (by dsimp only; omega) _)).setCell (by dsimp only; omega) _)).setCell (by dsimp only; omega) _)).setCell (by dsimp only; omega) _)).setCell (by dsimp only; omega) _)
   have hzr : w5.heap.size ≤ ((((((((w5.setCell ⟨w.heap.size + 1, 0, none⟩ (.int .i64 p.op)).setCell ⟨w.heap.size + 1, 1, none⟩ (.int .i64 p.w)).setCell ⟨w.heap.size + 1, 2, none⟩ (.int .i64 v0)).setCell ⟨w.heap.size + 1, 3, none⟩ (.int .i64 p.b)).setCell ⟨w.heap.size + 1, 4, none⟩ (.int .i64 p.c)).setCell ⟨w.heap.size + 1, 5, none⟩ (.int .i64 p.imm)).setCell ⟨w.heap.size + 1, 6, none⟩ (.slice ru p.args.length rc))).heap.size := by simp only [World.size_setCell]; exact Nat.le_refl _
   have SS : Still 2 w5 (((((((w5.setCell ⟨w.heap.size + 1, 0, none⟩ (.int .i64 p.op)).setCell ⟨w.heap.size + 1, 1, none⟩ (.int .i64 p.w)).setCell ⟨w.heap.size + 1, 2, none⟩ (.int .i64 v0)).setCell ⟨w.heap.size + 1, 3, none⟩ (.int .i64 p.b)).setCell ⟨w.heap.size + 1, 4, none⟩ (.int .i64 p.c)).setCell ⟨w.heap.size + 1, 5, none⟩ (.int .i64 p.imm)).setCell ⟨w.heap.size + 1, 6, none⟩ (.slice ru p.args.length rc)) := (Still.trans (Still.set (k := 2) (o := 0) (v := .int .i64 p.op) HS5.out.res (by decide)) (Still.trans (Still.set (k := 2) (o := 1) (v := .int .i64 p.w) (heap_set (o := 0) (v := .int .i64 p.op) HS5.out.res) (by decide)) (Still.trans (Still.set (k := 2) (o := 2) (v := .int .i64 v0) (heap_set (o := 1) (v := .int .i64 p.w) (heap_set (o := 0) (v := .int .i64 p.op) HS5.out.res)) (by decide)) (Still.trans (Still.set (k := 2) (o := 3) (v := .int .i64 p.b) (heap_set (o := 2) (v := .int .i64 v0) (heap_set (o := 1) (v := .int .i64 p.w) (heap_set (o := 0) (v := .int .i64 p.op) HS5.out.res))) (by decide)) (Still.trans (Still.set (k := 2) (o := 4) (v := .int .i64 p.c) (heap_set (o := 3) (v := .int .i64 p.b) (heap_set (o := 2) (v := .int .i64 v0) (heap_set (o := 1) (v := .int .i64 p.w) (heap_set (o := 0) (v := .int .i64 p.op) HS5.out.res)))) (by decide)) (Still.trans (Still.set (k := 2) (o := 5) (v := .int .i64 p.imm) (heap_set (o := 4) (v := .int .i64 p.c) (heap_set (o := 3) (v := .int .i64 p.b) (heap_set (o := 2) (v := .int .i64 v0) (heap_set (o := 1) (v := .int .i64 p.w) (heap_set (o := 0) (v := .int .i64 p.op) HS5.out.res))))) (by decide)) (Still.set (k := 2) (o := 6) (v := .slice ru p.args.length rc) (heap_set (o := 5) (v := .int .i64 p.imm) (heap_set (o := 4) (v := .int .i64 p.c) (heap_set (o := 3) (v := .int .i64 p.b) (heap_set (o := 2) (v := .int .i64 v0) (heap_set (o := 1) (v := .int .i64 p.w) (heap_set (o := 0) (v := .int .i64 p.op) HS5.out.res)))))) (by decide))))))))
   generalize (((((((w5.setCell ⟨w.heap.size + 1, 0, none⟩ (.int .i64 p.op)).setCell ⟨w.heap.size + 1, 1, none⟩ (.int .i64 p.w)).setCell ⟨w.heap.size + 1, 2, none⟩ (.int .i64 v0)).setCell ⟨w.heap.size + 1, 3, none⟩ (.int .i64 p.b)).setCell ⟨w.heap.size + 1, 4, none⟩ (.int .i64 p.c)).setCell ⟨w.heap.size + 1, 5, none⟩ (.int .i64 p.imm)).setCell ⟨w.heap.size + 1, 6, none⟩ (.slice ru p.args.length rc)) = W9 at *
   refine bodyPost_ret (v := .agg #[.int .i64 p.op, .int .i64 p.w, .int .i64 v0, .int .i64 p.b, .int .i64 p.c, .int .i64 p.imm, .slice ru p.args.length rc]) ((results_cell_row Tryd.results52 _ _ (w.heap.size + 1) 44 _ (0, 0) _ rfl hr Tryd.underlying44 rfl (by kernel_rfl)).trans (by rfl)) rfl ?_
   rw [HQ.out, z1.out, z2.out, HA0.out]
   exact ⟨ru, rc, rfl, ⟨by simp, .inl rfl⟩, BB⟩
  ·have HSB : Hid (sbInst (rhoT tt) p = _) := SB _ h
   have hn2 : (opsD p).length = 2 := by rw [h]; rfl
   have HIT := HOI.out
   rw [h] at HIT
   have z2 : Hid (p.c = 0) := hc (by omega)
   obtain ⟨n0, e0, hl0⟩ := nat_of (HIT p.a (by simp))
   obtain ⟨g0, o0, hu0, hg0, k0⟩ := ints_get HMT.out hl0
   have hI0 : (n0 : Int) < tt.length := by omega
   obtain ⟨n1, e1, hl1⟩ := nat_of (HIT p.b (by simp))
   obtain ⟨g1, o1, hu1, hg1, k1⟩ := ints_get HMT.out hl1
   have hI1 : (n1 : Int) < tt.length := by omega
   obtain ⟨eg1, eo1⟩ : g1 = g0 ∧ o1 = o0 := by rw [hu0] at hu1; simp at hu1; exact ⟨hu1.1.symm, hu1.2.symm⟩
   rw [eg1, eo1] at k1
   rw [eg1] at hg1
   clear eg1 eo1 hu1
   have HQ : Hid (sbInst (rhoT tt) p = ⟨p.op, p.w, tt.getD n0 0, tt.getD n1 0, 0, p.imm, []⟩) := by
    show _ = _
    rw [HSB.out]
    rw [e0, e1]
    simp only [List.map_cons, List.map_nil, rho_at hl0, rho_at hl1]
    rfl
   generalize hv0 : tt.getD n0 0 = v0 at *
   generalize hv1 : tt.getD n1 0 = v1 at *
   subst hu0
   try rw [hn2]
   clear HSB SB hn2 HOI HF hop hargs ha hb hc h HMT HIK HIT hl0 hv0 hl1 hv1
   have HS0 := HS4
   have HO0 := HO4
   clear HS4 HO4
   have q0 : w4.cell? ⟨w.heap.size, 2, none⟩ = some (.int .i64 (n0 : Int)) := by rw [← e0]; exact HS0.out.par.cell 2
   have t0 : w4.cell? ⟨g0, o0 + n0, none⟩ = some (.int .i64 v0) := (cell_block (HS0.out.bel.block g0 hg0)).trans k0
   have X0 : w4.cell? ⟨X, 2, none⟩ = some (.int .i64 p.a) := HS0.out.box.cell 2
   have Xf : ∀ o, w4.frozen? ⟨X, o, none⟩ = false := fun o => froz_of_heap HS0.out.box
   have HS1 : Hid (SSt w (w4.setCell ⟨X, 2, none⟩ (.int .i64 v0)) X 44 #[.int .i64 p.op, .int .i64 p.w, .int .i64 p.a, .int .i64 p.b, .int .i64 p.c, .int .i64 p.imm, .slice iu p.args.length iq] #[.int .i64 p.op, .int .i64 p.w, .int .i64 v0, .int .i64 p.b, .int .i64 p.c, .int .i64 p.imm, .slice ru p.args.length rc] #[.int .i64 0, .int .i64 0, .int .i64 0, .int .i64 0, .int .i64 0, .int .i64 0, .slice none 0 0]) := HS0.out.set 2 _
   have HO1 : Hid (OwnI (w4.setCell ⟨X, 2, none⟩ (.int .i64 v0)) (w.heap.size + 2) X ru p.args) := HO0.out.still (Still.set (k := 2) HS0.out.box (by decide)) (by decide)
   go_upto_region 11 with fail
   clear q0 t0 X0 hI0 Xf HS0 HO0 e0 k0 xo hopb
   generalize (w4.setCell ⟨X, 2, none⟩ (.int .i64 v0)) = w5 at *
   clear w4
   have q1 : w5.cell? ⟨w.heap.size, 3, none⟩ = some (.int .i64 (n1 : Int)) := by rw [← e1]; exact HS1.out.par.cell 3
   have t1 : w5.cell? ⟨g0, o0 + n1, none⟩ = some (.int .i64 v1) := (cell_block (HS1.out.bel.block g0 hg1)).trans k1
   have X1 : w5.cell? ⟨X, 3, none⟩ = some (.int .i64 p.b) := HS1.out.box.cell 3
   have Xf : ∀ o, w5.frozen? ⟨X, o, none⟩ = false := fun o => froz_of_heap HS1.out.box
   have HS2 : Hid (SSt w (w5.setCell ⟨X, 3, none⟩ (.int .i64 v1)) X 44 #[.int .i64 p.op, .int .i64 p.w, .int .i64 p.a, .int .i64 p.b, .int .i64 p.c, .int .i64 p.imm, .slice iu p.args.length iq] #[.int .i64 p.op, .int .i64 p.w, .int .i64 v0, .int .i64 v1, .int .i64 p.c, .int .i64 p.imm, .slice ru p.args.length rc] #[.int .i64 0, .int .i64 0, .int .i64 0, .int .i64 0, .int .i64 0, .int .i64 0, .slice none 0 0]) := HS1.out.set 3 _
   have HO2 : Hid (OwnI (w5.setCell ⟨X, 3, none⟩ (.int .i64 v1)) (w.heap.size + 2) X ru p.args) := HO1.out.still (Still.set (k := 2) HS1.out.box (by decide)) (by decide)
   go_upto_region 15 with fail
   clear q1 t1 X1 hI1 Xf HS1 HO1 e1 k1
   generalize (w5.setCell ⟨X, 3, none⟩ (.int .i64 v1)) = w6 at *
   clear w5
   have HS5 := HS2
   have HOX := HO2
   clear HS2 HO2
   obtain ⟨wf, hwf⟩ : ∃ wf, wf = w6 := ⟨_, rfl⟩
   rw [← hwf] at HS5 HOX ⊢
   clear hwf w6
   obtain ⟨w5, hwf⟩ : ∃ w5, w5 = wf := ⟨_, rfl⟩
   rw [← hwf] at HS5 HOX ⊢
   clear hwf wf
   have x0 : w5.cell? ⟨X, 0, none⟩ = some (.int .i64 p.op) := HS5.out.box.cell 0
   have x1 : w5.cell? ⟨X, 1, none⟩ = some (.int .i64 p.w) := HS5.out.box.cell 1
   have x2 : w5.cell? ⟨X, 2, none⟩ = some (.int .i64 v0) := HS5.out.box.cell 2
   have x3 : w5.cell? ⟨X, 3, none⟩ = some (.int .i64 v1) := HS5.out.box.cell 3
   have x4 : w5.cell? ⟨X, 4, none⟩ = some (.int .i64 p.c) := HS5.out.box.cell 4
   have x5 : w5.cell? ⟨X, 5, none⟩ = some (.int .i64 p.imm) := HS5.out.box.cell 5
   have x6 : w5.cell? ⟨X, 6, none⟩ = some (.slice ru p.args.length rc) := HS5.out.box.cell 6
   have r0 : w5.cell? ⟨w.heap.size + 1, 0, none⟩ = some (.int .i64 0) := HS5.out.res.cell 0
   have r1 : w5.cell? ⟨w.heap.size + 1, 1, none⟩ = some (.int .i64 0) := HS5.out.res.cell 1
   have r2 : w5.cell? ⟨w.heap.size + 1, 2, none⟩ = some (.int .i64 0) := HS5.out.res.cell 2
   have r3 : w5.cell? ⟨w.heap.size + 1, 3, none⟩ = some (.int .i64 0) := HS5.out.res.cell 3
   have r4 : w5.cell? ⟨w.heap.size + 1, 4, none⟩ = some (.int .i64 0) := HS5.out.res.cell 4
   have r5 : w5.cell? ⟨w.heap.size + 1, 5, none⟩ = some (.int .i64 0) := HS5.out.res.cell 5
   have r6 : w5.cell? ⟨w.heap.size + 1, 6, none⟩ = some (.slice none 0 0) := HS5.out.res.cell 6
   have rf : ∀ o, w5.frozen? ⟨w.heap.size + 1, o, none⟩ = false := fun o => froz_of_heap HS5.out.res
   have hX0 := HS5.out.box.lt
   go_wp2_with fail
   have hr := (heap_set (o := 6) (v := .slice ru p.args.length rc) (heap_set (o := 5) (v := .int .i64 p.imm) (heap_set (o := 4) (v := .int .i64 p.c) (heap_set (o := 3) (v := .int .i64 v1) (heap_set (o := 2) (v := .int .i64 v0) (heap_set (o := 1) (v := .int .i64 p.w) (heap_set (o := 0) (v := .int .i64 p.op) HS5.out.res)))))))
   have BB : Below w.heap.size w (((((((w5.setCell ⟨w.heap.size + 1, 0, none⟩ (.int .i64 p.op)).setCell ⟨w.heap.size + 1, 1, none⟩ (.int .i64 p.w)).setCell ⟨w.heap.size + 1, 2, none⟩ (.int .i64 v0)).setCell ⟨w.heap.size + 1, 3, none⟩ (.int .i64 v1)).setCell ⟨w.heap.size + 1, 4, none⟩ (.int .i64 p.c)).setCell ⟨w.heap.size + 1, 5, none⟩ (.int .i64 p.imm)).setCell ⟨w.heap.size + 1, 6, none⟩ (.slice ru p.args.length rc)) := ((((((((((((((HS5.out.bel).setCell (by dsimp only; omega) _)).setCell (by dsimp only; omega) _)).setCell (by dsimp only; omega) _)).setCell (by dsimp only; omega) _)).setCell (by dsimp only; omega) _)).setCell (by dsimp only; omega) _)).setCell (by dsimp only; omega) _)
   have hzr : w5.heap.size ≤ ((((((((w5.setCell ⟨w.heap.size + 1, 0, none⟩ (.int .i64 p.op)).setCell ⟨w.heap.size + 1, 1, none⟩ (.int .i64 p.w)).setCell ⟨w.heap.size + 1, 2, none⟩ (.int .i64 v0)).setCell ⟨w.heap.size + 1, 3, none⟩ (.int .i64 v1)).setCell ⟨w.heap.size + 1, 4, none⟩ (.int .i64 p.c)).setCell ⟨w.heap.size + 1, 5, none⟩ (.int .i64 p.imm)).setCell ⟨w.heap.size + 1, 6, none⟩ (.slice ru p.args.length rc))).heap.size := by simp only [World.size_setCell]; exact Nat.le_refl _
   have SS : Still 2 w5 (((((((w5.setCell ⟨w.heap.size + 1, 0, none⟩ (.int .i64 p.op)).setCell ⟨w.heap.size + 1, 1, none⟩ (.int .i64 p.w)).setCell ⟨w.heap.size + 1, 2, none⟩ (.int .i64 v0)).setCell ⟨w.heap.size + 1, 3, none⟩ (.int .i64 v1)).setCell ⟨w.heap.size + 1, 4, none⟩ (.int .i64 p.c)).setCell ⟨w.heap.size + 1, 5, none⟩ (.int .i64 p.imm)).setCell ⟨w.heap.size + 1, 6, none⟩ (.slice ru p.args.length rc)) := (Still.trans (Still.set (k := 2) (o := 0) (v := .int .i64 p.op) HS5.out.res (by decide)) (Still.trans (Still.set (k := 2) (o := 1) (v := .int .i64 p.w) (heap_set (o := 0) (v := .int .i64 p.op) HS5.out.res) (by decide)) (Still.trans (Still.set (k := 2) (o := 2) (v := .int .i64 v0) (heap_set (o := 1) (v := .int .i64 p.w) (heap_set (o := 0) (v := .int .i64 p.op) HS5.out.res)) (by decide)) (Still.trans (Still.set (k := 2) (o := 3) (v := .int .i64 v1) (heap_set (o := 2) (v := .int .i64 v0) (heap_set (o := 1) (v := .int .i64 p.w) (heap_set (o := 0) (v := .int .i64 p.op) HS5.out.res))) (by decide)) (Still.trans (Still.set (k := 2) (o := 4) (v := .int .i64 p.c) (heap_set (o := 3) (v := .int .i64 v1) (heap_set (o := 2) (v := .int .i64 v0) (heap_set (o := 1) (v := .int .i64 p.w) (heap_set (o := 0) (v := .int .i64 p.op) HS5.out.res)))) (by decide)) (Still.trans (Still.set (k := 2) (o := 5) (v := .int .i64 p.imm) (heap_set (o := 4) (v := .int .i64 p.c) (heap_set (o := 3) (v := .int .i64 v1) (heap_set (o := 2) (v := .int .i64 v0) (heap_set (o := 1) (v := .int .i64 p.w) (heap_set (o := 0) (v := .int .i64 p.op) HS5.out.res))))) (by decide)) (Still.set (k := 2) (o := 6) (v := .slice ru p.args.length rc) (heap_set (o := 5) (v := .int .i64 p.imm) (heap_set (o := 4) (v := .int .i64 p.c) (heap_set (o := 3) (v := .int .i64 v1) (heap_set (o := 2) (v := .int .i64 v0) (heap_set (o := 1) (v := .int .i64 p.w) (heap_set (o := 0) (v := .int .i64 p.op) HS5.out.res)))))) (by decide))))))))
   generalize (((((((w5.setCell ⟨w.heap.size + 1, 0, none⟩ (.int .i64 p.op)).setCell ⟨w.heap.size + 1, 1, none⟩ (.int .i64 p.w)).setCell ⟨w.heap.size + 1, 2, none⟩ (.int .i64 v0)).setCell ⟨w.heap.size + 1, 3, none⟩ (.int .i64 v1)).setCell ⟨w.heap.size + 1, 4, none⟩ (.int .i64 p.c)).setCell ⟨w.heap.size + 1, 5, none⟩ (.int .i64 p.imm)).setCell ⟨w.heap.size + 1, 6, none⟩ (.slice ru p.args.length rc)) = W9 at *
   refine bodyPost_ret (v := .agg #[.int .i64 p.op, .int .i64 p.w, .int .i64 v0, .int .i64 v1, .int .i64 p.c, .int .i64 p.imm, .slice ru p.args.length rc]) ((results_cell_row Tryd.results52 _ _ (w.heap.size + 1) 44 _ (0, 0) _ rfl hr Tryd.underlying44 rfl (by kernel_rfl)).trans (by rfl)) rfl ?_
   rw [HQ.out, z2.out, HA0.out]
   exact ⟨ru, rc, rfl, ⟨by simp, .inl rfl⟩, BB⟩
  ·have HSB : Hid (sbInst (rhoT tt) p = _) := SB _ h
   have hn3 : (opsD p).length = 3 := by rw [h]; rfl
   have HIT := HOI.out
   rw [h] at HIT
   obtain ⟨n0, e0, hl0⟩ := nat_of (HIT p.a (by simp))
   obtain ⟨g0, o0, hu0, hg0, k0⟩ := ints_get HMT.out hl0
   have hI0 : (n0 : Int) < tt.length := by omega
   obtain ⟨n1, e1, hl1⟩ := nat_of (HIT p.b (by simp))
   obtain ⟨g1, o1, hu1, hg1, k1⟩ := ints_get HMT.out hl1
   have hI1 : (n1 : Int) < tt.length := by omega
   obtain ⟨n2, e2, hl2⟩ := nat_of (HIT p.c (by simp))
   obtain ⟨g2, o2, hu2, hg2, k2⟩ := ints_get HMT.out hl2
   have hI2 : (n2 : Int) < tt.length := by omega
   obtain ⟨eg1, eo1⟩ : g1 = g0 ∧ o1 = o0 := by rw [hu0] at hu1; simp at hu1; exact ⟨hu1.1.symm, hu1.2.symm⟩
   rw [eg1, eo1] at k1
   rw [eg1] at hg1
   clear eg1 eo1 hu1
   obtain ⟨eg2, eo2⟩ : g2 = g0 ∧ o2 = o0 := by rw [hu0] at hu2; simp at hu2; exact ⟨hu2.1.symm, hu2.2.symm⟩
   rw [eg2, eo2] at k2
   rw [eg2] at hg2
   clear eg2 eo2 hu2
   have HQ : Hid (sbInst (rhoT tt) p = ⟨p.op, p.w, tt.getD n0 0, tt.getD n1 0, tt.getD n2 0, p.imm, []⟩) := by
    show _ = _
    rw [HSB.out]
    rw [e0, e1, e2]
    simp only [List.map_cons, List.map_nil, rho_at hl0, rho_at hl1, rho_at hl2]
    rfl
   generalize hv0 : tt.getD n0 0 = v0 at *
   generalize hv1 : tt.getD n1 0 = v1 at *
   generalize hv2 : tt.getD n2 0 = v2 at *
   subst hu0
   try rw [hn3]
   clear HSB SB hn3 HOI HF hop hargs ha hb hc h HMT HIK HIT hl0 hv0 hl1 hv1 hl2 hv2
   have HS0 := HS4
   have HO0 := HO4
   clear HS4 HO4
   have q0 : w4.cell? ⟨w.heap.size, 2, none⟩ = some (.int .i64 (n0 : Int)) := by rw [← e0]; exact HS0.out.par.cell 2
   have t0 : w4.cell? ⟨g0, o0 + n0, none⟩ = some (.int .i64 v0) := (cell_block (HS0.out.bel.block g0 hg0)).trans k0
   have X0 : w4.cell? ⟨X, 2, none⟩ = some (.int .i64 p.a) := HS0.out.box.cell 2
   have Xf : ∀ o, w4.frozen? ⟨X, o, none⟩ = false := fun o => froz_of_heap HS0.out.box
   have HS1 : Hid (SSt w (w4.setCell ⟨X, 2, none⟩ (.int .i64 v0)) X 44 #[.int .i64 p.op, .int .i64 p.w, .int .i64 p.a, .int .i64 p.b, .int .i64 p.c, .int .i64 p.imm, .slice iu p.args.length iq] #[.int .i64 p.op, .int .i64 p.w, .int .i64 v0, .int .i64 p.b, .int .i64 p.c, .int .i64 p.imm, .slice ru p.args.length rc] #[.int .i64 0, .int .i64 0, .int .i64 0, .int .i64 0, .int .i64 0, .int .i64 0, .slice none 0 0]) := HS0.out.set 2 _
   have HO1 : Hid (OwnI (w4.setCell ⟨X, 2, none⟩ (.int .i64 v0)) (w.heap.size + 2) X ru p.args) := HO0.out.still (Still.set (k := 2) HS0.out.box (by decide)) (by decide)
   go_upto_region 11 with fail
   clear q0 t0 X0 hI0 Xf HS0 HO0 e0 k0 xo hopb
   generalize (w4.setCell ⟨X, 2, none⟩ (.int .i64 v0)) = w5 at *
   clear w4
   have q1 : w5.cell? ⟨w.heap.size, 3, none⟩ = some (.int .i64 (n1 : Int)) := by rw [← e1]; exact HS1.out.par.cell 3
   have t1 : w5.cell? ⟨g0, o0 + n1, none⟩ = some (.int .i64 v1) := (cell_block (HS1.out.bel.block g0 hg1)).trans k1
   have X1 : w5.cell? ⟨X, 3, none⟩ = some (.int .i64 p.b) := HS1.out.box.cell 3
   have Xf : ∀ o, w5.frozen? ⟨X, o, none⟩ = false := fun o => froz_of_heap HS1.out.box
   have HS2 : Hid (SSt w (w5.setCell ⟨X, 3, none⟩ (.int .i64 v1)) X 44 #[.int .i64 p.op, .int .i64 p.w, .int .i64 p.a, .int .i64 p.b, .int .i64 p.c, .int .i64 p.imm, .slice iu p.args.length iq] #[.int .i64 p.op, .int .i64 p.w, .int .i64 v0, .int .i64 v1, .int .i64 p.c, .int .i64 p.imm, .slice ru p.args.length rc] #[.int .i64 0, .int .i64 0, .int .i64 0, .int .i64 0, .int .i64 0, .int .i64 0, .slice none 0 0]) := HS1.out.set 3 _
   have HO2 : Hid (OwnI (w5.setCell ⟨X, 3, none⟩ (.int .i64 v1)) (w.heap.size + 2) X ru p.args) := HO1.out.still (Still.set (k := 2) HS1.out.box (by decide)) (by decide)
   go_upto_region 13 with fail
   clear q1 t1 X1 hI1 Xf HS1 HO1 e1 k1
   generalize (w5.setCell ⟨X, 3, none⟩ (.int .i64 v1)) = w6 at *
   clear w5
   have q2 : w6.cell? ⟨w.heap.size, 4, none⟩ = some (.int .i64 (n2 : Int)) := by rw [← e2]; exact HS2.out.par.cell 4
   have t2 : w6.cell? ⟨g0, o0 + n2, none⟩ = some (.int .i64 v2) := (cell_block (HS2.out.bel.block g0 hg2)).trans k2
   have X2 : w6.cell? ⟨X, 4, none⟩ = some (.int .i64 p.c) := HS2.out.box.cell 4
   have Xf : ∀ o, w6.frozen? ⟨X, o, none⟩ = false := fun o => froz_of_heap HS2.out.box
   have HS3 : Hid (SSt w (w6.setCell ⟨X, 4, none⟩ (.int .i64 v2)) X 44 #[.int .i64 p.op, .int .i64 p.w, .int .i64 p.a, .int .i64 p.b, .int .i64 p.c, .int .i64 p.imm, .slice iu p.args.length iq] #[.int .i64 p.op, .int .i64 p.w, .int .i64 v0, .int .i64 v1, .int .i64 v2, .int .i64 p.imm, .slice ru p.args.length rc] #[.int .i64 0, .int .i64 0, .int .i64 0, .int .i64 0, .int .i64 0, .int .i64 0, .slice none 0 0]) := HS2.out.set 4 _
   have HO3 : Hid (OwnI (w6.setCell ⟨X, 4, none⟩ (.int .i64 v2)) (w.heap.size + 2) X ru p.args) := HO2.out.still (Still.set (k := 2) HS2.out.box (by decide)) (by decide)
   go_upto_region 15 with fail
   clear q2 t2 X2 hI2 Xf HS2 HO2 e2 k2
   generalize (w6.setCell ⟨X, 4, none⟩ (.int .i64 v2)) = w7 at *
   clear w6
   have HS5 := HS3
   have HOX := HO3
   clear HS3 HO3
   obtain ⟨wf, hwf⟩ : ∃ wf, wf = w7 := ⟨_, rfl⟩
   rw [← hwf] at HS5 HOX ⊢
   clear hwf w7
   obtain ⟨w5, hwf⟩ : ∃ w5, w5 = wf := ⟨_, rfl⟩
   rw [← hwf] at HS5 HOX ⊢
   clear hwf wf
   have x0 : w5.cell? ⟨X, 0, none⟩ = some (.int .i64 p.op) := HS5.out.box.cell 0
   have x1 : w5.cell? ⟨X, 1, none⟩ = some (.int .i64 p.w) := HS5.out.box.cell 1
   have x2 : w5.cell? ⟨X, 2, none⟩ = some (.int .i64 v0) := HS5.out.box.cell 2
   have x3 : w5.cell? ⟨X, 3, none⟩ = some (.int .i64 v1) := HS5.out.box.cell 3
   have x4 : w5.cell? ⟨X, 4, none⟩ = some (.int .i64 v2) := HS5.out.box.cell 4
   have x5 : w5.cell? ⟨X, 5, none⟩ = some (.int .i64 p.imm) := HS5.out.box.cell 5
   have x6 : w5.cell? ⟨X, 6, none⟩ = some (.slice ru p.args.length rc) := HS5.out.box.cell 6
   have r0 : w5.cell? ⟨w.heap.size + 1, 0, none⟩ = some (.int .i64 0) := HS5.out.res.cell 0
   have r1 : w5.cell? ⟨w.heap.size + 1, 1, none⟩ = some (.int .i64 0) := HS5.out.res.cell 1
   have r2 : w5.cell? ⟨w.heap.size + 1, 2, none⟩ = some (.int .i64 0) := HS5.out.res.cell 2
   have r3 : w5.cell? ⟨w.heap.size + 1, 3, none⟩ = some (.int .i64 0) := HS5.out.res.cell 3
   have r4 : w5.cell? ⟨w.heap.size + 1, 4, none⟩ = some (.int .i64 0) := HS5.out.res.cell 4
   have r5 : w5.cell? ⟨w.heap.size + 1, 5, none⟩ = some (.int .i64 0) := HS5.out.res.cell 5
   have r6 : w5.cell? ⟨w.heap.size + 1, 6, none⟩ = some (.slice none 0 0) := HS5.out.res.cell 6
   have rf : ∀ o, w5.frozen? ⟨w.heap.size + 1, o, none⟩ = false := fun o => froz_of_heap HS5.out.res
   have hX0 := HS5.out.box.lt
   go_wp2_with fail
   have hr := (heap_set (o := 6) (v := .slice ru p.args.length rc) (heap_set (o := 5) (v := .int .i64 p.imm) (heap_set (o := 4) (v := .int .i64 v2) (heap_set (o := 3) (v := .int .i64 v1) (heap_set (o := 2) (v := .int .i64 v0) (heap_set (o := 1) (v := .int .i64 p.w) (heap_set (o := 0) (v := .int .i64 p.op) HS5.out.res)))))))
   have BB : Below w.heap.size w (((((((w5.setCell ⟨w.heap.size + 1, 0, none⟩ (.int .i64 p.op)).setCell ⟨w.heap.size + 1, 1, none⟩ (.int .i64 p.w)).setCell ⟨w.heap.size + 1, 2, none⟩ (.int .i64 v0)).setCell ⟨w.heap.size + 1, 3, none⟩ (.int .i64 v1)).setCell ⟨w.heap.size + 1, 4, none⟩ (.int .i64 v2)).setCell ⟨w.heap.size + 1, 5, none⟩ (.int .i64 p.imm)).setCell ⟨w.heap.size + 1, 6, none⟩ (.slice ru p.args.length rc)) := ((((((((((((((HS5.out.bel).setCell (by dsimp only; omega) _)).setCell (by dsimp only; omega) _)).setCell (by dsimp only; omega) _)).setCell (by dsimp only; omega) _)).setCell (by dsimp only; omega) _)).setCell (by dsimp only; omega) _)).setCell (by dsimp only; omega) _)
   have hzr : w5.heap.size ≤ ((((((((w5.setCell ⟨w.heap.size + 1, 0, none⟩ (.int .i64 p.op)).setCell ⟨w.heap.size + 1, 1, none⟩ (.int .i64 p.w)).setCell ⟨w.heap.size + 1, 2, none⟩ (.int .i64 v0)).setCell ⟨w.heap.size + 1, 3, none⟩ (.int .i64 v1)).setCell ⟨w.heap.size + 1, 4, none⟩ (.int .i64 v2)).setCell ⟨w.heap.size + 1, 5, none⟩ (.int .i64 p.imm)).setCell ⟨w.heap.size + 1, 6, none⟩ (.slice ru p.args.length rc))).heap.size := by simp only [World.size_setCell]; exact Nat.le_refl _
   have SS : Still 2 w5 (((((((w5.setCell ⟨w.heap.size + 1, 0, none⟩ (.int .i64 p.op)).setCell ⟨w.heap.size + 1, 1, none⟩ (.int .i64 p.w)).setCell ⟨w.heap.size + 1, 2, none⟩ (.int .i64 v0)).setCell ⟨w.heap.size + 1, 3, none⟩ (.int .i64 v1)).setCell ⟨w.heap.size + 1, 4, none⟩ (.int .i64 v2)).setCell ⟨w.heap.size + 1, 5, none⟩ (.int .i64 p.imm)).setCell ⟨w.heap.size + 1, 6, none⟩ (.slice ru p.args.length rc)) := (Still.trans (Still.set (k := 2) (o := 0) (v := .int .i64 p.op) HS5.out.res (by decide)) (Still.trans (Still.set (k := 2) (o := 1) (v := .int .i64 p.w) (heap_set (o := 0) (v := .int .i64 p.op) HS5.out.res) (by decide)) (Still.trans (Still.set (k := 2) (o := 2) (v := .int .i64 v0) (heap_set (o := 1) (v := .int .i64 p.w) (heap_set (o := 0) (v := .int .i64 p.op) HS5.out.res)) (by decide)) (Still.trans (Still.set (k := 2) (o := 3) (v := .int .i64 v1) (heap_set (o := 2) (v := .int .i64 v0) (heap_set (o := 1) (v := .int .i64 p.w) (heap_set (o := 0) (v := .int .i64 p.op) HS5.out.res))) (by decide)) (Still.trans (Still.set (k := 2) (o := 4) (v := .int .i64 v2) (heap_set (o := 3) (v := .int .i64 v1) (heap_set (o := 2) (v := .int .i64 v0) (heap_set (o := 1) (v := .int .i64 p.w) (heap_set (o := 0) (v := .int .i64 p.op) HS5.out.res)))) (by decide)) (Still.trans (Still.set (k := 2) (o := 5) (v := .int .i64 p.imm) (heap_set (o := 4) (v := .int .i64 v2) (heap_set (o := 3) (v := .int .i64 v1) (heap_set (o := 2) (v := .int .i64 v0) (heap_set (o := 1) (v := .int .i64 p.w) (heap_set (o := 0) (v := .int .i64 p.op) HS5.out.res))))) (by decide)) (Still.set (k := 2) (o := 6) (v := .slice ru p.args.length rc) (heap_set (o := 5) (v := .int .i64 p.imm) (heap_set (o := 4) (v := .int .i64 v2) (heap_set (o := 3) (v := .int .i64 v1) (heap_set (o := 2) (v := .int .i64 v0) (heap_set (o := 1) (v := .int .i64 p.w) (heap_set (o := 0) (v := .int .i64 p.op) HS5.out.res)))))) (by decide))))))))
   generalize (((((((w5.setCell ⟨w.heap.size + 1, 0, none⟩ (.int .i64 p.op)).setCell ⟨w.heap.size + 1, 1, none⟩ (.int .i64 p.w)).setCell ⟨w.heap.size + 1, 2, none⟩ (.int .i64 v0)).setCell ⟨w.heap.size + 1, 3, none⟩ (.int .i64 v1)).setCell ⟨w.heap.size + 1, 4, none⟩ (.int .i64 v2)).setCell ⟨w.heap.size + 1, 5, none⟩ (.int .i64 p.imm)).setCell ⟨w.heap.size + 1, 6, none⟩ (.slice ru p.args.length rc)) = W9 at *
   refine bodyPost_ret (v := .agg #[.int .i64 p.op, .int .i64 p.w, .int .i64 v0, .int .i64 v1, .int .i64 v2, .int .i64 p.imm, .slice ru p.args.length rc]) ((results_cell_row Tryd.results52 _ _ (w.heap.size + 1) 44 _ (0, 0) _ rfl hr Tryd.underlying44 rfl (by kernel_rfl)).trans (by rfl)) rfl ?_
   rw [HQ.out, HA0.out]
   exact ⟨ru, rc, rfl, ⟨by simp, .inl rfl⟩, BB⟩
end Go.Proofs.YtenbodghkpbghaaDoor
