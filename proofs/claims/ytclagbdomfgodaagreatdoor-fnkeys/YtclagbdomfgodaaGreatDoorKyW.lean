/- The draw of a key; the core of the law FnKeys. -/
import Derived.Test.YtclagbdomfgodaaGreatDoorKyPQ
import Derived.Test.YtclagbdomfgodaaGreatDoorGnVQ
import Derived.Test.YtclagbdomfgodaaGreatDoorLawA
import Derived.Test.YtclagbdomfgodaaGreatDoorPlc
import Derived.BigRegion
namespace Go.Proofs.YtclagbdomfgodaaGreatDoor
open Go.RowKit Go.Deep
set_option linter.unusedVariables false
set_option linter.unusedSimpArgs false

set_option maxHeartbeats 1000000 in
theorem drawKeyOf (a0 : Option Addr) (len cap : Nat) (w : World) (hl : len ≤ 1048576) (hc : Code a0 len w.heap.size w) :
    Calls Tryz.prog 5 #[.slice a0 len cap] w fun e w' => ∃ (d : FuncD) (up ub : Option Addr) (cp cb : Nat) (n : Int), e = .returned (.tuple #[.agg #[.slice up d.params.length cp, .int .i64 d.ret, .slice ub d.blocks.length cb], .int .i64 n]) ∧ -9223372036854775808 ≤ n ∧ n ≤ 9223372036854775807 ∧ SmFunc d ∧ 1 ≤ d.blocks.length ∧ IntsAt w' w.heap.size up d.params ∧ BlocksAt w' w.heap.size ub d.blocks ∧ Below w.heap.size w w' := by
  have hb0 : Below w.heap.size w (w.alloc (.cells #[.slice none 0 0, .int .i64 0, .slice none 0 0] 27)) := (Below.refl _ _).alloc (Nat.le_refl _) _
  have PD := drawTypeOf a0 len cap _ hl (hc.below hb0)
  go_enter Tryz.func5, Tryz.ntmps5
  go_wp2_with (first | (go_at_call 10; refine PD.mono ?_; rintro e w1 ⟨d, up, ub, cp, cb, n, rfl, hn1, hn2, hsm, hone, hin, hbl, hb1⟩; have hcc := bcell hb1; have hff := bfroz hb1))
  have hR : w1.heap[w.heap.size]? = some (.cells #[.slice none 0 0, .int .i64 0, .slice none 0 0] 27 (0, 0)) := (hb1.block w.heap.size (by simp)).trans (heap_alloc_last _ _)
  have hr := heap_set (o := 2) (v := .slice ub d.blocks.length cb) (heap_set (o := 1) (v := .int .i64 d.ret) (heap_set (o := 0) (v := .slice up d.params.length cp) hR))
  have hsz : (w.alloc (.cells #[.slice none 0 0, .int .i64 0, .slice none 0 0] 27)).heap.size = w.heap.size + 1 := by simp
  rw [hsz] at hin hbl
  have hset : ∀ b, b ≠ w.heap.size → (((w1.setCell ⟨w.heap.size, 0, none⟩ (.slice up d.params.length cp)).setCell ⟨w.heap.size, 1, none⟩ (.int .i64 d.ret)).setCell ⟨w.heap.size, 2, none⟩ (.slice ub d.blocks.length cb)).heap[b]? = w1.heap[b]? := fun b hb => by rw [Below.heap_setCell _ _ _ _ hb, Below.heap_setCell _ _ _ _ hb, Below.heap_setCell _ _ _ _ hb]
  have hag : Agree (w.heap.size + 1) w1 (((w1.setCell ⟨w.heap.size, 0, none⟩ (.slice up d.params.length cp)).setCell ⟨w.heap.size, 1, none⟩ (.int .i64 d.ret)).setCell ⟨w.heap.size, 2, none⟩ (.slice ub d.blocks.length cb)) := ⟨by simp only [World.size_setCell]; exact Nat.le_refl _, fun b h1 h2 => hset b (by omega)⟩
  have hB1 : Below w.heap.size w w1 := hb0.trans (hb1.mono (by omega))
  refine bodyPost_ret (v := .tuple #[.agg #[.slice up d.params.length cp, .int .i64 d.ret, .slice ub d.blocks.length cb], .int .i64 n]) ((results_pair Tryz.results5 _ _ w.heap.size _ rfl (run_loadVar_row _ _ 27 _ _ (0, 0) _ hr Tryz.underlying27 rfl (by kernel_rfl))).trans (by rfl)) rfl ⟨d, up, ub, cp, cb, n, rfl, hn1, hn2, hsm, hone, (hin.keep hag).low (by omega), (hbl.keep hag).low (by omega), ?_⟩
  exact ((hB1.setCell (Nat.le_refl _) _).setCell (Nat.le_refl _) _).setCell (Nat.le_refl _) _
theorem numsL_lenK : ∀ (l : List Int), SmN l → (numsL l).length ≤ 11 * l.length
  | [], _ => by simp [numsL]
  | n :: l, h => by
    have ih := numsL_lenK l (fun x hx => h x (List.mem_cons_of_mem _ hx))
    obtain ⟨k, e1, e2⟩ := h n (List.mem_cons_self ..)
    have h1 := dec_len 9 k (by omega)
    have e3 : numsL (n :: l) = (32 :: Lib.itoa n) ++ numsL l := by simp [numsL]
    rw [e3, e1, itoa_nat]
    simp only [List.length_cons, List.length_append]
    omega
theorem text_sizeK (d : InstD) : (instText d).size ≤ 100 := by
  unfold instText
  split
  · rename_i h
    have hF := instB_inF h
    have h1 := numsL_lenK _ (instN_sm hF)
    have h2 := instN_len hF
    have h3 := opW_size d.op.toNat
    unfold instTx
    rw [ByteArray.size_append, bs_size]
    omega
  · exact Nat.zero_le _
/-- A block's instruction, in cells. -/
theorem inst_cells {w : World} {lo : Nat} {ub : Option Addr} {l : List BlockD} (h : BlocksAt w lo ub l) {b j : Nat} (hb : b < l.length) (hj : j < (l.getD b block0).insts.length) :
    ∃ bb bo up pc ib io ic au ac, ub = some ⟨bb, bo, none⟩ ∧ bb < w.heap.size ∧ ib < w.heap.size ∧ w.cell? ⟨bb, bo + b * 6, none⟩ = some (.slice up (l.getD b block0).phis.length pc) ∧ w.cell? ⟨bb, bo + b * 6 + 1, none⟩ = some (.slice (some ⟨ib, io, none⟩) (l.getD b block0).insts.length ic) ∧
      w.cell? ⟨ib, io + j * 7, none⟩ = some (.int .i64 ((l.getD b block0).insts.getD j inst0).op) ∧ w.cell? ⟨ib, io + j * 7 + 1, none⟩ = some (.int .i64 ((l.getD b block0).insts.getD j inst0).w) ∧ w.cell? ⟨ib, io + j * 7 + 2, none⟩ = some (.int .i64 ((l.getD b block0).insts.getD j inst0).a) ∧ w.cell? ⟨ib, io + j * 7 + 3, none⟩ = some (.int .i64 ((l.getD b block0).insts.getD j inst0).b) ∧ w.cell? ⟨ib, io + j * 7 + 4, none⟩ = some (.int .i64 ((l.getD b block0).insts.getD j inst0).c) ∧ w.cell? ⟨ib, io + j * 7 + 5, none⟩ = some (.int .i64 ((l.getD b block0).insts.getD j inst0).imm) ∧ w.cell? ⟨ib, io + j * 7 + 6, none⟩ = some (.slice au ((l.getD b block0).insts.getD j inst0).args.length ac) := by
  rcases h.2 with e | ⟨bb, bo, rfl, _, hbb, hc⟩
  · rw [e] at hb; simp at hb
  · obtain ⟨⟨up, pc, h1, _⟩, ⟨iu, ic, h2, hI⟩, _⟩ := hc b hb
    rcases hI.2 with e | ⟨ib, io, rfl, _, hib, hi⟩
    · rw [e] at hj; simp at hj
    · obtain ⟨i0, i1, i2, i3, i4, i5, au, ac, i6, _⟩ := hi j hj
      exact ⟨bb, bo, up, pc, ib, io, ic, au, ac, rfl, hbb, hib, h1, h2, i0, i1, i2, i3, i4, i5, i6⟩
set_option maxHeartbeats 8000000 in
set_option maxRecDepth 100000 in
theorem fnKeys_core (a : Addr) (a0 : Option Addr) (len cap : Nat) (w : World) (hc : Code a0 len w.heap.size w) (hv : Gv w 1 (errV a)) (hE : ErrsAt w) (hP : PowAt w) (hO : OpsAt w) :
    Calls Tryz.prog 3 #[.slice a0 len cap] w fun e w' => e = .returned (.bool true) ∧ Below w.heap.size w w' := by
  by_cases hl : 1048576 < len
  · have hb : decide (1048576 < len) = true := by simpa using hl
    go_enter Tryz.func3, Tryz.ntmps3
    go_wp2_with fail
    refine (big_any a0 len cap w).mono ?_
    rintro e w1 ⟨rfl, h9⟩
    have h8 := h9.symm
    clear h9
    subst h8
    rw [hb]
    go_wp2_with fail
    go_ret
    exact ⟨rfl, Below.refl _ _⟩
  have hb : decide (1048576 < len) = false := by simpa using hl
  have hl2 : len ≤ 1048576 := by omega
  have hRI : Hid (∀ (s : ByteArray) W, s.size ≤ 1048576 → Below w.heap.size w W → Calls Tryz.prog 8 #[.string s] W fun e w' => ReadTold s W.heap.size w' e ∧ Below W.heap.size W w') := fun s W hs k => readI a s W hs (hv.keep k) (hE.keep k) (hP.keep k) (hO.keep k)
  have HO : Hid (∀ W, Below w.heap.size w W → OpsAt W ∧ PowAt W) := fun W k => ⟨hO.keep k, hP.keep k⟩
  have D1 := drawKeyOf a0 len cap w hl2 hc
  clear hc hv hE hP hO hl hl2
  go_enter Tryz.func3, Tryz.ntmps3
  go_wp2_with fail
  refine (big_any a0 len cap w).mono ?_
  rintro e w1 ⟨rfl, h9⟩
  have h8 := h9.symm
  clear h9
  subst h8
  rw [hb]
  clear hb
  go_wp2_with fail
  refine D1.mono ?_
  rintro e w2 ⟨d, up, ub, cp, cb, n, rfl, hn1, hn2, hsm, hone, hin, hbl, b2⟩
  have k2 : Below w2.heap.size w2 (w2.alloc (.cells #[.slice up d.params.length cp, .int .i64 d.ret, .slice ub d.blocks.length cb] 27)) := (Below.refl _ _).alloc (Nat.le_refl _) _
  have Q3 : Hid (At (w2.alloc (.cells #[.slice up d.params.length cp, .int .i64 d.ret, .slice ub d.blocks.length cb] 27)) w2.heap.size #[.slice up d.params.length cp, .int .i64 d.ret, .slice ub d.blocks.length cb] 27) := At.new _ _ _
  have B3 : Hid (Below w.heap.size w (w2.alloc (.cells #[.slice up d.params.length cp, .int .i64 d.ret, .slice ub d.blocks.length cb] 27))) := b2.trans (k2.mono b2.size)
  have I3 : Hid (IntsAt (w2.alloc (.cells #[.slice up d.params.length cp, .int .i64 d.ret, .slice ub d.blocks.length cb] 27)) w.heap.size up d.params) := hin.keep (agree_of_below k2 _)
  have K3 : Hid (BlocksAt (w2.alloc (.cells #[.slice up d.params.length cp, .int .i64 d.ret, .slice ub d.blocks.length cb] 27)) w.heap.size ub d.blocks) := hbl.keep (agree_of_below k2 _)
  have Hsm : Hid (SmFunc d) := hsm
  clear D1 b2 k2 hin hbl hsm
  obtain ⟨W3, hW3⟩ : ∃ W, (w2.alloc (.cells #[.slice up d.params.length cp, .int .i64 d.ret, .slice ub d.blocks.length cb] 27)) = W := ⟨_, rfl⟩
  rw [hW3] at Q3 B3 I3 K3
  have x0 : W3.cell? ⟨w2.heap.size, 0, none⟩ = some (.slice up d.params.length cp) := Q3.out.cell 0
  have x1 : W3.cell? ⟨w2.heap.size, 1, none⟩ = some (.int .i64 d.ret) := Q3.out.cell 1
  have x2 : W3.cell? ⟨w2.heap.size, 2, none⟩ = some (.slice ub d.blocks.length cb) := Q3.out.cell 2
  have KI := keyI w.heap.size d up cp ub cb n W3 Hsm.out I3.out K3.out hn2 (HO.out W3 B3.out).1 (HO.out W3 B3.out).2
  go_wp2_with fail
  clear hW3 x0 x1 x2
  refine KI.mono ?_
  rintro e w4 ⟨hk4, b4⟩
  rw [id_told hk4]
  have Q4 : Hid (At w4 w2.heap.size #[.slice up d.params.length cp, .int .i64 d.ret, .slice ub d.blocks.length cb] 27) := Q3.out.below b4
  have B4 : Hid (Below w.heap.size w w4) := B3.out.trans (b4.mono B3.out.size)
  have I4 : Hid (IntsAt w4 w.heap.size up d.params) := I3.out.keep (agree_of_below b4 _)
  have K4 : Hid (BlocksAt w4 w.heap.size ub d.blocks) := K3.out.keep (agree_of_below b4 _)
  clear KI Q3 B3 I3 K3 hk4 b4
  have x0 : w4.cell? ⟨w2.heap.size, 0, none⟩ = some (.slice up d.params.length cp) := Q4.out.cell 0
  have x1 : w4.cell? ⟨w2.heap.size, 1, none⟩ = some (.int .i64 d.ret) := Q4.out.cell 1
  have x2 : w4.cell? ⟨w2.heap.size, 2, none⟩ = some (.slice ub d.blocks.length cb) := Q4.out.cell 2
  have KS := keyS w.heap.size d up cp ub cb n w4 Hsm.out I4.out K4.out hn2
  cases hkey : keyF d n with
  | none =>
    rw [hkey] at KS
    clear hkey
    have en : ((none : Option ByteArray).getD ⟨#[]⟩) = ⟨#[]⟩ := rfl
    have ei : (none : Option ByteArray).isSome = false := rfl
    rw [en, ei]
    go_wp2_with fail
    clear x0 x1 x2
    refine KS.mono ?_
    rintro e w5 ⟨hk5, b5⟩
    rw [id_told hk5, en, ei]
    have B5 : Hid (Below w.heap.size w w5) := B4.out.trans (b5.mono B4.out.size)
    clear KS hk5 b5 Q4 B4 I4 K4
    go_wp2_with fail
    go_ret
    exact ⟨rfl, B5.out⟩
  | some k =>
    rw [hkey] at KS
    obtain ⟨b, j, hb, hj, hpl, hF, hkt⟩ := key_some hkey
    clear hkey
    have hT := turned_ab ((d.blocks.getD b block0).insts.getD j inst0)
    have hsz := text_sizeK (turned ((d.blocks.getD b block0).insts.getD j inst0))
    have HF : Hid (instB (turned ((d.blocks.getD b block0).insts.getD j inst0)) 60 3 = true) := hF
    have hpl : placeF d n = ((b : Int), ((d.blocks.getD b block0).phis.length : Int) + (j : Int)) := hpl.trans (by rw [Int.natCast_add])
    have HPL : Hid (placeF d n = ((b : Int), ((d.blocks.getD b block0).phis.length : Int) + (j : Int))) := hpl
    have hsB := Hsm.out.2.2 _ (getD_mem block0 d.blocks b hb)
    have hs0 := hsB.1.1
    have hs1 := hsB.2.1
    have hs2 := Hsm.out.2.1
    clear hsB
    have HT : Hid ((turned ((d.blocks.getD b block0).insts.getD j inst0)).op = ((d.blocks.getD b block0).insts.getD j inst0).op ∧ (turned ((d.blocks.getD b block0).insts.getD j inst0)).w = ((d.blocks.getD b block0).insts.getD j inst0).w ∧ (turned ((d.blocks.getD b block0).insts.getD j inst0)).imm = ((d.blocks.getD b block0).insts.getD j inst0).imm ∧ (turned ((d.blocks.getD b block0).insts.getD j inst0)).c = ((d.blocks.getD b block0).insts.getD j inst0).c ∧ (((turned ((d.blocks.getD b block0).insts.getD j inst0)).a = ((d.blocks.getD b block0).insts.getD j inst0).a ∧ (turned ((d.blocks.getD b block0).insts.getD j inst0)).b = ((d.blocks.getD b block0).insts.getD j inst0).b) ∨ ((turned ((d.blocks.getD b block0).insts.getD j inst0)).a = ((d.blocks.getD b block0).insts.getD j inst0).b ∧ (turned ((d.blocks.getD b block0).insts.getD j inst0)).b = ((d.blocks.getD b block0).insts.getD j inst0).a))) := hT
    subst hkt
    have HRT : Hid (∀ base w e, ReadTold (instText (turned ((d.blocks.getD b block0).insts.getD j inst0))) base w e → ∃ u q, e = .returned (.tuple #[.agg #[.int .i64 (turned ((d.blocks.getD b block0).insts.getD j inst0)).op, .int .i64 (turned ((d.blocks.getD b block0).insts.getD j inst0)).w, .int .i64 (turned ((d.blocks.getD b block0).insts.getD j inst0)).a, .int .i64 (turned ((d.blocks.getD b block0).insts.getD j inst0)).b, .int .i64 (turned ((d.blocks.getD b block0).insts.getD j inst0)).c, .int .i64 (turned ((d.blocks.getD b block0).insts.getD j inst0)).imm, .slice u (turned ((d.blocks.getD b block0).insts.getD j inst0)).args.length q], .bool true])) := fun base w e h => read_text HF.out h
    clear hT hF hpl HF
    generalize turned ((d.blocks.getD b block0).insts.getD j inst0) = t at KS HT HRT hsz
    obtain ⟨X, hX⟩ : ∃ X, instText t = X := ⟨_, rfl⟩
    rw [hX] at KS HRT hsz ⊢
    clear hX
    have en : ((some X).getD ⟨#[]⟩) = X := rfl
    have ei : (some X).isSome = true := rfl
    rw [en, ei]
    go_wp2_with fail
    clear x0 x1 x2
    refine KS.mono ?_
    rintro e w5 ⟨hk5, b5⟩
    rw [id_told hk5, en, ei]
    have Q5 : Hid (At w5 w2.heap.size #[.slice up d.params.length cp, .int .i64 d.ret, .slice ub d.blocks.length cb] 27) := Q4.out.below b5
    have B5 : Hid (Below w.heap.size w w5) := B4.out.trans (b5.mono B4.out.size)
    have K5 : Hid (BlocksAt w5 w.heap.size ub d.blocks) := K4.out.keep (agree_of_below b5 _)
    clear KS hk5 b5 Q4 B4 I4 K4 en ei
    have RT := hRI.out X w5 (by omega) B5.out
    go_wp2_with fail
    refine RT.mono ?_
    rintro e w6 ⟨hc6, b6⟩
    obtain ⟨ju, jq, rfl⟩ := HRT.out _ _ _ hc6
    have k6 : Below w6.heap.size w6 (w6.alloc (.cells #[.int .i64 t.op, .int .i64 t.w, .int .i64 t.a, .int .i64 t.b, .int .i64 t.c, .int .i64 t.imm, .slice ju t.args.length jq] 33)) := (Below.refl _ _).alloc (Nat.le_refl _) _
    have Q7 : Hid (At (w6.alloc (.cells #[.int .i64 t.op, .int .i64 t.w, .int .i64 t.a, .int .i64 t.b, .int .i64 t.c, .int .i64 t.imm, .slice ju t.args.length jq] 33)) w2.heap.size #[.slice up d.params.length cp, .int .i64 d.ret, .slice ub d.blocks.length cb] 27) := (Q5.out.below b6).below k6
    have J7 : Hid (At (w6.alloc (.cells #[.int .i64 t.op, .int .i64 t.w, .int .i64 t.a, .int .i64 t.b, .int .i64 t.c, .int .i64 t.imm, .slice ju t.args.length jq] 33)) w6.heap.size #[.int .i64 t.op, .int .i64 t.w, .int .i64 t.a, .int .i64 t.b, .int .i64 t.c, .int .i64 t.imm, .slice ju t.args.length jq] 33) := At.new _ _ _
    have B7 : Hid (Below w.heap.size w (w6.alloc (.cells #[.int .i64 t.op, .int .i64 t.w, .int .i64 t.a, .int .i64 t.b, .int .i64 t.c, .int .i64 t.imm, .slice ju t.args.length jq] 33))) := (B5.out.trans (b6.mono B5.out.size)).trans (k6.mono (Nat.le_trans B5.out.size b6.size))
    have K7 : Hid (BlocksAt (w6.alloc (.cells #[.int .i64 t.op, .int .i64 t.w, .int .i64 t.a, .int .i64 t.b, .int .i64 t.c, .int .i64 t.imm, .slice ju t.args.length jq] 33)) w.heap.size ub d.blocks) := (K5.out.keep (agree_of_below b6 _)).keep (agree_of_below k6 _)
    clear RT hc6 b6 k6 Q5 B5 K5 HRT
    obtain ⟨W7, hW7⟩ : ∃ W, w6.alloc (.cells #[.int .i64 t.op, .int .i64 t.w, .int .i64 t.a, .int .i64 t.b, .int .i64 t.c, .int .i64 t.imm, .slice ju t.args.length jq] 33) = W := ⟨_, rfl⟩
    rw [hW7] at Q7 J7 B7 K7
    have x0 : W7.cell? ⟨w2.heap.size, 0, none⟩ = some (.slice up d.params.length cp) := Q7.out.cell 0
    have x1 : W7.cell? ⟨w2.heap.size, 1, none⟩ = some (.int .i64 d.ret) := Q7.out.cell 1
    have x2 : W7.cell? ⟨w2.heap.size, 2, none⟩ = some (.slice ub d.blocks.length cb) := Q7.out.cell 2
    have PI := placeI_any w.heap.size d up cp ub cb n W7 Hsm.out K7.out hn2
    rw [HPL.out] at PI
    go_wp2_with fail
    clear hW7 x0 x1 x2
    refine PI.mono ?_
    rintro e w8 ⟨rfl, b8⟩
    have Q8 : Hid (At w8 w2.heap.size #[.slice up d.params.length cp, .int .i64 d.ret, .slice ub d.blocks.length cb] 27) := Q7.out.below b8
    have J8 : Hid (At w8 w6.heap.size #[.int .i64 t.op, .int .i64 t.w, .int .i64 t.a, .int .i64 t.b, .int .i64 t.c, .int .i64 t.imm, .slice ju t.args.length jq] 33) := J7.out.below b8
    have B8 : Hid (Below w.heap.size w w8) := B7.out.trans (b8.mono B7.out.size)
    have K8 := K7.out.keep (agree_of_below b8 _)
    obtain ⟨bb, bo, phu, phc, ib, io, ic, au, ac, hub, Hbb, Hib, g0, g1, i0, i1, i2, i3, i4, i5, i6⟩ := inst_cells K8 hb hj
    subst hub
    clear PI b8 Q7 J7 B7 K7 K8 HPL
    generalize (d.blocks.getD b block0).insts.getD j inst0 = y at HT i0 i1 i2 i3 i4 i5 i6
    generalize (d.blocks.getD b block0).insts.length = ni at hj g1 hs1
    generalize (d.blocks.getD b block0).phis.length = np at g0 hs0 ⊢
    have x1 : IntKind.i64.wrap ((np : Int) + j - np) = (j : Int) := by rw [IntKind.wrap_i64]; omega
    have x2 : IntKind.i64.wrap (j : Int) = (j : Int) := by rw [IntKind.wrap_i64]; omega
    have x3 : (np : Int) + j - np = (j : Int) := by omega
    have x4 : (0 : Int) ≤ (j : Int) := by omega
    have x6 : (0 : Int) ≤ (b : Int) := by omega
    have hbI : (b : Int) < (d.blocks.length : Int) := by omega
    have hjI : (j : Int) < (ni : Int) := by omega
    obtain ⟨e1, e2, e3, e4, e5⟩ := HT.out
    have Hf := Q8.out.lt
    have Hi := J8.out.lt
    have k9 : Below w8.heap.size w8 (w8.alloc (.cells #[.int .i64 0, .int .i64 0, .int .i64 0, .int .i64 0, .int .i64 0, .int .i64 0, .slice none 0 0] 33)) := (Below.refl _ _).alloc (Nat.le_refl _) _
    have hr0 : (w8.alloc (.cells #[.int .i64 0, .int .i64 0, .int .i64 0, .int .i64 0, .int .i64 0, .int .i64 0, .slice none 0 0] 33)).heap[w8.heap.size]? = some (.cells #[.int .i64 0, .int .i64 0, .int .i64 0, .int .i64 0, .int .i64 0, .int .i64 0, .slice none 0 0] 33 (0, 0)) := heap_alloc_last _ _
    have fr : ∀ o, (w8.alloc (.cells #[.int .i64 0, .int .i64 0, .int .i64 0, .int .i64 0, .int .i64 0, .int .i64 0, .slice none 0 0] 33)).frozen? ⟨w8.heap.size, o, none⟩ = false := fun o => by simp
    have A0 : w8.cell? ⟨w2.heap.size, 2, none⟩ = some (.slice (some ⟨bb, bo, none⟩) d.blocks.length cb) := Q8.out.cell 2
    go_wp2_with fail
    have m0 : (w8.alloc (.cells #[.int .i64 0, .int .i64 0, .int .i64 0, .int .i64 0, .int .i64 0, .int .i64 0, .slice none 0 0] 33)).drew.cell? ⟨w8.heap.size, 0, none⟩ = some (.int .i64 0) := (cell_of_heap hr0).trans rfl
    have mr0 : (w8.alloc (.cells #[.int .i64 0, .int .i64 0, .int .i64 0, .int .i64 0, .int .i64 0, .int .i64 0, .slice none 0 0] 33)).drew.frozen? ⟨w8.heap.size, 0, none⟩ = false := fr 0
    have M0 : (w8.alloc (.cells #[.int .i64 0, .int .i64 0, .int .i64 0, .int .i64 0, .int .i64 0, .int .i64 0, .slice none 0 0] 33)).cell? ⟨w8.heap.size, 0, none⟩ = some (.int .i64 0) := (cell_of_heap hr0).trans rfl
    have Mr0 : (w8.alloc (.cells #[.int .i64 0, .int .i64 0, .int .i64 0, .int .i64 0, .int .i64 0, .int .i64 0, .slice none 0 0] 33)).frozen? ⟨w8.heap.size, 0, none⟩ = false := fr 0
    have m1 : (w8.alloc (.cells #[.int .i64 0, .int .i64 0, .int .i64 0, .int .i64 0, .int .i64 0, .int .i64 0, .slice none 0 0] 33)).drew.cell? ⟨w8.heap.size, 1, none⟩ = some (.int .i64 0) := (cell_of_heap hr0).trans rfl
    have mr1 : (w8.alloc (.cells #[.int .i64 0, .int .i64 0, .int .i64 0, .int .i64 0, .int .i64 0, .int .i64 0, .slice none 0 0] 33)).drew.frozen? ⟨w8.heap.size, 1, none⟩ = false := fr 1
    have M1 : (w8.alloc (.cells #[.int .i64 0, .int .i64 0, .int .i64 0, .int .i64 0, .int .i64 0, .int .i64 0, .slice none 0 0] 33)).cell? ⟨w8.heap.size, 1, none⟩ = some (.int .i64 0) := (cell_of_heap hr0).trans rfl
    have Mr1 : (w8.alloc (.cells #[.int .i64 0, .int .i64 0, .int .i64 0, .int .i64 0, .int .i64 0, .int .i64 0, .slice none 0 0] 33)).frozen? ⟨w8.heap.size, 1, none⟩ = false := fr 1
    have m2 : (w8.alloc (.cells #[.int .i64 0, .int .i64 0, .int .i64 0, .int .i64 0, .int .i64 0, .int .i64 0, .slice none 0 0] 33)).drew.cell? ⟨w8.heap.size, 2, none⟩ = some (.int .i64 0) := (cell_of_heap hr0).trans rfl
    have mr2 : (w8.alloc (.cells #[.int .i64 0, .int .i64 0, .int .i64 0, .int .i64 0, .int .i64 0, .int .i64 0, .slice none 0 0] 33)).drew.frozen? ⟨w8.heap.size, 2, none⟩ = false := fr 2
    have M2 : (w8.alloc (.cells #[.int .i64 0, .int .i64 0, .int .i64 0, .int .i64 0, .int .i64 0, .int .i64 0, .slice none 0 0] 33)).cell? ⟨w8.heap.size, 2, none⟩ = some (.int .i64 0) := (cell_of_heap hr0).trans rfl
    have Mr2 : (w8.alloc (.cells #[.int .i64 0, .int .i64 0, .int .i64 0, .int .i64 0, .int .i64 0, .int .i64 0, .slice none 0 0] 33)).frozen? ⟨w8.heap.size, 2, none⟩ = false := fr 2
    have m3 : (w8.alloc (.cells #[.int .i64 0, .int .i64 0, .int .i64 0, .int .i64 0, .int .i64 0, .int .i64 0, .slice none 0 0] 33)).drew.cell? ⟨w8.heap.size, 3, none⟩ = some (.int .i64 0) := (cell_of_heap hr0).trans rfl
    have mr3 : (w8.alloc (.cells #[.int .i64 0, .int .i64 0, .int .i64 0, .int .i64 0, .int .i64 0, .int .i64 0, .slice none 0 0] 33)).drew.frozen? ⟨w8.heap.size, 3, none⟩ = false := fr 3
    have M3 : (w8.alloc (.cells #[.int .i64 0, .int .i64 0, .int .i64 0, .int .i64 0, .int .i64 0, .int .i64 0, .slice none 0 0] 33)).cell? ⟨w8.heap.size, 3, none⟩ = some (.int .i64 0) := (cell_of_heap hr0).trans rfl
    have Mr3 : (w8.alloc (.cells #[.int .i64 0, .int .i64 0, .int .i64 0, .int .i64 0, .int .i64 0, .int .i64 0, .slice none 0 0] 33)).frozen? ⟨w8.heap.size, 3, none⟩ = false := fr 3
    have m4 : (w8.alloc (.cells #[.int .i64 0, .int .i64 0, .int .i64 0, .int .i64 0, .int .i64 0, .int .i64 0, .slice none 0 0] 33)).drew.cell? ⟨w8.heap.size, 4, none⟩ = some (.int .i64 0) := (cell_of_heap hr0).trans rfl
    have mr4 : (w8.alloc (.cells #[.int .i64 0, .int .i64 0, .int .i64 0, .int .i64 0, .int .i64 0, .int .i64 0, .slice none 0 0] 33)).drew.frozen? ⟨w8.heap.size, 4, none⟩ = false := fr 4
    have M4 : (w8.alloc (.cells #[.int .i64 0, .int .i64 0, .int .i64 0, .int .i64 0, .int .i64 0, .int .i64 0, .slice none 0 0] 33)).cell? ⟨w8.heap.size, 4, none⟩ = some (.int .i64 0) := (cell_of_heap hr0).trans rfl
    have Mr4 : (w8.alloc (.cells #[.int .i64 0, .int .i64 0, .int .i64 0, .int .i64 0, .int .i64 0, .int .i64 0, .slice none 0 0] 33)).frozen? ⟨w8.heap.size, 4, none⟩ = false := fr 4
    have m5 : (w8.alloc (.cells #[.int .i64 0, .int .i64 0, .int .i64 0, .int .i64 0, .int .i64 0, .int .i64 0, .slice none 0 0] 33)).drew.cell? ⟨w8.heap.size, 5, none⟩ = some (.int .i64 0) := (cell_of_heap hr0).trans rfl
    have mr5 : (w8.alloc (.cells #[.int .i64 0, .int .i64 0, .int .i64 0, .int .i64 0, .int .i64 0, .int .i64 0, .slice none 0 0] 33)).drew.frozen? ⟨w8.heap.size, 5, none⟩ = false := fr 5
    have M5 : (w8.alloc (.cells #[.int .i64 0, .int .i64 0, .int .i64 0, .int .i64 0, .int .i64 0, .int .i64 0, .slice none 0 0] 33)).cell? ⟨w8.heap.size, 5, none⟩ = some (.int .i64 0) := (cell_of_heap hr0).trans rfl
    have Mr5 : (w8.alloc (.cells #[.int .i64 0, .int .i64 0, .int .i64 0, .int .i64 0, .int .i64 0, .int .i64 0, .slice none 0 0] 33)).frozen? ⟨w8.heap.size, 5, none⟩ = false := fr 5
    have m6 : (w8.alloc (.cells #[.int .i64 0, .int .i64 0, .int .i64 0, .int .i64 0, .int .i64 0, .int .i64 0, .slice none 0 0] 33)).drew.cell? ⟨w8.heap.size, 6, none⟩ = some (.slice none 0 0) := (cell_of_heap hr0).trans rfl
    have mr6 : (w8.alloc (.cells #[.int .i64 0, .int .i64 0, .int .i64 0, .int .i64 0, .int .i64 0, .int .i64 0, .slice none 0 0] 33)).drew.frozen? ⟨w8.heap.size, 6, none⟩ = false := fr 6
    have M6 : (w8.alloc (.cells #[.int .i64 0, .int .i64 0, .int .i64 0, .int .i64 0, .int .i64 0, .int .i64 0, .slice none 0 0] 33)).cell? ⟨w8.heap.size, 6, none⟩ = some (.slice none 0 0) := (cell_of_heap hr0).trans rfl
    have Mr6 : (w8.alloc (.cells #[.int .i64 0, .int .i64 0, .int .i64 0, .int .i64 0, .int .i64 0, .int .i64 0, .slice none 0 0] 33)).frozen? ⟨w8.heap.size, 6, none⟩ = false := fr 6
    clear fr
    have S0 : ∀ b o, b < w8.heap.size → w8.drew.cell? ⟨b, o, none⟩ = w8.cell? ⟨b, o, none⟩ := fun _ _ _ => rfl
    have S9 : ∀ b o, b < w8.heap.size → (w8.alloc (.cells #[.int .i64 0, .int .i64 0, .int .i64 0, .int .i64 0, .int .i64 0, .int .i64 0, .slice none 0 0] 33)).cell? ⟨b, o, none⟩ = w8.cell? ⟨b, o, none⟩ := fun b o h => cell_block (k9.block b h)
    have S1 : ∀ b o, b < w8.heap.size → (w8.alloc (.cells #[.int .i64 0, .int .i64 0, .int .i64 0, .int .i64 0, .int .i64 0, .int .i64 0, .slice none 0 0] 33)).drew.cell? ⟨b, o, none⟩ = w8.cell? ⟨b, o, none⟩ := S9
    have kA : Below w8.heap.size w8 (w8.alloc (.cells #[.int .i64 y.op, .int .i64 y.w, .int .i64 y.a, .int .i64 y.b, .int .i64 y.c, .int .i64 y.imm, .slice au y.args.length ac] 33)) := (Below.refl _ _).alloc (Nat.le_refl _) _
    have S2 : ∀ b o, b < w8.heap.size → (w8.alloc (.cells #[.int .i64 y.op, .int .i64 y.w, .int .i64 y.a, .int .i64 y.b, .int .i64 y.c, .int .i64 y.imm, .slice au y.args.length ac] 33)).drew.cell? ⟨b, o, none⟩ = w8.cell? ⟨b, o, none⟩ := fun b o h => cell_block (kA.block b h)
    go_region_held2 (fun w' => ∀ b o, b < w8.heap.size → w'.cell? ⟨b, o, none⟩ = w8.cell? ⟨b, o, none⟩) (first | with_reducible exact S0 | with_reducible exact S1 | with_reducible exact S2) (fail)
    all_goals
      have JA : Hid (At (w8.alloc (.cells #[.int .i64 y.op, .int .i64 y.w, .int .i64 y.a, .int .i64 y.b, .int .i64 y.c, .int .i64 y.imm, .slice au y.args.length ac] 33)).drew w6.heap.size #[.int .i64 t.op, .int .i64 t.w, .int .i64 t.a, .int .i64 t.b, .int .i64 t.c, .int .i64 t.imm, .slice ju t.args.length jq] 33) := J8.out.below kA.drew
      have YA : Hid (At (w8.alloc (.cells #[.int .i64 y.op, .int .i64 y.w, .int .i64 y.a, .int .i64 y.b, .int .i64 y.c, .int .i64 y.imm, .slice au y.args.length ac] 33)).drew w8.heap.size #[.int .i64 y.op, .int .i64 y.w, .int .i64 y.a, .int .i64 y.b, .int .i64 y.c, .int .i64 y.imm, .slice au y.args.length ac] 33) := At.new _ _ _
      have BA : Hid (Below w.heap.size w (w8.alloc (.cells #[.int .i64 y.op, .int .i64 y.w, .int .i64 y.a, .int .i64 y.b, .int .i64 y.c, .int .i64 y.imm, .slice au y.args.length ac] 33)).drew) := B8.out.trans ((kA.mono B8.out.size).drew)
      clear S0 S9 S1 S2 k9 kA hr0 A0 Q8 J8 B8 g0 g1 i0 i1 i2 i3 i4 i5 i6 m0 mr0 M0 Mr0 m1 mr1 M1 Mr1 m2 mr2 M2 Mr2 m3 mr3 M3 Mr3 m4 mr4 M4 Mr4 m5 mr5 M5 Mr5 m6 mr6 M6 Mr6
      generalize (w8.alloc (.cells #[.int .i64 y.op, .int .i64 y.w, .int .i64 y.a, .int .i64 y.b, .int .i64 y.c, .int .i64 y.imm, .slice au y.args.length ac] 33)).drew = WA at JA YA BA ⊢
      have j0 : WA.cell? ⟨w6.heap.size, 0, none⟩ = some (.int .i64 t.op) := JA.out.cell 0
      have j1 : WA.cell? ⟨w6.heap.size, 1, none⟩ = some (.int .i64 t.w) := JA.out.cell 1
      have j2 : WA.cell? ⟨w6.heap.size, 2, none⟩ = some (.int .i64 t.a) := JA.out.cell 2
      have j3 : WA.cell? ⟨w6.heap.size, 3, none⟩ = some (.int .i64 t.b) := JA.out.cell 3
      have j4 : WA.cell? ⟨w6.heap.size, 4, none⟩ = some (.int .i64 t.c) := JA.out.cell 4
      have j5 : WA.cell? ⟨w6.heap.size, 5, none⟩ = some (.int .i64 t.imm) := JA.out.cell 5
      have y0 : WA.cell? ⟨w8.heap.size, 0, none⟩ = some (.int .i64 y.op) := YA.out.cell 0
      have y1 : WA.cell? ⟨w8.heap.size, 1, none⟩ = some (.int .i64 y.w) := YA.out.cell 1
      have y2 : WA.cell? ⟨w8.heap.size, 2, none⟩ = some (.int .i64 y.a) := YA.out.cell 2
      have y3 : WA.cell? ⟨w8.heap.size, 3, none⟩ = some (.int .i64 y.b) := YA.out.cell 3
      have y4 : WA.cell? ⟨w8.heap.size, 4, none⟩ = some (.int .i64 y.c) := YA.out.cell 4
      have y5 : WA.cell? ⟨w8.heap.size, 5, none⟩ = some (.int .i64 y.imm) := YA.out.cell 5
      go_wp2_with fail
      all_goals first | (go_ret; exact ⟨rfl, BA.out⟩) | (exfalso; omega)
end Go.Proofs.YtclagbdomfgodaaGreatDoor
