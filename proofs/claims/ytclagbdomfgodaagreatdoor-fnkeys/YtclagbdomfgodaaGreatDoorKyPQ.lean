/- Keys: what is told of one that is there. -/
import Derived.Test.YtclagbdomfgodaaGreatDoorKeyQ
import Derived.Test.YtclagbdomfgodaaGreatDoorRiIQ
import Derived.Test.YtclagbdomfgodaaGreatDoorRows
import Derived.RowKitTokens
import Derived.LaidLaws
import Derived.LaidHandle
import Derived.LaidMore
import Derived.Stop.LaidErr
import Derived.Stop.ErrReads
import Derived.Stop.Joined
import Derived.Lay
import Derived.ProofKit
import Derived.OpenShut
import Derived.OpenVars
namespace Go.Proofs.YtclagbdomfgodaaGreatDoor
open Go.RowKit
set_option linter.unusedVariables false
set_option linter.unusedSimpArgs false

theorem key_some {d : FuncD} {id : Int} {k : ByteArray} (h : keyF d id = some k) : ∃ (b j : Nat), b < d.blocks.length ∧ j < (d.blocks.getD b block0).insts.length ∧ placeF d id = ((b : Int), (((d.blocks.getD b block0).phis.length + j : Nat) : Int)) ∧ instB (turned ((d.blocks.getD b block0).insts.getD j inst0)) 60 3 = true ∧ k = instText (turned ((d.blocks.getD b block0).insts.getD j inst0)) := by
  by_cases hf : funcB 3 d = true
  · rcases place_cases d id with e | ⟨j, hj, e⟩ | ⟨b, j, hk, hj, e⟩
    · have : instF d id = none := by rw [instF, e]; simp
      rw [keyF_none this] at h; cases h
    · have : instF d id = none := by rw [instF, e]; simp
      rw [keyF_none this] at h; cases h
    · by_cases hp : j < (d.blocks.getD b block0).phis.length
      · have : instF d id = none := by
          rw [instF, e, if_neg (by show ¬ ((b : Int) < 0); omega), if_pos (by show (j : Int) < _; simpa using hp)]
        rw [keyF_none this] at h; cases h
      · have hjl : j - (d.blocks.getD b block0).phis.length < (d.blocks.getD b block0).insts.length := by unfold cntB at hj; omega
        have hi : instF d id = some ((d.blocks.getD b block0).insts.getD (j - (d.blocks.getD b block0).phis.length) inst0) := by
          rw [instF, e, if_neg (by show ¬ ((b : Int) < 0); omega), if_neg (by show ¬ (j : Int) < _; simpa using hp)]
          have a4 : ((j : Int) - (d.blocks.getD b block0).phis.length).toNat = j - (d.blocks.getD b block0).phis.length := by omega
          show some (List.getD _ ((j : Int) - _).toNat inst0) = _
          simp only [Int.toNat_natCast]
          rw [a4]
        have hF := turned_form (inst_form hf hi)
        by_cases hb : 23 ≤ ((d.blocks.getD b block0).insts.getD (j - (d.blocks.getD b block0).phis.length) inst0).op
        · rw [keyF_big hi hb] at h; cases h
        · rw [keyF_some hf hi hb] at h
          refine ⟨b, j - (d.blocks.getD b block0).phis.length, hk, hjl, ?_, hF, ?_⟩
          · rw [e]
            congr 1
            omega
          · rw [instText_tx hF]
            exact (Option.some.inj h).symm
  · rw [keyF_no (by simpa using hf)] at h; cases h
/-- A text of an instruction is read as that. -/
theorem read_text {i : InstD} (h : instB i 60 3 = true) {base : Nat} {w : World} {e : Ending} (hr : ReadTold (instText i) base w e) : ∃ u q, e = .returned (.tuple #[.agg #[.int .i64 i.op, .int .i64 i.w, .int .i64 i.a, .int .i64 i.b, .int .i64 i.c, .int .i64 i.imm, .slice u i.args.length q], .bool true]) := by
  have hi : ReadOk (instText i) i := ⟨h, by unfold instText; rw [if_pos h]⟩
  rcases hr with ⟨j, u, q, hj, he, hr⟩ | ⟨hn, _⟩
  · cases read_one hi hj
    exact ⟨u, q, he⟩
  · exact absurd ⟨i, hi⟩ hn
theorem turned_ab (y : InstD) : (turned y).op = y.op ∧ (turned y).w = y.w ∧ (turned y).imm = y.imm ∧ (turned y).c = y.c ∧ (((turned y).a = y.a ∧ (turned y).b = y.b) ∨ ((turned y).a = y.b ∧ (turned y).b = y.a)) := by
  unfold turned
  split
  · refine ⟨rfl, rfl, rfl, rfl, ?_⟩
    show ((min y.a y.b = y.a ∧ max y.a y.b = y.b) ∨ (min y.a y.b = y.b ∧ max y.a y.b = y.a))
    omega
  · exact ⟨rfl, rfl, rfl, rfl, .inl ⟨rfl, rfl⟩⟩
end Go.Proofs.YtclagbdomfgodaaGreatDoor
namespace Go.Proofs.YtclagbdomfgodaaGreatDoor
open Go.ChangeShapes Go.WideShapes Go.RowKit
set_option linter.unusedVariables false

theorem gC : Tryz.prog.globalNamed "loop.example/g00457/impl.errUnread" = some 1 := by kernel_rfl
theorem tC : (Tryz.prog.globals[1]?).map (·.type) = some 112 := by kernel_rfl
theorem gSy : Tryz.prog.globalNamed "strconv.ErrSyntax" = some 4 := by kernel_rfl
theorem tSy : (Tryz.prog.globals[4]?).map (·.type) = some 112 := by kernel_rfl
theorem gRg : Tryz.prog.globalNamed "strconv.ErrRange" = some 5 := by kernel_rfl
theorem tRg : (Tryz.prog.globals[5]?).map (·.type) = some 112 := by kernel_rfl
theorem lcES : Tryz.prog.cellsOf 189 = 1 := by kernel_rfl
theorem lcS : Tryz.prog.cellsOf 9 = 1 := by kernel_rfl
theorem lstar : "*" ++ "errors.errorString" = "*errors.errorString" := by decide
theorem lrow (u : TypeId) (h : Tryz.prog.typeName? 3 u = some "*errors.errorString") : u = 187 :=
  typeName_ptr_named (nm := "errors.errorString") (by rw [lstar]; kernel_rfl) (by kernel_rfl) (by decide) u (by rw [lstar]; exact h)
theorem gOps : Tryz.prog.globalNamed "loop.example/g00457/impl.opWords" = some 0 := by kernel_rfl
theorem tOps : (Tryz.prog.globals[0]?).map (·.type) = some 92 := by kernel_rfl
theorem tPow : (Tryz.prog.globals[2]?).map (·.type) = some 157 := by kernel_rfl
theorem opsDt : (Rows.laid_loop_example_g00457_impl_opWords : DataW Unit) = .agg (opWL.map fun b => .lit (.string b)) := by rfl
theorem powDt : (Rows.laid_internal_strconv_uint64pow10 : DataW Unit) = Lib.tabData .u64 Lib.pow10Tab := by rfl
theorem var_below {W W' : World} {n : String} {g : Nat} {cs : Array Value} (hg : Tryz.prog.globalNamed n = some g) (h : W.var? Tryz.prog n = some cs) (k : Below W.heap.size W W') : W'.var? Tryz.prog n = some cs := by
  unfold World.var? at h ⊢
  simp only [hg, Option.bind_some] at h ⊢
  have hlt : g < W.heap.size := by
    rcases Nat.lt_or_ge g W.heap.size with h' | h'
    · exact h'
    · simp [Array.getElem?_eq_none h'] at h
  rw [k.block g hlt]
  exact h
theorem vars_cons {H : Type} (enc : TypeId × Value → H) {W : World} {n : String} {g : Nat} {x : Value} {ns : List String} {ds : List (DataW H)} {qs : List MemPlace} {sp : Nat → Bool}
    (hg : Tryz.prog.globalNamed n = some g) (ht : (Tryz.prog.globals[g]?).map (·.type) = some 112) (h : W.var? Tryz.prog n = some #[x]) (ix : IsIface x) (r : DataW.TrodVars enc Tryz.prog W sp ns ds qs) :
    DataW.TrodVars enc Tryz.prog W sp (n :: ns) (tok enc x :: ds) (.cell g 0 :: qs) :=
  ⟨g, 112, #[x], 1, [], qs, hg, ht, h, trod_held Tryz.underlying112 ix 0, r, rfl⟩

theorem ops_of_var {W : World} {cs : Array Value} {fuel : Nat} {p : List MemPlace} (hv : W.var? Tryz.prog "loop.example/g00457/impl.opWords" = some cs)
    (hd : DataW.trod (fun _ => ()) Tryz.prog W 0 (fun _ => true) false fuel 92 cs.toList = some (Rows.laid_loop_example_g00457_impl_opWords, p)) : OpsAt W := by
  have hcell : ∀ r, r < 28 → W.cell? ⟨0, r, none⟩ = some (.string (opW r)) := by
    intro r hr
    obtain ⟨xs, m, _, ex, _, hl, hel⟩ := DataW.trod_array Tryz.underlying92 hd
    have c5 : Tryz.prog.cellsOf 9 = 1 := by kernel_rfl
    have hE := hel r hr
    rw [c5, Nat.mul_one, List.getElem?_eq_getElem (by omega)] at hE
    obtain ⟨s, e1, e2, _⟩ := DataW.trod_string Tryz.underlying9 hE
    have hlen : opWL.length = 28 := rfl
    rw [opsDt] at ex
    have e3 : (xs.map (·.1)) = opWL.map fun b => .lit (.string b) := (DataW.agg.inj (Prod.mk.inj ex).1).symm
    have e4 : (xs.map (·.1))[r]? = (opWL.map fun b => (DataW.lit (.string b) : DataW Unit))[r]? := by rw [e3]
    rw [List.getElem?_map, List.getElem?_map, List.getElem?_eq_getElem (by omega : r < xs.length), List.getElem?_eq_getElem (by omega : r < opWL.length), e2] at e4
    have hz : s = opW r := by
      simp only [Option.map_some, Option.some.injEq, DataW.lit.injEq, Lit.string.injEq] at e4
      unfold opW bs
      rw [List.getD, List.getElem?_eq_getElem (by omega : r < opWL.length)]
      refine ByteArray.ext (Array.toList_inj.1 ?_)
      simpa using e4
    rw [World.var?_cell gOps hv r, ← hz]
    have : cs.toList[r]? = some (.string s) := by
      have h0 : ((cs.toList.drop r).take 1)[0]? = some (.string s) := by rw [e1]; rfl
      simpa using h0
    simpa using this
  refine ⟨?_, hcell⟩
  rcases Nat.lt_or_ge 0 W.heap.size with h | h
  · exact h
  · have := hcell 0 (by omega)
    simp [World.cell?, Array.getElem?_eq_none h] at this
theorem pow_of_var {W : World} {cs : Array Value} {fuel : Nat} {p : List MemPlace} (hv : W.var? Tryz.prog "internal/strconv.uint64pow10" = some cs)
    (hd : DataW.trod (fun _ => ()) Tryz.prog W 0 (fun _ => true) false fuel 157 cs.toList = some (Rows.laid_internal_strconv_uint64pow10, p)) : PowAt W := by
  rw [powDt] at hd
  unfold PowAt Lib.TabIs
  rw [hv, ← Lib.cells_of_tab Tryz.underlying157 Tryz.underlying119 (by kernel_rfl) (by kernel_rfl) hd]
theorem two_vars {H : Type} {enc : TypeId × Value → H} {P : Program} {W : World} {sp : Nat → Bool} {n m : String} {gs : List (DataW H)} {q : List MemPlace} (h : DataW.TrodVars enc P W sp [n, m] gs q) : ∃ g1 g2, gs = [g1, g2] := by
  match gs, h with
  | [g], h => obtain ⟨_, _, _, _, _, _, _, _, _, _, h, _⟩ := h; exact h.elim
  | [g1, g2], _ => exact ⟨g1, g2, rfl⟩
  | g1 :: g2 :: x :: r, h =>
    obtain ⟨_, _, _, _, _, _, _, _, _, _, h, _⟩ := h
    obtain ⟨_, _, _, _, _, _, _, _, _, _, h, _⟩ := h
    exact h.elim
theorem gv_of {W : World} {n : String} {g : Nat} {x : Value} (hg : Tryz.prog.globalNamed n = some g) (h : W.var? Tryz.prog n = some #[x]) : Gv W g x := by
  have hc : W.cell? ⟨g, 0, none⟩ = some x := by rw [World.var?_cell hg h 0]; rfl
  refine ⟨hc, ?_⟩
  rcases Nat.lt_or_ge g W.heap.size with h | h
  · exact h
  · simp [World.cell?, Array.getElem?_eq_none h] at hc
structure LaidR (W : World) (aC : Addr) : Prop where
  c : W.var? Tryz.prog "loop.example/g00457/impl.errUnread" = some #[errV aC]
  gv : Gv W 1 (errV aC)
  es : ErrsAt W
  pw : PowAt W
  ops : OpsAt W
set_option maxHeartbeats 8000000 in
set_option maxRecDepth 100000 in
theorem read_of_laid {W : World} (h : laidMetH Tryz.prog Rows.fnKeysRow.laid W) : ∃ aC, LaidR W aC := by
  rw [MakeChecks.laidMetH_plain _ _ _ (by kernel_rfl)] at h
  obtain ⟨ps, ⟨g0, t0, cs0, f0, p0, q0, hg0, ht0, hv0, hd0, ⟨g1, t1, cs1, f1, p1, q1, hg1, ht1, hv1, hd1, ⟨g2, t2, cs2, f2, p2, q2, hg2, ht2, hv2, hd2, ⟨g3, t3, cs3, f3, p3, q3, hg3, ht3, hv3, hd3, ⟨g4, t4, cs4, f4, p4, q4, hg4, ht4, hv4, hd4, ⟨g5, t5, cs5, f5, p5, q5, hg5, ht5, hv5, hd5, ⟨g6, t6, cs6, f6, p6, q6, hg6, ht6, hv6, hd6, ⟨g7, t7, cs7, f7, p7, q7, hg7, ht7, hv7, hd7, ⟨g8, t8, cs8, f8, p8, q8, hg8, ht8, hv8, hd8, hq8, e8⟩, e7⟩, e6⟩, e5⟩, e4⟩, e3⟩, e2⟩, e1⟩, e0⟩, hnd, hrows⟩ := h
  obtain rfl := Option.some.inj (gPow.symm.trans hg2)
  obtain rfl := Option.some.inj (tPow.symm.trans ht2)
  obtain rfl := Option.some.inj (gRg.symm.trans hg4)
  obtain rfl := Option.some.inj (tRg.symm.trans ht4)
  obtain rfl := Option.some.inj (gSy.symm.trans hg5)
  obtain rfl := Option.some.inj (tSy.symm.trans ht5)
  obtain rfl := Option.some.inj (gOps.symm.trans hg6)
  obtain rfl := Option.some.inj (tOps.symm.trans ht6)
  obtain rfl := Option.some.inj (gC.symm.trans hg7)
  obtain rfl := Option.some.inj (tC.symm.trans ht7)
  have hO := ops_of_var hv6 hd6
  have hW := pow_of_var hv2 hd2
  clear hd0 hd1 hd2 hd3 hd6 hd8
  subst e8
  subst e7
  subst e6
  subst e5
  subst e4
  subst e3
  subst e2
  subst e1
  subst e0
  obtain ⟨l4⟩ := cs4
  obtain ⟨l5⟩ := cs5
  obtain ⟨l7⟩ := cs7
  have ok4 : ∀ u v, l4 = [.iface u v] → Value.okWide Tryz.prog W .any 0 u v := fun u v e => by
    subst e
    exact (hrows 5 0 (by simp [MemPlace.row])).2 u v (by simpa using World.var?_cell hg4 hv4 0)
  have ok5 : ∀ u v, l5 = [.iface u v] → Value.okWide Tryz.prog W .any 0 u v := fun u v e => by
    subst e
    exact (hrows 4 0 (by simp [MemPlace.row])).2 u v (by simpa using World.var?_cell hg5 hv5 0)
  have ok7 : ∀ u v, l7 = [.iface u v] → Value.okWide Tryz.prog W .any 0 u v := fun u v e => by
    subst e
    exact (hrows 1 0 (by simp [MemPlace.row])).2 u v (by simpa using World.var?_cell hg7 hv7 0)
  obtain ⟨a4, s4, rfl, hc4, hs4, hz4, rfl⟩ := errorString_of_trod Tryz.underlying112 lrow Tryz.underlying187 Tryz.underlying189 rfl rfl Tryz.underlying9 lcES lcS hd4 ok4
  obtain ⟨a5, s5, rfl, hc5, hs5, hz5, rfl⟩ := errorString_of_trod Tryz.underlying112 lrow Tryz.underlying187 Tryz.underlying189 rfl rfl Tryz.underlying9 lcES lcS hd5 ok5
  obtain ⟨a7, s7, rfl, hc7, hs7, hz7, rfl⟩ := errorString_of_trod Tryz.underlying112 lrow Tryz.underlying187 Tryz.underlying189 rfl rfl Tryz.underlying9 lcES lcS hd7 ok7
  exact ⟨a7, ⟨hv7, gv_of gC hv7, ⟨⟨_, gv_of gSy hv5, .inr ⟨_, _, rfl⟩⟩, ⟨_, gv_of gRg hv4, .inr ⟨_, _, rfl⟩⟩⟩, hW, hO⟩⟩
theorem read_met (os : Os) (args : Array Value) : laidMetH Tryz.prog Rows.fnKeysRow.laid ((World.laidAll Tryz.prog os Rows.fnKeysRow.laid).forCall (fun _ _ => 0) ⟨#[], args, []⟩).memory := by
  rw [MakeChecks.laidMetH_plain _ _ _ (by kernel_rfl)]
  exact laidMet_laidAll _ (by kernel_rfl) (by kernel_rfl)
end Go.Proofs.YtclagbdomfgodaaGreatDoor
namespace Go.Proofs.YtclagbdomfgodaaGreatDoor
open Go.ChangeShapes Go.WideShapes Go.RowKit
set_option linter.unusedVariables false

theorem vars_snd {H : Type} {enc : TypeId × Value → H} {W W' : World} {gs : List (DataW H)} {q : List MemPlace} {x : Value} (hl : laidOutB Tryz.prog = true) (bel : Below W.heap.size W W')
    (hV : DataW.TrodVars enc Tryz.prog W (fun _ => true) ["loop.example/g00457/impl.opWords", "loop.example/g00457/impl.errUnread"] gs q) (hx : W.var? Tryz.prog "loop.example/g00457/impl.errUnread" = some #[x]) (ix : IsIface x) :
    DataW.TrodVars enc Tryz.prog W' (fun b => decide (b < W.heap.size)) ["loop.example/g00457/impl.opWords", "loop.example/g00457/impl.errUnread"] gs q := by
  obtain ⟨g1, g2, rfl⟩ := two_vars hV
  obtain ⟨g, t, cs, fuel, p, q1, h1, h2, h3, h4, hs, e⟩ := hV
  obtain ⟨hgs, hq1⟩ := hs.unique (vars_cons enc gC tC hx ix (show DataW.TrodVars enc Tryz.prog W (fun _ => true) [] [] [] from rfl))
  have K : DataW.TrodVars enc Tryz.prog W (fun _ => true) ["loop.example/g00457/impl.opWords"] [g1] (MemPlace.row ⟨g, 0, none⟩ cs.size ++ p ++ []) := ⟨g, t, cs, fuel, p, [], h1, h2, h3, h4, rfl, rfl⟩
  obtain ⟨g', t', cs', fuel', p', q', k1, k2, k3, k4, ks, ke⟩ := Below.trodVars hl bel (by kernel_rfl) K
  have hq' : q' = [] := ks
  subst hq'
  have T : DataW.TrodVars enc Tryz.prog W' (fun b => decide (b < W.heap.size)) ["loop.example/g00457/impl.errUnread"] [g2] q1 := by
    rw [hgs, hq1]
    exact vars_cons enc gC tC (var_below gC hx bel) ix rfl
  refine ⟨g', t', cs', fuel', p', q1, k1, k2, k3, k4, T, ?_⟩
  rw [e]
  simp only [List.append_nil] at ke
  rw [ke]
end Go.Proofs.YtclagbdomfgodaaGreatDoor
