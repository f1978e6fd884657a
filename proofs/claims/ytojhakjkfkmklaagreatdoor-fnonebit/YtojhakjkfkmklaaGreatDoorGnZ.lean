/- Drawn modules: the walk. -/
import Derived.Test.YtojhakjkfkmklaaGreatDoorGnY
import Derived.Deep.DeepCutAuto
namespace Go.Proofs.YtojhakjkfkmklaaGreatDoor
open Go.RowKit Go.Deep
set_option linter.unusedVariables false

/-- What a drawn module is: its first function lies in memory. -/
def ModTold (g : Nat) (a0 : Option Addr) (len cap : Nat) (v : World) (e : Ending) (w : World) : Prop := ∃ gm n cm, e = .returned (.agg #[.slice (some ⟨gm, 0, none⟩) n cm]) ∧ 1 ≤ n ∧ ∃ (d : FuncD) (up ub : Option Addr) (cp cb : Nat), w.cell? ⟨gm, 0, none⟩ = some (.slice up d.params.length cp) ∧ w.cell? ⟨gm, 1, none⟩ = some (.int .i64 d.ret) ∧ w.cell? ⟨gm, 2, none⟩ = some (.slice ub d.blocks.length cb) ∧ SmFunc d ∧ 1 ≤ d.blocks.length ∧ IntsAt w v.heap.size up d.params ∧ BlocksAt w v.heap.size ub d.blocks ∧ Rd g a0 len cap w ∧ (∀ b, b < v.heap.size → b ≠ g → w.heap[b]? = v.heap[b]?) ∧ v.heap.size ≤ w.heap.size ∧ w.os = v.os ∧ w.tape = v.tape ∧ w.output = v.output
theorem ty2_low {w : World} {lo lo' : Nat} {d : FuncD} {up ub : Option Addr} (h : Ty2 w lo d up ub) (hl : lo' ≤ lo) : Ty2 w lo' d up ub := by
  obtain ⟨M, h1, h3⟩ := h
  refine ⟨M, fun b T m hb => ?_, h3⟩
  obtain ⟨k1, k2⟩ := h1 b T m hb
  exact ⟨by omega, k2⟩
/-- All its functions, by the types of their memory. -/
def ModAll (g : Nat) (a0 : Option Addr) (len cap : Nat) (v : World) (e : Ending) (w : World) : Prop := ∃ gm n cm, e = .returned (.agg #[.slice (some ⟨gm, 0, none⟩) n cm]) ∧ 1 ≤ n ∧ n ≤ 2 ∧ v.heap.size ≤ gm ∧ (∃ cur, w.heap[gm]? = some (.cells cur 49 (0, 0))) ∧ (∀ i, i < n → ∃ (d : FuncD) (up ub : Option Addr) (cp cb : Nat), w.cell? ⟨gm, i * 3, none⟩ = some (.slice up d.params.length cp) ∧ w.cell? ⟨gm, i * 3 + 1, none⟩ = some (.int .i64 d.ret) ∧ w.cell? ⟨gm, i * 3 + 2, none⟩ = some (.slice ub d.blocks.length cb) ∧ Ty2 w v.heap.size d up ub) ∧ Rd g a0 len cap w ∧ (∀ b, b < v.heap.size → b ≠ g → w.heap[b]? = v.heap[b]?) ∧ v.heap.size ≤ w.heap.size ∧ w.os = v.os ∧ w.tape = v.tape ∧ w.output = v.output
set_option maxHeartbeats 4000000 in
set_option maxRecDepth 100000 in
theorem module_both (g : Nat) (a0 : Option Addr) (len cap : Nat) (v : World) (h : Rd g a0 len cap v) : Calls Tryz.prog 31 #[.pointer (some ⟨g, 0, none⟩)] v fun e w => ModTold g a0 len cap v e w ∧ ModAll g a0 len cap v e w := by
  have h0 := mst_start h
  have hs5 := size5 v
  go_enter Tryz.func31, Tryz.ntmps31
  go_wp2_with (first | (go_at_call 32; refine (below_any g a0 len cap _ ((((v.alloc (.cells #[.slice none 0 0] 26)).alloc (.cells #[.slice none 0 0] 26)).alloc (.cells #[] 2)).alloc (.cells #[] 46)) h0.rd).mono ?_; rintro e w0 ⟨n0, rfl, hn0, hn1, hr0, hg0⟩; obtain ⟨k0, rfl⟩ := Int.eq_ofNat_of_zero_le hn0; have M0 := h0.keep hr0 (fun b h1 h2 => hg0.block b h1 (by simpa using h2)) hg0.size hg0.os hg0.tape hg0.output; clear h0 hr0 hg0))
  generalize hz : v.heap.size = z0 at M0 ⊢
  go_loopw [4, 5, 6] (fun r s i wr => ∃ k n : Nat, i = .int .i64 n ∧ n + k ≤ 2 ∧ 0 < n + k ∧ MSt z0 g a0 len cap v k r s wr) (fun _ _ i _ => (intOf i).toNat)
  case atStart => exact ⟨0, 1 + k0, by first | rfl | go_num | (congr 1; omega), by omega, by omega, M0⟩
  case round =>
    clear M0
    obtain ⟨k, n, rfl, hkn, hkn0, hM⟩ := hrel
    by_cases hn : 0 < n
    · obtain ⟨base, M, ur, cr, us, cs, hbase, rfl, rfl, hin, hbase2, hqc⟩ := hM.fnIn (by omega)
      have PF := fn_any base g a0 len cap M ur us k cr cs wr hin
      go_wp2_with (first | (go_at_call 64; refine PF.mono ?_; rintro e w1 ⟨up, np, cp, ret, ub, nb, cb, rfl, M2, th, sl1, sl2, hn2, hnb, hret, hpw, hrd, hkeep, ho1, ho2, ho3, hsz1, hhold⟩; obtain ⟨d, e1, e2, e3, hF⟩ := fnc_of (ret := ret) th (by omega) sl1 sl2 hn2 hnb hpw; subst e1 e2 e3; have TY1 := ty1_of (k := k) (r := .slice ur k cr) (s := .slice us k cs) th sl1 sl2 hn2 hnb hhold hqc; have PC := countS_any base d up cp ub cb (w1.alloc (.cells #[.slice up d.params.length cp, .int .i64 d.ret, .slice ub d.blocks.length cb] 49)) hF.sm (hF.mem.read.2.keep (agree_alloc _ _ _)); clear th sl1 sl2 hpw hhold))
      refine PC.mono ?_
      rintro e w3 ⟨rfl, hb3⟩
      have hbb := hin.bv
      have hz4 := hM.sz
      obtain ⟨⟨K1, K2, K3⟩, ⟨X1, X2, X3⟩, hlt13, KK, XX, hsx⟩ := mids hM hrd hkeep ho1 ho2 ho3 hsz1 hF hin.bv hb3
      obtain ⟨zs0, hro0⟩ := hM.ro
      obtain ⟨mf0, xs0, ps0, _, _, hso0, _⟩ := hM.fs
      have hqs : ∀ q, ((Value.slice ur k cr).ownBlock = some q ∨ (Value.slice us k cs).ownBlock = some q) → q < w3.heap.size := fun q hq => by
        rcases hq with hq | hq
        · have := (hro0.lt q hq).2; omega
        · have := (hso0.lt q hq).2; omega
      obtain ⟨TK, TX⟩ := mids_ty TY1 hb3 hqs (by omega)
      have HTK : Hid _ := TK
      have HTX : Hid _ := TX
      clear TK TX TY1 hqs hqc hro0 hso0
      obtain ⟨mf, xs, ps, zs, hmf, hfs⟩ := fs_at hM
      have FK := hfs w3 KK (by omega)
      have FX := hfs _ XX (by omega)
      have hTm0 : True := trivial
      have hTm : mf.ownBlock ≠ some w1.heap.size := fun e => by have := hmf _ e; omega
      obtain ⟨iF, fi, f0, f1, f2⟩ := info_parts infoF
      obtain ⟨iS, gi, g0', g1', g2'⟩ := info_parts infoS
      obtain ⟨iI, ji, j0, j1, j2⟩ := info_parts info1
      have HF : Hid _ := (⟨fi, f0, f1, f2⟩ : _ ∧ _ ∧ _ ∧ _)
      have HS : Hid _ := (⟨gi, g0', g1', g2'⟩ : _ ∧ _ ∧ _ ∧ _)
      have HI : Hid _ := (⟨ji, j0, j1, j2⟩ : _ ∧ _ ∧ _ ∧ _)
      have hne2 : ¬ (w1.heap.size = z0 + 1) := by omega
      have HX : Hid _ := (⟨FX, X1, X2, X3⟩ : _ ∧ _ ∧ _ ∧ _)
      have HK : Hid _ := (⟨FK, K1, K2, K3⟩ : _ ∧ _ ∧ _ ∧ _)
      have t0 : w3.cell? ⟨w1.heap.size, 0, none⟩ = some (.slice up d.params.length cp) := (cell_of_heap K2).trans rfl
      have t1 : w3.cell? ⟨w1.heap.size, 1, none⟩ = some (.int .i64 d.ret) := (cell_of_heap K2).trans rfl
      have t2 : w3.cell? ⟨w1.heap.size, 2, none⟩ = some (.slice ub d.blocks.length cb) := (cell_of_heap K2).trans rfl
      have u0 : w3.frozen? ⟨w1.heap.size, 0, none⟩ = false := by simp [World.frozen?, K2]
      have u1 : w3.frozen? ⟨w1.heap.size, 1, none⟩ = false := by simp [World.frozen?, K2]
      have u2 : w3.frozen? ⟨w1.heap.size, 2, none⟩ = false := by simp [World.frozen?, K2]
      clear hs5 hsx X1 X2 X3 FX XX KK FK K1 K2 K3 PC hb3 hkeep PF hF hrd ho1 ho2 ho3 hfs fi f0 f1 f2 gi g0' g1' g2' ji j0 j1 j2
      by_cases hc : (60 : Int) < (cntF d : Int)
      · go_upto_region 10 with fail
        replace HK := HX
        replace HTK := HTX
        clear HX HTX t0 t1 t2 u0 u1 u2
        generalize (((((w3.setCell ⟨w1.heap.size, 0, none⟩ (.slice none 0 0)).setCell ⟨w1.heap.size, 1, none⟩ (.int .i64 8)).setCell ⟨w1.heap.size, 2, none⟩ (.slice (some ⟨w3.heap.size + 1, 0, none⟩) 1 1)).alloc (.cells #[.int .i64 21, .int .i64 8, .int .i64 0, .int .i64 0, .int .i64 0, .int .i64 7, .slice none 0 0] 91)).alloc (.cells #[.slice none 0 0, .slice (some ⟨w3.heap.size, 0, none⟩) 1 1, .int .i64 1, .int .i64 0, .int .i64 0, .int .i64 0] 86)) = xw at HK HTK ⊢
        have t0 : xw.cell? ⟨w1.heap.size, 0, none⟩ = some (.slice none 0 0) := (cell_of_heap HK.out.2.2.1).trans rfl
        have t1 : xw.cell? ⟨w1.heap.size, 1, none⟩ = some (.int .i64 8) := (cell_of_heap HK.out.2.2.1).trans rfl
        have t2 : xw.cell? ⟨w1.heap.size, 2, none⟩ = some (.slice (some ⟨w3.heap.size + 1, 0, none⟩) 1 1) := (cell_of_heap HK.out.2.2.1).trans rfl
        have hxl := HK.out.2.1.sz
        have mc : xw.cell? ⟨z0 + 1, 0, none⟩ = some mf := (cell_of_heap HK.out.1.1).trans rfl
        go_wp2_with (first | (at_builtin; refine wpList_append_two _ rfl (.tmp 38) (.tmp 40) 24 rfl (z0 + 2) 49 iF (.agg #[.slice none 0 0, .int .i64 0, .slice none 0 0]) 3 56 Tryz.underlying24 HF.out.1 HF.out.2.1 HF.out.2.2.1 HF.out.2.2.2 rfl (by decide) mf k xs rfl (HK.out.1.2.1.alloc _) ⟨xw.heap.size, 0, none⟩ 1 [.slice none 0 0, .int .i64 8, .slice (some ⟨w3.heap.size + 1, 0, none⟩) 1 1] rfl rfl (three_of (heap_alloc_last _ _)) (by simp [Value.oneCell']) (by unfold maxLen; omega) (by omega) (by simp; omega) ?_; intro g4 c4 y1 o1 E1 l1; have e1 := E1.grown; have HE1 : Hid _ := E1; clear E1; obtain ⟨A1, A2, A3, A4, A5⟩ := after1 (g4 := g4) (c4 := c4) HK.out.2.1 HK.out.1.1 HK.out.1.2.1 HK.out.1.2.2.1 HK.out.1.2.2.2.1 HK.out.2.2.1 (by omega) hTm e1; have n0 : y1.cell? ⟨z0 + 1, 0, none⟩ = some mf := (cell_of_heap A1).trans rfl; have n1 : y1.frozen? ⟨z0 + 1, 0, none⟩ = false := (by simp [World.frozen?, A1]); have v1 : y1.cell? ⟨w1.heap.size, 1, none⟩ = some (.int .i64 8) := (cell_of_heap A2).trans rfl; have v0 : y1.cell? ⟨w1.heap.size, 0, none⟩ = some (.slice none 0 0) := (cell_of_heap A2).trans rfl; have HA : Hid _ := (⟨A2, A3, A4, o1⟩ : _ ∧ _ ∧ _ ∧ _); clear A1 A2 A3 A4 o1 e1 l1 t0 t1 t2 mc) | (at_builtin; refine wpList_append_two _ rfl (.tmp 43) (.tmp 46) 46 rfl (z0 + 2) 2 iI (.int .i64 0) 1 8 Tryz.underlying46 HI.out.1 HI.out.2.1 HI.out.2.2.1 HI.out.2.2.2 rfl (by decide) (.slice ur k cr) k (zs.map (Value.int .i64)) rfl (HA.out.2.1.alloc _) ⟨y1.heap.size, 0, none⟩ 1 [.int .i64 8] rfl rfl (one_of (heap_alloc_set _ _ _ _)) (by simp [Value.oneCell']) (by unfold maxLen; omega) (by omega) (by simp [World.size_setCell]; omega) ?_; intro g5 c5 y3 o2 E2 l2; have e2 := E2.grown; have HE2 : Hid _ := E2; clear E2; obtain ⟨B1, B2, B3⟩ := after2 HA.out.2.2.1 HA.out.2.1 ((Below.heap_setCell _ _ _ _ hne2).trans HA.out.1) e2; have v3 : y3.cell? ⟨w1.heap.size, 0, none⟩ = some (.slice none 0 0) := (cell_of_heap B1).trans rfl; have hs3 : z0 + 4 ≤ y3.heap.size := (by simp only [World.size_setCell] at B3; omega); have HB : Hid _ := (⟨B2, o2⟩ : _ ∧ _); clear B1 B2 B3 o2 e2 l2 n0 n1 v1 v0) | (at_builtin; refine wpList_append_two _ rfl (.tmp 48) (.tmp 51) 97 rfl (z0 + 2) 46 iS (.slice none 0 0) 1 24 Tryz.underlying97 HS.out.1 HS.out.2.1 HS.out.2.2.1 HS.out.2.2.2 rfl (by decide) (.slice us k cs) k ps rfl (HB.out.1.alloc _) ⟨y3.heap.size, 0, none⟩ 1 [.slice none 0 0] rfl rfl (one_of (heap_alloc_last _ _)) (by simp [Value.oneCell']) (by unfold maxLen; omega) (by omega) (by simp; omega) ?_; intro g6 c6 y4 o3 E3 l3; have HE3 : Hid _ := E3; have HC : Hid _ := o3; clear o3 E3 l3 v3))
        have NX := next_at (T7 := w1.heap.size) (d := fun7) (up := none) (cp := 0) (ub := (some ⟨w3.heap.size + 1, 0, none⟩)) (cb := 1) HK.out.2.1 (by omega) HK.out.2.2.2 hbase HTK.out hbase2 HK.out.1 HA.out.2.2.2 HE1.out HB.out.2 HE2.out HC.out HE3.out
        go_roundw
        case rel => exact ⟨k + 1, n - 1, by first | go_num | (congr 1; omega), by omega, by omega, NX⟩
        case measure => simp [intOf]; omega
      · by_cases hl : (10 : Int) < (d.blocks.length : Int)
        · go_upto_region 10 with fail
          replace HK := HX
          replace HTK := HTX
          clear HX HTX t0 t1 t2 u0 u1 u2
          generalize (((((w3.setCell ⟨w1.heap.size, 0, none⟩ (.slice none 0 0)).setCell ⟨w1.heap.size, 1, none⟩ (.int .i64 8)).setCell ⟨w1.heap.size, 2, none⟩ (.slice (some ⟨w3.heap.size + 1, 0, none⟩) 1 1)).alloc (.cells #[.int .i64 21, .int .i64 8, .int .i64 0, .int .i64 0, .int .i64 0, .int .i64 7, .slice none 0 0] 91)).alloc (.cells #[.slice none 0 0, .slice (some ⟨w3.heap.size, 0, none⟩) 1 1, .int .i64 1, .int .i64 0, .int .i64 0, .int .i64 0] 86)) = xw at HK HTK ⊢
          have t0 : xw.cell? ⟨w1.heap.size, 0, none⟩ = some (.slice none 0 0) := (cell_of_heap HK.out.2.2.1).trans rfl
          have t1 : xw.cell? ⟨w1.heap.size, 1, none⟩ = some (.int .i64 8) := (cell_of_heap HK.out.2.2.1).trans rfl
          have t2 : xw.cell? ⟨w1.heap.size, 2, none⟩ = some (.slice (some ⟨w3.heap.size + 1, 0, none⟩) 1 1) := (cell_of_heap HK.out.2.2.1).trans rfl
          have hxl := HK.out.2.1.sz
          have mc : xw.cell? ⟨z0 + 1, 0, none⟩ = some mf := (cell_of_heap HK.out.1.1).trans rfl
          go_wp2_with (first | (at_builtin; refine wpList_append_two _ rfl (.tmp 38) (.tmp 40) 24 rfl (z0 + 2) 49 iF (.agg #[.slice none 0 0, .int .i64 0, .slice none 0 0]) 3 56 Tryz.underlying24 HF.out.1 HF.out.2.1 HF.out.2.2.1 HF.out.2.2.2 rfl (by decide) mf k xs rfl (HK.out.1.2.1.alloc _) ⟨xw.heap.size, 0, none⟩ 1 [.slice none 0 0, .int .i64 8, .slice (some ⟨w3.heap.size + 1, 0, none⟩) 1 1] rfl rfl (three_of (heap_alloc_last _ _)) (by simp [Value.oneCell']) (by unfold maxLen; omega) (by omega) (by simp; omega) ?_; intro g4 c4 y1 o1 E1 l1; have e1 := E1.grown; have HE1 : Hid _ := E1; clear E1; obtain ⟨A1, A2, A3, A4, A5⟩ := after1 (g4 := g4) (c4 := c4) HK.out.2.1 HK.out.1.1 HK.out.1.2.1 HK.out.1.2.2.1 HK.out.1.2.2.2.1 HK.out.2.2.1 (by omega) hTm e1; have n0 : y1.cell? ⟨z0 + 1, 0, none⟩ = some mf := (cell_of_heap A1).trans rfl; have n1 : y1.frozen? ⟨z0 + 1, 0, none⟩ = false := (by simp [World.frozen?, A1]); have v1 : y1.cell? ⟨w1.heap.size, 1, none⟩ = some (.int .i64 8) := (cell_of_heap A2).trans rfl; have v0 : y1.cell? ⟨w1.heap.size, 0, none⟩ = some (.slice none 0 0) := (cell_of_heap A2).trans rfl; have HA : Hid _ := (⟨A2, A3, A4, o1⟩ : _ ∧ _ ∧ _ ∧ _); clear A1 A2 A3 A4 o1 e1 l1 t0 t1 t2 mc) | (at_builtin; refine wpList_append_two _ rfl (.tmp 43) (.tmp 46) 46 rfl (z0 + 2) 2 iI (.int .i64 0) 1 8 Tryz.underlying46 HI.out.1 HI.out.2.1 HI.out.2.2.1 HI.out.2.2.2 rfl (by decide) (.slice ur k cr) k (zs.map (Value.int .i64)) rfl (HA.out.2.1.alloc _) ⟨y1.heap.size, 0, none⟩ 1 [.int .i64 8] rfl rfl (one_of (heap_alloc_set _ _ _ _)) (by simp [Value.oneCell']) (by unfold maxLen; omega) (by omega) (by simp [World.size_setCell]; omega) ?_; intro g5 c5 y3 o2 E2 l2; have e2 := E2.grown; have HE2 : Hid _ := E2; clear E2; obtain ⟨B1, B2, B3⟩ := after2 HA.out.2.2.1 HA.out.2.1 ((Below.heap_setCell _ _ _ _ hne2).trans HA.out.1) e2; have v3 : y3.cell? ⟨w1.heap.size, 0, none⟩ = some (.slice none 0 0) := (cell_of_heap B1).trans rfl; have hs3 : z0 + 4 ≤ y3.heap.size := (by simp only [World.size_setCell] at B3; omega); have HB : Hid _ := (⟨B2, o2⟩ : _ ∧ _); clear B1 B2 B3 o2 e2 l2 n0 n1 v1 v0) | (at_builtin; refine wpList_append_two _ rfl (.tmp 48) (.tmp 51) 97 rfl (z0 + 2) 46 iS (.slice none 0 0) 1 24 Tryz.underlying97 HS.out.1 HS.out.2.1 HS.out.2.2.1 HS.out.2.2.2 rfl (by decide) (.slice us k cs) k ps rfl (HB.out.1.alloc _) ⟨y3.heap.size, 0, none⟩ 1 [.slice none 0 0] rfl rfl (one_of (heap_alloc_last _ _)) (by simp [Value.oneCell']) (by unfold maxLen; omega) (by omega) (by simp; omega) ?_; intro g6 c6 y4 o3 E3 l3; have HE3 : Hid _ := E3; have HC : Hid _ := o3; clear o3 E3 l3 v3))
          have NX := next_at (T7 := w1.heap.size) (d := fun7) (up := none) (cp := 0) (ub := (some ⟨w3.heap.size + 1, 0, none⟩)) (cb := 1) HK.out.2.1 (by omega) HK.out.2.2.2 hbase HTK.out hbase2 HK.out.1 HA.out.2.2.2 HE1.out HB.out.2 HE2.out HC.out HE3.out
          go_roundw
          case rel => exact ⟨k + 1, n - 1, by first | go_num | (congr 1; omega), by omega, by omega, NX⟩
          case measure => simp [intOf]; omega
        · clear HX HTX u0 u1 u2
          have mc : w3.cell? ⟨z0 + 1, 0, none⟩ = some mf := (cell_of_heap HK.out.1.1).trans rfl
          go_wp2_with (first | (at_builtin; refine wpList_append_two _ rfl (.tmp 38) (.tmp 40) 24 rfl (z0 + 2) 49 iF (.agg #[.slice none 0 0, .int .i64 0, .slice none 0 0]) 3 56 Tryz.underlying24 HF.out.1 HF.out.2.1 HF.out.2.2.1 HF.out.2.2.2 rfl (by decide) mf k xs rfl (HK.out.1.2.1.alloc _) ⟨w3.heap.size, 0, none⟩ 1 [.slice up d.params.length cp, .int .i64 d.ret, .slice ub d.blocks.length cb] rfl rfl (three_of (heap_alloc_last _ _)) (by simp [Value.oneCell']) (by unfold maxLen; omega) (by omega) (by simp; omega) ?_; intro g4 c4 y1 o1 E1 l1; have e1 := E1.grown; have HE1 : Hid _ := E1; clear E1; obtain ⟨A1, A2, A3, A4, A5⟩ := after1 (g4 := g4) (c4 := c4) HK.out.2.1 HK.out.1.1 HK.out.1.2.1 HK.out.1.2.2.1 HK.out.1.2.2.2.1 HK.out.2.2.1 (by omega) hTm e1; have n0 : y1.cell? ⟨z0 + 1, 0, none⟩ = some mf := (cell_of_heap A1).trans rfl; have n1 : y1.frozen? ⟨z0 + 1, 0, none⟩ = false := (by simp [World.frozen?, A1]); have v1 : y1.cell? ⟨w1.heap.size, 1, none⟩ = some (.int .i64 d.ret) := (cell_of_heap A2).trans rfl; have v0 : y1.cell? ⟨w1.heap.size, 0, none⟩ = some (.slice up d.params.length cp) := (cell_of_heap A2).trans rfl; have HA : Hid _ := (⟨A2, A3, A4, o1⟩ : _ ∧ _ ∧ _ ∧ _); clear A1 A2 A3 A4 o1 e1 l1 t0 t1 t2 mc) | (at_builtin; refine wpList_append_two _ rfl (.tmp 43) (.tmp 46) 46 rfl (z0 + 2) 2 iI (.int .i64 0) 1 8 Tryz.underlying46 HI.out.1 HI.out.2.1 HI.out.2.2.1 HI.out.2.2.2 rfl (by decide) (.slice ur k cr) k (zs.map (Value.int .i64)) rfl (HA.out.2.1.alloc _) ⟨y1.heap.size, 0, none⟩ 1 [.int .i64 d.ret] rfl rfl (one_of (heap_alloc_set _ _ _ _)) (by simp [Value.oneCell']) (by unfold maxLen; omega) (by omega) (by simp [World.size_setCell]; omega) ?_; intro g5 c5 y3 o2 E2 l2; have e2 := E2.grown; have HE2 : Hid _ := E2; clear E2; obtain ⟨B1, B2, B3⟩ := after2 HA.out.2.2.1 HA.out.2.1 ((Below.heap_setCell _ _ _ _ hne2).trans HA.out.1) e2; have v3 : y3.cell? ⟨w1.heap.size, 0, none⟩ = some (.slice up d.params.length cp) := (cell_of_heap B1).trans rfl; have hs3 : z0 + 4 ≤ y3.heap.size := (by simp only [World.size_setCell] at B3; omega); have HB : Hid _ := (⟨B2, o2⟩ : _ ∧ _); clear B1 B2 B3 o2 e2 l2 n0 n1 v1 v0) | (at_builtin; refine wpList_append_two _ rfl (.tmp 48) (.tmp 51) 97 rfl (z0 + 2) 46 iS (.slice none 0 0) 1 24 Tryz.underlying97 HS.out.1 HS.out.2.1 HS.out.2.2.1 HS.out.2.2.2 rfl (by decide) (.slice us k cs) k ps rfl (HB.out.1.alloc _) ⟨y3.heap.size, 0, none⟩ 1 [.slice up d.params.length cp] rfl rfl (one_of (heap_alloc_last _ _)) (by simp [Value.oneCell']) (by unfold maxLen; omega) (by omega) (by simp; omega) ?_; intro g6 c6 y4 o3 E3 l3; have HE3 : Hid _ := E3; have HC : Hid _ := o3; clear o3 E3 l3 v3))
          have NX := next_at (T7 := w1.heap.size) (d := d) (up := up) (cp := cp) (ub := ub) (cb := cb) HK.out.2.1 (by omega) HK.out.2.2.2 hbase HTK.out hbase2 HK.out.1 HA.out.2.2.2 HE1.out HB.out.2 HE2.out HC.out HE3.out
          go_roundw
          case rel => exact ⟨k + 1, n - 1, by first | go_num | (congr 1; omega), by omega, by omega, NX⟩
          case measure => simp [intOf]; omega
    · have hn0 : n = 0 := by omega
      subst hn0
      obtain ⟨mf, xs, ps, zs, hmf, hfs⟩ := fs_at hM
      obtain ⟨m1, m2, m3, m5, m0, m4, m6⟩ := hfs wr (fun _ _ _ => rfl) (Nat.le_refl _)
      obtain ⟨d, up, cp, ub, cb, H, x0, x1, x2, hF, _, _, _, _, _, hT1⟩ := m4 (by omega)
      have hgz := hM.gz
      have hz4 := hM.sz
      rcases m2.2 with ⟨_, e⟩ | ⟨gm, cm, cur, rfl, hgm, hcur, _⟩
      · omega
      have cm1 : wr.cell? ⟨z0 + 1, 0, none⟩ = some (.slice (some ⟨gm, 0, none⟩) k cm) := (cell_of_heap m1).trans rfl
      have cz : wr.cell? ⟨z0, 0, none⟩ = some (.slice none 0 0) := (cell_of_heap hM.res).trans rfl
      have fz : wr.frozen? ⟨z0, 0, none⟩ = false := by simp [World.frozen?, hM.res]
      have r0 : wr.cell? ⟨gm, 0, none⟩ = some (.slice up d.params.length cp) := (own_at (k := 0) m2 (by omega)).trans x0
      have r1 : wr.cell? ⟨gm, 1, none⟩ = some (.int .i64 d.ret) := (own_at (k := 1) m2 (by omega)).trans x1
      have r2 : wr.cell? ⟨gm, 2, none⟩ = some (.slice ub d.blocks.length cb) := (own_at (k := 2) m2 (by omega)).trans x2
      have HR : Hid _ := hM.res
      have hmd := hF.mem.read
      have hr := heap_set (o := 0) (v := .slice (some ⟨gm, 0, none⟩) k cm) hM.res
      go_wp2_with fail
      have hset : ∀ b, b ≠ z0 → (wr.setCell ⟨z0, 0, none⟩ (.slice (some ⟨gm, 0, none⟩) k cm)).heap[b]? = wr.heap[b]? := fun b hb => Below.heap_setCell _ _ _ _ hb
      have hag : Agree (z0 + 4) wr (wr.setCell ⟨z0, 0, none⟩ (.slice (some ⟨gm, 0, none⟩) k cm)) := ⟨by simp only [World.size_setCell]; exact Nat.le_refl _, fun b h1 _ => hset b (by omega)⟩
      refine bodyPost_ret (v := .agg #[.slice (some ⟨gm, 0, none⟩) k cm]) ((results_cell_row Tryz.results31 _ _ z0 26 _ (0, 0) _ rfl hr Tryz.underlying26 rfl (by kernel_rfl)).trans (by rfl)) rfl ⟨⟨gm, k, cm, rfl, by omega, d, up, ub, cp, cb, ?_, ?_, ?_, hF.sm, hF.one, (hmd.1.keep hag).low (by omega), (hmd.2.keep hag).low (by omega), rd_keep hM.rd (by simp only [World.size_setCell]; exact Nat.le_refl _) fun b hb => hset b (by omega), fun b h1 h2 => (hset b (by omega)).trans (hM.old b (by omega) h2), by simp only [World.size_setCell]; omega, (set_os _ _ _).trans hM.os, (set_tape _ _ _).trans hM.tape, (set_output _ _ _).trans hM.output⟩, ?_⟩
      · exact (cell_blk (hset gm (by omega))).trans r0
      · exact (cell_blk (hset gm (by omega))).trans r1
      · exact (cell_blk (hset gm (by omega))).trans r2
      · refine ⟨gm, k, cm, rfl, by omega, by omega, by omega, ⟨cur, (hset gm (by omega)).trans hcur⟩, fun i hi => ?_, rd_keep hM.rd (by simp only [World.size_setCell]; exact Nat.le_refl _) fun b hb => hset b (by omega), fun b h1 h2 => (hset b (by omega)).trans (hM.old b (by omega) h2), by simp only [World.size_setCell]; omega, (set_os _ _ _).trans hM.os, (set_tape _ _ _).trans hM.tape, (set_output _ _ _).trans hM.output⟩
        rcases i with _ | _ | i
        · exact ⟨d, up, ub, cp, cb, (cell_blk (hset gm (by omega))).trans r0, (cell_blk (hset gm (by omega))).trans r1, (cell_blk (hset gm (by omega))).trans r2, (hT1.keep (g := z0) (fun b _ hb => hset b hb) (by omega)).two (by omega)⟩
        · obtain ⟨d2, up2, cp2, ub2, cb2, y0, y1, y2, hT2⟩ := m6 (by omega)
          exact ⟨d2, up2, ub2, cp2, cb2, (cell_blk (hset gm (by omega))).trans ((own_at (k := 3) m2 (by omega)).trans y0), (cell_blk (hset gm (by omega))).trans ((own_at (k := 4) m2 (by omega)).trans y1), (cell_blk (hset gm (by omega))).trans ((own_at (k := 5) m2 (by omega)).trans y2), ty2_low (hT2.keep (g := z0) (fun b _ hb => hset b hb) (by omega)) (by omega)⟩
        · omega
theorem module_any (g : Nat) (a0 : Option Addr) (len cap : Nat) (v : World) (h : Rd g a0 len cap v) : Calls Tryz.prog 31 #[.pointer (some ⟨g, 0, none⟩)] v fun e w => ModTold g a0 len cap v e w :=
  (module_both g a0 len cap v h).mono fun _ _ k => k.1
theorem module_all (g : Nat) (a0 : Option Addr) (len cap : Nat) (v : World) (h : Rd g a0 len cap v) : Calls Tryz.prog 31 #[.pointer (some ⟨g, 0, none⟩)] v fun e w => ModAll g a0 len cap v e w :=
  (module_both g a0 len cap v h).mono fun _ _ k => k.2
end Go.Proofs.YtojhakjkfkmklaaGreatDoor
