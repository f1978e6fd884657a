/- The widths of operands: typesOf, unaryTypeOk, operandTypesOk, termTypeOk. -/
import Derived.Test.YthcaagkkajopiaaGreatDoorOpsQ
import Derived.Test.YthcaagkkajopiaaGreatDoorFmDQ
import Derived.Deep.RegionHeld2
import Derived.BigQuiet
import Derived.Deep.QuietTactic
namespace Go.Proofs.YthcaagkkajopiaaGreatDoor
open Go.RowKit
set_option linter.unusedVariables false

def unB (op w f : Int) : Bool := if op = 18 ∨ op = 19 then f != 0 && decide (f < w) else if op = 20 then decide (w < f) else f == w
set_option maxHeartbeats 1000000 in
theorem unI (op iw a b c imm : Int) (u : Option Addr) (n q : Nat) (f : Int) (w : World) :
    Calls Tryz.prog 93 #[.agg #[.int .i64 op, .int .i64 iw, .int .i64 a, .int .i64 b, .int .i64 c, .int .i64 imm, .slice u n q], .int .i64 f] w fun e w' => e = .returned (.bool (unB op iw f)) ∧ Below w.heap.size w w' := by
  by_cases h18 : op = 18
  · subst h18
    by_cases hf : f = 0
    · subst hf
      have E : Hid (false = unB 18 iw 0) := by show _ = _; simp [unB]
      go_enter Tryz.func93, Tryz.ntmps93
      go_wp2_with fail
      go_ret
      exact ⟨ret_bool E.out, (Below.refl _ _).alloc (Nat.le_refl _) _⟩
    · have E : Hid ((f != 0 && decide (f < iw)) = unB 18 iw f) := by show _ = _; simp [unB]
      go_enter Tryz.func93, Tryz.ntmps93
      go_wp2_with fail
      go_ret
      exact ⟨ret_bool E.out, (Below.refl _ _).alloc (Nat.le_refl _) _⟩
  by_cases h19 : op = 19
  · subst h19
    by_cases hf : f = 0
    · subst hf
      have E : Hid (false = unB 19 iw 0) := by show _ = _; simp [unB]
      go_enter Tryz.func93, Tryz.ntmps93
      go_wp2_with fail
      go_ret
      exact ⟨ret_bool E.out, (Below.refl _ _).alloc (Nat.le_refl _) _⟩
    · have E : Hid ((f != 0 && decide (f < iw)) = unB 19 iw f) := by show _ = _; simp [unB]
      go_enter Tryz.func93, Tryz.ntmps93
      go_wp2_with fail
      go_ret
      exact ⟨ret_bool E.out, (Below.refl _ _).alloc (Nat.le_refl _) _⟩
  by_cases h20 : op = 20
  · subst h20
    have E : Hid (decide (iw < f) = unB 20 iw f) := by show _ = _; simp [unB]
    go_enter Tryz.func93, Tryz.ntmps93
    go_wp2_with fail
    go_ret
    exact ⟨ret_bool E.out, (Below.refl _ _).alloc (Nat.le_refl _) _⟩
  have E : Hid ((f == iw) = unB op iw f) := by show _ = _; simp [unB, h18, h19, h20]
  go_enter Tryz.func93, Tryz.ntmps93
  go_wp2_with fail
  go_ret
  exact ⟨ret_bool E.out, (Below.refl _ _).alloc (Nat.le_refl _) _⟩
set_option maxHeartbeats 1000000 in
theorem trmI (lo : Nat) (ty : List Int) (ut : Option Addr) (ct : Nat) (x : TermD) (ret : Int) (w : World) (ht : IntsAt w lo ut ty) (hin : x.kind = 1 ∨ x.kind = 3 → 0 ≤ x.a ∧ x.a < ty.length) :
    Calls Tryz.prog 67 #[.slice ut ty.length ct, .agg #[.int .i64 x.kind, .int .i64 x.a, .int .i64 x.x, .int .i64 x.y], .int .i64 ret] w fun e w' => e = .returned (.bool (trmB (fun i => ty.getD i.toNat 0) x ret)) ∧ Below w.heap.size w w' := by
  obtain ⟨k, a, tx, tyy⟩ := x
  simp only at hin ⊢
  by_cases h1 : k = 1
  · subst h1
    obtain ⟨ha, hl⟩ := hin (.inl rfl)
    obtain ⟨y, rfl⟩ : ∃ y : Nat, a = y := ⟨a.toNat, by omega⟩
    rcases ht.2 with hn | ⟨b, off, rfl, hlo, hb, hcell⟩
    · simp [hn] at hl; omega
    have e0 := hcell y (by omega)
    have E : Hid ((ty.getD y 0 == ret) = trmB (fun i => ty.getD i.toNat 0) ⟨1, y, tx, tyy⟩ ret) := by show _ = _; simp [trmB]
    generalize ty.getD y 0 = v at e0 E
    clear ht hcell hin
    go_enter Tryz.func67, Tryz.ntmps67
    go_wp2_with fail
    go_ret
    exact ⟨ret_bool E.out, (Below.refl _ _).alloc (Nat.le_refl _) _⟩
  by_cases h3 : k = 3
  · subst h3
    obtain ⟨ha, hl⟩ := hin (.inr rfl)
    obtain ⟨y, rfl⟩ : ∃ y : Nat, a = y := ⟨a.toNat, by omega⟩
    rcases ht.2 with hn | ⟨b, off, rfl, hlo, hb, hcell⟩
    · simp [hn] at hl; omega
    have e0 := hcell y (by omega)
    have E : Hid ((ty.getD y 0 == 1) = trmB (fun i => ty.getD i.toNat 0) ⟨3, y, tx, tyy⟩ ret) := by show _ = _; simp [trmB]
    generalize ty.getD y 0 = v at e0 E
    clear ht hcell hin
    go_enter Tryz.func67, Tryz.ntmps67
    go_wp2_with fail
    go_ret
    exact ⟨ret_bool E.out, (Below.refl _ _).alloc (Nat.le_refl _) _⟩
  have E : Hid (true = trmB (fun i => ty.getD i.toNat 0) ⟨k, a, tx, tyy⟩ ret) := by show _ = _; simp [trmB, h1, h3]
  go_enter Tryz.func67, Tryz.ntmps67
  go_wp2_with fail
  go_ret
  exact ⟨ret_bool E.out, (Below.refl _ _).alloc (Nat.le_refl _) _⟩
theorem opr_facts {w w1 : World} {T : TypeId} {op iw a b c imm : Int} {sl : Value} (h : Below (w.alloc (.cells #[.int .i64 op, .int .i64 iw, .int .i64 a, .int .i64 b, .int .i64 c, .int .i64 imm, sl] T)).heap.size (w.alloc (.cells #[.int .i64 op, .int .i64 iw, .int .i64 a, .int .i64 b, .int .i64 c, .int .i64 imm, sl] T)) w1) :
    w1.heap[w.heap.size]? = some (.cells #[.int .i64 op, .int .i64 iw, .int .i64 a, .int .i64 b, .int .i64 c, .int .i64 imm, sl] T (0, 0)) ∧ w.heap.size < w1.heap.size ∧ (∀ b o v, b < w.heap.size → w.cell? ⟨b, o, none⟩ = some v → w1.cell? ⟨b, o, none⟩ = some v) ∧ Below w.heap.size w w1 := by
  have hz := h.size
  simp at hz
  exact ⟨(h.block _ (by simp)).trans (heap_alloc_last _ _), by omega, fun b o v hb hc => (bcell h b o (by simp; omega)).trans (cell_new hb hc), ((Below.refl w.heap.size w).alloc (Nat.le_refl _) _).trans (h.mono (by simp))⟩
theorem below_drewN {b : Nat} {w w' : World} (h : Below b w w') (n : Nat) : Below b w (w'.drewN n) := ⟨h.os, h.tape, h.output, h.size, h.block⟩
set_option maxHeartbeats 2000000 in
set_option maxRecDepth 100000 in
theorem opr_bin (op iw imm c : Int) (x y z : Nat) (args : List Int) (u : Option Addr) (q : Nat) (bt ot n ct : Nat) (t : Int → Int) (w : World) (hb : bt < w.heap.size) (hn : n ≤ 1000) (ht : ∀ k : Nat, k < n → w.cell? ⟨bt, ot + k, none⟩ = some (.int .i64 (t k))) (hx : x < n) (hy : y < n) (ho : opB op = true) :
    Calls Tryz.prog 66 #[.slice (some ⟨bt, ot, none⟩) n ct, .agg #[.int .i64 op, .int .i64 iw, .int .i64 x, .int .i64 y, .int .i64 c, .int .i64 imm, .slice u args.length q]] w fun e w' => e = .returned (.bool (argB t ⟨op, iw, x, y, c, imm, args⟩)) ∧ Below w.heap.size w w' := by
  have HK : Hid (kindV ⟨op, iw, x, y, c, imm, args⟩ u q = .iface 166 (.agg #[.int .i64 (x : Int), .int .i64 (y : Int)])) := kv_bin ho
  have ex := ht x hx
  generalize hvx : t (x : Int) = vx at ex
  have ey := ht y hy
  generalize hvy : t (y : Int) = vy at ey
  have E : Hid ((vx == iw && vy == iw) = argB t ⟨op, iw, x, y, c, imm, args⟩) := by show _ = _; simp [argB, ho, hvx, hvy]
  have A0 := as_binaryKind_binaryKind
  clear ht hvx hvy
  go_enter Tryz.func66, Tryz.ntmps66
  go_wp2_with (go_at_call 62; refine (kind_any ⟨op, iw, x, y, c, imm, args⟩ u q _).mono ?_; rintro e w1 ⟨rfl, hb1⟩; rw [HK.out]; obtain ⟨hh, zz, hq, hB⟩ := opr_facts hb1; have fw := (cell_of_heap (o := 1) hh).trans rfl; have fx := hq bt (ot + x) _ hb ex; have fy := hq bt (ot + y) _ hb ey; have zb : bt < w1.heap.size := (by omega); have HB : Hid (Below w.heap.size w w1) := hB; clear hB hb1 hq)
  by_cases h1 : vx = iw
  · have hd : (vx == iw) = true := by simp [h1]
    go_quiet (fail)
    go_wp2_with fail
    go_ret
    refine ⟨ret_bool (Eq.trans ?_ E.out), ?_⟩
    · simp [h1]
    · exact below_drewN (HB.out.alloc (by omega) _) _
  · have hd : (vx == iw) = false := by simp [h1]
    have hd2 : decide (vx = iw) = false := by simp [h1]
    go_quiet (fail)
    go_wp2_with fail
    go_ret
    refine ⟨ret_bool (Eq.trans ?_ E.out), ?_⟩
    · simp [h1]
    · exact below_drewN (HB.out.alloc (by omega) _) _
set_option maxHeartbeats 2000000 in
set_option maxRecDepth 100000 in
theorem opr_22 (iw imm : Int) (x y z : Nat) (args : List Int) (u : Option Addr) (q : Nat) (bt ot n ct : Nat) (t : Int → Int) (w : World) (hb : bt < w.heap.size) (hn : n ≤ 1000) (ht : ∀ k : Nat, k < n → w.cell? ⟨bt, ot + k, none⟩ = some (.int .i64 (t k))) (hx : x < n) (hy : y < n) (hz : z < n) :
    Calls Tryz.prog 66 #[.slice (some ⟨bt, ot, none⟩) n ct, .agg #[.int .i64 22, .int .i64 iw, .int .i64 x, .int .i64 y, .int .i64 z, .int .i64 imm, .slice u args.length q]] w fun e w' => e = .returned (.bool (argB t ⟨22, iw, x, y, z, imm, args⟩)) ∧ Below w.heap.size w w' := by
  have HK : Hid (kindV ⟨22, iw, x, y, z, imm, args⟩ u q = .iface 172 (.agg #[.int .i64 (x : Int), .int .i64 (y : Int), .int .i64 (z : Int)])) := kv_22 rfl
  have ex := ht x hx
  generalize hvx : t (x : Int) = vx at ex
  have ey := ht y hy
  generalize hvy : t (y : Int) = vy at ey
  have ez := ht z hz
  generalize hvz : t (z : Int) = vz at ez
  have E : Hid ((vx == 1 && vy == iw && vz == iw) = argB t ⟨22, iw, x, y, z, imm, args⟩) := by show _ = _; simp [argB, show opB 22 = false by decide, hvx, hvy, hvz]
  have A0 := as_selectKind_binaryKind
  have A1 := as_selectKind_unaryKind
  have A2 := as_selectKind_selectKind
  clear ht hvx hvy hvz
  go_enter Tryz.func66, Tryz.ntmps66
  go_wp2_with (go_at_call 62; refine (kind_any ⟨22, iw, x, y, z, imm, args⟩ u q _).mono ?_; rintro e w1 ⟨rfl, hb1⟩; rw [HK.out]; obtain ⟨hh, zz, hq, hB⟩ := opr_facts hb1; have fw := (cell_of_heap (o := 1) hh).trans rfl; have fx := hq bt (ot + x) _ hb ex; have fy := hq bt (ot + y) _ hb ey; have fz := hq bt (ot + z) _ hb ez; have zb : bt < w1.heap.size := (by omega); have HB : Hid (Below w.heap.size w w1) := hB; clear hB hb1 hq)
  by_cases h1 : vx = 1
  · have hd : (vx == 1) = true := by simp [h1]
    by_cases h2 : vy = iw
    · have hd3 : (vy == iw) = true := by simp [h2]
      go_quiet (fail)
      go_wp2_with fail
      go_ret
      refine ⟨ret_bool (Eq.trans ?_ E.out), ?_⟩
      · simp [h1, h2]
      · exact below_drewN (HB.out.alloc (by omega) _) _
    · have hd3 : (vy == iw) = false := by simp [h2]
      have hd4 : decide (vy = iw) = false := by simp [h2]
      go_quiet (fail)
      go_wp2_with fail
      go_ret
      refine ⟨ret_bool (Eq.trans ?_ E.out), ?_⟩
      · simp [h1, h2]
      · exact below_drewN (HB.out.alloc (by omega) _) _
  · have hd : (vx == 1) = false := by simp [h1]
    have hd2 : decide (vx = 1) = false := by simp [h1]
    go_quiet (fail)
    go_wp2_with fail
    go_ret
    refine ⟨ret_bool (Eq.trans ?_ E.out), ?_⟩
    · simp [h1]
    · exact below_drewN (HB.out.alloc (by omega) _) _
set_option maxHeartbeats 2000000 in
set_option maxRecDepth 100000 in
theorem opr_23 (iw imm b c : Int) (x y z : Nat) (args : List Int) (u : Option Addr) (q : Nat) (bt ot n ct : Nat) (t : Int → Int) (w : World) (hb : bt < w.heap.size) (hn : n ≤ 1000) (ht : ∀ k : Nat, k < n → w.cell? ⟨bt, ot + k, none⟩ = some (.int .i64 (t k))) (hx : x < n) :
    Calls Tryz.prog 66 #[.slice (some ⟨bt, ot, none⟩) n ct, .agg #[.int .i64 23, .int .i64 iw, .int .i64 x, .int .i64 b, .int .i64 c, .int .i64 imm, .slice u args.length q]] w fun e w' => e = .returned (.bool (argB t ⟨23, iw, x, b, c, imm, args⟩)) ∧ Below w.heap.size w w' := by
  have HK : Hid (kindV ⟨23, iw, x, b, c, imm, args⟩ u q = .iface 173 (.agg #[.int .i64 (x : Int)])) := kv_23 rfl
  have ex := ht x hx
  generalize hvx : t (x : Int) = vx at ex
  have E : Hid ((vx == 32) = argB t ⟨23, iw, x, b, c, imm, args⟩) := by show _ = _; simp [argB, show opB 23 = false by decide, hvx]
  have A0 := as_loadKind_binaryKind
  have A1 := as_loadKind_unaryKind
  have A2 := as_loadKind_selectKind
  have A3 := as_loadKind_loadKind
  clear ht hvx
  go_enter Tryz.func66, Tryz.ntmps66
  go_wp2_with (go_at_call 62; refine (kind_any ⟨23, iw, x, b, c, imm, args⟩ u q _).mono ?_; rintro e w1 ⟨rfl, hb1⟩; rw [HK.out]; obtain ⟨hh, zz, hq, hB⟩ := opr_facts hb1; have fw := (cell_of_heap (o := 1) hh).trans rfl; have fx := hq bt (ot + x) _ hb ex; have zb : bt < w1.heap.size := (by omega); have HB : Hid (Below w.heap.size w w1) := hB; clear hB hb1 hq)
  go_ret
  refine ⟨ret_bool (Eq.trans ?_ E.out), ?_⟩
  · first | rfl | simp
  · first | exact HB.out.alloc (by omega) _ | exact HB.out
set_option maxHeartbeats 2000000 in
set_option maxRecDepth 100000 in
theorem opr_25 (iw imm b c : Int) (x y z : Nat) (args : List Int) (u : Option Addr) (q : Nat) (bt ot n ct : Nat) (t : Int → Int) (w : World) (hb : bt < w.heap.size) (hn : n ≤ 1000) (ht : ∀ k : Nat, k < n → w.cell? ⟨bt, ot + k, none⟩ = some (.int .i64 (t k))) (hx : x < n) :
    Calls Tryz.prog 66 #[.slice (some ⟨bt, ot, none⟩) n ct, .agg #[.int .i64 25, .int .i64 iw, .int .i64 x, .int .i64 b, .int .i64 c, .int .i64 imm, .slice u args.length q]] w fun e w' => e = .returned (.bool (argB t ⟨25, iw, x, b, c, imm, args⟩)) ∧ Below w.heap.size w w' := by
  have HK : Hid (kindV ⟨25, iw, x, b, c, imm, args⟩ u q = .iface 175 (.agg #[.int .i64 (x : Int)])) := kv_25 rfl
  have ex := ht x hx
  generalize hvx : t (x : Int) = vx at ex
  have E : Hid ((vx != 0) = argB t ⟨25, iw, x, b, c, imm, args⟩) := by show _ = _; simp [argB, show opB 25 = false by decide, hvx]
  have A0 := as_printKind_binaryKind
  have A1 := as_printKind_unaryKind
  have A2 := as_printKind_selectKind
  have A3 := as_printKind_loadKind
  have A4 := as_printKind_storeKind
  have A5 := as_printKind_printKind
  clear ht hvx
  go_enter Tryz.func66, Tryz.ntmps66
  go_wp2_with (go_at_call 62; refine (kind_any ⟨25, iw, x, b, c, imm, args⟩ u q _).mono ?_; rintro e w1 ⟨rfl, hb1⟩; rw [HK.out]; obtain ⟨hh, zz, hq, hB⟩ := opr_facts hb1; have fw := (cell_of_heap (o := 1) hh).trans rfl; have fx := hq bt (ot + x) _ hb ex; have zb : bt < w1.heap.size := (by omega); have HB : Hid (Below w.heap.size w w1) := hB; clear hB hb1 hq)
  go_ret
  refine ⟨ret_bool (Eq.trans ?_ E.out), ?_⟩
  · first | rfl | simp
  · first | exact HB.out.alloc (by omega) _ | exact HB.out
set_option maxHeartbeats 2000000 in
set_option maxRecDepth 100000 in
theorem opr_24 (iw imm c : Int) (x y z : Nat) (args : List Int) (u : Option Addr) (q : Nat) (bt ot n ct : Nat) (t : Int → Int) (w : World) (hb : bt < w.heap.size) (hn : n ≤ 1000) (ht : ∀ k : Nat, k < n → w.cell? ⟨bt, ot + k, none⟩ = some (.int .i64 (t k))) (hx : x < n) (hy : y < n) :
    Calls Tryz.prog 66 #[.slice (some ⟨bt, ot, none⟩) n ct, .agg #[.int .i64 24, .int .i64 iw, .int .i64 x, .int .i64 y, .int .i64 c, .int .i64 imm, .slice u args.length q]] w fun e w' => e = .returned (.bool (argB t ⟨24, iw, x, y, c, imm, args⟩)) ∧ Below w.heap.size w w' := by
  have HK : Hid (kindV ⟨24, iw, x, y, c, imm, args⟩ u q = .iface 174 (.agg #[.int .i64 (x : Int), .int .i64 (y : Int)])) := kv_24 rfl
  have ex := ht x hx
  generalize hvx : t (x : Int) = vx at ex
  have ey := ht y hy
  generalize hvy : t (y : Int) = vy at ey
  have E : Hid ((vx == 32 && vy == 8) = argB t ⟨24, iw, x, y, c, imm, args⟩) := by show _ = _; simp [argB, show opB 24 = false by decide, hvx, hvy]
  have A0 := as_storeKind_binaryKind
  have A1 := as_storeKind_unaryKind
  have A2 := as_storeKind_selectKind
  have A3 := as_storeKind_loadKind
  have A4 := as_storeKind_storeKind
  clear ht hvx hvy
  by_cases h1 : vx = 32
  · have hd : (vx == 32) = true := by simp [h1]
    go_enter Tryz.func66, Tryz.ntmps66
    go_wp2_with (go_at_call 62; refine (kind_any ⟨24, iw, x, y, c, imm, args⟩ u q _).mono ?_; rintro e w1 ⟨rfl, hb1⟩; rw [HK.out]; obtain ⟨hh, zz, hq, hB⟩ := opr_facts hb1; have fw := (cell_of_heap (o := 1) hh).trans rfl; have fx := hq bt (ot + x) _ hb ex; have fy := hq bt (ot + y) _ hb ey; have zb : bt < w1.heap.size := (by omega); have HB : Hid (Below w.heap.size w w1) := hB; clear hB hb1 hq)
    go_ret
    refine ⟨ret_bool (Eq.trans ?_ E.out), ?_⟩
    · simp [h1]
    · first | exact HB.out.alloc (by omega) _ | exact HB.out
  · have hd : (vx == 32) = false := by simp [h1]
    have hd2 : decide (vx = 32) = false := by simp [h1]
    go_enter Tryz.func66, Tryz.ntmps66
    go_wp2_with (go_at_call 62; refine (kind_any ⟨24, iw, x, y, c, imm, args⟩ u q _).mono ?_; rintro e w1 ⟨rfl, hb1⟩; rw [HK.out]; obtain ⟨hh, zz, hq, hB⟩ := opr_facts hb1; have fw := (cell_of_heap (o := 1) hh).trans rfl; have fx := hq bt (ot + x) _ hb ex; have fy := hq bt (ot + y) _ hb ey; have zb : bt < w1.heap.size := (by omega); have HB : Hid (Below w.heap.size w w1) := hB; clear hB hb1 hq)
    go_ret
    refine ⟨ret_bool (Eq.trans ?_ E.out), ?_⟩
    · simp [h1]
    · first | exact HB.out.alloc (by omega) _ | exact HB.out
set_option maxHeartbeats 2000000 in
set_option maxRecDepth 100000 in
theorem opr_18 (iw imm b c : Int) (x y z : Nat) (args : List Int) (u : Option Addr) (q : Nat) (bt ot n ct : Nat) (t : Int → Int) (w : World) (hb : bt < w.heap.size) (hn : n ≤ 1000) (ht : ∀ k : Nat, k < n → w.cell? ⟨bt, ot + k, none⟩ = some (.int .i64 (t k))) (hx : x < n) :
    Calls Tryz.prog 66 #[.slice (some ⟨bt, ot, none⟩) n ct, .agg #[.int .i64 18, .int .i64 iw, .int .i64 x, .int .i64 b, .int .i64 c, .int .i64 imm, .slice u args.length q]] w fun e w' => e = .returned (.bool (argB t ⟨18, iw, x, b, c, imm, args⟩)) ∧ Below w.heap.size w w' := by
  have HK : Hid (kindV ⟨18, iw, x, b, c, imm, args⟩ u q = .iface 168 (.agg #[.int .i64 (x : Int)])) := kv_18 rfl
  have ex := ht x hx
  generalize hvx : t (x : Int) = vx at ex
  have E : Hid (unB 18 iw vx = argB t ⟨18, iw, x, b, c, imm, args⟩) := by show _ = _; simp [unB, argB, show opB 18 = false by decide, hvx]
  have A0 := as_unaryKind_binaryKind
  have A1 := as_unaryKind_unaryKind
  clear ht hvx
  go_enter Tryz.func66, Tryz.ntmps66
  go_wp2_with (go_at_call 62; refine (kind_any ⟨18, iw, x, b, c, imm, args⟩ u q _).mono ?_; rintro e w1 ⟨rfl, hb1⟩; rw [HK.out]; obtain ⟨hh, zz, hq, hB⟩ := opr_facts hb1; have i0 := (cell_of_heap (o := 0) hh).trans rfl; have i2 := (cell_of_heap (o := 2) hh).trans rfl; have i3 := (cell_of_heap (o := 3) hh).trans rfl; have i4 := (cell_of_heap (o := 4) hh).trans rfl; have i5 := (cell_of_heap (o := 5) hh).trans rfl; have i6 := (cell_of_heap (o := 6) hh).trans rfl; have fw := (cell_of_heap (o := 1) hh).trans rfl; have fx := hq bt (ot + x) _ hb ex; have zb : bt < w1.heap.size := (by omega); have HB : Hid (Below w.heap.size w w1) := hB; clear hB hb1 hq)
  have D := fun (w : World) => unI 18 iw x b c imm u args.length q vx w
  go_region_with ((go_at_call 93; refine (D _).mono ?_; rintro e w2 ⟨rfl, hb2⟩))
  all_goals
    go_wp2_with fail
    go_ret
    refine ⟨ret_bool E.out, ?_⟩
    have hb3 := drop_drew hb2
    first | exact HB.out.trans (hb3.mono HB.out.size) | exact (HB.out.alloc (by omega) _).trans (hb3.mono (by have := HB.out.size; simp; omega))
set_option maxHeartbeats 2000000 in
set_option maxRecDepth 100000 in
theorem opr_19 (iw imm b c : Int) (x y z : Nat) (args : List Int) (u : Option Addr) (q : Nat) (bt ot n ct : Nat) (t : Int → Int) (w : World) (hb : bt < w.heap.size) (hn : n ≤ 1000) (ht : ∀ k : Nat, k < n → w.cell? ⟨bt, ot + k, none⟩ = some (.int .i64 (t k))) (hx : x < n) :
    Calls Tryz.prog 66 #[.slice (some ⟨bt, ot, none⟩) n ct, .agg #[.int .i64 19, .int .i64 iw, .int .i64 x, .int .i64 b, .int .i64 c, .int .i64 imm, .slice u args.length q]] w fun e w' => e = .returned (.bool (argB t ⟨19, iw, x, b, c, imm, args⟩)) ∧ Below w.heap.size w w' := by
  have HK : Hid (kindV ⟨19, iw, x, b, c, imm, args⟩ u q = .iface 168 (.agg #[.int .i64 (x : Int)])) := kv_19 rfl
  have ex := ht x hx
  generalize hvx : t (x : Int) = vx at ex
  have E : Hid (unB 19 iw vx = argB t ⟨19, iw, x, b, c, imm, args⟩) := by show _ = _; simp [unB, argB, show opB 19 = false by decide, hvx]
  have A0 := as_unaryKind_binaryKind
  have A1 := as_unaryKind_unaryKind
  clear ht hvx
  go_enter Tryz.func66, Tryz.ntmps66
  go_wp2_with (go_at_call 62; refine (kind_any ⟨19, iw, x, b, c, imm, args⟩ u q _).mono ?_; rintro e w1 ⟨rfl, hb1⟩; rw [HK.out]; obtain ⟨hh, zz, hq, hB⟩ := opr_facts hb1; have i0 := (cell_of_heap (o := 0) hh).trans rfl; have i2 := (cell_of_heap (o := 2) hh).trans rfl; have i3 := (cell_of_heap (o := 3) hh).trans rfl; have i4 := (cell_of_heap (o := 4) hh).trans rfl; have i5 := (cell_of_heap (o := 5) hh).trans rfl; have i6 := (cell_of_heap (o := 6) hh).trans rfl; have fw := (cell_of_heap (o := 1) hh).trans rfl; have fx := hq bt (ot + x) _ hb ex; have zb : bt < w1.heap.size := (by omega); have HB : Hid (Below w.heap.size w w1) := hB; clear hB hb1 hq)
  have D := fun (w : World) => unI 19 iw x b c imm u args.length q vx w
  go_region_with ((go_at_call 93; refine (D _).mono ?_; rintro e w2 ⟨rfl, hb2⟩))
  all_goals
    go_wp2_with fail
    go_ret
    refine ⟨ret_bool E.out, ?_⟩
    have hb3 := drop_drew hb2
    first | exact HB.out.trans (hb3.mono HB.out.size) | exact (HB.out.alloc (by omega) _).trans (hb3.mono (by have := HB.out.size; simp; omega))
set_option maxHeartbeats 2000000 in
set_option maxRecDepth 100000 in
theorem opr_20 (iw imm b c : Int) (x y z : Nat) (args : List Int) (u : Option Addr) (q : Nat) (bt ot n ct : Nat) (t : Int → Int) (w : World) (hb : bt < w.heap.size) (hn : n ≤ 1000) (ht : ∀ k : Nat, k < n → w.cell? ⟨bt, ot + k, none⟩ = some (.int .i64 (t k))) (hx : x < n) :
    Calls Tryz.prog 66 #[.slice (some ⟨bt, ot, none⟩) n ct, .agg #[.int .i64 20, .int .i64 iw, .int .i64 x, .int .i64 b, .int .i64 c, .int .i64 imm, .slice u args.length q]] w fun e w' => e = .returned (.bool (argB t ⟨20, iw, x, b, c, imm, args⟩)) ∧ Below w.heap.size w w' := by
  have HK : Hid (kindV ⟨20, iw, x, b, c, imm, args⟩ u q = .iface 168 (.agg #[.int .i64 (x : Int)])) := kv_20 rfl
  have ex := ht x hx
  generalize hvx : t (x : Int) = vx at ex
  have E : Hid (unB 20 iw vx = argB t ⟨20, iw, x, b, c, imm, args⟩) := by show _ = _; simp [unB, argB, show opB 20 = false by decide, hvx]
  have A0 := as_unaryKind_binaryKind
  have A1 := as_unaryKind_unaryKind
  clear ht hvx
  go_enter Tryz.func66, Tryz.ntmps66
  go_wp2_with (go_at_call 62; refine (kind_any ⟨20, iw, x, b, c, imm, args⟩ u q _).mono ?_; rintro e w1 ⟨rfl, hb1⟩; rw [HK.out]; obtain ⟨hh, zz, hq, hB⟩ := opr_facts hb1; have i0 := (cell_of_heap (o := 0) hh).trans rfl; have i2 := (cell_of_heap (o := 2) hh).trans rfl; have i3 := (cell_of_heap (o := 3) hh).trans rfl; have i4 := (cell_of_heap (o := 4) hh).trans rfl; have i5 := (cell_of_heap (o := 5) hh).trans rfl; have i6 := (cell_of_heap (o := 6) hh).trans rfl; have fw := (cell_of_heap (o := 1) hh).trans rfl; have fx := hq bt (ot + x) _ hb ex; have zb : bt < w1.heap.size := (by omega); have HB : Hid (Below w.heap.size w w1) := hB; clear hB hb1 hq)
  have D := fun (w : World) => unI 20 iw x b c imm u args.length q vx w
  go_region_with ((go_at_call 93; refine (D _).mono ?_; rintro e w2 ⟨rfl, hb2⟩))
  all_goals
    go_wp2_with fail
    go_ret
    refine ⟨ret_bool E.out, ?_⟩
    have hb3 := drop_drew hb2
    first | exact HB.out.trans (hb3.mono HB.out.size) | exact (HB.out.alloc (by omega) _).trans (hb3.mono (by have := HB.out.size; simp; omega))
set_option maxHeartbeats 2000000 in
set_option maxRecDepth 100000 in
theorem opr_27 (iw imm b c : Int) (x y z : Nat) (args : List Int) (u : Option Addr) (q : Nat) (bt ot n ct : Nat) (t : Int → Int) (w : World) (hb : bt < w.heap.size) (hn : n ≤ 1000) (ht : ∀ k : Nat, k < n → w.cell? ⟨bt, ot + k, none⟩ = some (.int .i64 (t k))) (hx : x < n) :
    Calls Tryz.prog 66 #[.slice (some ⟨bt, ot, none⟩) n ct, .agg #[.int .i64 27, .int .i64 iw, .int .i64 x, .int .i64 b, .int .i64 c, .int .i64 imm, .slice u args.length q]] w fun e w' => e = .returned (.bool (argB t ⟨27, iw, x, b, c, imm, args⟩)) ∧ Below w.heap.size w w' := by
  have HK : Hid (kindV ⟨27, iw, x, b, c, imm, args⟩ u q = .iface 168 (.agg #[.int .i64 (x : Int)])) := kv_27 rfl
  have ex := ht x hx
  generalize hvx : t (x : Int) = vx at ex
  have E : Hid (unB 27 iw vx = argB t ⟨27, iw, x, b, c, imm, args⟩) := by show _ = _; simp [unB, argB, show opB 27 = false by decide, hvx]
  have A0 := as_unaryKind_binaryKind
  have A1 := as_unaryKind_unaryKind
  clear ht hvx
  go_enter Tryz.func66, Tryz.ntmps66
  go_wp2_with (go_at_call 62; refine (kind_any ⟨27, iw, x, b, c, imm, args⟩ u q _).mono ?_; rintro e w1 ⟨rfl, hb1⟩; rw [HK.out]; obtain ⟨hh, zz, hq, hB⟩ := opr_facts hb1; have i0 := (cell_of_heap (o := 0) hh).trans rfl; have i2 := (cell_of_heap (o := 2) hh).trans rfl; have i3 := (cell_of_heap (o := 3) hh).trans rfl; have i4 := (cell_of_heap (o := 4) hh).trans rfl; have i5 := (cell_of_heap (o := 5) hh).trans rfl; have i6 := (cell_of_heap (o := 6) hh).trans rfl; have fw := (cell_of_heap (o := 1) hh).trans rfl; have fx := hq bt (ot + x) _ hb ex; have zb : bt < w1.heap.size := (by omega); have HB : Hid (Below w.heap.size w w1) := hB; clear hB hb1 hq)
  have D := fun (w : World) => unI 27 iw x b c imm u args.length q vx w
  go_region_with ((go_at_call 93; refine (D _).mono ?_; rintro e w2 ⟨rfl, hb2⟩))
  all_goals
    go_wp2_with fail
    go_ret
    refine ⟨ret_bool E.out, ?_⟩
    have hb3 := drop_drew hb2
    first | exact HB.out.trans (hb3.mono HB.out.size) | exact (HB.out.alloc (by omega) _).trans (hb3.mono (by have := HB.out.size; simp; omega))
set_option maxHeartbeats 2000000 in
set_option maxRecDepth 100000 in
theorem opr_21 (iw imm a b c : Int) (x y z : Nat) (args : List Int) (u : Option Addr) (q : Nat) (bt ot n ct : Nat) (t : Int → Int) (w : World) (hb : bt < w.heap.size) (hn : n ≤ 1000) (ht : ∀ k : Nat, k < n → w.cell? ⟨bt, ot + k, none⟩ = some (.int .i64 (t k))) :
    Calls Tryz.prog 66 #[.slice (some ⟨bt, ot, none⟩) n ct, .agg #[.int .i64 21, .int .i64 iw, .int .i64 a, .int .i64 b, .int .i64 c, .int .i64 imm, .slice u args.length q]] w fun e w' => e = .returned (.bool (argB t ⟨21, iw, a, b, c, imm, args⟩)) ∧ Below w.heap.size w w' := by
  have HK : Hid (kindV ⟨21, iw, a, b, c, imm, args⟩ u q = .iface 170 (.agg #[.int .i64 imm])) := kv_21 rfl
  have E : Hid (true = argB t ⟨21, iw, a, b, c, imm, args⟩) := by show _ = _; simp [argB, show opB 21 = false by decide]
  have A0 := as_constKind_binaryKind
  have A1 := as_constKind_unaryKind
  have A2 := as_constKind_selectKind
  have A3 := as_constKind_loadKind
  have A4 := as_constKind_storeKind
  have A5 := as_constKind_printKind
  clear ht
  go_enter Tryz.func66, Tryz.ntmps66
  go_wp2_with (go_at_call 62; refine (kind_any ⟨21, iw, a, b, c, imm, args⟩ u q _).mono ?_; rintro e w1 ⟨rfl, hb1⟩; rw [HK.out]; obtain ⟨hh, zz, hq, hB⟩ := opr_facts hb1; have fw := (cell_of_heap (o := 1) hh).trans rfl; have zb : bt < w1.heap.size := (by omega); have HB : Hid (Below w.heap.size w w1) := hB; clear hB hb1 hq)
  go_ret
  refine ⟨ret_bool (Eq.trans ?_ E.out), ?_⟩
  · rfl
  · first | exact HB.out.alloc (by omega) _ | exact HB.out
set_option maxHeartbeats 2000000 in
set_option maxRecDepth 100000 in
theorem opr_26 (iw imm a b c : Int) (x y z : Nat) (args : List Int) (u : Option Addr) (q : Nat) (bt ot n ct : Nat) (t : Int → Int) (w : World) (hb : bt < w.heap.size) (hn : n ≤ 1000) (ht : ∀ k : Nat, k < n → w.cell? ⟨bt, ot + k, none⟩ = some (.int .i64 (t k))) :
    Calls Tryz.prog 66 #[.slice (some ⟨bt, ot, none⟩) n ct, .agg #[.int .i64 26, .int .i64 iw, .int .i64 a, .int .i64 b, .int .i64 c, .int .i64 imm, .slice u args.length q]] w fun e w' => e = .returned (.bool (argB t ⟨26, iw, a, b, c, imm, args⟩)) ∧ Below w.heap.size w w' := by
  have HK : Hid (kindV ⟨26, iw, a, b, c, imm, args⟩ u q = .iface 110 (.agg #[.int .i64 imm, .slice u args.length q])) := kv_26 rfl
  have E : Hid (true = argB t ⟨26, iw, a, b, c, imm, args⟩) := by show _ = _; simp [argB, show opB 26 = false by decide]
  have A0 := as_callKind_binaryKind
  have A1 := as_callKind_unaryKind
  have A2 := as_callKind_selectKind
  have A3 := as_callKind_loadKind
  have A4 := as_callKind_storeKind
  have A5 := as_callKind_printKind
  clear ht
  go_enter Tryz.func66, Tryz.ntmps66
  go_wp2_with (go_at_call 62; refine (kind_any ⟨26, iw, a, b, c, imm, args⟩ u q _).mono ?_; rintro e w1 ⟨rfl, hb1⟩; rw [HK.out]; obtain ⟨hh, zz, hq, hB⟩ := opr_facts hb1; have fw := (cell_of_heap (o := 1) hh).trans rfl; have zb : bt < w1.heap.size := (by omega); have HB : Hid (Below w.heap.size w w1) := hB; clear hB hb1 hq)
  go_ret
  refine ⟨ret_bool (Eq.trans ?_ E.out), ?_⟩
  · rfl
  · first | exact HB.out.alloc (by omega) _ | exact HB.out
set_option maxHeartbeats 2000000 in
set_option maxRecDepth 100000 in
theorem opr_no (op iw imm a b c : Int) (x y z : Nat) (args : List Int) (u : Option Addr) (q : Nat) (bt ot n ct : Nat) (t : Int → Int) (w : World) (hb : bt < w.heap.size) (hn : n ≤ 1000) (ht : ∀ k : Nat, k < n → w.cell? ⟨bt, ot + k, none⟩ = some (.int .i64 (t k))) (ho : opB op = false) (h : op < 1 ∨ 27 < op) :
    Calls Tryz.prog 66 #[.slice (some ⟨bt, ot, none⟩) n ct, .agg #[.int .i64 op, .int .i64 iw, .int .i64 a, .int .i64 b, .int .i64 c, .int .i64 imm, .slice u args.length q]] w fun e w' => e = .returned (.bool (argB t ⟨op, iw, a, b, c, imm, args⟩)) ∧ Below w.heap.size w w' := by
  have HK : Hid (kindV ⟨op, iw, a, b, c, imm, args⟩ u q = .iface 177 (.agg #[])) := kv_no ho h
  have E : Hid (true = argB t ⟨op, iw, a, b, c, imm, args⟩) := by show _ = _; (have g1 : ¬ op = 18 := (by omega); have g2 : ¬ op = 19 := (by omega); have g3 : ¬ op = 20 := (by omega); have g4 : ¬ op = 22 := (by omega); have g5 : ¬ op = 23 := (by omega); have g6 : ¬ op = 24 := (by omega); have g7 : ¬ op = 25 := (by omega); have g8 : ¬ op = 27 := (by omega); simp [argB, ho, g1, g2, g3, g4, g5, g6, g7, g8])
  have A0 := as_strangeKind_binaryKind
  have A1 := as_strangeKind_unaryKind
  have A2 := as_strangeKind_selectKind
  have A3 := as_strangeKind_loadKind
  have A4 := as_strangeKind_storeKind
  have A5 := as_strangeKind_printKind
  clear ht
  go_enter Tryz.func66, Tryz.ntmps66
  go_wp2_with (go_at_call 62; refine (kind_any ⟨op, iw, a, b, c, imm, args⟩ u q _).mono ?_; rintro e w1 ⟨rfl, hb1⟩; rw [HK.out]; obtain ⟨hh, zz, hq, hB⟩ := opr_facts hb1; have fw := (cell_of_heap (o := 1) hh).trans rfl; have zb : bt < w1.heap.size := (by omega); have HB : Hid (Below w.heap.size w w1) := hB; clear hB hb1 hq)
  go_ret
  refine ⟨ret_bool (Eq.trans ?_ E.out), ?_⟩
  · rfl
  · first | exact HB.out.alloc (by omega) _ | exact HB.out
theorem nat_of {a : Int} {n : Nat} (h : 0 ≤ a ∧ a < n) : ∃ x : Nat, a = x ∧ x < n := ⟨a.toNat, by omega, by omega⟩
theorem oprI (lo : Nat) (ty : List Int) (ut : Option Addr) (ct : Nat) (d : InstD) (u : Option Addr) (q : Nat) (w : World) (hn : ty.length ≤ 1000) (ht : IntsAt w lo ut ty) (hin : ∀ id ∈ opsD d, 0 ≤ id ∧ id < ty.length) (h1 : 1 ≤ ty.length) :
    Calls Tryz.prog 66 #[.slice ut ty.length ct, .agg #[.int .i64 d.op, .int .i64 d.w, .int .i64 d.a, .int .i64 d.b, .int .i64 d.c, .int .i64 d.imm, .slice u d.args.length q]] w fun e w' => e = .returned (.bool (argB (fun i => ty.getD i.toNat 0) d)) ∧ Below w.heap.size w w' := by
  obtain ⟨op, iw, a, b, c, imm, args⟩ := d
  rcases ht.2 with hn0 | ⟨bt, ot, rfl, hlo, hb, hcell⟩
  · simp [hn0] at h1
  have hc : ∀ k : Nat, k < ty.length → w.cell? ⟨bt, ot + k, none⟩ = some (.int .i64 ((fun i : Int => ty.getD i.toNat 0) (k : Int))) := fun k hk => by simpa using hcell k hk
  rcases op_split op with ho | rfl | rfl | rfl | rfl | rfl | rfl | rfl | rfl | rfl | rfl | ⟨ho, hk⟩
  · simp [opsD, ho] at hin
    obtain ⟨x, rfl, hx⟩ := nat_of hin.1
    obtain ⟨y, rfl, hy⟩ := nat_of hin.2
    exact opr_bin op iw imm c x y 0 args u q bt ot ty.length ct _ w hb hn hc hx hy ho
  · simp [opsD, show opB 18 = false by decide] at hin
    obtain ⟨x, rfl, hx⟩ := nat_of hin
    exact opr_18 iw imm b c x 0 0 args u q bt ot ty.length ct _ w hb hn hc hx
  · simp [opsD, show opB 19 = false by decide] at hin
    obtain ⟨x, rfl, hx⟩ := nat_of hin
    exact opr_19 iw imm b c x 0 0 args u q bt ot ty.length ct _ w hb hn hc hx
  · simp [opsD, show opB 20 = false by decide] at hin
    obtain ⟨x, rfl, hx⟩ := nat_of hin
    exact opr_20 iw imm b c x 0 0 args u q bt ot ty.length ct _ w hb hn hc hx
  · exact opr_21 iw imm a b c 0 0 0 args u q bt ot ty.length ct _ w hb hn hc
  · simp [opsD, show opB 22 = false by decide] at hin
    obtain ⟨x, rfl, hx⟩ := nat_of hin.1
    obtain ⟨y, rfl, hy⟩ := nat_of hin.2.1
    obtain ⟨z, rfl, hz⟩ := nat_of hin.2.2
    exact opr_22 iw imm x y z args u q bt ot ty.length ct _ w hb hn hc hx hy hz
  · simp [opsD, show opB 23 = false by decide] at hin
    obtain ⟨x, rfl, hx⟩ := nat_of hin
    exact opr_23 iw imm b c x 0 0 args u q bt ot ty.length ct _ w hb hn hc hx
  · simp [opsD, show opB 24 = false by decide] at hin
    obtain ⟨x, rfl, hx⟩ := nat_of hin.1
    obtain ⟨y, rfl, hy⟩ := nat_of hin.2
    exact opr_24 iw imm c x y 0 args u q bt ot ty.length ct _ w hb hn hc hx hy
  · simp [opsD, show opB 25 = false by decide] at hin
    obtain ⟨x, rfl, hx⟩ := nat_of hin
    exact opr_25 iw imm b c x 0 0 args u q bt ot ty.length ct _ w hb hn hc hx
  · exact opr_26 iw imm a b c 0 0 0 args u q bt ot ty.length ct _ w hb hn hc
  · simp [opsD, show opB 27 = false by decide] at hin
    obtain ⟨x, rfl, hx⟩ := nat_of hin
    exact opr_27 iw imm b c x 0 0 args u q bt ot ty.length ct _ w hb hn hc hx
  · exact opr_no op iw imm a b c 0 0 0 args u q bt ot ty.length ct _ w hb hn hc ho hk
end Go.Proofs.YthcaagkkajopiaaGreatDoor
namespace Go.Proofs.YthcaagkkajopiaaGreatDoor
open Go.RowKit
set_option linter.unusedVariables false

structure Form (funcs : Int) (d : FuncD) : Prop where
  p4 : d.params.length ≤ 4
  pw : ∀ x ∈ d.params, widthB x = true
  b1 : 1 ≤ d.blocks.length
  b10 : d.blocks.length ≤ 10
  c60 : cntF d ≤ 60
  blk : ∀ b ∈ d.blocks, blockB (cntF d) d.blocks.length funcs b = true
theorem form_of {funcs : Int} {d : FuncD} (h : funcB funcs d = true) : Form funcs d := by
  simp only [funcB, Bool.and_eq_true, decide_eq_true_eq, List.all_eq_true] at h
  obtain ⟨⟨⟨⟨⟨⟨h1, h2⟩, h3⟩, h4⟩, h5⟩, h6⟩, h7⟩ := h
  exact ⟨h1, h2, h4, h5, h6, h7⟩
theorem below_yes {n c : Int} (h : belowB n c = true) : 0 ≤ n ∧ n < c := by simpa [belowB] using h
structure FBlk (ids blocks funcs : Int) (b : BlockD) : Prop where
  phw : ∀ p ∈ b.phis, widthB p.w = true
  phl : ∀ p ∈ b.phis, p.ins.length ≤ 10
  phi : ∀ p ∈ b.phis, ∀ id ∈ p.ins, 0 ≤ id ∧ id < ids
  ops : ∀ i ∈ b.insts, ∀ id ∈ opsD i, 0 ≤ id ∧ id < ids
  inw : ∀ i ∈ b.insts, wB i = true
  imm : ∀ i ∈ b.insts, i.op = 26 → 0 ≤ i.imm ∧ i.imm < funcs
  trm : termB b.term ids blocks = true
theorem fblk_of {ids blocks funcs : Int} {b : BlockD} (h : blockB ids blocks funcs b = true) : FBlk ids blocks funcs b := by
  simp only [blockB, Bool.and_eq_true, List.all_eq_true] at h
  obtain ⟨⟨h1, h2⟩, h3⟩ := h
  refine ⟨fun p hp => ?_, fun p hp => ?_, fun p hp id hid => ?_, fun i hi id hid => ?_, fun i hi => ?_, fun i hi ho => ?_, h3⟩
  · have := h1 p hp; simp only [phiB, Bool.and_eq_true] at this; exact this.1.1
  · have := h1 p hp; simp only [phiB, Bool.and_eq_true, decide_eq_true_eq] at this; exact this.1.2
  · have := h1 p hp; simp only [phiB, Bool.and_eq_true, List.all_eq_true] at this; exact below_yes (this.2 id hid)
  · have := h2 i hi; simp only [instB, Bool.and_eq_true, List.all_eq_true] at this; exact below_yes (this.2 id hid)
  · have := h2 i hi; simp only [instB, Bool.and_eq_true] at this; exact this.1.1.1
  · have := h2 i hi; simp only [instB, Bool.and_eq_true] at this
    have k := this.1.1.2
    simp only [iB, ho] at k
    exact below_yes (by simpa using k)
theorem Form.at {funcs : Int} {d : FuncD} (h : Form funcs d) {k : Nat} (hk : k < d.blocks.length) : FBlk (cntF d) d.blocks.length funcs (d.blocks.getD k block0) := fblk_of (h.blk _ (getD_mem block0 d.blocks k hk))
theorem Form.term_a {ids blocks funcs : Int} {b : BlockD} (h : FBlk ids blocks funcs b) (k : b.term.kind = 1 ∨ b.term.kind = 3) : 0 ≤ b.term.a ∧ b.term.a < ids := by
  have := h.trm
  unfold termB at this
  rcases k with k | k
  · rw [if_pos k] at this; simp only [Bool.and_eq_true] at this; exact below_yes this.1.1
  · rw [if_neg (by omega), if_neg (by omega), if_pos k] at this; simp only [Bool.and_eq_true] at this; exact below_yes this.1.1.1
theorem Form.right {funcs : Int} {d : FuncD} (h : Form funcs d) : RightL d.blocks := by
  refine ⟨h.b1, h.b10, fun i hi x hx => ?_⟩
  have t := (h.at hi).trm
  unfold termAt tgtD at hx
  unfold termB at t
  by_cases k2 : (d.blocks.getD i block0).term.kind = 2
  · rw [if_pos k2] at hx
    rw [if_neg (by omega), if_pos k2] at t
    simp only [Bool.and_eq_true] at t
    obtain rfl := List.mem_singleton.1 hx
    exact below_yes t.1.1
  · rw [if_neg k2] at hx
    by_cases k3 : (d.blocks.getD i block0).term.kind = 3
    · rw [if_pos k3] at hx
      rw [if_neg (by omega), if_neg k2, if_pos k3] at t
      simp only [Bool.and_eq_true] at t
      rcases List.mem_cons.1 hx with rfl | hx
      · exact below_yes t.1.1.2
      · obtain rfl := List.mem_singleton.1 hx; exact below_yes t.1.2
    · rw [if_neg k3] at hx; cases hx
theorem width_pos {w : Int} (h : widthB w = true) : 0 < w := by rcases width_yes h with h | h | h | h <;> omega
theorem inst_ge {i : InstD} (h : wB i = true) : 0 ≤ instW i := by
  unfold instW
  split
  · rename_i hb
    unfold resZ
    split
    · rename_i h2; split
      · omega
      · have := width_pos h2.2; omega
    · omega
  · unfold wB at h
    split at h
    · cases h
    · split at h
      · simp at h; omega
      · split at h
        · simp at h; omega
        · exact Int.le_of_lt (width_pos h)
theorem Form.type_ge {funcs : Int} {d : FuncD} (h : Form funcs d) {id : Int} (h0 : 0 ≤ id) (hl : id < cntF d) : 0 ≤ typeF d id := by
  rcases place_cases d id with k | ⟨j, hj, k⟩ | ⟨b, j, hb, hj, k⟩
  · exact absurd (by rw [k]) (place_in h0 hl)
  · have : typeF d id = d.params.getD j 0 := by simp [typeF, k]
    rw [this]; exact Int.le_of_lt (width_pos (h.pw _ (getD_mem 0 d.params j hj)))
  · have a1 : ¬ ((b : Int) = -2) := by omega
    have a2 : ¬ ((b : Int) = -1) := by omega
    simp only [typeF, k, if_neg a1, if_neg a2, Int.toNat_natCast]
    have hf := h.at hb
    generalize d.blocks.getD b block0 = x at hf hj
    by_cases c : (j : Int) < x.phis.length
    · rw [if_pos c]; exact Int.le_of_lt (width_pos (hf.phw _ (getD_mem phi0 x.phis j (by omega))))
    · rw [if_neg c]
      unfold cntB at hj
      exact inst_ge (hf.inw _ (getD_mem inst0 x.insts _ (by omega)))
end Go.Proofs.YthcaagkkajopiaaGreatDoor
namespace Go.Proofs.YthcaagkkajopiaaGreatDoor
open Go.RowKit
set_option linter.unusedVariables false

theorem FBox.set {d : FuncD} {u0 u2 : Option Addr} {c0 c2 : Nat} {w w1 : World} (h : FBox d u0 c0 u2 c2 w w1) {g o : Nat} {v : Value} (hg : w.heap.size < g) : FBox d u0 c0 u2 c2 w (w1.setCell ⟨g, o, none⟩ v) :=
  ⟨cell_far hg h.a0, cell_far hg h.a1, cell_far hg h.a2, h.below.setCell (by show w.heap.size ≤ g; omega) _, by simpa [World.setCell] using h.size⟩
/-- A package-level variable that holds a value. -/
structure Gv (w : World) (g : Nat) (v : Value) : Prop where
  cell : w.cell? ⟨g, 0, none⟩ = some v
  lt : g < w.heap.size
theorem Gv.below {w w' : World} {g : Nat} {v : Value} {b : Nat} (h : Gv w g v) (k : Below b w w') (hb : g < b) : Gv w' g v := ⟨(cell_block (k.block g hb)).trans h.cell, Nat.lt_of_lt_of_le h.lt k.size⟩
theorem Gv.keep {w w' : World} {g : Nat} {v : Value} (h : Gv w g v) (k : Below w.heap.size w w') : Gv w' g v := h.below k h.lt
/-- An error that is one. -/
def errV (a : Addr) : Value := .iface 212 (.pointer (some a))
def outV (b : Bool) (v : Value) : Value := if b = true then .nilIface else v
set_option maxHeartbeats 2000000 in
theorem typesI (lo : Nat) (d : FuncD) (u0 : Option Addr) (c0 : Nat) (u2 : Option Addr) (c2 : Nat) (w : World) (hs : SmFunc d) (k0 : IntsAt w lo u0 d.params) (k2 : BlocksAt w lo u2 d.blocks) (hc : cntF d ≤ 60) :
    Calls Tryz.prog 61 #[.agg #[.slice u0 d.params.length c0, .int .i64 d.ret, .slice u2 d.blocks.length c2]] w fun e w' => (∃ N, e = .returned (.slice (some ⟨N, 0, none⟩) (cntF d) (cntF d)) ∧ IntsAt w' w.heap.size (some ⟨N, 0, none⟩) (tysF d)) ∧ Below w.heap.size w w' := by
  obtain ⟨i0, hi, hz0, hz1, hz2⟩ := info_parts infoI
  have hmk := mk_any (t := 39) (cntF d) Tryz.underlying39 hi hz0 hz1 hz2 (by omega) (by omega)
  clear hi hz0 hz1 hz2
  have HS : Hid (SmFunc d) := hs
  have F0 := FBox.start (d := d) (u0 := u0) (u2 := u2) (c0 := c0) (c2 := c2) (w := w) (T := 42)
  clear hs
  go_enter Tryz.func61, Tryz.ntmps61
  go_wp2_with fail
  refine (countI_any lo d u0 c0 u2 c2 _ HS.out (k2.keep (agree_of_below F0.below lo))).mono ?_
  rintro e w1 ⟨rfl, hb1⟩
  have F1 := F0.keep hb1
  clear hb1 F0
  have HF : Hid (FBox d u0 c0 u2 c2 w w1) := F1
  have hz1 := F1.size
  clear F1
  go_wp2_with fail
  go_loopw [10] (fun i wr => ∃ (k : Nat) (cur : Array Value), k ≤ cntF d ∧ i = .int .i64 k ∧ cur.size = cntF d ∧ wr.heap[w1.heap.size]? = some (.cells cur 2 (0, 0)) ∧ (∀ j : Nat, j < k → cur[j]? = some (.int .i64 (typeF d j))) ∧ FBox d u0 c0 u2 c2 w wr) (fun i _ => cntF d - (intOf i).toNat)
  case atStart => exact ⟨0, _, by omega, rfl, by simp [size_madeCells], heap_alloc_last _ _, fun j hj => by omega, HF.out.alloc _⟩
  case round =>
    obtain ⟨k, cur, hk, rfl, hcs, hblk, hdone, hB⟩ := hrel
    clear hmk HF
    have b0 := hB.a0
    have b1 := hB.a1
    have b2 := hB.a2
    have hB1 := hB.below
    have hw1 : w1.heap.size < wr.heap.size := (Array.getElem?_eq_some_iff.1 hblk).1
    by_cases hlt : k < cntF d
    · have HFB : Hid (FBox d u0 c0 u2 c2 w wr) := hB
      have D := typeI_any lo d u0 c0 u2 c2 k wr HS.out (k0.keep (agree_of_below hB1 lo)) (k2.keep (agree_of_below hB1 lo)) (by omega)
      have HH : Hid (wr.heap[w1.heap.size]? = some (.cells cur 2 (0, 0))) := hblk
      have HD : Hid (∀ j : Nat, j < k → cur[j]? = some (.int .i64 (typeF d j))) := hdone
      generalize hv : typeF d (k : Int) = v at D
      have HV : Hid (typeF d (k : Int) = v) := hv
      clear hblk hdone hB hB1 hv k0 k2
      go_wp2_with (go_at_call 88; refine D.mono ?_; rintro e w2 ⟨rfl, hb2⟩; have HB2 : Hid (Below wr.heap.size wr w2) := hb2; have h2 := (hb2.block w1.heap.size hw1).trans HH.out; have e1 : w2.cell? ⟨w1.heap.size, k, none⟩ = some (cur[k]'(by omega)) := (by rw [cell_of_heap h2]; simp [hcs, hlt]); have e2 : w2.frozen? ⟨w1.heap.size, k, none⟩ = false := froz_of_heap h2; have H2 : Hid (w2.heap[w1.heap.size]? = some (.cells cur 2 (0, 0))) := h2; clear hb2 h2)
      go_roundw
      case rel =>
        refine ⟨k + 1, cur.setIfInBounds k (.int .i64 v), by omega, by go_num, by simpa using hcs, heap_set H2.out, fun j hj => ?_, (HFB.out.keep HB2.out).set (by omega)⟩
        by_cases hjk : j = k
        · subst hjk; rw [HV.out]; simp [hcs, hlt]
        · rw [Array.getElem?_setIfInBounds_ne (by omega)]; exact HD.out j (by omega)
      case measure => simp [intOf]; omega
    · have HH : Hid (wr.heap[w1.heap.size]? = some (.cells cur 2 (0, 0))) := hblk
      have HD : Hid (∀ j : Nat, j < k → cur[j]? = some (.int .i64 (typeF d j))) := hdone
      have HB1 : Hid (Below w.heap.size w wr) := hB1
      clear hblk hdone hB hB1
      go_wp2_with fail
      go_ret
      refine ⟨⟨_, rfl, ⟨by rw [tys_len]; omega, .inr ⟨w1.heap.size, 0, rfl, by omega, hw1, fun i hi => ?_⟩⟩⟩, HB1.out⟩
      rw [tys_len] at hi
      rw [Nat.zero_add, cell_of_heap HH.out, HD.out i (by omega), tys_at hi]
set_option maxHeartbeats 2000000 in
theorem entryI (lo : Nat) (d : FuncD) (u0 : Option Addr) (c0 : Nat) (u2 : Option Addr) (c2 : Nat) (a : Addr) (w : World) (hs : SmFunc d) (k2 : BlocksAt w lo u2 d.blocks) (hR : RightL d.blocks) (hv : Gv w 3 (errV a)) :
    Calls Tryz.prog 34 #[.agg #[.slice u0 d.params.length c0, .int .i64 d.ret, .slice u2 d.blocks.length c2]] w fun e w' => e = .returned (outV (entB d) (errV a)) ∧ Below w.heap.size w w' := by
  have hb1 := hR.1
  obtain ⟨r, hr⟩ : ∃ r, r = ints (predN (succN d.blocks) d.blocks.length 0) := ⟨_, rfl⟩
  have hPR : PredR d.blocks 0 r := ⟨fun _ => hr, fun h => absurd ⟨hR, by omega, by omega⟩ h⟩
  have hrl : r.length = (predN (succN d.blocks) d.blocks.length 0).length := by rw [hr]; simp [ints]
  have F0 := FBox.start (d := d) (u0 := u0) (u2 := u2) (c0 := c0) (c2 := c2) (w := w) (T := 42)
  have D := predsI lo d u0 c0 u2 c2 0 r _ hs (k2.keep (agree_of_below F0.below lo)) hPR
  have hv2 := hv.keep F0.below
  have HG : Hid (Gv w 3 (errV a)) := hv
  have g0 := hv.cell
  have g1 := hv.lt
  unfold errV at g0
  have HB0 : Hid (entB d = (decide ((d.blocks.getD 0 block0).phis.length = 0) && decide (r.length = 0))) := by show _ = _; rw [entB, hrl]
  rcases k2.2 with hn | ⟨b, off, rfl, hlo, hb, hcell⟩
  · simp [hn] at hb1
  obtain ⟨⟨v0, q0, h0, m0⟩, _⟩ := hcell 0 (by omega)
  simp only [Nat.zero_mul, Nat.add_zero] at h0
  generalize d.blocks.getD 0 block0 = x at h0 m0 HB0
  have hm0 := m0.1
  have hbl := hs.2.1
  clear hr hPR hrl hs hcell m0 k2 hR hv2 F0 hv
  by_cases h1 : x.phis.length = 0
  · by_cases h2 : r.length = 0
    · have E : Hid (.nilIface = outV (entB d) (errV a)) := by show _ = _; rw [HB0.out]; simp [outV, h1, h2]
      rw [h1] at h0
      go_enter Tryz.func34, Tryz.ntmps34
      go_wp2_with (go_at_call 64; refine D.mono ?_; rintro e w1 ⟨v, rfl, ho, hb1'⟩; obtain ⟨vu, vc, rfl⟩ := own_slice ho; rw [h2]; clear ho)
      go_ret
      exact ⟨congrArg Ending.returned E.out, ((Below.refl w.heap.size w).alloc (Nat.le_refl _) _).trans (hb1'.mono (by simp))⟩
    · have E : Hid (errV a = outV (entB d) (errV a)) := by show _ = _; rw [HB0.out]; simp [outV, h2]
      have h3 : (0 : Int) < r.length := by omega
      rw [h1] at h0
      go_enter Tryz.func34, Tryz.ntmps34
      go_wp2_with (go_at_call 64; refine D.mono ?_; rintro e w1 ⟨v, rfl, ho, hb1'⟩; obtain ⟨vu, vc, rfl⟩ := own_slice ho; have g0' := (bcell hb1' 3 0 (by simp; omega)).trans (cell_new g1 g0); clear ho)
      go_ret
      exact ⟨congrArg Ending.returned E.out, ((Below.refl w.heap.size w).alloc (Nat.le_refl _) _).trans (hb1'.mono (by simp))⟩
  · have E : Hid (errV a = outV (entB d) (errV a)) := by show _ = _; rw [HB0.out]; simp [outV, h1]
    have h3 : (0 : Int) < x.phis.length := by omega
    go_enter Tryz.func34, Tryz.ntmps34
    go_wp2_with fail
    go_ret
    exact ⟨congrArg Ending.returned E.out, (Below.refl w.heap.size w).alloc (Nat.le_refl _) _⟩
end Go.Proofs.YthcaagkkajopiaaGreatDoor
