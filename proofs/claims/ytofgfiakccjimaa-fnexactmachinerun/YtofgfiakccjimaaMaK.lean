/- A machine: the contract of the program's MachineRun. -/
import Derived.Test.YtofgfiakccjimaaMaJ
namespace Go.Proofs.Ytofgfiakccjimaa
open Go.RowKit
set_option linter.unusedVariables false
set_option linter.unusedSimpArgs false

structure ResD where
  code : Int
  value : Int
  out : List Int
  mem : ByteArray
  steps : Int
def regsK (ps xs : List Int) : Nat → Nat → Int
  | 0 => fun _ => 0
  | k + 1 => upF (regsK ps xs k) (ps.getD k 0).toNat (xs.getD k 0)
def startM (p : ProgD) (args : List Int) (mem : ByteArray) : MSt := ⟨memF mem, [], 0, regsK p.params args p.params.length, 0⟩
def okM (p : ProgD) (args : List Int) (mem : ByteArray) (fuel : Int) : Bool := progB p && (valsB p.widths args && (decide (mem.size = 32) && (decide (0 ≤ fuel) && decide (fuel ≤ 20000))))
def machR (p : ProgD) (args : List Int) (mem : ByteArray) (fuel : Int) : ResD :=
  if okM p args mem fuel = true then ⟨(runM p.code fuel.toNat (startM p args mem)).code, (runM p.code fuel.toNat (startM p args mem)).value, (runM p.code fuel.toNat (startM p args mem)).st.out, memB (runM p.code fuel.toNat (startM p args mem)).st.mem, (runM p.code fuel.toNat (startM p args mem)).st.steps⟩
  else ⟨6, 0, [], ⟨#[]⟩, 0⟩
def resA (d : ResD) (u : Option Addr) (q : Nat) : Value := .agg #[.int .i64 d.code, .int .i64 d.value, .slice u d.out.length q, .string d.mem, .int .i64 d.steps]
theorem five_set {w : World} {g : Nat} {T : TypeId} (h : w.heap[g]? = some (.cells #[.int .i64 0, .int .i64 0, .slice none 0 0, .string ⟨#[]⟩, .int .i64 0] T (0, 0))) (a b c d e : Value) : (((((w.setCell ⟨g, 0, none⟩ a).setCell ⟨g, 1, none⟩ b).setCell ⟨g, 2, none⟩ c).setCell ⟨g, 3, none⟩ d).setCell ⟨g, 4, none⟩ e).heap[g]? = some (.cells #[a, b, c, d, e] T (0, 0)) :=
  (heap_set (heap_set (heap_set (heap_set (heap_set h)))))
theorem five_below {w w2 : World} {g : Nat} (hB : Below w.heap.size w w2) (hg : w.heap.size ≤ g) (a b c d e : Value) : Below w.heap.size w (((((w2.setCell ⟨g, 0, none⟩ a).setCell ⟨g, 1, none⟩ b).setCell ⟨g, 2, none⟩ c).setCell ⟨g, 3, none⟩ d).setCell ⟨g, 4, none⟩ e) :=
  (((((hB.setCell hg _).setCell hg _).setCell hg _).setCell hg _).setCell hg _)
set_option maxHeartbeats 2000000 in
set_option maxRecDepth 100000 in
theorem machI_p (lo : Nat) (p : ProgD) (s1 : Option Addr) (c1 : Nat) (s2 : Option Addr) (c2 : Nat) (s3 : Option Addr) (c3 : Nat) (s4 : Option Addr) (c4 : Nat) (args : List Int) (mem : ByteArray) (fuel : Int) (w : World) (k1 : IntsAt w lo s1 p.params) (k2 : IntsAt w lo s2 p.widths) (k3 : MinsAt w lo s3 p.code) (k4 : IntsAt w lo s4 args) (hmsz : mem.size ≤ 1048576) (hp : progB p = false) :
    Calls Try.prog 15 #[.agg #[.int .i64 p.regs, .slice s1 p.params.length c1, .slice s2 p.widths.length c2, .slice s3 p.code.length c3], .slice s4 args.length c4, .string mem, .int .i64 fuel] w fun e w' => (∃ u q, e = .returned (resA (machR p args mem fuel) u q) ∧ w'.ownsRow w.heap.size 2 1 (.slice u (machR p args mem fuel).out.length q) (machR p args mem fuel).out.length ((machR p args mem fuel).out.map (Value.int .i64))) ∧ Below w.heap.size w w' := by
  have E : Hid (machR p args mem fuel = ⟨6, 0, [], ⟨#[]⟩, 0⟩) := by show _ = _; rw [machR, if_neg (by simp [okM, hp])]
  have hmz := hmsz
  obtain ⟨W1, hW1⟩ : ∃ W1, W1 = (w.alloc (.cells #[.int .i64 p.regs, .slice s1 p.params.length c1, .slice s2 p.widths.length c2, .slice s3 p.code.length c3] 30)).alloc (.cells #[.int .i64 0, .int .i64 0, .slice none 0 0, .string ⟨#[]⟩, .int .i64 0] 36) := ⟨_, rfl⟩
  have B1 : Below w.heap.size w W1 := by rw [hW1]; exact ((Below.refl _ _).alloc (Nat.le_refl _) _).alloc (by simp) _
  have PI := progI lo p s1 c1 s2 c2 s3 c3 W1 (k1.keep (agree_of_below B1 lo)) (k2.keep (agree_of_below B1 lo)) (k3.keep (agree_of_below B1 lo))
  have hz1 : w.heap.size + 2 = W1.heap.size := by rw [hW1]; simp
  have X1 : BoxP W1 w.heap.size p s1 c1 s2 c2 s3 c3 := by rw [hW1]; exact (BoxP.new w p s1 c1 s2 c2 s3 c3 _).below ((Below.refl _ _).alloc (Nat.le_refl _) _)
  have R1 : W1.heap[w.heap.size + 1]? = some (.cells #[.int .i64 0, .int .i64 0, .slice none 0 0, .string ⟨#[]⟩, .int .i64 0] 36 (0, 0)) := by rw [hW1]; exact heap_new2 _ _ _
  rw [hp] at PI
  go_enter Try.func15, Try.ntmps15
  go_upto_region 1 with fail
  rw [← hW1]
  clear hW1
  have XX := X1
  obtain ⟨_, y0, y1, y2, y3⟩ := XX
  go_wp2_with (first | (go_at_call 9; refine PI.mono ?_; rintro e w2 ⟨rfl, hb2⟩; have X2 := X1.below hb2; obtain ⟨hx2, x0, x1, x2, x3⟩ := X2; have R2 := row_below R1 hb2; have r0 := (cell_of_heap (o := 0) R2).trans rfl; have r1 := (cell_of_heap (o := 1) R2).trans rfl; have r2 := (cell_of_heap (o := 2) R2).trans rfl; have r3 := (cell_of_heap (o := 3) R2).trans rfl; have r4 := (cell_of_heap (o := 4) R2).trans rfl; have z0 : w2.frozen? ⟨w.heap.size + 1, 0, none⟩ = false := froz_of_heap R2; have z1 : w2.frozen? ⟨w.heap.size + 1, 1, none⟩ = false := froz_of_heap R2; have z2 : w2.frozen? ⟨w.heap.size + 1, 2, none⟩ = false := froz_of_heap R2; have z3 : w2.frozen? ⟨w.heap.size + 1, 3, none⟩ = false := froz_of_heap R2; have z4 : w2.frozen? ⟨w.heap.size + 1, 4, none⟩ = false := froz_of_heap R2; have HR2 : Hid (w2.heap[w.heap.size + 1]? = some (.cells #[.int .i64 0, .int .i64 0, .slice none 0 0, .string ⟨#[]⟩, .int .i64 0] 36 (0, 0))) := R2; clear R2; have VI := valuesI lo lo s2 s4 c2 c4 p.widths args w2 ((k2.keep (agree_of_below B1 lo)).keep (agree_of_below hb2 lo)) ((k4.keep (agree_of_below B1 lo)).keep (agree_of_below hb2 lo))))
  have B2 := B1.trans (hb2.mono (by omega))
  refine bodyPost_ret (v := .agg #[.int .i64 6, .int .i64 0, .slice none 0 0, .string ⟨#[]⟩, .int .i64 0]) (results_cell_row Try.results15 _ _ (w.heap.size + 1) 36 _ (0, 0) _ rfl (five_set HR2.out _ _ _ _ _) Try.underlying36 rfl (by kernel_rfl)) rfl ⟨?_, five_below B2 (by omega) _ _ _ _ _⟩
  rw [E.out]
  exact ⟨none, 0, rfl, ⟨rfl, .inl ⟨rfl, rfl⟩⟩⟩
set_option maxHeartbeats 2000000 in
set_option maxRecDepth 100000 in
theorem machI_v (lo : Nat) (p : ProgD) (s1 : Option Addr) (c1 : Nat) (s2 : Option Addr) (c2 : Nat) (s3 : Option Addr) (c3 : Nat) (s4 : Option Addr) (c4 : Nat) (args : List Int) (mem : ByteArray) (fuel : Int) (w : World) (k1 : IntsAt w lo s1 p.params) (k2 : IntsAt w lo s2 p.widths) (k3 : MinsAt w lo s3 p.code) (k4 : IntsAt w lo s4 args) (hmsz : mem.size ≤ 1048576) (hp : progB p = true) (hv : valsB p.widths args = false) :
    Calls Try.prog 15 #[.agg #[.int .i64 p.regs, .slice s1 p.params.length c1, .slice s2 p.widths.length c2, .slice s3 p.code.length c3], .slice s4 args.length c4, .string mem, .int .i64 fuel] w fun e w' => (∃ u q, e = .returned (resA (machR p args mem fuel) u q) ∧ w'.ownsRow w.heap.size 2 1 (.slice u (machR p args mem fuel).out.length q) (machR p args mem fuel).out.length ((machR p args mem fuel).out.map (Value.int .i64))) ∧ Below w.heap.size w w' := by
  have E : Hid (machR p args mem fuel = ⟨6, 0, [], ⟨#[]⟩, 0⟩) := by show _ = _; rw [machR, if_neg (by simp [okM, hv])]
  have hmz := hmsz
  obtain ⟨W1, hW1⟩ : ∃ W1, W1 = (w.alloc (.cells #[.int .i64 p.regs, .slice s1 p.params.length c1, .slice s2 p.widths.length c2, .slice s3 p.code.length c3] 30)).alloc (.cells #[.int .i64 0, .int .i64 0, .slice none 0 0, .string ⟨#[]⟩, .int .i64 0] 36) := ⟨_, rfl⟩
  have B1 : Below w.heap.size w W1 := by rw [hW1]; exact ((Below.refl _ _).alloc (Nat.le_refl _) _).alloc (by simp) _
  have PI := progI lo p s1 c1 s2 c2 s3 c3 W1 (k1.keep (agree_of_below B1 lo)) (k2.keep (agree_of_below B1 lo)) (k3.keep (agree_of_below B1 lo))
  have hz1 : w.heap.size + 2 = W1.heap.size := by rw [hW1]; simp
  have X1 : BoxP W1 w.heap.size p s1 c1 s2 c2 s3 c3 := by rw [hW1]; exact (BoxP.new w p s1 c1 s2 c2 s3 c3 _).below ((Below.refl _ _).alloc (Nat.le_refl _) _)
  have R1 : W1.heap[w.heap.size + 1]? = some (.cells #[.int .i64 0, .int .i64 0, .slice none 0 0, .string ⟨#[]⟩, .int .i64 0] 36 (0, 0)) := by rw [hW1]; exact heap_new2 _ _ _
  rw [hp] at PI
  go_enter Try.func15, Try.ntmps15
  go_upto_region 1 with fail
  rw [← hW1]
  clear hW1
  have XX := X1
  obtain ⟨_, y0, y1, y2, y3⟩ := XX
  go_wp2_with (first | (go_at_call 9; refine PI.mono ?_; rintro e w2 ⟨rfl, hb2⟩; have X2 := X1.below hb2; obtain ⟨hx2, x0, x1, x2, x3⟩ := X2; have R2 := row_below R1 hb2; have r0 := (cell_of_heap (o := 0) R2).trans rfl; have r1 := (cell_of_heap (o := 1) R2).trans rfl; have r2 := (cell_of_heap (o := 2) R2).trans rfl; have r3 := (cell_of_heap (o := 3) R2).trans rfl; have r4 := (cell_of_heap (o := 4) R2).trans rfl; have z0 : w2.frozen? ⟨w.heap.size + 1, 0, none⟩ = false := froz_of_heap R2; have z1 : w2.frozen? ⟨w.heap.size + 1, 1, none⟩ = false := froz_of_heap R2; have z2 : w2.frozen? ⟨w.heap.size + 1, 2, none⟩ = false := froz_of_heap R2; have z3 : w2.frozen? ⟨w.heap.size + 1, 3, none⟩ = false := froz_of_heap R2; have z4 : w2.frozen? ⟨w.heap.size + 1, 4, none⟩ = false := froz_of_heap R2; have HR2 : Hid (w2.heap[w.heap.size + 1]? = some (.cells #[.int .i64 0, .int .i64 0, .slice none 0 0, .string ⟨#[]⟩, .int .i64 0] 36 (0, 0))) := R2; clear R2; have VI := valuesI lo lo s2 s4 c2 c4 p.widths args w2 ((k2.keep (agree_of_below B1 lo)).keep (agree_of_below hb2 lo)) ((k4.keep (agree_of_below B1 lo)).keep (agree_of_below hb2 lo)); rw [hv] at VI) | (go_at_call 39; refine VI.mono ?_; rintro e w9 ⟨rfl, h9⟩; have h8 := h9.symm; clear h9; subst h8))
  have B2 := B1.trans (hb2.mono (by omega))
  refine bodyPost_ret (v := .agg #[.int .i64 6, .int .i64 0, .slice none 0 0, .string ⟨#[]⟩, .int .i64 0]) (results_cell_row Try.results15 _ _ (w.heap.size + 1) 36 _ (0, 0) _ rfl (five_set HR2.out _ _ _ _ _) Try.underlying36 rfl (by kernel_rfl)) rfl ⟨?_, five_below B2 (by omega) _ _ _ _ _⟩
  rw [E.out]
  exact ⟨none, 0, rfl, ⟨rfl, .inl ⟨rfl, rfl⟩⟩⟩
set_option maxHeartbeats 2000000 in
set_option maxRecDepth 100000 in
theorem machI_m (lo : Nat) (p : ProgD) (s1 : Option Addr) (c1 : Nat) (s2 : Option Addr) (c2 : Nat) (s3 : Option Addr) (c3 : Nat) (s4 : Option Addr) (c4 : Nat) (args : List Int) (mem : ByteArray) (fuel : Int) (w : World) (k1 : IntsAt w lo s1 p.params) (k2 : IntsAt w lo s2 p.widths) (k3 : MinsAt w lo s3 p.code) (k4 : IntsAt w lo s4 args) (hmsz : mem.size ≤ 1048576) (hp : progB p = true) (hv : valsB p.widths args = true) (hm : ¬ mem.size = 32) :
    Calls Try.prog 15 #[.agg #[.int .i64 p.regs, .slice s1 p.params.length c1, .slice s2 p.widths.length c2, .slice s3 p.code.length c3], .slice s4 args.length c4, .string mem, .int .i64 fuel] w fun e w' => (∃ u q, e = .returned (resA (machR p args mem fuel) u q) ∧ w'.ownsRow w.heap.size 2 1 (.slice u (machR p args mem fuel).out.length q) (machR p args mem fuel).out.length ((machR p args mem fuel).out.map (Value.int .i64))) ∧ Below w.heap.size w w' := by
  have E : Hid (machR p args mem fuel = ⟨6, 0, [], ⟨#[]⟩, 0⟩) := by show _ = _; rw [machR, if_neg (by simp [okM, hm])]
  have hmz := hmsz
  obtain ⟨W1, hW1⟩ : ∃ W1, W1 = (w.alloc (.cells #[.int .i64 p.regs, .slice s1 p.params.length c1, .slice s2 p.widths.length c2, .slice s3 p.code.length c3] 30)).alloc (.cells #[.int .i64 0, .int .i64 0, .slice none 0 0, .string ⟨#[]⟩, .int .i64 0] 36) := ⟨_, rfl⟩
  have B1 : Below w.heap.size w W1 := by rw [hW1]; exact ((Below.refl _ _).alloc (Nat.le_refl _) _).alloc (by simp) _
  have PI := progI lo p s1 c1 s2 c2 s3 c3 W1 (k1.keep (agree_of_below B1 lo)) (k2.keep (agree_of_below B1 lo)) (k3.keep (agree_of_below B1 lo))
  have hz1 : w.heap.size + 2 = W1.heap.size := by rw [hW1]; simp
  have X1 : BoxP W1 w.heap.size p s1 c1 s2 c2 s3 c3 := by rw [hW1]; exact (BoxP.new w p s1 c1 s2 c2 s3 c3 _).below ((Below.refl _ _).alloc (Nat.le_refl _) _)
  have R1 : W1.heap[w.heap.size + 1]? = some (.cells #[.int .i64 0, .int .i64 0, .slice none 0 0, .string ⟨#[]⟩, .int .i64 0] 36 (0, 0)) := by rw [hW1]; exact heap_new2 _ _ _
  rw [hp] at PI
  have hm2 : ¬ (mem.size : Int) = 32 := by omega
  go_enter Try.func15, Try.ntmps15
  go_upto_region 1 with fail
  rw [← hW1]
  clear hW1
  have XX := X1
  obtain ⟨_, y0, y1, y2, y3⟩ := XX
  go_wp2_with (first | (go_at_call 9; refine PI.mono ?_; rintro e w2 ⟨rfl, hb2⟩; have X2 := X1.below hb2; obtain ⟨hx2, x0, x1, x2, x3⟩ := X2; have R2 := row_below R1 hb2; have r0 := (cell_of_heap (o := 0) R2).trans rfl; have r1 := (cell_of_heap (o := 1) R2).trans rfl; have r2 := (cell_of_heap (o := 2) R2).trans rfl; have r3 := (cell_of_heap (o := 3) R2).trans rfl; have r4 := (cell_of_heap (o := 4) R2).trans rfl; have z0 : w2.frozen? ⟨w.heap.size + 1, 0, none⟩ = false := froz_of_heap R2; have z1 : w2.frozen? ⟨w.heap.size + 1, 1, none⟩ = false := froz_of_heap R2; have z2 : w2.frozen? ⟨w.heap.size + 1, 2, none⟩ = false := froz_of_heap R2; have z3 : w2.frozen? ⟨w.heap.size + 1, 3, none⟩ = false := froz_of_heap R2; have z4 : w2.frozen? ⟨w.heap.size + 1, 4, none⟩ = false := froz_of_heap R2; have HR2 : Hid (w2.heap[w.heap.size + 1]? = some (.cells #[.int .i64 0, .int .i64 0, .slice none 0 0, .string ⟨#[]⟩, .int .i64 0] 36 (0, 0))) := R2; clear R2; have VI := valuesI lo lo s2 s4 c2 c4 p.widths args w2 ((k2.keep (agree_of_below B1 lo)).keep (agree_of_below hb2 lo)) ((k4.keep (agree_of_below B1 lo)).keep (agree_of_below hb2 lo)); rw [hv] at VI) | (go_at_call 39; refine VI.mono ?_; rintro e w9 ⟨rfl, h9⟩; have h8 := h9.symm; clear h9; subst h8))
  have B2 := B1.trans (hb2.mono (by omega))
  refine bodyPost_ret (v := .agg #[.int .i64 6, .int .i64 0, .slice none 0 0, .string ⟨#[]⟩, .int .i64 0]) (results_cell_row Try.results15 _ _ (w.heap.size + 1) 36 _ (0, 0) _ rfl (five_set HR2.out _ _ _ _ _) Try.underlying36 rfl (by kernel_rfl)) rfl ⟨?_, five_below B2 (by omega) _ _ _ _ _⟩
  rw [E.out]
  exact ⟨none, 0, rfl, ⟨rfl, .inl ⟨rfl, rfl⟩⟩⟩
set_option maxHeartbeats 2000000 in
set_option maxRecDepth 100000 in
theorem machI_n (lo : Nat) (p : ProgD) (s1 : Option Addr) (c1 : Nat) (s2 : Option Addr) (c2 : Nat) (s3 : Option Addr) (c3 : Nat) (s4 : Option Addr) (c4 : Nat) (args : List Int) (mem : ByteArray) (fuel : Int) (w : World) (k1 : IntsAt w lo s1 p.params) (k2 : IntsAt w lo s2 p.widths) (k3 : MinsAt w lo s3 p.code) (k4 : IntsAt w lo s4 args) (hmsz : mem.size ≤ 1048576) (hp : progB p = true) (hv : valsB p.widths args = true) (hm : mem.size = 32) (hf : fuel < 0) :
    Calls Try.prog 15 #[.agg #[.int .i64 p.regs, .slice s1 p.params.length c1, .slice s2 p.widths.length c2, .slice s3 p.code.length c3], .slice s4 args.length c4, .string mem, .int .i64 fuel] w fun e w' => (∃ u q, e = .returned (resA (machR p args mem fuel) u q) ∧ w'.ownsRow w.heap.size 2 1 (.slice u (machR p args mem fuel).out.length q) (machR p args mem fuel).out.length ((machR p args mem fuel).out.map (Value.int .i64))) ∧ Below w.heap.size w w' := by
  have E : Hid (machR p args mem fuel = ⟨6, 0, [], ⟨#[]⟩, 0⟩) := by show _ = _; rw [machR, if_neg (by simp [okM]; intro _ _ _ h; omega)]
  have hmz := hmsz
  obtain ⟨W1, hW1⟩ : ∃ W1, W1 = (w.alloc (.cells #[.int .i64 p.regs, .slice s1 p.params.length c1, .slice s2 p.widths.length c2, .slice s3 p.code.length c3] 30)).alloc (.cells #[.int .i64 0, .int .i64 0, .slice none 0 0, .string ⟨#[]⟩, .int .i64 0] 36) := ⟨_, rfl⟩
  have B1 : Below w.heap.size w W1 := by rw [hW1]; exact ((Below.refl _ _).alloc (Nat.le_refl _) _).alloc (by simp) _
  have PI := progI lo p s1 c1 s2 c2 s3 c3 W1 (k1.keep (agree_of_below B1 lo)) (k2.keep (agree_of_below B1 lo)) (k3.keep (agree_of_below B1 lo))
  have hz1 : w.heap.size + 2 = W1.heap.size := by rw [hW1]; simp
  have X1 : BoxP W1 w.heap.size p s1 c1 s2 c2 s3 c3 := by rw [hW1]; exact (BoxP.new w p s1 c1 s2 c2 s3 c3 _).below ((Below.refl _ _).alloc (Nat.le_refl _) _)
  have R1 : W1.heap[w.heap.size + 1]? = some (.cells #[.int .i64 0, .int .i64 0, .slice none 0 0, .string ⟨#[]⟩, .int .i64 0] 36 (0, 0)) := by rw [hW1]; exact heap_new2 _ _ _
  rw [hp] at PI
  have hm2 : (mem.size : Int) = 32 := by omega
  go_enter Try.func15, Try.ntmps15
  go_upto_region 1 with fail
  rw [← hW1]
  clear hW1
  have XX := X1
  obtain ⟨_, y0, y1, y2, y3⟩ := XX
  go_wp2_with (first | (go_at_call 9; refine PI.mono ?_; rintro e w2 ⟨rfl, hb2⟩; have X2 := X1.below hb2; obtain ⟨hx2, x0, x1, x2, x3⟩ := X2; have R2 := row_below R1 hb2; have r0 := (cell_of_heap (o := 0) R2).trans rfl; have r1 := (cell_of_heap (o := 1) R2).trans rfl; have r2 := (cell_of_heap (o := 2) R2).trans rfl; have r3 := (cell_of_heap (o := 3) R2).trans rfl; have r4 := (cell_of_heap (o := 4) R2).trans rfl; have z0 : w2.frozen? ⟨w.heap.size + 1, 0, none⟩ = false := froz_of_heap R2; have z1 : w2.frozen? ⟨w.heap.size + 1, 1, none⟩ = false := froz_of_heap R2; have z2 : w2.frozen? ⟨w.heap.size + 1, 2, none⟩ = false := froz_of_heap R2; have z3 : w2.frozen? ⟨w.heap.size + 1, 3, none⟩ = false := froz_of_heap R2; have z4 : w2.frozen? ⟨w.heap.size + 1, 4, none⟩ = false := froz_of_heap R2; have HR2 : Hid (w2.heap[w.heap.size + 1]? = some (.cells #[.int .i64 0, .int .i64 0, .slice none 0 0, .string ⟨#[]⟩, .int .i64 0] 36 (0, 0))) := R2; clear R2; have VI := valuesI lo lo s2 s4 c2 c4 p.widths args w2 ((k2.keep (agree_of_below B1 lo)).keep (agree_of_below hb2 lo)) ((k4.keep (agree_of_below B1 lo)).keep (agree_of_below hb2 lo)); rw [hv] at VI) | (go_at_call 39; refine VI.mono ?_; rintro e w9 ⟨rfl, h9⟩; have h8 := h9.symm; clear h9; subst h8))
  have B2 := B1.trans (hb2.mono (by omega))
  refine bodyPost_ret (v := .agg #[.int .i64 6, .int .i64 0, .slice none 0 0, .string ⟨#[]⟩, .int .i64 0]) (results_cell_row Try.results15 _ _ (w.heap.size + 1) 36 _ (0, 0) _ rfl (five_set HR2.out _ _ _ _ _) Try.underlying36 rfl (by kernel_rfl)) rfl ⟨?_, five_below B2 (by omega) _ _ _ _ _⟩
  rw [E.out]
  exact ⟨none, 0, rfl, ⟨rfl, .inl ⟨rfl, rfl⟩⟩⟩
set_option maxHeartbeats 2000000 in
set_option maxRecDepth 100000 in
theorem machI_g (lo : Nat) (p : ProgD) (s1 : Option Addr) (c1 : Nat) (s2 : Option Addr) (c2 : Nat) (s3 : Option Addr) (c3 : Nat) (s4 : Option Addr) (c4 : Nat) (args : List Int) (mem : ByteArray) (fuel : Int) (w : World) (k1 : IntsAt w lo s1 p.params) (k2 : IntsAt w lo s2 p.widths) (k3 : MinsAt w lo s3 p.code) (k4 : IntsAt w lo s4 args) (hmsz : mem.size ≤ 1048576) (hp : progB p = true) (hv : valsB p.widths args = true) (hm : mem.size = 32) (hf : 0 ≤ fuel) (hf2 : 20000 < fuel) :
    Calls Try.prog 15 #[.agg #[.int .i64 p.regs, .slice s1 p.params.length c1, .slice s2 p.widths.length c2, .slice s3 p.code.length c3], .slice s4 args.length c4, .string mem, .int .i64 fuel] w fun e w' => (∃ u q, e = .returned (resA (machR p args mem fuel) u q) ∧ w'.ownsRow w.heap.size 2 1 (.slice u (machR p args mem fuel).out.length q) (machR p args mem fuel).out.length ((machR p args mem fuel).out.map (Value.int .i64))) ∧ Below w.heap.size w w' := by
  have E : Hid (machR p args mem fuel = ⟨6, 0, [], ⟨#[]⟩, 0⟩) := by show _ = _; rw [machR, if_neg (by simp [okM]; intro _ _ _ h; omega)]
  have hmz := hmsz
  obtain ⟨W1, hW1⟩ : ∃ W1, W1 = (w.alloc (.cells #[.int .i64 p.regs, .slice s1 p.params.length c1, .slice s2 p.widths.length c2, .slice s3 p.code.length c3] 30)).alloc (.cells #[.int .i64 0, .int .i64 0, .slice none 0 0, .string ⟨#[]⟩, .int .i64 0] 36) := ⟨_, rfl⟩
  have B1 : Below w.heap.size w W1 := by rw [hW1]; exact ((Below.refl _ _).alloc (Nat.le_refl _) _).alloc (by simp) _
  have PI := progI lo p s1 c1 s2 c2 s3 c3 W1 (k1.keep (agree_of_below B1 lo)) (k2.keep (agree_of_below B1 lo)) (k3.keep (agree_of_below B1 lo))
  have hz1 : w.heap.size + 2 = W1.heap.size := by rw [hW1]; simp
  have X1 : BoxP W1 w.heap.size p s1 c1 s2 c2 s3 c3 := by rw [hW1]; exact (BoxP.new w p s1 c1 s2 c2 s3 c3 _).below ((Below.refl _ _).alloc (Nat.le_refl _) _)
  have R1 : W1.heap[w.heap.size + 1]? = some (.cells #[.int .i64 0, .int .i64 0, .slice none 0 0, .string ⟨#[]⟩, .int .i64 0] 36 (0, 0)) := by rw [hW1]; exact heap_new2 _ _ _
  rw [hp] at PI
  have hm2 : (mem.size : Int) = 32 := by omega
  go_enter Try.func15, Try.ntmps15
  go_upto_region 1 with fail
  rw [← hW1]
  clear hW1
  have XX := X1
  obtain ⟨_, y0, y1, y2, y3⟩ := XX
  go_wp2_with (first | (go_at_call 9; refine PI.mono ?_; rintro e w2 ⟨rfl, hb2⟩; have X2 := X1.below hb2; obtain ⟨hx2, x0, x1, x2, x3⟩ := X2; have R2 := row_below R1 hb2; have r0 := (cell_of_heap (o := 0) R2).trans rfl; have r1 := (cell_of_heap (o := 1) R2).trans rfl; have r2 := (cell_of_heap (o := 2) R2).trans rfl; have r3 := (cell_of_heap (o := 3) R2).trans rfl; have r4 := (cell_of_heap (o := 4) R2).trans rfl; have z0 : w2.frozen? ⟨w.heap.size + 1, 0, none⟩ = false := froz_of_heap R2; have z1 : w2.frozen? ⟨w.heap.size + 1, 1, none⟩ = false := froz_of_heap R2; have z2 : w2.frozen? ⟨w.heap.size + 1, 2, none⟩ = false := froz_of_heap R2; have z3 : w2.frozen? ⟨w.heap.size + 1, 3, none⟩ = false := froz_of_heap R2; have z4 : w2.frozen? ⟨w.heap.size + 1, 4, none⟩ = false := froz_of_heap R2; have HR2 : Hid (w2.heap[w.heap.size + 1]? = some (.cells #[.int .i64 0, .int .i64 0, .slice none 0 0, .string ⟨#[]⟩, .int .i64 0] 36 (0, 0))) := R2; clear R2; have VI := valuesI lo lo s2 s4 c2 c4 p.widths args w2 ((k2.keep (agree_of_below B1 lo)).keep (agree_of_below hb2 lo)) ((k4.keep (agree_of_below B1 lo)).keep (agree_of_below hb2 lo)); rw [hv] at VI) | (go_at_call 39; refine VI.mono ?_; rintro e w9 ⟨rfl, h9⟩; have h8 := h9.symm; clear h9; subst h8))
  have B2 := B1.trans (hb2.mono (by omega))
  refine bodyPost_ret (v := .agg #[.int .i64 6, .int .i64 0, .slice none 0 0, .string ⟨#[]⟩, .int .i64 0]) (results_cell_row Try.results15 _ _ (w.heap.size + 1) 36 _ (0, 0) _ rfl (five_set HR2.out _ _ _ _ _) Try.underlying36 rfl (by kernel_rfl)) rfl ⟨?_, five_below B2 (by omega) _ _ _ _ _⟩
  rw [E.out]
  exact ⟨none, 0, rfl, ⟨rfl, .inl ⟨rfl, rfl⟩⟩⟩
end Go.Proofs.Ytofgfiakccjimaa
