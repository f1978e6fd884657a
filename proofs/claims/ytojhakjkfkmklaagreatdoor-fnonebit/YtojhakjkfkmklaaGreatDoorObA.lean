/- Bytes that are refused: their length or their sum is not right. -/
import Derived.Test.YtojhakjkfkmklaaGreatDoorMbCQ
import Derived.Test.YtojhakjkfkmklaaGreatDoorFmJQ
import Derived.Defers
import Derived.Recover
import Derived.Laws.Pointers
namespace Go.Proofs.YtojhakjkfkmklaaGreatDoor
open Go.RowKit
set_option linter.unusedVariables false
set_option linter.unusedSimpArgs false
structure Gv (w : World) (g : Nat) (v : Value) : Prop where
  cell : w.cell? ⟨g, 0, none⟩ = some v
  lt : g < w.heap.size
theorem Gv.keep {w w' : World} {g : Nat} {v : Value} (h : Gv w g v) (k : Below w.heap.size w w') : Gv w' g v := ⟨(cell_block (k.block g h.lt)).trans h.cell, Nat.lt_of_lt_of_le h.lt k.size⟩
def errV (a : Addr) : Value := .iface 181 (.pointer (some a))
/-- It gives up. -/
def Gone (a : Addr) (e : Ending) : Prop := e = .panicked [{ v := errV a, recovered := false }]
theorem wantY (w : World) : Calls Tryz.prog 50 #[.bool true] w fun e w' => e = .returned (.tuple #[]) ∧ w' = w := by
  go_enter Tryz.func50, Tryz.ntmps50
  go_wp2_with fail
  exact bodyPost_end (results_none Tryz.results50 _ _ _) rfl ⟨rfl, rfl⟩
theorem wantN (a : Addr) (w : World) (hv : Gv w 0 (errV a)) : Calls Tryz.prog 50 #[.bool false] w fun e w' => e = .panicked [{ v := errV a, recovered := false }] ∧ w' = w := by
  have c := hv.cell
  unfold errV at c ⊢
  go_enter Tryz.func50, Tryz.ntmps50
  go_wp2_with fail
  exact ⟨rfl, rfl, rfl⟩
/-- Too short, too long, or the sum of what stands ahead of the last four is not what they say. -/
def BadB (s : ByteArray) : Prop := s.size < 4 ∨ 20000 < s.size ∨ sumT (s.extract 0 (s.size - 4)) ≠ s.extract (s.size - 4) s.size
theorem str_neq {a b : ByteArray} (h : ¬ a = b) : (a.toList == b.toList) = false := by
  rw [ByteArray.toList_eq, ByteArray.toList_eq, beq_eq_false_iff_ne]
  exact fun e => h (ByteArray.ext (Array.toList_inj.1 e))
set_option maxHeartbeats 4000000 in
set_option maxRecDepth 100000 in
theorem mobBad (a : Addr) (s : ByteArray) (w : World) (hs : BadB s) (hv : Gv w 0 (errV a)) :
    Calls Tryz.prog 25 #[.string s] w fun e w' => e = .panicked [{ v := errV a, recovered := false }] ∧ Below w.heap.size w w' := by
  have B1 : Below w.heap.size w (w.alloc (.cells #[.slice none 0 0] 26)) := (Below.refl _ _).alloc (Nat.le_refl _) _
  have HV1 : Hid (Gv (w.alloc (.cells #[.slice none 0 0] 26)) 0 (errV a)) := hv.keep B1
  have HB : Hid (Below w.heap.size w (w.alloc (.cells #[.slice none 0 0] 26))) := B1
  clear B1 hv
  by_cases h4 : s.size < 4
  · have e1 : ¬ ((4 : Int) ≤ (s.size : Int)) := by omega
    have e2 : ¬ (4 ≤ s.size) := by omega
    clear hs
    go_enter Tryz.func25, Tryz.ntmps25
    go_wp2_with fail
    refine (wantN a _ HV1.out).mono ?_
    rintro e w1 ⟨rfl, h9⟩
    have h8 := h9.symm
    clear h9
    subst h8
    go_wp2_with fail
    exact ⟨rfl, rfl, HB.out⟩
  have h4' : 4 ≤ s.size := by omega
  have h4i : (4 : Int) ≤ (s.size : Int) := by omega
  by_cases h20 : 20000 < s.size
  · have e1 : ¬ ((s.size : Int) ≤ 20000) := by omega
    have e2 : ¬ (s.size ≤ 20000) := by omega
    clear hs
    go_enter Tryz.func25, Tryz.ntmps25
    go_wp2_with fail
    refine (wantN a _ HV1.out).mono ?_
    rintro e w1 ⟨rfl, h9⟩
    have h8 := h9.symm
    clear h9
    subst h8
    go_wp2_with fail
    exact ⟨rfl, rfl, HB.out⟩
  have h20' : s.size ≤ 20000 := by omega
  have h20i : (s.size : Int) ≤ 20000 := by omega
  obtain ⟨m, hm⟩ : ∃ m, s.size = m + 4 := ⟨s.size - 4, by omega⟩
  have hne0 : sumT (s.extract 0 m) ≠ s.extract m s.size := by
    rcases hs with h | h | h
    · omega
    · omega
    · rw [show s.size - 4 = m by omega] at h; exact h
  have e2 : (s.size : Int) - 4 = (m : Int) := by omega
  obtain ⟨t, HT⟩ : ∃ t, Hid (s.extract 0 m = t) := ⟨_, rfl⟩
  obtain ⟨u, HU⟩ : ∃ u, Hid (s.extract m s.size = u) := ⟨_, rfl⟩
  rw [HT.out, HU.out] at hne0
  have htm : (t.size : Int) = (m : Int) := by rw [← HT.out, ByteArray.size_extract]; omega
  have htz : t.size ≤ 20000 := by omega
  have hs1 : ∀ v : World, (Instr.slice 9 (.string s) none (some (.int .i64 (m : Int))) none).run Tryz.prog v = .ok (.string t) v := fun v => by
    rw [run_slice_string_to_if (h := Tryz.underlying9), if_pos (by omega), ← HT.out]; rfl
  have hs2 : ∀ v : World, (Instr.slice 9 (.string s) (some (.int .i64 (m : Int))) none none).run Tryz.prog v = .ok (.string u) v := fun v => by
    rw [run_slice_string_from_if (h := Tryz.underlying9), if_pos (by omega), ← HU.out]; rfl
  have hq : ((sumT t).toList == u.toList) = false := str_neq hne0
  clear hs h4 h20 hm
  go_enter Tryz.func25, Tryz.ntmps25
  go_wp2_with (first | (go_at_call 50; refine (wantY _).mono ?_; rintro e w1 ⟨rfl, h9⟩; have h8 := h9.symm; clear h9; subst h8))
  obtain ⟨W, hW⟩ : ∃ W, (w.alloc (.cells #[.slice none 0 0] 26)) = W := ⟨_, rfl⟩
  rw [hW] at HV1 HB ⊢
  clear hW
  refine wp_region_held_drew (S := fun w' => Below W.heap.size W w') (by kernel_rfl) ((Below.refl _ _).drew) (fun hHeld => ?_)
  refine wpAnyH_take (i := 0) (v := ?_) rfl (by kernel_rfl) (by kernel_rfl) (by kernel_rfl) (fun _ _ _ h => h) (Or.inl ⟨by rfl, ?_⟩) hHeld ?_
  rotate_left
  · intro w9 hS9
    go_simp
    try with_reducible rfl
  show wpAnyH _ _ _ _ _ _ _ (Act.put _ (some _) _) _
  simp only [Act.put, List.setIfInBounds_toArray, List.set_cons_zero, List.set_cons_succ]
  refine wpAnyH_take (i := 2) (v := ?_) rfl (by kernel_rfl) (by kernel_rfl) (by kernel_rfl) (fun _ _ _ h => h) (Or.inl ⟨by rfl, ?_⟩) hHeld ?_
  rotate_left
  · intro w9 hS9
    go_simp
    try with_reducible rfl
  show wpAnyH _ _ _ _ _ _ _ (Act.put _ (some _) _) _
  simp only [Act.put, List.setIfInBounds_toArray, List.set_cons_zero, List.set_cons_succ]
  refine wpAnyH_take (i := 3) (v := ?_) rfl (by kernel_rfl) (by kernel_rfl) (by kernel_rfl) (fun _ _ _ h => h) (Or.inl ⟨by rfl, ?_⟩) hHeld ?_
  rotate_left
  · intro w9 hS9
    go_simp
    try with_reducible rfl
  show wpAnyH _ _ _ _ _ _ _ (Act.put _ (some _) _) _
  simp only [Act.put, List.setIfInBounds_toArray, List.set_cons_zero, List.set_cons_succ]
  refine wpAnyH_take (i := 4) (v := ?_) rfl (by kernel_rfl) (by kernel_rfl) (by kernel_rfl) (fun _ _ _ h => h) (Or.inl ⟨by rfl, ?_⟩) hHeld ?_
  rotate_left
  · intro w9 hS9
    go_simp
    try with_reducible rfl
  show wpAnyH _ _ _ _ _ _ _ (Act.put _ (some _) _) _
  simp only [Act.put, List.setIfInBounds_toArray, List.set_cons_zero, List.set_cons_succ]
  refine wpAnyH_take (i := 5) (v := ?_) rfl (by kernel_rfl) (by kernel_rfl) (by kernel_rfl) (fun _ _ _ h => h) (Or.inl ⟨by rfl, ?_⟩) hHeld ?_
  rotate_left
  · intro w9 hS9
    go_simp
    try with_reducible rfl
  show wpAnyH _ _ _ _ _ _ _ (Act.put _ (some _) _) _
  simp only [Act.put, List.setIfInBounds_toArray, List.set_cons_zero, List.set_cons_succ]
  refine wpAnyH_ready (rs := [1]) (by kernel_rfl) (by simp) ?_
  refine AllReadyH.cons rfl (fun K hK => ?_) AllReadyH.nil
  go_simp
  go_wp2_with (go_at_call 22; refine (sumI t (by omega) _).mono ?_; rintro e w5 ⟨rfl, bb⟩; have bc := hHeld.trans (bb.mono hHeld.size))
  refine hK.out _ _ ?_ (fun hHeld2 => ?_)
  · exact bc
  clear hK K
  have hPrev := hHeld
  clear hHeld
  have hHeld := hHeld2
  clear hHeld2 bc
  try simp only [Act.put, List.setIfInBounds_toArray, List.set_cons_zero, List.set_cons_succ]
  refine wpAnyH_take (i := 6) (v := ?_) rfl (by kernel_rfl) (by kernel_rfl) (by kernel_rfl) (fun _ _ _ h => h) (Or.inl ⟨by rfl, ?_⟩) hHeld ?_
  rotate_left
  · intro w9 hS9
    go_simp
    try with_reducible rfl
  show wpAnyH _ _ _ _ _ _ _ (Act.put _ (some _) _) _
  simp only [Act.put, List.setIfInBounds_toArray, List.set_cons_zero, List.set_cons_succ]
  refine wpAnyH_ready (rs := [7]) (by kernel_rfl) (by simp) ?_
  refine AllReadyH.cons rfl (fun K hK => ?_) AllReadyH.nil
  go_simp
  go_wp2_with (go_at_call 50; refine (wantN a _ (HV1.out.keep hHeld)).mono ?_; rintro e w6 ⟨rfl, h9⟩; have h8 := h9.symm; clear h9; subst h8)
  exact ⟨rfl, rfl, HB.out.trans (hHeld.mono HB.out.size)⟩
set_option maxHeartbeats 8000000 in
set_option maxRecDepth 100000 in
theorem mob1 (a : Addr) (g : Nat) (s : ByteArray) (w : World) (hg : Gv w g (.string s)) (hs : BadB s) (hv : Gv w 0 (errV a)) :
    Calls Tryz.prog 24 #[.pointer (some ⟨g, 0, none⟩)] w fun e w' => e = .panicked [{ v := errV a, recovered := false }] ∧ Below w.heap.size w w' := by
  have B1 : Below w.heap.size w (w.alloc (.cells #[.slice none 0 0] 26)) := (Below.refl _ _).alloc (Nat.le_refl _) _
  have A1 := At.new w #[.slice none 0 0] 26
  have e1 : (w.alloc (.cells #[.slice none 0 0] 26)).heap.size = w.heap.size + 1 := by simp
  have P := mobBad a s (w.alloc (.cells #[.slice none 0 0] 26)) hs (hv.keep B1)
  rw [e1] at P
  have c := (hg.keep B1).cell
  have HB1 : Hid (Below w.heap.size w _) := B1
  have HA1 : Hid (At _ w.heap.size #[.slice none 0 0] 26) := A1
  have he1 : Hid ((w.alloc (.cells #[.slice none 0 0] 26)).heap.size = w.heap.size + 1) := e1
  clear B1 A1 hv hg e1
  go_enter Tryz.func24, Tryz.ntmps24
  go_wp2_with fail
  generalize (w.alloc (.cells #[.slice none 0 0] 26)) = W1 at HB1 HA1 P c he1 ⊢
  refine P.mono ?_
  rintro e w2 ⟨hc, b2⟩
  rw [← he1.out] at b2
  have HB2 : Hid (Below w.heap.size w w2) := HB1.out.trans (b2.mono HB1.out.size)
  have HA2 : Hid (At w2 w.heap.size #[.slice none 0 0] 26) := HA1.out.below b2
  clear P c b2 HB1 HA1
  obtain rfl := hc
  go_wp2_with fail
  exact ⟨rfl, rfl, HB2.out⟩
set_option maxHeartbeats 8000000 in
set_option maxRecDepth 100000 in
theorem catchY (p r : Nat) (u : TypeId) (pv : Value) (older : List PanicEntry) (w : World) (b : Bool) (hpr : p < r) (hp : At w p #[.slice none 0 0] 26) (hr : At w r #[.bool b] 4) :
    CallsD Tryz.prog 49 #[.pointer (some ⟨p, 0, none⟩), .pointer (some ⟨r, 0, none⟩)] (.panicking ({ v := .iface u pv, recovered := false } :: older)) w fun e u' w' =>
      e = .returned (.tuple #[]) ∧ u' = .panicking ({ v := .iface u pv, recovered := true } :: older) ∧ At w' p #[.slice none 0 0] 26 ∧ At w' r #[.bool false] 4 ∧ Below p w w' := by
  have hlp : p < w.heap.size := hp.lt
  have hlr : r < w.heap.size := hr.lt
  have B1 : Below w.heap.size w (w.alloc (.cells #[.slice none 0 0] 26)) := (Below.refl _ _).alloc (Nat.le_refl _) _
  have HP : Hid (At (w.alloc (.cells #[.slice none 0 0] 26)) p #[.slice none 0 0] 26) := hp.below B1
  have HR : Hid (At (w.alloc (.cells #[.slice none 0 0] 26)) r #[.bool b] 4) := hr.below B1
  have HN : Hid (At (w.alloc (.cells #[.slice none 0 0] 26)) w.heap.size #[.slice none 0 0] 26) := At.new _ _ _
  have HB : Hid (Below p w (w.alloc (.cells #[.slice none 0 0] 26))) := B1.mono (by omega)
  clear B1 hp hr
  refine callsD_of_wpS Tryz.func49 rfl fun c₀ cs hu => ?_
  apply wpS_seq
  apply wpS_region
  simp [wpOpsS, go_sem, recoverD, hu, Tryz.ntmps49, Exit.thenS]
  refine wpS_cond (t := true) (by simp [Act.eval, Array.replicate]) ?_
  simp only [if_true]
  refine wpS_of_wp ?_
  simp only [Array.replicate, List.replicate, List.setIfInBounds_toArray, List.set_cons_zero, List.set_cons_succ, List.append_toArray, List.cons_append, List.nil_append]
  obtain ⟨W, hW⟩ : ∃ W, (w.alloc (.cells #[.slice none 0 0] 26)) = W := ⟨_, rfl⟩
  rw [hW] at HP HR HN HB
  have z0 : W.cell? ⟨p, 0, none⟩ = some (.slice none 0 0) := HP.out.cell 0
  have y0 : W.cell? ⟨w.heap.size, 0, none⟩ = some (.slice none 0 0) := HN.out.cell 0
  have zf : ∀ o, W.frozen? ⟨p, o, none⟩ = false := fun o => froz_of_heap HP.out
  have x0 : W.cell? ⟨r, 0, none⟩ = some (.bool b) := HR.out.cell 0
  have xf : W.frozen? ⟨r, 0, none⟩ = false := froz_of_heap HR.out
  have npr : p ≠ r := by omega
  have nrp : r ≠ p := by omega
  go_wp2_with fail
  have h0 : At (W.setCell ⟨p, 0, none⟩ (.slice none 0 0)) p #[.slice none 0 0] 26 := heap_set (o := 0) (v := .slice none 0 0) HP.out
  have h1 := h0.setOther (gi := r) (o := 0) (v := .bool false) npr
  clear h0
  have h2 := heap_set (o := 0) (v := .bool false) (HR.out.setOther (gi := p) (o := 0) (v := .slice none 0 0) nrp)
  have h3 : Below p w ((W.setCell ⟨p, 0, none⟩ (.slice none 0 0)).setCell ⟨r, 0, none⟩ (.bool false)) := by repeat (first | refine Below.setCell ?_ (by dsimp only; omega) _ | exact HB.out)
  clear HP HR HN HB z0 y0 zf x0 xf hW
  generalize ((W.setCell ⟨p, 0, none⟩ (.slice none 0 0)).setCell ⟨r, 0, none⟩ (.bool false)) = W9 at h1 h2 h3 ⊢
  simp [bodyPostS, results, Tryz.results49]
  exact ⟨h1, h2, h3⟩
theorem results_two {P : Program} {fn : Func} {p r : Tmp} {ty tb : TypeId} (h : fn.results = #[.cell p ty, .cell r tb]) (tmps : Array Value) (w : World) (g k : Nat) (v1 v2 : Value)
    (hp : tmps.getD p undef = .pointer (some ⟨g, 0, none⟩)) (hr : tmps.getD r undef = .pointer (some ⟨k, 0, none⟩)) (h1 : (loadVar ty ⟨g, 0, none⟩).run P w = .ok v1 w) (h2 : (loadVar tb ⟨k, 0, none⟩).run P w = .ok v2 w) :
    (results fn tmps).run P w = .ok (.tuple #[v1, v2]) w := by
  have hp' : tmps[p]?.getD undef = .pointer (some ⟨g, 0, none⟩) := by simpa using hp
  have hr' : tmps[r]?.getD undef = .pointer (some ⟨k, 0, none⟩) := by simpa using hr
  simp [results, h, hp', hr', asAddr, h1, h2, Result.andThen]
theorem load_bool {w : World} {k : Nat} {b : Bool} (h : At w k #[.bool b] 4) : (loadVar 4 ⟨k, 0, none⟩).run Tryz.prog w = .ok (.bool b) w := by
  have c : w.cell? ⟨k, 0, none⟩ = some (.bool b) := h.cell 0
  simp [go_sem, c]
set_option maxHeartbeats 8000000 in
set_option maxRecDepth 100000 in
theorem readingBad (a : Addr) (g : Nat) (s : ByteArray) (w : World) (hg : Gv w g (.string s)) (hs : BadB s) (hv : Gv w 0 (errV a)) :
    Calls Tryz.prog 23 #[.func (.func 24) #[] #[.pointer (some ⟨g, 0, none⟩)]] w fun e w' => e = .returned (.tuple #[.agg #[.slice none 0 0], .bool false]) ∧ Below w.heap.size w w' := by
  have hmf : ∀ (fn : Fn) (first cap : Array Value) (w : World), (Instr.makeFunc fn first cap).run Tryz.prog w = .ok (.func fn first cap) w := fun _ _ _ _ => rfl
  have B1 : Below w.heap.size w ((w.alloc (.cells #[.slice none 0 0] 26)).alloc (.cells #[.bool false] 4)) := ((Below.refl _ _).alloc (Nat.le_refl _) _).alloc (by simp) _
  have e1 : ((w.alloc (.cells #[.slice none 0 0] 26)).alloc (.cells #[.bool false] 4)).heap.size = w.heap.size + 2 := by simp
  have A0 : At ((w.alloc (.cells #[.slice none 0 0] 26)).alloc (.cells #[.bool false] 4)) w.heap.size #[.slice none 0 0] 26 := (At.new _ _ _).below ((Below.refl _ _).alloc (Nat.le_refl _) _)
  have A1 : At ((w.alloc (.cells #[.slice none 0 0] 26)).alloc (.cells #[.bool false] 4)) (w.heap.size + 1) #[.bool false] 4 := by
    have h := At.new (w.alloc (.cells #[.slice none 0 0] 26)) #[.bool false] 4
    have e : (w.alloc (.cells #[.slice none 0 0] 26)).heap.size = w.heap.size + 1 := by simp
    rw [e] at h
    exact h
  have P := mob1 a g s _ (hg.keep B1) hs (hv.keep B1)
  rw [e1] at P
  have HB1 : Hid (Below w.heap.size w _) := B1
  have HA0 : Hid (At _ w.heap.size #[.slice none 0 0] 26) := A0
  have HA1 : Hid (At _ (w.heap.size + 1) #[.bool false] 4) := A1
  have he1 : Hid (_ = w.heap.size + 2) := e1
  clear B1 A0 A1 e1 hg hv hs
  go_enter_defers Tryz.func23, Tryz.ntmps23
  go_wp2_with fail
  generalize ((w.alloc (.cells #[.slice none 0 0] 26)).alloc (.cells #[.bool false] 4)) = W1 at HB1 HA0 HA1 he1 P ⊢
  refine P.mono ?_
  rintro e w2 ⟨hc, b2⟩
  rw [← he1.out] at b2
  have HB2 : Hid (Below w.heap.size w w2) := HB1.out.trans (b2.mono HB1.out.size)
  have HA2 : Hid (At w2 w.heap.size #[.slice none 0 0] 26) := HA0.out.below b2
  have HA3 : Hid (At w2 (w.heap.size + 1) #[.bool false] 4) := HA1.out.below b2
  clear P b2 HB1 HA0 HA1
  obtain rfl := hc
  clear he1
  go_wp2_with fail
  refine leaves_cons (f := 49) (args := #[.pointer (some ⟨w.heap.size, 0, none⟩), .pointer (some ⟨w.heap.size + 1, 0, none⟩)]) (by simp) (by simp [go_sem]) ?_
  unfold errV
  refine (catchY w.heap.size (w.heap.size + 1) _ _ [] w2 false (by omega) HA2.out HA3.out).mono ?_
  rintro e u' w9 ⟨rfl, rfl, h1, h2, b9⟩
  have h3 : Below w.heap.size w w9 := HB2.out.trans b9
  clear HA2 HA3 HB2 b9
  simp [Leaves, settle]
  refine ⟨.tuple #[.agg #[.slice none 0 0], .bool false], ?_, rfl, h3⟩
  exact results_two Tryz.results23 _ _ w.heap.size (w.heap.size + 1) _ _ rfl rfl (run_loadVar_row _ _ 26 _ _ (0, 0) _ h1 Tryz.underlying26 rfl (by kernel_rfl)) (load_bool h2)
theorem results_row_tmp {P : Program} {fn : Func} {p u : Tmp} {ty : TypeId} (h : fn.results = #[.cell p ty, .tmp u]) (tmps : Array Value) (w : World) (g : Nat) (cs : Array Value)
    (hp : tmps.getD p undef = .pointer (some ⟨g, 0, none⟩)) (hl : (loadVar ty ⟨g, 0, none⟩).run P w = .ok (.agg cs) w) :
    (results fn tmps).run P w = .ok (.tuple #[.agg cs, tmps.getD u undef]) w := by
  have hp' : tmps[p]?.getD undef = .pointer (some ⟨g, 0, none⟩) := by simpa using hp
  rw [results_cell_tmp h]
  simp [hp', asAddr, hl, Result.andThen]
set_option maxHeartbeats 8000000 in
set_option maxRecDepth 100000 in
theorem readBad (a : Addr) (s : ByteArray) (w : World) (hs : BadB s) (hv : Gv w 0 (errV a)) :
    Calls Tryz.prog 9 #[.string s] w fun e w' => e = .returned (.tuple #[.agg #[.slice none 0 0], .bool false]) ∧ Below w.heap.size w w' := by
  have hmf : ∀ (fn : Fn) (first cap : Array Value) (w : World), (Instr.makeFunc fn first cap).run Tryz.prog w = .ok (.func fn first cap) w := fun _ _ _ _ => rfl
  have B1 : Below w.heap.size w ((w.alloc (.cells #[.string s] 9)).alloc (.cells #[.slice none 0 0] 26)) := ((Below.refl _ _).alloc (Nat.le_refl _) _).alloc (by simp) _
  have e1 : ((w.alloc (.cells #[.string s] 9)).alloc (.cells #[.slice none 0 0] 26)).heap.size = w.heap.size + 2 := by simp
  have A0 : At ((w.alloc (.cells #[.string s] 9)).alloc (.cells #[.slice none 0 0] 26)) w.heap.size #[.string s] 9 := (At.new _ _ _).below ((Below.refl _ _).alloc (Nat.le_refl _) _)
  have A1 : At ((w.alloc (.cells #[.string s] 9)).alloc (.cells #[.slice none 0 0] 26)) (w.heap.size + 1) #[.slice none 0 0] 26 := by
    have h := At.new (w.alloc (.cells #[.string s] 9)) #[.slice none 0 0] 26
    have e : (w.alloc (.cells #[.string s] 9)).heap.size = w.heap.size + 1 := by simp
    rw [e] at h
    exact h
  have P := readingBad a w.heap.size s _ ⟨A0.cell 0, A0.lt⟩ hs (hv.keep B1)
  rw [e1] at P
  have HB1 : Hid (Below w.heap.size w _) := B1
  have HA1 : Hid (At _ (w.heap.size + 1) #[.slice none 0 0] 26) := A1
  have he1 : Hid (_ = w.heap.size + 2) := e1
  clear B1 A0 A1 e1 hv hs
  go_enter Tryz.func9, Tryz.ntmps9
  go_wp2_with fail
  generalize ((w.alloc (.cells #[.string s] 9)).alloc (.cells #[.slice none 0 0] 26)) = W1 at HB1 HA1 he1 P ⊢
  refine P.mono ?_
  rintro e w2 ⟨hc, b2⟩
  rw [← he1.out] at b2
  have HB2 : Hid (Below w.heap.size w w2) := HB1.out.trans (b2.mono HB1.out.size)
  have HA2 : Hid (At w2 (w.heap.size + 1) #[.slice none 0 0] 26) := HA1.out.below b2
  have z0 : w2.cell? ⟨w.heap.size + 1, 0, none⟩ = some (.slice none 0 0) := HA2.out.cell 0
  have zf : ∀ o, w2.frozen? ⟨w.heap.size + 1, o, none⟩ = false := fun o => froz_of_heap HA2.out
  clear P b2 HB1 HA1 he1 hmf
  obtain rfl := hc
  go_wp2_with fail
  have hrr := heap_set (o := 0) (v := .slice none 0 0) HA2.out
  refine bodyPost_ret (v := .tuple #[.agg #[.slice none 0 0], .bool false]) ((results_row_tmp Tryz.results9 _ _ (w.heap.size + 1) _ rfl (run_loadVar_row _ _ 26 _ _ (0, 0) _ hrr Tryz.underlying26 rfl (by kernel_rfl))).trans (by rfl)) rfl ⟨rfl, ?_⟩
  exact (by repeat (first | refine Below.setCell ?_ (by dsimp only; omega) _ | exact HB2.out))
end Go.Proofs.YtojhakjkfkmklaaGreatDoor
