/- A machine: what its run leaves behind. -/
import Derived.Test.YtofgfiakccjimaaMaH
import Derived.Laws.IdiomStrings
import Derived.Deep.RegionHeld2
namespace Go.Proofs.Ytofgfiakccjimaa
open Go.RowKit
set_option linter.unusedVariables false
set_option linter.unusedSimpArgs false

/-- 32 numbers as bytes. -/
def memB (m : Nat → Int) : ByteArray := ⟨((List.range 32).map fun j => UInt8.ofNat (m j).toNat).toArray⟩
theorem byte_back {x : Int} (h0 : 0 ≤ x) (h1 : x ≤ 255) : ((UInt8.ofNat x.toNat).toNat : Int) = x := by
  have : x.toNat < 256 := by omega
  rw [UInt8.toNat_ofNat', Nat.mod_eq_of_lt this]
  omega
theorem conv_mem {w : World} {M : Nat} {cur : Array Value} {T : TypeId} {m : Nat → Int} (hb : w.heap[M]? = some (.cells cur T (0, 0))) (hm : ∀ i, i < 32 → cur[i]? = some (.int .u8 (m i))) (hr : ∀ j, j < 32 → 0 ≤ m j ∧ m j ≤ 255) :
    (convert 67 9 (.slice (some ⟨M, 0, none⟩) 32 32)).run Try.prog w = .ok (.string (memB m)) w := by
  have h := run_convert_bytes_back (P := Try.prog) w 67 9 5 ⟨M, 0, none⟩ 32 ((List.range 32).map fun j => UInt8.ofNat (m j).toNat) Try.underlying67 Try.underlying5 Try.underlying9 (fun j hj => ?_)
  · unfold memB; simpa using h
  · have hj : j < 32 := by simpa using hj
    have hat : (⟨M, 0, none⟩ : Addr).add j = ⟨M, j, none⟩ := by unfold Addr.add; split <;> simp_all
    rw [hat, cell_of_heap hb, hm j hj]
    simp only [List.getElem_map, List.getElem_range]
    rw [byte_back (hr j hj).1 (hr j hj).2]
set_option maxHeartbeats 2000000 in
theorem resultI (M : Nat) (cur : Array Value) (T : TypeId) (s : MSt) (u : Option Addr) (q : Nat) (k v : Int) (w : World) (hb : w.heap[M]? = some (.cells cur T (0, 0))) (hm : ∀ i, i < 32 → cur[i]? = some (.int .u8 (s.mem i))) (hr : ∀ j, j < 32 → 0 ≤ s.mem j ∧ s.mem j ≤ 255) (h2 : cur[32]? = some (.slice u s.out.length q)) (h4 : cur[34]? = some (.int .i64 s.steps)) :
    Calls Try.prog 42 #[.pointer (some ⟨M, 0, none⟩), .int .i64 k, .int .i64 v] w fun e w' => e = .returned (.agg #[.int .i64 k, .int .i64 v, .slice u s.out.length q, .string (memB s.mem), .int .i64 s.steps]) ∧ Below w.heap.size w w' := by
  have B1 : Below w.heap.size w (w.alloc (.cells #[.int .i64 0, .int .i64 0, .slice none 0 0, .string ⟨#[]⟩, .int .i64 0] 36)) := (Below.refl _ _).alloc (Nat.le_refl _) _
  have H1 := row_below hb B1
  have y2 := (cell_of_heap (o := 32) H1).trans h2
  have y4 := (cell_of_heap (o := 34) H1).trans h4
  have cv := conv_mem (w := (w.alloc (.cells #[.int .i64 0, .int .i64 0, .slice none 0 0, .string ⟨#[]⟩, .int .i64 0] 36)).drew) H1 hm hr
  go_enter Try.func42, Try.ntmps42
  go_wp2_with fail
  go_region
  go_wp2_with fail
  refine bodyPost_ret (v := .agg #[.int .i64 k, .int .i64 v, .slice u s.out.length q, .string (memB s.mem), .int .i64 s.steps]) (results_cell_row Try.results42 _ _ w.heap.size 36 _ (0, 0) _ rfl (heap_alloc_at _ _) Try.underlying36 rfl (by kernel_rfl)) rfl ⟨rfl, ?_⟩
  exact ((Below.refl _ _).alloc (Nat.le_refl _) _).drew
def valsB (ws l : List Int) : Bool := decide (l.length = ws.length) && (List.range l.length).all fun i => valueB (ws.getD i 0) (l.getD i 0)
theorem vals_no {ws l : List Int} {k : Nat} (h : k < l.length) (hv : valueB (ws.getD k 0) (l.getD k 0) = false) : valsB ws l = false := by
  have : ((List.range l.length).all fun i => valueB (ws.getD i 0) (l.getD i 0)) = false := by
    rw [List.all_eq_false]
    exact ⟨k, by simpa using h, by rw [hv]; decide⟩
  rw [valsB, this]; simp
theorem vals_yes {ws l : List Int} (h : l.length = ws.length) (hv : ∀ k, k < l.length → valueB (ws.getD k 0) (l.getD k 0) = true) : valsB ws l = true := by
  have : ((List.range l.length).all fun i => valueB (ws.getD i 0) (l.getD i 0)) = true := by
    rw [List.all_eq_true]
    intro k hk
    exact hv k (by simpa using hk)
  rw [valsB, this, decide_eq_true h]; rfl
theorem vals_get {ws l : List Int} (h : valsB ws l = true) : l.length = ws.length ∧ ∀ k, k < l.length → valueB (ws.getD k 0) (l.getD k 0) = true := by
  simp [valsB] at h
  exact ⟨h.1, fun k hk => by simpa [List.getD] using h.2 k hk⟩
set_option maxHeartbeats 1000000 in
theorem valuesI (lo lo' : Nat) (a b : Option Addr) (ca cb : Nat) (ws l : List Int) (w : World) (ha : IntsAt w lo a ws) (hb : IntsAt w lo' b l) :
    Calls Try.prog 39 #[.slice a ws.length ca, .slice b l.length cb] w fun e w' => e = .returned (.bool (valsB ws l)) ∧ w' = w := by
  have ga := ha.1
  have gb := hb.1
  by_cases hn : l.length = ws.length
  case neg =>
    have E : Hid (false = valsB ws l) := by show _ = _; simp [valsB, hn]
    have hn2 : ¬ (l.length : Int) = ws.length := by omega
    go_enter Try.func39, Try.ntmps39
    go_wp2_with fail
    go_ret
    exact ⟨ret_bool E.out, rfl⟩
  have HN : Hid (l.length = ws.length) := hn
  have hn2 : (l.length : Int) = ws.length := by omega
  clear hn
  go_enter Try.func39, Try.ntmps39
  go_wp2_with fail
  clear hn2
  go_loop [14, 5, 6] (fun i _ _ => ∃ k : Nat, k ≤ l.length ∧ i = .int .i64 k ∧ Hid (∀ j, j < k → valueB (ws.getD j 0) (l.getD j 0) = true)) (fun i _ _ => l.length - (intOf i).toNat)
  case atStart => exact ⟨0, by omega, rfl, fun j hj => by omega⟩
  case round =>
    obtain ⟨k, hk, rfl, HD⟩ := hrel
    by_cases hlt : k < l.length
    · have hlw : k < ws.length := by have := HN.out; omega
      rcases ha.2 with h | ⟨ba, oa, rfl, _, _, hca⟩
      · simp [h] at hlw
      rcases hb.2 with h | ⟨bb, ob, rfl, _, _, hcb⟩
      · simp [h] at hlt
      have e0 := hca k hlw
      have e1 := hcb k hlt
      have NO : Hid (valueB (ws.getD k 0) (l.getD k 0) = false → false = valsB ws l) := fun h => (vals_no hlt h).symm
      have YES : Hid (valueB (ws.getD k 0) (l.getD k 0) = true → ∀ j, j < k + 1 → valueB (ws.getD j 0) (l.getD j 0) = true) := fun h j hj => by
        by_cases e : j = k
        · subst e; exact h
        · exact HD.out j (by omega)
      generalize ws.getD k 0 = x at e0 NO YES
      generalize l.getD k 0 = y at e1 NO YES
      clear hca hcb ha hb HD
      have hkl2 : (k : Int) < ws.length := by omega
      cases hv : valueB x y with
      | false =>
        have N : Hid (false = valsB ws l) := NO.out hv
        clear NO YES
        go_wp2_with (go_at_call 65; refine (valueI _ _ _).mono ?_; rw [hv]; rintro e w' ⟨rfl, rfl⟩)
        go_ret
        exact ⟨ret_bool N.out, rfl⟩
      | true =>
        have Y : Hid (∀ j, j < k + 1 → valueB (ws.getD j 0) (l.getD j 0) = true) := YES.out hv
        clear NO YES
        go_wp2_with (go_at_call 65; refine (valueI _ _ _).mono ?_; rw [hv]; rintro e w' ⟨rfl, rfl⟩)
        exact ⟨⟨k + 1, by omega, by go_num, Y.out⟩, by simp only [intOf]; omega⟩
    · have N : Hid (true = valsB ws l) := (vals_yes HN.out (fun j hj => HD.out j (by omega))).symm
      have hlt2 : ¬ (k : Int) < l.length := by omega
      have hlt3 : ¬ (k : Int) < ws.length := by have := HN.out; omega
      clear HD ha hb ga gb hk hlt
      go_wp2_with fail
      go_ret
      exact ⟨ret_bool N.out, rfl⟩
end Go.Proofs.Ytofgfiakccjimaa
