/- How often an id is named: what both sides count. -/
import Derived.Test.YtjaifbignombmaaOps3
import Derived.Test.YtjaifbignombmaaEq2
namespace Go.Proofs.Ytjaifbignombmaa
open Go.RowKit

def sumN {α : Type} (f : α → Nat) : List α → Nat
  | [] => 0
  | d :: r => f d + sumN f r
theorem sumN_append {α : Type} (f : α → Nat) (a b : List α) : sumN f (a ++ b) = sumN f a + sumN f b := by
  induction a with
  | nil => simp [sumN]
  | cons d r ih => simp [sumN, ih]; omega
theorem sumN_take {α : Type} (f : α → Nat) (z : α) (l : List α) (k : Nat) (h : k < l.length) : sumN f (l.take (k + 1)) = sumN f (l.take k) + f (l.getD k z) := by
  rw [List.take_succ_eq_append_getElem h, sumN_append]
  simp [sumN, List.getD, h]
theorem sumN_le {α : Type} (f : α → Nat) (m : Nat) (l : List α) (h : ∀ d ∈ l, f d ≤ m) : sumN f l ≤ l.length * m := by
  induction l with
  | nil => simp [sumN]
  | cons d r ih =>
    have h1 := ih fun x hx => h x (List.mem_cons_of_mem _ hx)
    have h2 := h d (List.mem_cons_self ..)
    simp only [sumN, List.length_cons, Nat.add_mul, Nat.one_mul]; omega
theorem sumN_take_le {α : Type} (f : α → Nat) (m n : Nat) (l : List α) (k : Nat) (h : ∀ d ∈ l, f d ≤ m) (hl : l.length ≤ n) : sumN f (l.take k) ≤ n * m := by
  have h1 := sumN_le f m (l.take k) fun d hd => h d (List.mem_of_mem_take hd)
  have h2 : (l.take k).length ≤ n := by simp; omega
  exact Nat.le_trans h1 (Nat.mul_le_mul_right m h2)
def bitN (x id : Int) : Nat := if x = id then 1 else 0
def cntI (id : Int) (l : List Int) : Nat := sumN (fun x => bitN x id) l
theorem cntI_le (id : Int) (l : List Int) : cntI id l ≤ l.length := by
  have h := sumN_le (fun x => bitN x id) 1 l (fun d _ => by simp only [bitN]; split <;> omega)
  unfold cntI; omega
def namesT (t : TermD) : List Int := if t.kind = 1 ∨ t.kind = 3 then [t.a] else []
def usB (id : Int) (d : BlockD) : Nat := sumN (fun p => cntI id p.ins) d.phis + sumN (fun i => cntI id (opsD i)) d.insts + cntI id (namesT d.term)
def usF (id : Int) (d : FuncD) : Nat := sumN (usB id) d.blocks
theorem cntT_le (id : Int) (t : TermD) : cntI id (namesT t) ≤ 1 := by
  have h := cntI_le id (namesT t)
  have : (namesT t).length ≤ 1 := by unfold namesT; split <;> simp
  omega
theorem usP_le {id : Int} {l : List PhiD} (k : Nat) (hl : l.length ≤ 1048576) (hs : ∀ d ∈ l, SmPhi d) : sumN (fun p => cntI id p.ins) (l.take k) ≤ 1099511627776 :=
  sumN_take_le _ 1048576 1048576 l k (fun d hd => Nat.le_trans (cntI_le id d.ins) (hs d hd)) hl
theorem usN_le {id : Int} {l : List InstD} (k : Nat) (hl : l.length ≤ 1048576) (hs : ∀ d ∈ l, SmInst d) : sumN (fun i => cntI id (opsD i)) (l.take k) ≤ 1099511627776 :=
  sumN_take_le _ 1048576 1048576 l k (fun d hd => Nat.le_trans (cntI_le id (opsD d)) (opsD_len d (hs d hd))) hl
theorem usB_le {id : Int} {d : BlockD} (hs : SmBlock d) : usB id d ≤ 2199023255553 := by
  have h1 := usP_le (id := id) d.phis.length hs.1.1 hs.1.2
  have h2 := usN_le (id := id) d.insts.length hs.2.1 hs.2.2
  rw [List.take_length] at h1 h2
  have h3 := cntT_le id d.term
  unfold usB; omega
theorem usL_le {id : Int} {l : List BlockD} (k : Nat) (hl : l.length ≤ 1048576) (hs : ∀ d ∈ l, SmBlock d) : sumN (usB id) (l.take k) ≤ 2305843009214742528 :=
  sumN_take_le _ 2199023255553 1048576 l k (fun d hd => usB_le (hs d hd)) hl

set_option maxHeartbeats 1000000 in
theorem bitS (b : Bool) (w : World) : Calls Try.prog 37 #[.bool b] w fun e w' => e = .returned (.int .i64 (if b then 1 else 0)) ∧ w' = w := by
  cases b
  · go_enter Try.func37, Try.ntmps37
    go_wp2_with fail
    go_ret
    exact ⟨rfl, rfl⟩
  · go_enter Try.func37, Try.ntmps37
    go_wp2_with fail
    go_ret
    exact ⟨rfl, rfl⟩
set_option maxHeartbeats 1000000 in
theorem timesI (lo : Nat) (a : Option Addr) (cap : Nat) (l : List Int) (id : Int) (w : World) (hl : l.length ≤ 1048576) (hv : IntsAt w lo a l) :
    Calls Try.prog 39 #[.slice a l.length cap, .int .i64 id] w fun e w' => e = .returned (.int .i64 (cntI id l)) ∧ w' = w := by
  go_enter Try.func39, Try.ntmps39
  go_wp2_with fail
  go_loop [5, 10] (fun n i => ∃ k : Nat, k ≤ l.length ∧ i = .int .i64 k ∧ n = .int .i64 (cntI id (l.take k))) (fun _ i => l.length - (intOf i).toNat)
  case atStart => exact ⟨0, by omega, rfl, by simp [cntI, sumN]⟩
  case round =>
    obtain ⟨k, hk, rfl, rfl⟩ := hrel
    have hc := cntI_le id (l.take k)
    rw [List.length_take] at hc
    have hc2 : cntI id (l.take k) ≤ 1048576 := by omega
    clear hc
    by_cases hlt : k < l.length
    · rcases hv.2 with rfl | ⟨b, off, rfl, hlo, hb, hcell⟩
      · simp at hlt
      have e0 := hcell k hlt
      have htk : cntI id (l.take (k + 1)) = cntI id (l.take k) + bitN (l.getD k 0) id := sumN_take _ 0 l k hlt
      generalize l.getD k 0 = x at e0 htk
      have HT : Hid (cntI id (l.take (k + 1)) = cntI id (l.take k) + bitN x id) := htk
      clear hcell htk hv
      by_cases hx : x = id
      · have HB : Hid (bitN x id = 1) := by show _ = _; rw [bitN, if_pos hx]
        have hxb : (x == id) = true := by simpa using hx
        have hxd : decide (x = id) = true := by simpa using hx
        go_wp2_with (fail)
        exact ⟨⟨k + 1, by omega, by go_num, congrArg (Value.int .i64) (by rw [HT.out, HB.out]; omega)⟩, by simp only [intOf]; omega⟩
      · have HB : Hid (bitN x id = 0) := by show _ = _; rw [bitN, if_neg hx]
        have hxb : (x == id) = false := by simpa using hx
        have hxd : decide (x = id) = false := by simpa using hx
        go_wp2_with (fail)
        exact ⟨⟨k + 1, by omega, by go_num, congrArg (Value.int .i64) (by rw [HT.out, HB.out]; omega)⟩, by simp only [intOf]; omega⟩
    · have hke : k = l.length := by omega
      go_wp2_with fail
      go_ret
      exact ⟨ret_i (by first | rfl | rw [hke, List.take_length]), rfl⟩
set_option maxHeartbeats 1000000 in
theorem countS (lo : Nat) (a : Option Addr) (cap : Nat) (l : List Int) (id : Int) (w : World) (hl : l.length ≤ 1048576) (hv : IntsAt w lo a l) :
    Calls Try.prog 36 #[.slice a l.length cap, .int .i64 id] w fun e w' => e = .returned (.int .i64 (cntI id l)) ∧ w' = w := by
  go_enter Try.func36, Try.ntmps36
  go_wp2_with fail
  go_loop [5, 6] (fun n i => ∃ k : Nat, k ≤ l.length ∧ i = .int .i64 k ∧ n = .int .i64 (cntI id (l.take k))) (fun _ i => l.length - (intOf i).toNat)
  case atStart => exact ⟨0, by omega, rfl, by simp [cntI, sumN]⟩
  case round =>
    obtain ⟨k, hk, rfl, rfl⟩ := hrel
    have hc := cntI_le id (l.take k)
    rw [List.length_take] at hc
    have hc2 : cntI id (l.take k) ≤ 1048576 := by omega
    clear hc
    by_cases hlt : k < l.length
    · rcases hv.2 with rfl | ⟨b, off, rfl, hlo, hb, hcell⟩
      · simp at hlt
      have e0 := hcell k hlt
      have htk : cntI id (l.take (k + 1)) = cntI id (l.take k) + bitN (l.getD k 0) id := sumN_take _ 0 l k hlt
      generalize l.getD k 0 = x at e0 htk
      have HT : Hid (cntI id (l.take (k + 1)) = cntI id (l.take k) + bitN x id) := htk
      clear hcell htk hv
      by_cases hx : x = id
      · have HB : Hid (bitN x id = 1) := by show _ = _; rw [bitN, if_pos hx]
        have hxb : (x == id) = true := by simpa using hx
        have hxd : decide (x = id) = true := by simpa using hx
        go_wp2_with (go_at_call 37; refine (bitS _ _).mono ?_; rintro e w' ⟨rfl, rfl⟩; simp only [if_true])
        exact ⟨⟨k + 1, by omega, by go_num, congrArg (Value.int .i64) (by rw [HT.out, HB.out]; omega)⟩, by simp only [intOf]; omega⟩
      · have HB : Hid (bitN x id = 0) := by show _ = _; rw [bitN, if_neg hx]
        have hxb : (x == id) = false := by simpa using hx
        have hxd : decide (x = id) = false := by simpa using hx
        go_wp2_with (go_at_call 37; refine (bitS _ _).mono ?_; rintro e w' ⟨rfl, rfl⟩; simp only [if_false, Bool.false_eq_true])
        exact ⟨⟨k + 1, by omega, by go_num, congrArg (Value.int .i64) (by rw [HT.out, HB.out]; omega)⟩, by simp only [intOf]; omega⟩
    · have hke : k = l.length := by omega
      go_wp2_with fail
      go_ret
      exact ⟨ret_i (by first | rfl | rw [hke, List.take_length]), rfl⟩
set_option maxHeartbeats 1000000 in
theorem termI (t : TermD) (w : World) : Calls Try.prog 40 #[.agg #[.int .i64 t.kind, .int .i64 t.a, .int .i64 t.x, .int .i64 t.y]] w fun e w' => ∃ v r, e = .returned (.slice v (namesT t).length r) ∧ OwnAt w' w.heap.size v (namesT t) ∧ Below w.heap.size w w' := by
  obtain ⟨kind, a, x, y⟩ := t
  dsimp only
  by_cases h1 : kind = 1
  · subst h1
    have E : namesT ⟨1, a, x, y⟩ = [a] := rfl
    rw [E]
    clear E
    go_enter Try.func40, Try.ntmps40
    go_wp2_with fail
    go_ret
    exact ⟨_, _, rfl, own_mk2 rfl (by simp) (one_cells a), ((Below.refl _ _).alloc (Nat.le_refl _) _).alloc (by simp) _⟩
  · by_cases h3 : kind = 3
    · subst h3
      have E : namesT ⟨3, a, x, y⟩ = [a] := rfl
      rw [E]
      clear E
      go_enter Try.func40, Try.ntmps40
      go_wp2_with fail
      go_ret
      exact ⟨_, _, rfl, own_mk2 rfl (by simp) (one_cells a), ((Below.refl _ _).alloc (Nat.le_refl _) _).alloc (by simp) _⟩
    · have E : namesT ⟨kind, a, x, y⟩ = [] := by simp [namesT, h1, h3]
      rw [E]
      clear E
      have g1 : (kind == 1) = false := by simpa using h1
      have g3 : (kind == 3) = false := by simpa using h3
      go_enter Try.func40, Try.ntmps40
      go_wp2_with fail
      go_ret
      exact ⟨_, _, rfl, ⟨by simp, .inl rfl⟩, (Below.refl _ _).alloc (Nat.le_refl _) _⟩
end Go.Proofs.Ytjaifbignombmaa
