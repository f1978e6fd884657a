/- What is seen of a run: the program's side. -/
import Derived.Test.YtgdehnmhiiodoaaSen4
namespace Go.Proofs.Ytgdehnmhiiodoaa
open Go.RowKit

theorem ints_src {w : World} {lo : Nat} {u : Option Addr} {l : List Int} (h : IntsAt w lo u l) (hp : 0 < l.length) : ∃ ad, u = some ad ∧ ∀ j x, (l.map (Value.int .i64))[j]? = some x → w.cell? (ad.add j) = some x := by
  rcases h.2 with h | ⟨b, off, ha, _, hb, hc⟩
  · subst h; simp at hp
  · refine ⟨_, ha, fun j x hj => ?_⟩
    have hjl : j < l.length := by
      have := (List.getElem?_eq_some_iff.1 hj).1
      simpa using this
    have hat : (⟨b, off, none⟩ : Addr).add j = ⟨b, off + j, none⟩ := by unfold Addr.add; split <;> simp_all
    rw [hat, hc j hjl]
    simp [hjl] at hj
    rw [← hj]; simp [List.getD, hjl]
theorem oi_row {w : World} {base g cap : Nat} {l : List Int} (hm : l.length ≤ 1048576) (h : w.ownsRow base 2 1 (.slice (some ⟨g, 0, none⟩) (0 + l.length) cap) (0 + l.length) ([] ++ l.map (Value.int .i64))) : OI w base (some ⟨g, 0, none⟩) l := by
  rw [Nat.zero_add, List.nil_append] at h
  obtain ⟨u, c, e, ho⟩ := row_own hm h
  cases e
  exact ho
theorem grown_drew {w w' : World} (h : w.drew.grownBy w' (Value.slice none 0 0).ownBlock) : Below w.heap.size w w' := ⟨h.os, h.tape, h.output, h.size, fun k hk => h.block k hk (by simp [Value.ownBlock])⟩
set_option maxHeartbeats 400000 in
theorem seenI_some (lo : Nat) (d : ResD) (u : Option Addr) (c : Nat) (w : World) (hs : d.out.length ≤ 1048576) (hm : d.mem.size ≤ 1048576) (hpos : 0 < d.out.length) (k : IntsAt w lo u d.out) :
    Calls Try.prog 7 #[resV d u c] w fun e w' => ∃ v q, e = .returned (resV (seenD d) v q) ∧ OI w' w.heap.size v d.out ∧ Below w.heap.size w w' := by
  obtain ⟨i0, hi, hz0, hz1, hz2⟩ := info_parts infoI
  have HI : Hid (Try.prog.info? 2 = some i0) := hi
  have HZ0 : Hid (i0.zero = some (.int .i64 0)) := hz0
  have HZ1 : Hid (i0.size = 1) := hz1
  have HZ2 : Hid (i0.bytes = 8) := hz2
  clear hi hz0 hz1 hz2
  have K := ints_boxes (c := c) k
  obtain ⟨ad, rfl, hn⟩ := ints_src K hpos
  have HN : Hid (∀ j x, (d.out.map (Value.int .i64))[j]? = some x → (boxes0 d (some ad) c w).cell? (ad.add j) = some x) := hn
  clear hn
  have HX := boxes_at d (some ad) c w
  unfold resV seenD
  go_enter Try.func7, Try.ntmps7
  go_wp2_with fail
  change Code.wp _ _ _ _ (boxes0 d (some ad) c w)
  generalize boxes0 d (some ad) c w = W at K HX HN ⊢
  clear k
  have a0 := (HX.keep (Below.refl _ _).drew).a0
  have a1 := (HX.keep (Below.refl _ _).drew).a1
  have a2 := (HX.keep (Below.refl _ _).drew).a2
  have a3 := (HX.keep (Below.refl _ _).drew).a3
  go_region_held2 (fun w' => w'.cell? ⟨w.heap.size, 0, none⟩ = some (.int .i64 d.code) ∧ w'.cell? ⟨w.heap.size, 1, none⟩ = some (.int .i64 d.value) ∧ w'.cell? ⟨w.heap.size, 2, none⟩ = some (  .slice (some ad) d.out.length c) ∧ w'.cell? ⟨w.heap.size, 3, none⟩ = some (.string d.mem)) (first | with_reducible exact ⟨a0, a1, a2, a3⟩ | with_reducible exact ⟨c0, c1, c2, c3⟩ | with_reducible exact ⟨cell_far (Nat.lt_succ_self _) (cell_far (Nat.lt_succ_self _) (cell_far (Nat.lt_succ_self _) (cell_far (Nat.lt_succ_self _) (cell_far (Nat.lt_succ_self _) c0)))), cell_far (Nat.lt_succ_self _) (cell_far (Nat.lt_succ_self _) (cell_far (Nat.lt_succ_self _) (cell_far (Nat.lt_succ_self _) (cell_far (Nat.lt_succ_self _) c1)))), cell_far (Nat.lt_succ_self _) (cell_far (Nat.lt_succ_self _) (cell_far (Nat.lt_succ_self _) (cell_far (Nat.lt_succ_self _) (cell_far (Nat.lt_succ_self _) c2)))), cell_far (Nat.lt_succ_self _) (cell_far (Nat.lt_succ_self _) (cell_far (Nat.lt_succ_self _) (cell_far (Nat.lt_succ_self _) (cell_far (Nat.lt_succ_self _) c3))))⟩) (first | (refine step_append_lies _ rfl _ _ 22 rfl (w.heap.size + 2) 2 i0 (.int .i64 0) 1 8 Try.underlying22 HI.out HZ0.out HZ1.out HZ2.out rfl (by decide) (.slice none 0 0) 0 [] rfl ⟨rfl, .inl ⟨rfl, rfl⟩⟩ ad d.out.length c (d.out.map (Value.int .i64)) rfl (by simp) (by exact HN.out) (by simp [Value.oneCell']) hpos (by unfold maxLen; omega) (by omega) (by exact HX.size) _ rfl ?_; intro g cap w1 hown hgrow hat hlt; have ho := oi_row hs hown; have hx := HX.keep (grown_drew hgrow); have c0 := hx.a0; have c1 := hx.a1; have c2 := hx.a2; have c3 := hx.a3; simp only [Nat.zero_add]; clear hown hgrow hat hlt) | (go_at_call 14; refine (cloneS _ _ hm).mono ?_; rintro e w2 ⟨rfl, hb2⟩; have hx2 := hx.keep hb2; have ho2 := ho.keep (agree_of_below hb2 _); clear c0 c1 c2 c3; have c0 := hx2.a0; have c1 := hx2.a1; have c2 := hx2.a2; have c3 := hx2.a3; obtain ⟨⟨m0, f0⟩, ⟨m1, f1⟩, ⟨m2, f2⟩, ⟨m3, f3⟩, m4, f4⟩ := hx2.told; clear hb2))
  all_goals
    obtain ⟨hr, ho3, hB⟩ := seen_ends (q := cap) hx2 ho2
    clear m0 f0 m1 f1 m2 f2 m3 f3 m4 f4
    go_wp2_with fail
    exact bodyPost_ret (v := .agg #[.int .i64 d.code, .int .i64 d.value, .slice (some ⟨g, 0, none⟩) d.out.length cap, .string d.mem, .int .i64 0]) ((results_cell_row Try.results7 _ _ (w.heap.size + 1) 26 _ (0, 0) _ rfl hr Try.underlying26 rfl (by kernel_rfl)).trans (by rfl)) rfl ⟨_, cap, rfl, ho3, hB⟩
end Go.Proofs.Ytgdehnmhiiodoaa
