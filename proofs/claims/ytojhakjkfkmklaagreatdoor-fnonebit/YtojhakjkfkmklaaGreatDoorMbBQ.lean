/- Modules as bytes: the model's l6Inst and l6Term. -/
import Derived.Test.YtojhakjkfkmklaaGreatDoorFmDQ
import Derived.Test.YtojhakjkfkmklaaGreatDoorSzQ
import Derived.Test.YtojhakjkfkmklaaGreatDoorFmBQ
import Derived.Deep.RegionHeld2
namespace Go.Proofs.YtojhakjkfkmklaaGreatDoor
open Go.RowKit
set_option linter.unusedVariables false

theorem emp_app (x : ByteArray) : (⟨#[]⟩ : ByteArray) ++ x = x := ByteArray.ext (by simp)
theorem vb_emp (l : List Int) (R : ByteArray) : R ++ vb ⟨#[]⟩ l = vb R l := vb_join0 R l
theorem instM_imm {d : InstD} (h : immM d.op = true) : vb ⟨#[]⟩ (instM d) = vof d.op ++ vof d.w ++ vof d.imm ++ vb ⟨#[]⟩ (listN (opsD d)) := by
  unfold instM
  rw [if_pos h, vb_append, vb_append, vb_one, vb_emp, vb_cons, vb_one, emp_app]
theorem instM_plain {d : InstD} (h : ¬ immM d.op = true) : vb ⟨#[]⟩ (instM d) = vof d.op ++ vof d.w ++ vb ⟨#[]⟩ (listN (opsD d)) := by
  unfold instM
  rw [if_neg h, List.append_nil, vb_append, vb_emp, vb_cons, vb_one, emp_app]
/-- Calls that give one text in every world above W. -/
theorem var_gives (a : Int) (W : World) (x : Abv (fun v => Below W.heap.size W v)) : Calls Tryz.prog 57 #[.int .i64 a] x.v fun e w'' => e = .returned (.string (vof a)) ∧ ∃ y : Abv (fun v => Below W.heap.size W v), w'' = y.v := abv_call x (varS a x.v)
theorem list_gives (lo : Nat) (a : Option Addr) (c : Nat) (l : List Int) (W : World) (hl : l.length ≤ 1048576) (hk : IntsAt W lo a l) (x : Abv (fun v => Below W.heap.size W v)) : Calls Tryz.prog 58 #[.slice a l.length c] x.v fun e w'' => e = .returned (.string (vb ⟨#[]⟩ (listN l))) ∧ ∃ y : Abv (fun v => Below W.heap.size W v), w'' = y.v := abv_call x (l6ListS lo a c l x.v hl (hk.keep (agree_of_below x.ok lo)))
/-- The end of an instruction's bytes. -/
theorem opsS_size {d : InstD} (hs : d.args.length ≤ 1048576) : (vb ⟨#[]⟩ (listN (opsD d))).size ≤ 5242890 := by
  have h1 := vb_size (listN (opsD d)) ⟨#[]⟩
  have h2 := opsD_len d hs
  have h3 : (⟨#[]⟩ : ByteArray).size = 0 := rfl
  have h4 : (listN (opsD d)).length = (opsD d).length + 1 := by simp [listN]
  omega
set_option maxHeartbeats 2000000 in
theorem l6InstS (lo : Nat) (d : InstD) (u : Option Addr) (q : Nat) (w : World) (hs : d.args.length ≤ 1048576) (hk : IntsAt w lo u d.args) :
    Calls Tryz.prog 59 #[.agg #[.int .i64 d.op, .int .i64 d.w, .int .i64 d.a, .int .i64 d.b, .int .i64 d.c, .int .i64 d.imm, .slice u d.args.length q]] w fun e w' => e = .returned (.string (vb ⟨#[]⟩ (instM d))) ∧ Below w.heap.size w w' := by
  have HE1 : Hid (immM d.op = true → vb ⟨#[]⟩ (instM d) = vof d.op ++ vof d.w ++ vof d.imm ++ vb ⟨#[]⟩ (listN (opsD d))) := instM_imm
  have HE2 : Hid (¬ immM d.op = true → vb ⟨#[]⟩ (instM d) = vof d.op ++ vof d.w ++ vb ⟨#[]⟩ (listN (opsD d))) := instM_plain
  have hL := opsS_size hs
  have OP : Hid (∀ v, Below w.heap.size w v → Calls Tryz.prog 94 #[.agg #[.int .i64 d.op, .int .i64 d.w, .int .i64 d.a, .int .i64 d.b, .int .i64 d.c, .int .i64 d.imm, .slice u d.args.length q]] v fun e w' => ∃ a r, e = .returned (.slice a (opsD d).length r) ∧ OwnAt w' v.heap.size a (opsD d) ∧ Below v.heap.size v w') := fun v hv => operS lo d u q v hs (hk.keep (agree_of_below hv lo))
  have LS : Hid (∀ (v : World) (n : Nat) (a : Option Addr) (r : Nat), OwnAt v n a (opsD d) → Calls Tryz.prog 58 #[.slice a (opsD d).length r] v fun e w' => e = .returned (.string (vb ⟨#[]⟩ (listN (opsD d)))) ∧ Below v.heap.size v w') := fun v n a r h => l6ListS n a r (opsD d) v (opsD_len d hs) h.ints
  generalize vb ⟨#[]⟩ (listN (opsD d)) = L at *
  generalize (opsD d).length = nL at *
  generalize opsD d = lD at *
  generalize vb ⟨#[]⟩ (instM d) = R at *
  have hb0 : Below w.heap.size w (w.alloc (.cells #[.int .i64 d.op, .int .i64 d.w, .int .i64 d.a, .int .i64 d.b, .int .i64 d.c, .int .i64 d.imm, .slice u d.args.length q] 91)) := (Below.refl _ _).alloc (Nat.le_refl _) _
  have hg : (w.alloc (.cells #[.int .i64 d.op, .int .i64 d.w, .int .i64 d.a, .int .i64 d.b, .int .i64 d.c, .int .i64 d.imm, .slice u d.args.length q] 91)).heap[w.heap.size]? = some (.cells #[.int .i64 d.op, .int .i64 d.w, .int .i64 d.a, .int .i64 d.b, .int .i64 d.c, .int .i64 d.imm, .slice u d.args.length q] 91 (0, 0)) := heap_alloc_last _ _
  go_enter Tryz.func59, Tryz.ntmps59
  go_wp2_with fail
  generalize w.alloc (.cells #[.int .i64 d.op, .int .i64 d.w, .int .i64 d.a, .int .i64 d.b, .int .i64 d.c, .int .i64 d.imm, .slice u d.args.length q] 91) = W at hb0 hg ⊢
  have l1 : w.heap.size < W.heap.size := (Array.getElem?_eq_some_iff.1 hg).1
  have V1 := fun xx => var_gives d.op W xx
  have V2 := fun xx => var_gives d.w W xx
  have q1 := vof_len d.op
  have q2 := vof_len d.w
  have q3 := vof_len d.imm
  generalize vof d.op = A1 at *
  generalize vof d.w = A2 at *
  have V3 : Hid (∀ v, Calls Tryz.prog 57 #[.int .i64 d.imm] v fun e w' => e = .returned (.string (vof d.imm)) ∧ Below v.heap.size v w') := fun v => varS d.imm v
  generalize vof d.imm = A3 at *
  have z1 : (A1 ++ A2).size ≤ 10 := by rw [ByteArray.size_append]; omega
  have z2 : (A1 ++ A2 ++ A3).size ≤ 15 := by rw [ByteArray.size_append]; omega
  have hne : Nonempty (Abv (fun v => Below W.heap.size W v)) := abv_ne (Below.refl _ _)
  have k0 := fun xx : Abv (fun v => Below W.heap.size W v) => (bcell xx.ok w.heap.size 0 l1).trans ((cell_of_heap hg).trans rfl)
  have k1 := fun xx : Abv (fun v => Below W.heap.size W v) => (bcell xx.ok w.heap.size 1 l1).trans ((cell_of_heap hg).trans rfl)
  refine wp_region_abv (fun v => Below W.heap.size W v) (by kernel_rfl) (by kernel_rfl) (drew_below (Below.refl _ _)) ?_
  repeat (go_big_quiet_step (first | (go_at_call 57; first | with_reducible exact V1 _ | with_reducible exact V2 _)))
  refine wpQuiet_nil ?_
  rintro w9 ⟨⟨w9, h9⟩, rfl⟩
  have HB9 : Hid (Below w.heap.size w w9) := hb0.trans (h9.mono hb0.size)
  have hg9 : w9.heap[w.heap.size]? = some (.cells #[.int .i64 d.op, .int .i64 d.w, .int .i64 d.a, .int .i64 d.b, .int .i64 d.c, .int .i64 d.imm, .slice u d.args.length q] 91 (0, 0)) := (h9.block _ l1).trans hg
  have l9 : w.heap.size < w9.heap.size := (Array.getElem?_eq_some_iff.1 hg9).1
  clear h9 hne k0 k1 V1 V2 hg hb0 l1
  obtain ⟨op, iw, ia, ib, ic, imm, args⟩ := d
  dsimp only at *
  have yes : immM op = true → (op = 21 ∨ op = 26) := fun h => by simpa [immM] using h
  by_cases hi : immM op = true
  · have HR : Hid (R = A1 ++ A2 ++ A3 ++ L) := HE1.out hi
    have hy := yes hi
    clear HE1 HE2 yes hi
    have y0 := (cell_of_heap (o := 0) hg9).trans rfl
    have y5 := (cell_of_heap (o := 5) hg9).trans rfl
    rcases hy with rfl | rfl
    all_goals
      go_wp2_with fail
      refine (V3.out w9).mono ?_
      rintro e w8 ⟨rfl, h8⟩
      have HB8 : Hid (Below w.heap.size w w8) := HB9.out.trans (h8.mono HB9.out.size)
      have hg8 := (h8.block _ l9).trans hg9
      clear y0 y5 h8
      have O8 := OP.out w8 HB8.out
      have y0 := (cell_of_heap (o := 0) hg8).trans rfl
      have y1 := (cell_of_heap (o := 1) hg8).trans rfl
      have y2 := (cell_of_heap (o := 2) hg8).trans rfl
      have y3 := (cell_of_heap (o := 3) hg8).trans rfl
      have y4 := (cell_of_heap (o := 4) hg8).trans rfl
      have y5 := (cell_of_heap (o := 5) hg8).trans rfl
      have y6 := (cell_of_heap (o := 6) hg8).trans rfl
      go_wp2_with fail
      refine O8.mono ?_
      rintro e w7 ⟨a7, r7, rfl, o7, h7⟩
      have HB7 : Hid (Below w.heap.size w w7) := HB8.out.trans (h7.mono HB8.out.size)
      have L7 := LS.out w7 _ a7 r7 o7
      clear y0 y1 y2 y3 y4 y5 y6 h7 O8 o7
      go_wp2_with fail
      refine L7.mono ?_
      rintro e w6 ⟨rfl, h6⟩
      have HB6 : Hid (Below w.heap.size w w6) := HB7.out.trans (h6.mono HB7.out.size)
      clear h6 L7
      go_wp2_with fail
      go_ret
      exact ⟨by rw [HR.out]; rfl, HB6.out⟩
  · have HR : Hid (R = A1 ++ A2 ++ L) := HE2.out hi
    have n1 : (op == 21) = false := by simpa using (fun e => hi (by rw [e]; rfl) : ¬ op = 21)
    have n2 : (op == 26) = false := by simpa using (fun e => hi (by rw [e]; rfl) : ¬ op = 26)
    clear HE1 HE2 yes hi
    have O8 := OP.out w9 HB9.out
    have y0 := (cell_of_heap (o := 0) hg9).trans rfl
    have y1 := (cell_of_heap (o := 1) hg9).trans rfl
    have y2 := (cell_of_heap (o := 2) hg9).trans rfl
    have y3 := (cell_of_heap (o := 3) hg9).trans rfl
    have y4 := (cell_of_heap (o := 4) hg9).trans rfl
    have y5 := (cell_of_heap (o := 5) hg9).trans rfl
    have y6 := (cell_of_heap (o := 6) hg9).trans rfl
    go_wp2_with fail
    refine O8.mono ?_
    rintro e w7 ⟨a7, r7, rfl, o7, h7⟩
    have HB7 : Hid (Below w.heap.size w w7) := HB9.out.trans (h7.mono HB9.out.size)
    have L7 := LS.out w7 _ a7 r7 o7
    clear y0 y1 y2 y3 y4 y5 y6 h7 O8 o7
    go_wp2_with fail
    refine L7.mono ?_
    rintro e w6 ⟨rfl, h6⟩
    have HB6 : Hid (Below w.heap.size w w6) := HB7.out.trans (h6.mono HB7.out.size)
    clear h6 L7
    go_wp2_with fail
    go_ret
    exact ⟨by rw [HR.out]; rfl, HB6.out⟩
theorem four_at {W : World} {g : Nat} {v0 v1 v2 v3 : Value} {T : TypeId} (h : W.heap[g]? = some (.cells #[v0, v1, v2, v3] T (0, 0))) : g < W.heap.size := (Array.getElem?_eq_some_iff.1 h).1
set_option maxHeartbeats 2000000 in
theorem l6TermS (d : TermD) (w : World) :
    Calls Tryz.prog 60 #[.agg #[.int .i64 d.kind, .int .i64 d.a, .int .i64 d.x, .int .i64 d.y]] w fun e w' => e = .returned (.string (vb ⟨#[]⟩ (termM d))) ∧ Below w.heap.size w w' := by
  have HE : Hid (vb ⟨#[]⟩ (termM d) = if d.kind = 1 then vof d.kind ++ vof d.a else if d.kind = 2 then vof d.kind ++ vof d.x else if d.kind = 3 then vof d.kind ++ vof d.a ++ vof d.x ++ vof d.y else vof d.kind) := by
    show _ = _
    unfold termM termNs
    split
    · rw [vb_cons, vb_one, emp_app]
    · split
      · rw [vb_cons, vb_one, emp_app]
      · split
        · rw [vb_cons, vb_cons, vb_cons, vb_one, emp_app]
        · rw [vb_one, emp_app]
  generalize vb ⟨#[]⟩ (termM d) = R at HE ⊢
  have hb0 : Below w.heap.size w (w.alloc (.cells #[.int .i64 d.kind, .int .i64 d.a, .int .i64 d.x, .int .i64 d.y] 84)) := (Below.refl _ _).alloc (Nat.le_refl _) _
  have hg : (w.alloc (.cells #[.int .i64 d.kind, .int .i64 d.a, .int .i64 d.x, .int .i64 d.y] 84)).heap[w.heap.size]? = some (.cells #[.int .i64 d.kind, .int .i64 d.a, .int .i64 d.x, .int .i64 d.y] 84 (0, 0)) := heap_alloc_last _ _
  have VA := fun W xx => var_gives d.kind W xx
  have V1 := fun W xx => var_gives d.a W xx
  have V2 := fun W xx => var_gives d.x W xx
  have V3 := fun W xx => var_gives d.y W xx
  have VK : Hid (∀ v, Calls Tryz.prog 57 #[.int .i64 d.kind] v fun e w' => e = .returned (.string (vof d.kind)) ∧ Below v.heap.size v w') := fun v => varS d.kind v
  have q0 := vof_len d.kind
  have q1 := vof_len d.a
  have q2 := vof_len d.x
  have q3 := vof_len d.y
  generalize vof d.kind = A0 at *
  generalize vof d.a = A1 at *
  generalize vof d.x = A2 at *
  generalize vof d.y = A3 at *
  have z1 : (A0 ++ A1).size ≤ 10 := by rw [ByteArray.size_append]; omega
  have z2 : (A0 ++ A2).size ≤ 10 := by rw [ByteArray.size_append]; omega
  have z3 : (A0 ++ A1 ++ A2).size ≤ 15 := by rw [ByteArray.size_append]; omega
  have z4 : (A0 ++ A1 ++ A2 ++ A3).size ≤ 20 := by rw [ByteArray.size_append]; omega
  obtain ⟨k, a, x, y⟩ := d
  dsimp only at *
  by_cases h1 : k = 1
  · subst h1
    have HR : Hid (R = A0 ++ A1) := by show _ = _; rw [HE.out]; simp
    clear HE
    go_enter Tryz.func60, Tryz.ntmps60
    go_wp2_with fail
    generalize w.alloc (.cells #[.int .i64 1, .int .i64 a, .int .i64 x, .int .i64 y] 84) = W at hb0 hg ⊢
    have l1 : w.heap.size < W.heap.size := four_at hg
    have hne : Nonempty (Abv (fun v => Below W.heap.size W v)) := abv_ne (Below.refl _ _)
    have k0 := fun xx : Abv (fun v => Below W.heap.size W v) => (bcell xx.ok w.heap.size 0 l1).trans ((cell_of_heap hg).trans rfl)
    have k1 := fun xx : Abv (fun v => Below W.heap.size W v) => (bcell xx.ok w.heap.size 1 l1).trans ((cell_of_heap hg).trans rfl)
    have U0 := fun xx => VA W xx
    have U1 := fun xx => V1 W xx
    have U2 := fun xx => V2 W xx
    have U3 := fun xx => V3 W xx
    refine wp_region_abv (fun v => Below W.heap.size W v) (by kernel_rfl) (by kernel_rfl) (drew_below (Below.refl _ _)) ?_
    repeat (go_big_quiet_step (first | (go_at_call 57; first | with_reducible exact U0 _ | with_reducible exact U1 _ | with_reducible exact U2 _ | with_reducible exact U3 _)))
    refine wpQuiet_nil ?_
    rintro w9 ⟨⟨w9, h9⟩, rfl⟩
    have HB9 : Hid (Below w.heap.size w w9) := hb0.trans (h9.mono hb0.size)
    clear h9 hne
    go_wp2_with fail
    go_ret
    exact ⟨by rw [HR.out]; rfl, HB9.out⟩
  by_cases h2 : k = 2
  · subst h2
    have HR : Hid (R = A0 ++ A2) := by show _ = _; rw [HE.out]; simp
    clear HE
    go_enter Tryz.func60, Tryz.ntmps60
    go_wp2_with fail
    generalize w.alloc (.cells #[.int .i64 2, .int .i64 a, .int .i64 x, .int .i64 y] 84) = W at hb0 hg ⊢
    have l1 : w.heap.size < W.heap.size := four_at hg
    have hne : Nonempty (Abv (fun v => Below W.heap.size W v)) := abv_ne (Below.refl _ _)
    have k0 := fun xx : Abv (fun v => Below W.heap.size W v) => (bcell xx.ok w.heap.size 0 l1).trans ((cell_of_heap hg).trans rfl)
    have k2 := fun xx : Abv (fun v => Below W.heap.size W v) => (bcell xx.ok w.heap.size 2 l1).trans ((cell_of_heap hg).trans rfl)
    have U0 := fun xx => VA W xx
    have U1 := fun xx => V1 W xx
    have U2 := fun xx => V2 W xx
    have U3 := fun xx => V3 W xx
    refine wp_region_abv (fun v => Below W.heap.size W v) (by kernel_rfl) (by kernel_rfl) (drew_below (Below.refl _ _)) ?_
    repeat (go_big_quiet_step (first | (go_at_call 57; first | with_reducible exact U0 _ | with_reducible exact U1 _ | with_reducible exact U2 _ | with_reducible exact U3 _)))
    refine wpQuiet_nil ?_
    rintro w9 ⟨⟨w9, h9⟩, rfl⟩
    have HB9 : Hid (Below w.heap.size w w9) := hb0.trans (h9.mono hb0.size)
    clear h9 hne
    go_wp2_with fail
    go_ret
    exact ⟨by rw [HR.out]; rfl, HB9.out⟩
  by_cases h3 : k = 3
  · subst h3
    have HR : Hid (R = A0 ++ A1 ++ A2 ++ A3) := by show _ = _; rw [HE.out]; simp
    clear HE
    go_enter Tryz.func60, Tryz.ntmps60
    go_wp2_with fail
    generalize w.alloc (.cells #[.int .i64 3, .int .i64 a, .int .i64 x, .int .i64 y] 84) = W at hb0 hg ⊢
    have l1 : w.heap.size < W.heap.size := four_at hg
    have hne : Nonempty (Abv (fun v => Below W.heap.size W v)) := abv_ne (Below.refl _ _)
    have k0 := fun xx : Abv (fun v => Below W.heap.size W v) => (bcell xx.ok w.heap.size 0 l1).trans ((cell_of_heap hg).trans rfl)
    have k1 := fun xx : Abv (fun v => Below W.heap.size W v) => (bcell xx.ok w.heap.size 1 l1).trans ((cell_of_heap hg).trans rfl)
    have k2 := fun xx : Abv (fun v => Below W.heap.size W v) => (bcell xx.ok w.heap.size 2 l1).trans ((cell_of_heap hg).trans rfl)
    have k3 := fun xx : Abv (fun v => Below W.heap.size W v) => (bcell xx.ok w.heap.size 3 l1).trans ((cell_of_heap hg).trans rfl)
    have U0 := fun xx => VA W xx
    have U1 := fun xx => V1 W xx
    have U2 := fun xx => V2 W xx
    have U3 := fun xx => V3 W xx
    refine wp_region_abv (fun v => Below W.heap.size W v) (by kernel_rfl) (by kernel_rfl) (drew_below (Below.refl _ _)) ?_
    repeat (go_big_quiet_step (first | (go_at_call 57; first | with_reducible exact U0 _ | with_reducible exact U1 _ | with_reducible exact U2 _ | with_reducible exact U3 _)))
    refine wpQuiet_nil ?_
    rintro w9 ⟨⟨w9, h9⟩, rfl⟩
    have HB9 : Hid (Below w.heap.size w w9) := hb0.trans (h9.mono hb0.size)
    clear h9 hne
    go_wp2_with fail
    go_ret
    exact ⟨by rw [HR.out]; rfl, HB9.out⟩
  have HR : Hid (R = A0) := by show _ = _; rw [HE.out, if_neg h1, if_neg h2, if_neg h3]
  clear HE
  go_enter Tryz.func60, Tryz.ntmps60
  go_wp2_with fail
  refine (VK.out _).mono ?_
  rintro e w9 ⟨rfl, h9⟩
  have HB9 : Hid (Below w.heap.size w w9) := hb0.trans (h9.mono hb0.size)
  clear h9
  go_wp2_with fail
  go_ret
  exact ⟨by rw [HR.out]; rfl, HB9.out⟩
end Go.Proofs.YtojhakjkfkmklaaGreatDoor
namespace Go.Proofs.YtojhakjkfkmklaaGreatDoor
open Go.RowKit
set_option linter.unusedVariables false

/-- The box that a function of functions begins with, as it stays. -/
structure FBox (d : FuncD) (u0 : Option Addr) (c0 : Nat) (u2 : Option Addr) (c2 : Nat) (w w1 : World) : Prop where
  a0 : w1.cell? ⟨w.heap.size, 0, none⟩ = some (.slice u0 d.params.length c0)
  a1 : w1.cell? ⟨w.heap.size, 1, none⟩ = some (.int .i64 d.ret)
  a2 : w1.cell? ⟨w.heap.size, 2, none⟩ = some (.slice u2 d.blocks.length c2)
  below : Below w.heap.size w w1
  size : w.heap.size + 1 ≤ w1.heap.size
theorem FBox.keep {d : FuncD} {u0 u2 : Option Addr} {c0 c2 : Nat} {w w1 w2 : World} (h : FBox d u0 c0 u2 c2 w w1) (k : Below w1.heap.size w1 w2) : FBox d u0 c0 u2 c2 w w2 := by
  have hz := h.size
  exact ⟨(cell_block (k.block _ (by omega))).trans h.a0, (cell_block (k.block _ (by omega))).trans h.a1, (cell_block (k.block _ (by omega))).trans h.a2, h.below.trans (k.mono (by omega)), Nat.le_trans hz k.size⟩
theorem FBox.start {d : FuncD} {u0 u2 : Option Addr} {c0 c2 : Nat} {w : World} {T : TypeId} : FBox d u0 c0 u2 c2 w (w.alloc (.cells #[.slice u0 d.params.length c0, .int .i64 d.ret, .slice u2 d.blocks.length c2] T)) := by
  have hb := heap_alloc_last w (.cells #[.slice u0 d.params.length c0, .int .i64 d.ret, .slice u2 d.blocks.length c2] T)
  exact ⟨(cell_of_heap hb).trans rfl, (cell_of_heap hb).trans rfl, (cell_of_heap hb).trans rfl, (Below.refl _ _).alloc (Nat.le_refl _) _, by simp⟩
theorem FBox.alloc {d : FuncD} {u0 u2 : Option Addr} {c0 c2 : Nat} {w w1 : World} (h : FBox d u0 c0 u2 c2 w w1) (o : Obj) : FBox d u0 c0 u2 c2 w (w1.alloc o) := h.keep ((Below.refl _ _).alloc (Nat.le_refl _) o)
theorem cell_far {w : World} {g o h p : Nat} {v : Value} {x : Option Value} (hn : h < g) (hx : w.cell? ⟨h, p, none⟩ = x) : (w.setCell ⟨g, o, none⟩ v).cell? ⟨h, p, none⟩ = x := (cell_block (Below.heap_setCell _ _ _ _ (by show h ≠ g; omega))).trans hx
theorem cell_new {w : World} {h p : Nat} {o : Obj} {x : Value} (hn : h < w.heap.size) (hx : w.cell? ⟨h, p, none⟩ = some x) : (w.alloc o).cell? ⟨h, p, none⟩ = some x := (cell_block (Below.heap_alloc w o h hn)).trans hx
theorem new_room {w w2 : World} {a b c : Int} {T : TypeId} (h : Below (w.drew.alloc (.cells #[.int .i64 a, .int .i64 b, .int .i64 c] T)).heap.size (w.drew.alloc (.cells #[.int .i64 a, .int .i64 b, .int .i64 c] T)) w2) :
    w2.heap[w.heap.size]? = some (.cells #[.int .i64 a, .int .i64 b, .int .i64 c] T (0, 0)) := by
  have h2 : (w.drew.alloc (.cells #[.int .i64 a, .int .i64 b, .int .i64 c] T)).heap.size = w.drew.heap.size + 1 := by simp
  have h3 : w.drew.heap.size = w.heap.size := rfl
  exact (h.block w.heap.size (by omega)).trans (heap_alloc_last w.drew _)
/-- A room that was made. -/
structure RBox (R : Nat) (a b c : Int) (w1 : World) : Prop where
  r0 : w1.cell? ⟨R, 0, none⟩ = some (.int .i64 a)
  r1 : w1.cell? ⟨R, 1, none⟩ = some (.int .i64 b)
  r2 : w1.cell? ⟨R, 2, none⟩ = some (.int .i64 c)
  lt : R < w1.heap.size
theorem RBox.keep {R : Nat} {a b c : Int} {w1 w2 : World} (h : RBox R a b c w1) (k : Below w1.heap.size w1 w2) : RBox R a b c w2 :=
  ⟨(cell_block (k.block _ h.lt)).trans h.r0, (cell_block (k.block _ h.lt)).trans h.r1, (cell_block (k.block _ h.lt)).trans h.r2, Nat.lt_of_lt_of_le h.lt k.size⟩
theorem RBox.of {R : Nat} {a b c : Int} {w1 : World} {T : TypeId} (h : w1.heap[R]? = some (.cells #[.int .i64 a, .int .i64 b, .int .i64 c] T (0, 0))) : RBox R a b c w1 :=
  ⟨(cell_of_heap h).trans rfl, (cell_of_heap h).trans rfl, (cell_of_heap h).trans rfl, (Array.getElem?_eq_some_iff.1 h).1⟩
set_option maxHeartbeats 4000000 in
set_option maxRecDepth 100000 in
theorem funcShI_ok (lo : Nat) (d : FuncD) (u0 : Option Addr) (c0 : Nat) (u2 : Option Addr) (c2 : Nat) (funcs : Int) (w : World) (hs : SmFunc d) (k0 : IntsAt w lo u0 d.params) (k2 : BlocksAt w lo u2 d.blocks) (hp : d.params.length ≤ 4) (ha : d.params.all widthB = true) (hr : widthB d.ret = true) (hb1 : 1 ≤ d.blocks.length) (hb2 : d.blocks.length ≤ 10) (hc : cntF d ≤ 60) :
    Calls Tryz.prog 41 #[.agg #[.slice u0 d.params.length c0, .int .i64 d.ret, .slice u2 d.blocks.length c2], .int .i64 funcs] w fun e w' => e = .returned (.bool (funcB funcs d)) ∧ Below w.heap.size w w' := by
  have HS : Hid (∀ p ∈ d.blocks, SmBlock p) := hs.2.2
  have HE : Hid (funcB funcs d = d.blocks.all (blockB (cntF d) d.blocks.length funcs)) := by show _ = _; simp [funcB, hp, ha, hr, hb1, hb2, hc]
  have K1 := (k0.keep (agree_alloc w (.cells #[.slice u0 d.params.length c0, .int .i64 d.ret, .slice u2 d.blocks.length c2] 49) _))
  have F0 := FBox.start (d := d) (u0 := u0) (u2 := u2) (c0 := c0) (c2 := c2) (w := w) (T := 49)
  have i1 : ¬ (4 : Int) < d.params.length := by omega
  have i2 : ¬ (d.blocks.length : Int) < 1 := by omega
  have i3 : ¬ (10 : Int) < d.blocks.length := by omega
  have i4 : ¬ (60 : Int) < cntF d := by omega
  have A := fun w k => allWidthsI lo u0 c0 d.params w k
  simp only [show (fun n => widthB n) = widthB from rfl] at A
  rw [ha] at A
  go_enter Tryz.func41, Tryz.ntmps41
  go_wp2_with (first | (go_at_call 77; refine (A _ K1).mono ?_; rintro e w' ⟨rfl, rfl⟩) | (go_at_call 78; refine (widthI _ _).mono ?_; rintro e w' ⟨rfl, rfl⟩))
  refine (countI_any lo d u0 c0 u2 c2 _ hs (k2.keep (agree_of_below F0.below lo))).mono ?_
  rintro e w1 ⟨rfl, hb1'⟩
  have F1 := F0.keep hb1'
  have b0 := F1.a0
  have b1 := F1.a1
  have b2 := F1.a2
  clear hb1' F0 A K1
  go_wp2_with fail
  have z0 : w.heap.size < w1.heap.size := by have := F1.size; omega
  have F1d := F1.keep (Below.refl w1.heap.size w1).drew
  have b0d := F1d.a0
  have b1d := F1d.a1
  have b2d := F1d.a2
  have F1n := F1d.alloc (.cells #[.int .i64 0, .int .i64 0, .int .i64 0] 110)
  have b0n := F1n.a0
  have b1n := F1n.a1
  have b2n := F1n.a2
  have KB := k2.keep (agree_of_below F1d.below lo)
  have KN := k2.keep (agree_of_below F1n.below lo)
  go_region_held2 (fun w' => w'.cell? ⟨w.heap.size, 0, none⟩ = some (.slice u0 d.params.length c0) ∧ w'.cell? ⟨w.heap.size, 1, none⟩ = some (.int .i64 d.ret) ∧ w'.cell? ⟨w.heap.size, 2, none⟩ = some (.slice u2 d.blocks.length c2)) (first | with_reducible exact ⟨b0d, b1d, b2d⟩ | with_reducible exact ⟨b0n, b1n, b2n⟩ | with_reducible exact ⟨e0, e1, e2⟩ | with_reducible exact ⟨cell_new z2 e0, cell_new z2 e1, cell_new z2 e2⟩ | with_reducible exact ⟨cell_far z0 (cell_far z0 (cell_far z0 e0)), cell_far z0 (cell_far z0 (cell_far z0 e1)), cell_far z0 (cell_far z0 (cell_far z0 e2))⟩ | go_keep) (first | (go_at_call 79; refine (countI_any lo d u0 c0 u2 c2 _ hs KN).mono ?_; rintro e w2 ⟨rfl, hb2'⟩; have F2 := F1n.keep hb2'; have e0 := F2.a0; have e1 := F2.a1; have e2 := F2.a2; have hr2 := new_room hb2'; have r0 := cell_of_heap (o := 0) hr2; have r1 := cell_of_heap (o := 1) hr2; have r2 := cell_of_heap (o := 2) hr2; have q0 := froz_of_heap (o := 0) hr2; have q1 := froz_of_heap (o := 1) hr2; have q2 := froz_of_heap (o := 2) hr2) | (go_at_call 79; refine (countI_any lo d u0 c0 u2 c2 _ hs KB).mono ?_; rintro e w2 ⟨rfl, hb2'⟩; have F2 := F1d.keep hb2'; have e0 := F2.a0; have e1 := F2.a1; have e2 := F2.a2; have z2 : w.heap.size < w2.heap.size := by have := F2.size; omega))
  · have RB : RBox w2.heap.size (cntF d) d.blocks.length funcs (w2.alloc (.cells #[.int .i64 (cntF d), .int .i64 d.blocks.length, .int .i64 funcs] 110)) := RBox.of (heap_alloc_last _ _)
    have FB := F2.alloc (.cells #[.int .i64 (cntF d), .int .i64 d.blocks.length, .int .i64 funcs] 110)
    clear e0 e1 e2 z2 hb2' F2
    clear b0 b1 b2 b0d b1d b2d b0n b1n b2n KB KN F1 F1d F1n z0
    have z0 := FB.a0
    have z1 := FB.a1
    have z2 := FB.a2
    go_wp2_with fail
    clear z0 z1 z2
    go_loopw [49] (fun i wr => ∃ j : Nat, j ≤ d.blocks.length ∧ i = .int .i64 j ∧ Hid (∀ k, k < j → blockB (cntF d) d.blocks.length funcs (d.blocks.getD k block0) = true) ∧ RBox w2.heap.size (cntF d) d.blocks.length funcs wr ∧ Below w.heap.size w wr) (fun i _ => d.blocks.length - (intOf i).toNat)
    case atStart => exact ⟨0, by omega, rfl, fun k hk => by omega, RB, FB.below⟩
    case round =>
      obtain ⟨j, hj, rfl, HD, hR, hW⟩ := hrel
      obtain ⟨wp, hwp⟩ : ∃ wp, wp = wr := ⟨_, rfl⟩
      subst hwp
      clear RB FB
      by_cases hjl : j < d.blocks.length
      · rcases k2.2 with hn | ⟨bb, off, rfl, hlo, hbb, hcell⟩
        · simp [hn] at hjl
        obtain ⟨⟨p0, q0, h0, m0⟩, ⟨p1, q1, h1, m1⟩, h2, h3, h4, h5⟩ := hcell j hjl
        have hsm := HS.out _ (getD_mem block0 d.blocks j hjl)
        generalize hx : d.blocks.getD j block0 = x at h0 h1 h2 h3 h4 h5 m0 m1 hsm
        have HX : Hid (d.blocks.getD j block0 = x) := hx
        have f0 : wp.cell? ⟨bb, off + j * 6, none⟩ = some (.slice p0 x.phis.length q0) := (cell_block (hW.block bb hbb)).trans h0
        have f1 : wp.cell? ⟨bb, off + j * 6 + 1, none⟩ = some (.slice p1 x.insts.length q1) := (cell_block (hW.block bb hbb)).trans h1
        have f2 : wp.cell? ⟨bb, off + j * 6 + 2, none⟩ = some (.int .i64 x.term.kind) := (cell_block (hW.block bb hbb)).trans h2
        have f3 : wp.cell? ⟨bb, off + j * 6 + 3, none⟩ = some (.int .i64 x.term.a) := (cell_block (hW.block bb hbb)).trans h3
        have f4 : wp.cell? ⟨bb, off + j * 6 + 4, none⟩ = some (.int .i64 x.term.x) := (cell_block (hW.block bb hbb)).trans h4
        have f5 : wp.cell? ⟨bb, off + j * 6 + 5, none⟩ = some (.int .i64 x.term.y) := (cell_block (hW.block bb hbb)).trans h5
        have M0 := (m0.keep (agree_of_below hW lo)).keep (agree_alloc wp (.cells #[.slice p0 x.phis.length q0, .slice p1 x.insts.length q1, .int .i64 x.term.kind, .int .i64 x.term.a, .int .i64 x.term.x, .int .i64 x.term.y] 86) _)
        have M1 := (m1.keep (agree_of_below hW lo)).keep (agree_alloc wp (.cells #[.slice p0 x.phis.length q0, .slice p1 x.insts.length q1, .int .i64 x.term.kind, .int .i64 x.term.a, .int .i64 x.term.x, .int .i64 x.term.y] 86) _)
        have RA := hR.keep ((Below.refl _ _).alloc (Nat.le_refl _) (.cells #[.slice p0 x.phis.length q0, .slice p1 x.insts.length q1, .int .i64 x.term.kind, .int .i64 x.term.a, .int .i64 x.term.x, .int .i64 x.term.y] 86))
        have WA : Below w.heap.size w (wp.alloc (.cells #[.slice p0 x.phis.length q0, .slice p1 x.insts.length q1, .int .i64 x.term.kind, .int .i64 x.term.a, .int .i64 x.term.x, .int .i64 x.term.y] 86)) := hW.alloc hW.size _
        have B : ∀ B, blockB (cntF d) d.blocks.length funcs x = B → Calls Tryz.prog 80 #[.agg #[.slice p0 x.phis.length q0, .slice p1 x.insts.length q1, .int .i64 x.term.kind, .int .i64 x.term.a, .int .i64 x.term.x, .int .i64 x.term.y], .agg #[.int .i64 (cntF d), .int .i64 d.blocks.length, .int .i64 funcs]] (wp.alloc (.cells #[.slice p0 x.phis.length q0, .slice p1 x.insts.length q1, .int .i64 x.term.kind, .int .i64 x.term.a, .int .i64 x.term.x, .int .i64 x.term.y] 86)) fun e w' => e = .returned (.bool B) ∧ Below (wp.alloc (.cells #[.slice p0 x.phis.length q0, .slice p1 x.insts.length q1, .int .i64 x.term.kind, .int .i64 x.term.a, .int .i64 x.term.x, .int .i64 x.term.y] 86)).heap.size (wp.alloc (.cells #[.slice p0 x.phis.length q0, .slice p1 x.insts.length q1, .int .i64 x.term.kind, .int .i64 x.term.a, .int .i64 x.term.x, .int .i64 x.term.y] 86)) w' := fun B h => by
          rw [← h]; exact blockShI lo x p0 q0 p1 q1 (cntF d) d.blocks.length funcs _ hsm M0 M1
        have NO : Hid (blockB (cntF d) d.blocks.length funcs x = false → false = funcB funcs d) := fun h => by
          rw [HE.out]; exact (all_no block0 d.blocks j hjl (by rw [HX.out, h]; decide)).symm
        have YES : Hid (blockB (cntF d) d.blocks.length funcs x = true → ∀ k, k < j + 1 → blockB (cntF d) d.blocks.length funcs (d.blocks.getD k block0) = true) := fun h k hk => by
          by_cases e : k = j
          · subst e; rw [HX.out]; exact h
          · exact HD.out k (by omega)
        have t0 := RA.r0
        have t1 := RA.r1
        have t2 := RA.r2
        have HRA : Hid (RBox w2.heap.size (cntF d) d.blocks.length funcs (wp.alloc (.cells #[.slice p0 x.phis.length q0, .slice p1 x.insts.length q1, .int .i64 x.term.kind, .int .i64 x.term.a, .int .i64 x.term.x, .int .i64 x.term.y] 86))) := RA
        have HWA : Hid (Below w.heap.size w (wp.alloc (.cells #[.slice p0 x.phis.length q0, .slice p1 x.insts.length q1, .int .i64 x.term.kind, .int .i64 x.term.a, .int .i64 x.term.x, .int .i64 x.term.y] 86))) := WA
        clear hcell h0 h1 h2 h3 h4 h5 m0 m1 hsm hx hR hW M0 M1 RA WA HD
        cases hb : blockB (cntF d) d.blocks.length funcs x with
        | false =>
          have HF : Hid (false = funcB funcs d) := NO.out hb
          have BB := B _ hb
          clear B
          go_wp2_with (go_at_call 80; refine BB.mono ?_; rintro e w3 ⟨rfl, hb3⟩)
          go_ret
          exact ⟨ret_bool HF.out, HWA.out.trans (hb3.mono HWA.out.size)⟩
        | true =>
          have HF : Hid (blockB (cntF d) d.blocks.length funcs x = true) := hb
          have BB := B _ hb
          clear B
          go_wp2_with (go_at_call 80; refine BB.mono ?_; rintro e w3 ⟨rfl, hb3⟩)
          go_roundw
          case rel => exact ⟨j + 1, by omega, by go_num, YES.out HF.out, HRA.out.keep hb3, HWA.out.trans (hb3.mono HWA.out.size)⟩
          case measure => simp [intOf]; omega
      · have HF : Hid (true = funcB funcs d) := by
          show _ = _
          rw [HE.out]; exact (all_yes block0 d.blocks (fun k hk => HD.out k (by omega))).symm
        go_wp2_with fail
        go_ret
        exact ⟨ret_bool HF.out, hW⟩
  · have RB : RBox w1.heap.size (cntF d) d.blocks.length funcs (((w2.setCell ⟨w1.heap.size, 0, none⟩ (.int .i64 (cntF d))).setCell ⟨w1.heap.size, 1, none⟩ (.int .i64 d.blocks.length)).setCell ⟨w1.heap.size, 2, none⟩ (.int .i64 funcs)) := RBox.of (heap_set (heap_set (heap_set hr2)))
    have FB : FBox d u0 c0 u2 c2 w (((w2.setCell ⟨w1.heap.size, 0, none⟩ (.int .i64 (cntF d))).setCell ⟨w1.heap.size, 1, none⟩ (.int .i64 d.blocks.length)).setCell ⟨w1.heap.size, 2, none⟩ (.int .i64 funcs)) :=
      ⟨cell_far z0 (cell_far z0 (cell_far z0 e0)), cell_far z0 (cell_far z0 (cell_far z0 e1)), cell_far z0 (cell_far z0 (cell_far z0 e2)), ((F2.below.setCell (by dsimp only; omega) _).setCell (by dsimp only; omega) _).setCell (by dsimp only; omega) _, by have := F2.size; simp [World.setCell]; omega⟩
    generalize ((w2.setCell ⟨w1.heap.size, 0, none⟩ (.int .i64 (cntF d))).setCell ⟨w1.heap.size, 1, none⟩ (.int .i64 d.blocks.length)).setCell ⟨w1.heap.size, 2, none⟩ (.int .i64 funcs) = wz at RB FB ⊢
    clear e0 e1 e2 hb2' F2 hr2 r0 r1 r2 q0 q1 q2
    clear b0 b1 b2 b0d b1d b2d b0n b1n b2n KB KN F1 F1d F1n z0
    have z0 := FB.a0
    have z1 := FB.a1
    have z2 := FB.a2
    go_wp2_with fail
    clear z0 z1 z2
    go_loopw [49] (fun i wr => ∃ j : Nat, j ≤ d.blocks.length ∧ i = .int .i64 j ∧ Hid (∀ k, k < j → blockB (cntF d) d.blocks.length funcs (d.blocks.getD k block0) = true) ∧ RBox w1.heap.size (cntF d) d.blocks.length funcs wr ∧ Below w.heap.size w wr) (fun i _ => d.blocks.length - (intOf i).toNat)
    case atStart => exact ⟨0, by omega, rfl, fun k hk => by omega, RB, FB.below⟩
    case round =>
      obtain ⟨j, hj, rfl, HD, hR, hW⟩ := hrel
      obtain ⟨wp, hwp⟩ : ∃ wp, wp = wr := ⟨_, rfl⟩
      subst hwp
      clear RB FB
      by_cases hjl : j < d.blocks.length
      · rcases k2.2 with hn | ⟨bb, off, rfl, hlo, hbb, hcell⟩
        · simp [hn] at hjl
        obtain ⟨⟨p0, q0, h0, m0⟩, ⟨p1, q1, h1, m1⟩, h2, h3, h4, h5⟩ := hcell j hjl
        have hsm := HS.out _ (getD_mem block0 d.blocks j hjl)
        generalize hx : d.blocks.getD j block0 = x at h0 h1 h2 h3 h4 h5 m0 m1 hsm
        have HX : Hid (d.blocks.getD j block0 = x) := hx
        have f0 : wp.cell? ⟨bb, off + j * 6, none⟩ = some (.slice p0 x.phis.length q0) := (cell_block (hW.block bb hbb)).trans h0
        have f1 : wp.cell? ⟨bb, off + j * 6 + 1, none⟩ = some (.slice p1 x.insts.length q1) := (cell_block (hW.block bb hbb)).trans h1
        have f2 : wp.cell? ⟨bb, off + j * 6 + 2, none⟩ = some (.int .i64 x.term.kind) := (cell_block (hW.block bb hbb)).trans h2
        have f3 : wp.cell? ⟨bb, off + j * 6 + 3, none⟩ = some (.int .i64 x.term.a) := (cell_block (hW.block bb hbb)).trans h3
        have f4 : wp.cell? ⟨bb, off + j * 6 + 4, none⟩ = some (.int .i64 x.term.x) := (cell_block (hW.block bb hbb)).trans h4
        have f5 : wp.cell? ⟨bb, off + j * 6 + 5, none⟩ = some (.int .i64 x.term.y) := (cell_block (hW.block bb hbb)).trans h5
        have M0 := (m0.keep (agree_of_below hW lo)).keep (agree_alloc wp (.cells #[.slice p0 x.phis.length q0, .slice p1 x.insts.length q1, .int .i64 x.term.kind, .int .i64 x.term.a, .int .i64 x.term.x, .int .i64 x.term.y] 86) _)
        have M1 := (m1.keep (agree_of_below hW lo)).keep (agree_alloc wp (.cells #[.slice p0 x.phis.length q0, .slice p1 x.insts.length q1, .int .i64 x.term.kind, .int .i64 x.term.a, .int .i64 x.term.x, .int .i64 x.term.y] 86) _)
        have RA := hR.keep ((Below.refl _ _).alloc (Nat.le_refl _) (.cells #[.slice p0 x.phis.length q0, .slice p1 x.insts.length q1, .int .i64 x.term.kind, .int .i64 x.term.a, .int .i64 x.term.x, .int .i64 x.term.y] 86))
        have WA : Below w.heap.size w (wp.alloc (.cells #[.slice p0 x.phis.length q0, .slice p1 x.insts.length q1, .int .i64 x.term.kind, .int .i64 x.term.a, .int .i64 x.term.x, .int .i64 x.term.y] 86)) := hW.alloc hW.size _
        have B : ∀ B, blockB (cntF d) d.blocks.length funcs x = B → Calls Tryz.prog 80 #[.agg #[.slice p0 x.phis.length q0, .slice p1 x.insts.length q1, .int .i64 x.term.kind, .int .i64 x.term.a, .int .i64 x.term.x, .int .i64 x.term.y], .agg #[.int .i64 (cntF d), .int .i64 d.blocks.length, .int .i64 funcs]] (wp.alloc (.cells #[.slice p0 x.phis.length q0, .slice p1 x.insts.length q1, .int .i64 x.term.kind, .int .i64 x.term.a, .int .i64 x.term.x, .int .i64 x.term.y] 86)) fun e w' => e = .returned (.bool B) ∧ Below (wp.alloc (.cells #[.slice p0 x.phis.length q0, .slice p1 x.insts.length q1, .int .i64 x.term.kind, .int .i64 x.term.a, .int .i64 x.term.x, .int .i64 x.term.y] 86)).heap.size (wp.alloc (.cells #[.slice p0 x.phis.length q0, .slice p1 x.insts.length q1, .int .i64 x.term.kind, .int .i64 x.term.a, .int .i64 x.term.x, .int .i64 x.term.y] 86)) w' := fun B h => by
          rw [← h]; exact blockShI lo x p0 q0 p1 q1 (cntF d) d.blocks.length funcs _ hsm M0 M1
        have NO : Hid (blockB (cntF d) d.blocks.length funcs x = false → false = funcB funcs d) := fun h => by
          rw [HE.out]; exact (all_no block0 d.blocks j hjl (by rw [HX.out, h]; decide)).symm
        have YES : Hid (blockB (cntF d) d.blocks.length funcs x = true → ∀ k, k < j + 1 → blockB (cntF d) d.blocks.length funcs (d.blocks.getD k block0) = true) := fun h k hk => by
          by_cases e : k = j
          · subst e; rw [HX.out]; exact h
          · exact HD.out k (by omega)
        have t0 := RA.r0
        have t1 := RA.r1
        have t2 := RA.r2
        have HRA : Hid (RBox w1.heap.size (cntF d) d.blocks.length funcs (wp.alloc (.cells #[.slice p0 x.phis.length q0, .slice p1 x.insts.length q1, .int .i64 x.term.kind, .int .i64 x.term.a, .int .i64 x.term.x, .int .i64 x.term.y] 86))) := RA
        have HWA : Hid (Below w.heap.size w (wp.alloc (.cells #[.slice p0 x.phis.length q0, .slice p1 x.insts.length q1, .int .i64 x.term.kind, .int .i64 x.term.a, .int .i64 x.term.x, .int .i64 x.term.y] 86))) := WA
        clear hcell h0 h1 h2 h3 h4 h5 m0 m1 hsm hx hR hW M0 M1 RA WA HD
        cases hb : blockB (cntF d) d.blocks.length funcs x with
        | false =>
          have HF : Hid (false = funcB funcs d) := NO.out hb
          have BB := B _ hb
          clear B
          go_wp2_with (go_at_call 80; refine BB.mono ?_; rintro e w3 ⟨rfl, hb3⟩)
          go_ret
          exact ⟨ret_bool HF.out, HWA.out.trans (hb3.mono HWA.out.size)⟩
        | true =>
          have HF : Hid (blockB (cntF d) d.blocks.length funcs x = true) := hb
          have BB := B _ hb
          clear B
          go_wp2_with (go_at_call 80; refine BB.mono ?_; rintro e w3 ⟨rfl, hb3⟩)
          go_roundw
          case rel => exact ⟨j + 1, by omega, by go_num, YES.out HF.out, HRA.out.keep hb3, HWA.out.trans (hb3.mono HWA.out.size)⟩
          case measure => simp [intOf]; omega
      · have HF : Hid (true = funcB funcs d) := by
          show _ = _
          rw [HE.out]; exact (all_yes block0 d.blocks (fun k hk => HD.out k (by omega))).symm
        go_wp2_with fail
        go_ret
        exact ⟨ret_bool HF.out, hW⟩
end Go.Proofs.YtojhakjkfkmklaaGreatDoor
namespace Go.Proofs.YtojhakjkfkmklaaGreatDoor
open Go.RowKit


def SmMod (l : List FuncD) : Prop := l.length ≤ 1048576 ∧ ∀ d ∈ l, SmFunc d
theorem szMod_small {l : List FuncD} {x : Int} (hx : x ≤ 1048576) (h : 0 ≤ szS szFunc l x) : SmMod l := by
  obtain ⟨b1, b2⟩ := szS_each szFunc_falls h
  refine ⟨by omega, fun p hp => ?_⟩
  obtain ⟨y, _, y1, y2⟩ := b2 p hp
  exact szFunc_small (by omega) y2
end Go.Proofs.YtojhakjkfkmklaaGreatDoor
