import Derived.Test.YtojhakjkfkmklaaGreatDoorFmGV
import Derived.Test.YtojhakjkfkmklaaGreatDoorOpsV
import Derived.Test.YtojhakjkfkmklaaGreatDoorFmCV
namespace Go.Proofs.YtojhakjkfkmklaaGreatDoor
open Go.RowKit
set_option linter.unusedVariables false
theorem emp_app (x : ByteArray) : (⟨#[]⟩ : ByteArray) ++ x = x := ByteArray.ext (by simp)
theorem vb_emp (l : List Int) (R : ByteArray) : R ++ vb ⟨#[]⟩ l = vb R l := vb_join0 R l
theorem instM_imm {d : InstD} (h : immM d.op = true) : vb ⟨#[]⟩ (instM d) = vof d.op ++ vof d.w ++ vof d.imm ++ vb ⟨#[]⟩ (listN (opsD d)) := by
 unfold instM
 rw [if_pos h, vb_append, vb_append, vb_one, vb_emp, vb_cons, vb_one, emp_app]
theorem instM_plain {d : InstD} (h : ¬ immM d.op = true) : vb ⟨#[]⟩ (instM d) = vof d.op ++ vof d.w ++ vb ⟨#[]⟩ (listN (opsD d)) := by
 unfold instM
 rw [if_neg h, List.append_nil, vb_append, vb_emp, vb_cons, vb_one, emp_app]
theorem var_gives (a : Int) (W : World) (x : Abv (fun v => Below W.heap.size W v)) : Calls Tryz.prog 57 #[.int .i64 a] x.v fun e w'' => e = .returned (.string (vof a)) ∧ ∃ y : Abv (fun v => Below W.heap.size W v), w'' = y.v := abv_call x (varS a x.v)
theorem list_gives (lo : Nat) (a : Option Addr) (c : Nat) (l : List Int) (W : World) (hl : l.length ≤ 1048576) (hk : IntsAt W lo a l) (x : Abv (fun v => Below W.heap.size W v)) : Calls Tryz.prog 58 #[.slice a l.length c] x.v fun e w'' => e = .returned (.string (vb ⟨#[]⟩ (listN l))) ∧ ∃ y : Abv (fun v => Below W.heap.size W v), w'' = y.v := abv_call x (l6ListS lo a c l x.v hl (hk.keep (agree_of_below x.ok lo)))
theorem opsS_size {d : InstD} (hs : d.args.length ≤ 1048576) : (vb ⟨#[]⟩ (listN (opsD d))).size ≤ 5242890 := by
 have h1 := vb_size (listN (opsD d)) ⟨#[]⟩
 have h2 := opsD_len d hs
 have h3 : (⟨#[]⟩ : ByteArray).size = 0 := rfl
 have h4 : (listN (opsD d)).length = (opsD d).length + 1 := by simp [listN]
 omega
set_option maxHeartbeats 2000000 in
theorem l6InstS (lo : Nat) (d : InstD) (u : Option Addr) (q : Nat) (w : World) (hs : d.args.length ≤ 1048576) (hk : IntsAt w lo u d.args) :
  Calls Tryz.prog 59 #[.agg #[.int .i64 d.op, .int .i64 d.w, .int .i64 d.a, .int .i64 d.b, .int .i64 d.c, .int .i64 d.imm, .slice u d.args.length q]] w fun e w' => e = .returned (.string (vb ⟨#[]⟩ (instM d))) ∧ Below w.heap.size w w' := by
 have HE1 : Hid (immM d.op = true → vb ⟨#[]⟩ (instM d) = vof d.op ++ vof d.w ++ vof d.imm ++ vb ⟨#[]⟩ (listN (opsD d))) := instM_imm
 have HE2 : Hid (¬ immM d.op = true → vb ⟨#[]⟩ (instM d) = vof d.op ++ vof d.w ++ vb ⟨#[]⟩ (listN (opsD d))) := instM_plain
 have hL := opsS_size hs
 have OP : Hid (∀ v, Below w.heap.size w v → Calls Tryz.prog 94 #[.agg #[.int .i64 d.op, .int .i64 d.w, .int .i64 d.a, .int .i64 d.b, .int .i64 d.c, .int .i64 d.imm, .slice u d.args.length q]] v fun e w' => ∃ a r, e = .returned (.slice a (opsD d).length r) ∧ OwnAt w' v.heap.size a (opsD d) ∧ Below v.heap.size v w') := fun v hv => operS lo d u q v hs (hk.keep (agree_of_below hv lo))
 have LS : Hid (∀ (v : World) (n : Nat) (a : Option Addr) (r : Nat), OwnAt v n a (opsD d) → Calls Tryz.prog 58 #[.slice a (opsD d).length r] v fun e w' => e = .returned (.string (vb ⟨#[]⟩ (listN (opsD d)))) ∧ Below v.heap.size v w') := fun v n a r h => l6ListS n a r (opsD d) v (opsD_len d hs) h.ints
 generalize vb ⟨#[]⟩ (listN (opsD d)) = L at *
 generalize (opsD d).length = nL at *
 generalize opsD d = lD at *
 generalize vb ⟨#[]⟩ (instM d) = R at *
 have hb0 : Below w.heap.size w (w.alloc (.cells #[.int .i64 d.op, .int .i64 d.w, .int .i64 d.a, .int .i64 d.b, .int .i64 d.c, .int .i64 d.imm, .slice u d.args.length q] 91)) := (Below.refl _ _).alloc (Nat.le_refl _) _
 have hg : (w.alloc (.cells #[.int .i64 d.op, .int .i64 d.w, .int .i64 d.a, .int .i64 d.b, .int .i64 d.c, .int .i64 d.imm, .slice u d.args.length q] 91)).heap[w.heap.size]? = some (.cells #[.int .i64 d.op, .int .i64 d.w, .int .i64 d.a, .int .i64 d.b, .int .i64 d.c, .int .i64 d.imm, .slice u d.args.length q] 91 (0, 0)) := heap_alloc_last _ _
 go_enter Tryz.func59, Tryz.ntmps59
 go_wp2_with fail
 generalize w.alloc (.cells #[.int .i64 d.op, .int .i64 d.w, .int .i64 d.a, .int .i64 d.b, .int .i64 d.c, .int .i64 d.imm, .slice u d.args.length q] 91) = W at hb0 hg ⊢
 have l1 : w.heap.size < W.heap.size := (Array.getElem?_eq_some_iff.1 hg).1
 have V1 := fun xx => var_gives d.op W xx
 have V2 := fun xx => var_gives d.w W xx
 have q1 := vof_len d.op
 have q2 := vof_len d.w
 have q3 := vof_len d.imm
 generalize vof d.op = A1 at *
 generalize vof d.w = A2 at *
 have V3 : Hid (∀ v, Calls Tryz.prog 57 #[.int .i64 d.imm] v fun e w' => e = .returned (.string (vof d.imm)) ∧ Below v.heap.size v w') := fun v => varS d.imm v
 generalize vof d.imm = A3 at *
 have z1 : (A1 ++ A2).size ≤ 10 := by rw [ByteArray.size_append]; omega
 have z2 : (A1 ++ A2 ++ A3).size ≤ 15 := by rw [ByteArray.size_append]; omega
 have hne : Nonempty (Abv (fun v => Below W.heap.size W v)) := abv_ne (Below.refl _ _)
 have k0 := fun xx : Abv (fun v => Below W.heap.size W v) => (bcell xx.ok w.heap.size 0 l1).trans ((cell_of_heap hg).trans rfl)
 have k1 := fun xx : Abv (fun v => Below W.heap.size W v) => (bcell xx.ok w.heap.size 1 l1).trans ((cell_of_heap hg).trans rfl)
 refine wp_region_abv (fun v => Below W.heap.size W v) (by kernel_rfl) (by kernel_rfl) (drew_below (Below.refl _ _)) ?_
 repeat (go_big_quiet_step (first | (go_at_call 57; first | with_reducible exact V1 _ | with_reducible exact V2 _)))
 refine wpQuiet_nil ?_
 rintro w9 ⟨⟨w9, h9⟩, rfl⟩
 have HB9 : Hid (Below w.heap.size w w9) := hb0.trans (h9.mono hb0.size)
 have hg9 : w9.heap[w.heap.size]? = some (.cells #[.int .i64 d.op, .int .i64 d.w, .int .i64 d.a, .int .i64 d.b, .int .i64 d.c, .int .i64 d.imm, .slice u d.args.length q] 91 (0, 0)) := (h9.block _ l1).trans hg
 have l9 : w.heap.size < w9.heap.size := (Array.getElem?_eq_some_iff.1 hg9).1
 clear h9 hne k0 k1 V1 V2 hg hb0 l1
 obtain ⟨op, iw, ia, ib, ic, imm, args⟩ := d
 dsimp only at *
 have yes : immM op = true → (op = 21 ∨ op = 26) := fun h => by simpa [immM] using h
 by_cases hi : immM op = true
 ·have HR : Hid (R = A1 ++ A2 ++ A3 ++ L) := HE1.out hi
  have hy := yes hi
  clear HE1 HE2 yes hi
  have y0 := (cell_of_heap (o := 0) hg9).trans rfl
  have y5 := (cell_of_heap (o := 5) hg9).trans rfl
  rcases hy with rfl | rfl
  all_goals
   go_wp2_with fail
   refine (V3.out w9).mono ?_
   rintro e w8 ⟨rfl, h8⟩
   have HB8 : Hid (Below w.heap.size w w8) := HB9.out.trans (h8.mono HB9.out.size)
   have hg8 := (h8.block _ l9).trans hg9
   clear y0 y5 h8
   have O8 := OP.out w8 HB8.out
   have y0 := (cell_of_heap (o := 0) hg8).trans rfl
   have y1 := (cell_of_heap (o := 1) hg8).trans rfl
   have y2 := (cell_of_heap (o := 2) hg8).trans rfl
   have y3 := (cell_of_heap (o := 3) hg8).trans rfl
   have y4 := (cell_of_heap (o := 4) hg8).trans rfl
   have y5 := (cell_of_heap (o := 5) hg8).trans rfl
   have y6 := (cell_of_heap (o := 6) hg8).trans rfl
   go_wp2_with fail
   refine O8.mono ?_
   rintro e w7 ⟨a7, r7, rfl, o7, h7⟩
   have HB7 : Hid (Below w.heap.size w w7) := HB8.out.trans (h7.mono HB8.out.size)
   have L7 := LS.out w7 _ a7 r7 o7
   clear y0 y1 y2 y3 y4 y5 y6 h7 O8 o7
   go_wp2_with fail
   refine L7.mono ?_
   rintro e w6 ⟨rfl, h6⟩
   have HB6 : Hid (Below w.heap.size w w6) := HB7.out.trans (h6.mono HB7.out.size)
   clear h6 L7
   go_wp2_with fail
   go_ret
   exact ⟨by rw [HR.out]; rfl, HB6.out⟩
 ·have HR : Hid (R = A1 ++ A2 ++ L) := HE2.out hi
  have n1 : (op == 21) = false := by simpa using (fun e => hi (by rw [e]; rfl) : ¬ op = 21)
  have n2 : (op == 26) = false := by simpa using (fun e => hi (by rw [e]; rfl) : ¬ op = 26)
  clear HE1 HE2 yes hi
  have O8 := OP.out w9 HB9.out
  have y0 := (cell_of_heap (o := 0) hg9).trans rfl
  have y1 := (cell_of_heap (o := 1) hg9).trans rfl
  have y2 := (cell_of_heap (o := 2) hg9).trans rfl
  have y3 := (cell_of_heap (o := 3) hg9).trans rfl
  have y4 := (cell_of_heap (o := 4) hg9).trans rfl
  have y5 := (cell_of_heap (o := 5) hg9).trans rfl
  have y6 := (cell_of_heap (o := 6) hg9).trans rfl
  go_wp2_with fail
  refine O8.mono ?_
  rintro e w7 ⟨a7, r7, rfl, o7, h7⟩
  have HB7 : Hid (Below w.heap.size w w7) := HB9.out.trans (h7.mono HB9.out.size)
  have L7 := LS.out w7 _ a7 r7 o7
  clear y0 y1 y2 y3 y4 y5 y6 h7 O8 o7
  go_wp2_with fail
  refine L7.mono ?_
  rintro e w6 ⟨rfl, h6⟩
  have HB6 : Hid (Below w.heap.size w w6) := HB7.out.trans (h6.mono HB7.out.size)
  clear h6 L7
  go_wp2_with fail
  go_ret
  exact ⟨by rw [HR.out]; rfl, HB6.out⟩
theorem four_at {W : World} {g : Nat} {v0 v1 v2 v3 : Value} {T : TypeId} (h : W.heap[g]? = some (.cells #[v0, v1, v2, v3] T (0, 0))) : g < W.heap.size := (Array.getElem?_eq_some_iff.1 h).1
set_option maxHeartbeats 2000000 in
theorem l6TermS (d : TermD) (w : World) :
  Calls Tryz.prog 60 #[.agg #[.int .i64 d.kind, .int .i64 d.a, .int .i64 d.x, .int .i64 d.y]] w fun e w' => e = .returned (.string (vb ⟨#[]⟩ (termM d))) ∧ Below w.heap.size w w' := by
 have HE : Hid (vb ⟨#[]⟩ (termM d) = if d.kind = 1 then vof d.kind ++ vof d.a else if d.kind = 2 then vof d.kind ++ vof d.x else if d.kind = 3 then vof d.kind ++ vof d.a ++ vof d.x ++ vof d.y else vof d.kind) := by
  show _ = _
  unfold termM termNs
  split
  ·rw [vb_cons, vb_one, emp_app]
  ·split
   ·rw [vb_cons, vb_one, emp_app]
   ·split
    ·rw [vb_cons, vb_cons, vb_cons, vb_one, emp_app]
    ·rw [vb_one, emp_app]
 generalize vb ⟨#[]⟩ (termM d) = R at HE ⊢
 have hb0 : Below w.heap.size w (w.alloc (.cells #[.int .i64 d.kind, .int .i64 d.a, .int .i64 d.x, .int .i64 d.y] 84)) := (Below.refl _ _).alloc (Nat.le_refl _) _
 have hg : (w.alloc (.cells #[.int .i64 d.kind, .int .i64 d.a, .int .i64 d.x, .int .i64 d.y] 84)).heap[w.heap.size]? = some (.cells #[.int .i64 d.kind, .int .i64 d.a, .int .i64 d.x, .int .i64 d.y] 84 (0, 0)) := heap_alloc_last _ _
 have VA := fun W xx => var_gives d.kind W xx
 have V1 := fun W xx => var_gives d.a W xx
 have V2 := fun W xx => var_gives d.x W xx
 have V3 := fun W xx => var_gives d.y W xx
 have VK : Hid (∀ v, Calls Tryz.prog 57 #[.int .i64 d.kind] v fun e w' => e = .returned (.string (vof d.kind)) ∧ Below v.heap.size v w') := fun v => varS d.kind v
 have q0 := vof_len d.kind
 have q1 := vof_len d.a
 have q2 := vof_len d.x
 have q3 := vof_len d.y
 generalize vof d.kind = A0 at *
 generalize vof d.a = A1 at *
 generalize vof d.x = A2 at *
 generalize vof d.y = A3 at *
 have z1 : (A0 ++ A1).size ≤ 10 := by rw [ByteArray.size_append]; omega
 have z2 : (A0 ++ A2).size ≤ 10 := by rw [ByteArray.size_append]; omega
 have z3 : (A0 ++ A1 ++ A2).size ≤ 15 := by rw [ByteArray.size_append]; omega
 have z4 : (A0 ++ A1 ++ A2 ++ A3).size ≤ 20 := by rw [ByteArray.size_append]; omega
 obtain ⟨k, a, x, y⟩ := d
 dsimp only at *
 by_cases h1 : k = 1
 ·subst h1
  have HR : Hid (R = A0 ++ A1) := by show _ = _; rw [HE.out]; simp
  clear HE
  go_enter Tryz.func60, Tryz.ntmps60
  go_wp2_with fail
  generalize w.alloc (.cells #[.int .i64 1, .int .i64 a, .int .i64 x, .int .i64 y] 84) = W at hb0 hg ⊢
  have l1 : w.heap.size < W.heap.size := four_at hg
  have hne : Nonempty (Abv (fun v => Below W.heap.size W v)) := abv_ne (Below.refl _ _)
  have k0 := fun xx : Abv (fun v => Below W.heap.size W v) => (bcell xx.ok w.heap.size 0 l1).trans ((cell_of_heap hg).trans rfl)
  have k1 := fun xx : Abv (fun v => Below W.heap.size W v) => (bcell xx.ok w.heap.size 1 l1).trans ((cell_of_heap hg).trans rfl)
  have U0 := fun xx => VA W xx
  have U1 := fun xx => V1 W xx
  have U2 := fun xx => V2 W xx
  have U3 := fun xx => V3 W xx
  refine wp_region_abv (fun v => Below W.heap.size W v) (by kernel_rfl) (by kernel_rfl) (drew_below (Below.refl _ _)) ?_
  repeat (go_big_quiet_step (first | (go_at_call 57; first | with_reducible exact U0 _ | with_reducible exact U1 _ | with_reducible exact U2 _ | with_reducible exact U3 _)))
  refine wpQuiet_nil ?_
  rintro w9 ⟨⟨w9, h9⟩, rfl⟩
  have HB9 : Hid (Below w.heap.size w w9) := hb0.trans (h9.mono hb0.size)
  clear h9 hne
  go_wp2_with fail
  go_ret
  exact ⟨by rw [HR.out]; rfl, HB9.out⟩
 by_cases h2 : k = 2
 ·subst h2
  have HR : Hid (R = A0 ++ A2) := by show _ = _; rw [HE.out]; simp
  clear HE
  go_enter Tryz.func60, Tryz.ntmps60
  go_wp2_with fail
  generalize w.alloc (.cells #[.int .i64 2, .int .i64 a, .int .i64 x, .int .i64 y] 84) = W at hb0 hg ⊢
  have l1 : w.heap.size < W.heap.size := four_at hg
  have hne : Nonempty (Abv (fun v => Below W.heap.size W v)) := abv_ne (Below.refl _ _)
  have k0 := fun xx : Abv (fun v => Below W.heap.size W v) => (bcell xx.ok w.heap.size 0 l1).trans ((cell_of_heap hg).trans rfl)
  have k2 := fun xx : Abv (fun v => Below W.heap.size W v) => (bcell xx.ok w.heap.size 2 l1).trans ((cell_of_heap hg).trans rfl)
  have U0 := fun xx => VA W xx
  have U1 := fun xx => V1 W xx
  have U2 := fun xx => V2 W xx
  have U3 := fun xx => V3 W xx
  refine wp_region_abv (fun v => Below W.heap.size W v) (by kernel_rfl) (by kernel_rfl) (drew_below (Below.refl _ _)) ?_
  repeat (go_big_quiet_step (first | (go_at_call 57; first | with_reducible exact U0 _ | with_reducible exact U1 _ | with_reducible exact U2 _ | with_reducible exact U3 _)))
  refine wpQuiet_nil ?_
  rintro w9 ⟨⟨w9, h9⟩, rfl⟩
  have HB9 : Hid (Below w.heap.size w w9) := hb0.trans (h9.mono hb0.size)
  clear h9 hne
  go_wp2_with fail
  go_ret
  exact ⟨by rw [HR.out]; rfl, HB9.out⟩
 by_cases h3 : k = 3
 ·subst h3
  have HR : Hid (R = A0 ++ A1 ++ A2 ++ A3) := by show _ = _; rw [HE.out]; simp
  clear HE
  go_enter Tryz.func60, Tryz.ntmps60
  go_wp2_with fail
  generalize w.alloc (.cells #[.int .i64 3, .int .i64 a, .int .i64 x, .int .i64 y] 84) = W at hb0 hg ⊢
  have l1 : w.heap.size < W.heap.size := four_at hg
  have hne : Nonempty (Abv (fun v => Below W.heap.size W v)) := abv_ne (Below.refl _ _)
  have k0 := fun xx : Abv (fun v => Below W.heap.size W v) => (bcell xx.ok w.heap.size 0 l1).trans ((cell_of_heap hg).trans rfl)
  have k1 := fun xx : Abv (fun v => Below W.heap.size W v) => (bcell xx.ok w.heap.size 1 l1).trans ((cell_of_heap hg).trans rfl)
  have k2 := fun xx : Abv (fun v => Below W.heap.size W v) => (bcell xx.ok w.heap.size 2 l1).trans ((cell_of_heap hg).trans rfl)
  have k3 := fun xx : Abv (fun v => Below W.heap.size W v) => (bcell xx.ok w.heap.size 3 l1).trans ((cell_of_heap hg).trans rfl)
  have U0 := fun xx => VA W xx
  have U1 := fun xx => V1 W xx
  have U2 := fun xx => V2 W xx
  have U3 := fun xx => V3 W xx
  refine wp_region_abv (fun v => Below W.heap.size W v) (by kernel_rfl) (by kernel_rfl) (drew_below (Below.refl _ _)) ?_
  repeat (go_big_quiet_step (first | (go_at_call 57; first | with_reducible exact U0 _ | with_reducible exact U1 _ | with_reducible exact U2 _ | with_reducible exact U3 _)))
  refine wpQuiet_nil ?_
  rintro w9 ⟨⟨w9, h9⟩, rfl⟩
  have HB9 : Hid (Below w.heap.size w w9) := hb0.trans (h9.mono hb0.size)
  clear h9 hne
  go_wp2_with fail
  go_ret
  exact ⟨by rw [HR.out]; rfl, HB9.out⟩
 have HR : Hid (R = A0) := by show _ = _; rw [HE.out, if_neg h1, if_neg h2, if_neg h3]
 clear HE
 go_enter Tryz.func60, Tryz.ntmps60
 go_wp2_with fail
 refine (VK.out _).mono ?_
 rintro e w9 ⟨rfl, h9⟩
 have HB9 : Hid (Below w.heap.size w w9) := hb0.trans (h9.mono hb0.size)
 clear h9
 go_wp2_with fail
 go_ret
 exact ⟨by rw [HR.out]; rfl, HB9.out⟩
end Go.Proofs.YtojhakjkfkmklaaGreatDoor
