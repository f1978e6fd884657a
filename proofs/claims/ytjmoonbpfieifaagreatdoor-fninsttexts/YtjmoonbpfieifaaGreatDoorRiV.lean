/- Drawn instructions and texts, out of the draw of an instruction. -/
import Derived.Test.YtjmoonbpfieifaaGreatDoorRiKQ
import Derived.Test.YtjmoonbpfieifaaGreatDoorRiT
import Derived.Test.YtjmoonbpfieifaaGreatDoorLawA
namespace Go.Proofs.YtjmoonbpfieifaaGreatDoor
open Go.RowKit
set_option linter.unusedVariables false
set_option linter.unusedSimpArgs false

/-- What a draw of an instruction tells. -/
def InstDrawn (base : Nat) (w : World) (e : Ending) : Prop := ∃ (i : InstD) (u : Option Addr) (q : Nat), e = .returned (.agg #[.int .i64 i.op, .int .i64 i.w, .int .i64 i.a, .int .i64 i.b, .int .i64 i.c, .int .i64 i.imm, .slice u i.args.length q]) ∧ i.args.length ≤ 1048576 ∧ IntsAt w base u i.args
theorem numsL_len : ∀ (l : List Int), SmN l → (numsL l).length ≤ 11 * l.length
  | [], _ => by simp [numsL]
  | n :: l, h => by
    have ih := numsL_len l (fun x hx => h x (List.mem_cons_of_mem _ hx))
    obtain ⟨k, e1, e2⟩ := h n (List.mem_cons_self ..)
    have h1 := dec_len 9 k (by omega)
    have e3 : numsL (n :: l) = (32 :: Lib.itoa n) ++ numsL l := by simp [numsL]
    rw [e3, e1, itoa_nat]
    simp only [List.length_cons, List.length_append]
    omega
theorem text_size (d : InstD) : (instText d).size ≤ 100 := by
  unfold instText
  split
  · rename_i h
    have hF := instB_inF h
    have h1 := numsL_len _ (instN_sm hF)
    have h2 := instN_len hF
    have h3 := opW_size d.op.toNat
    unfold instTx
    rw [ByteArray.size_append, bs_size]
    omega
  · exact Nat.zero_le _
theorem rd_under {g : Nat} {a0 : Option Addr} {len cap : Nat} {w w' : World} (h : Rd g a0 len cap w) (k : Below w.heap.size w w') : Rd g a0 len cap w' := by
  obtain ⟨hg, hl, hc, p, hp, hb⟩ := h
  refine ⟨Nat.lt_of_lt_of_le hg k.size, hl, ?_, p, hp, (k.block g hg).trans hb⟩
  rcases hc with h | ⟨b, off, ha, hb, hc⟩
  · exact .inl h
  · exact .inr ⟨b, off, ha, hb, fun i hi => by
      obtain ⟨n, h1, h2, h3⟩ := hc i hi
      exact ⟨n, h1, h2, (cell_block (k.block b (by omega))).trans h3⟩⟩
set_option maxHeartbeats 4000000 in
set_option maxRecDepth 100000 in
theorem drawInst (a0 : Option Addr) (len cap : Nat) (w : World) (hD : ∀ W, Below w.heap.size w W → Calls Tryz.prog 16 #[.slice a0 len cap] W fun e w' => InstDrawn W.heap.size w' e ∧ Below W.heap.size W w') :
    Calls Tryz.prog 6 #[.slice a0 len cap] w fun e w' => InstDrawn w.heap.size w' e ∧ Below w.heap.size w w' := by
  have B1 : Below w.heap.size w (w.alloc (.cells #[.int .i64 0, .int .i64 0, .int .i64 0, .int .i64 0, .int .i64 0, .int .i64 0, .slice none 0 0] 26)) := (Below.refl _ _).alloc (Nat.le_refl _) _
  have A1 := At.new w #[.int .i64 0, .int .i64 0, .int .i64 0, .int .i64 0, .int .i64 0, .int .i64 0, .slice none 0 0] 26
  have e1 : (w.alloc (.cells #[.int .i64 0, .int .i64 0, .int .i64 0, .int .i64 0, .int .i64 0, .int .i64 0, .slice none 0 0] 26)).heap.size = w.heap.size + 1 := by simp
  have P := hD _ B1
  rw [e1] at P
  have HB1 : Hid (Below w.heap.size w _) := B1
  have HA1 : Hid (At _ w.heap.size #[.int .i64 0, .int .i64 0, .int .i64 0, .int .i64 0, .int .i64 0, .int .i64 0, .slice none 0 0] 26) := A1
  have he1 : Hid ((w.alloc (.cells #[.int .i64 0, .int .i64 0, .int .i64 0, .int .i64 0, .int .i64 0, .int .i64 0, .slice none 0 0] 26)).heap.size = w.heap.size + 1) := e1
  clear B1 A1 hD e1
  go_enter Tryz.func6, Tryz.ntmps6
  go_wp2_with fail
  generalize (w.alloc (.cells #[.int .i64 0, .int .i64 0, .int .i64 0, .int .i64 0, .int .i64 0, .int .i64 0, .slice none 0 0] 26)) = W1 at HB1 HA1 P he1 ⊢
  refine P.mono ?_
  rintro e w2 ⟨⟨i, u, q, rfl, hil, hI⟩, b2⟩
  rw [← he1.out] at b2
  have HB2 : Hid (Below w.heap.size w w2) := HB1.out.trans (b2.mono HB1.out.size)
  have HA2 : Hid (At w2 w.heap.size #[.int .i64 0, .int .i64 0, .int .i64 0, .int .i64 0, .int .i64 0, .int .i64 0, .slice none 0 0] 26) := HA1.out.below b2
  have HI : Hid (IntsAt w2 (w.heap.size + 1) u i.args) := hI
  clear P b2 HB1 HA1 hI he1
  have z0 : w2.cell? ⟨w.heap.size, 0, none⟩ = some (.int .i64 0) := HA2.out.cell 0
  have z1 : w2.cell? ⟨w.heap.size, 1, none⟩ = some (.int .i64 0) := HA2.out.cell 1
  have z2 : w2.cell? ⟨w.heap.size, 2, none⟩ = some (.int .i64 0) := HA2.out.cell 2
  have z3 : w2.cell? ⟨w.heap.size, 3, none⟩ = some (.int .i64 0) := HA2.out.cell 3
  have z4 : w2.cell? ⟨w.heap.size, 4, none⟩ = some (.int .i64 0) := HA2.out.cell 4
  have z5 : w2.cell? ⟨w.heap.size, 5, none⟩ = some (.int .i64 0) := HA2.out.cell 5
  have z6 : w2.cell? ⟨w.heap.size, 6, none⟩ = some (.slice none 0 0) := HA2.out.cell 6
  have zf : ∀ o, w2.frozen? ⟨w.heap.size, o, none⟩ = false := fun o => froz_of_heap HA2.out
  go_wp2_with fail
  have hrr := (heap_set (o := 6) (v := .slice u i.args.length q) (heap_set (o := 5) (v := .int .i64 i.imm) (heap_set (o := 4) (v := .int .i64 i.c) (heap_set (o := 3) (v := .int .i64 i.b) (heap_set (o := 2) (v := .int .i64 i.a) (heap_set (o := 1) (v := .int .i64 i.w) (heap_set (o := 0) (v := .int .i64 i.op) HA2.out)))))))
  refine bodyPost_ret (v := .agg #[.int .i64 i.op, .int .i64 i.w, .int .i64 i.a, .int .i64 i.b, .int .i64 i.c, .int .i64 i.imm, .slice u i.args.length q]) ((results_cell_row Tryz.results6 _ _ w.heap.size 26 _ (0, 0) _ rfl hrr Tryz.underlying26 rfl (by kernel_rfl)).trans (by rfl)) rfl ⟨⟨i, u, q, rfl, hil, (ints_set (ints_set (ints_set (ints_set (ints_set (ints_set (ints_set (HI.out) (by omega)) (by omega)) (by omega)) (by omega)) (by omega)) (by omega)) (by omega)).low (by omega)⟩, ?_⟩
  exact (by repeat (first | refine Below.setCell ?_ (by dsimp only; omega) _ | exact HB2.out))
def TextDrawn (e : Ending) : Prop := ∃ t : ByteArray, e = .returned (.string t) ∧ t.size ≤ 1048576
set_option maxHeartbeats 4000000 in
set_option maxRecDepth 100000 in
theorem drawRead (a0 : Option Addr) (len cap : Nat) (w : World) (hl : len ≤ 1048576) (hc : Code a0 len w.heap.size w) (hD : ∀ W, Below w.heap.size w W → Calls Tryz.prog 16 #[.slice a0 len cap] W fun e w' => InstDrawn W.heap.size w' e ∧ Below W.heap.size W w') :
    Calls Tryz.prog 11 #[.slice a0 len cap] w fun e w' => TextDrawn e ∧ Below w.heap.size w w' := by
  have hrd := rd_open (cap := cap) hl hc
  have k1 : Below w.heap.size w (w.alloc (.cells #[.slice a0 len cap, .int .i64 0] 91)) := (Below.refl _ _).alloc (Nat.le_refl _) _
  have P := hD _ k1
  clear hD hc
  go_enter Tryz.func11, Tryz.ntmps11
  go_wp2_with fail
  refine (open_any a0 len cap w).mono ?_
  rintro e w1 ⟨rfl, h9⟩
  rw [← h9] at hrd k1 P
  clear h9
  go_wp2_with fail
  refine P.mono ?_
  rintro e w2 ⟨⟨i, u, q, rfl, hil, hI⟩, b2⟩
  have hrd2 := rd_under hrd b2
  have B2 := k1.trans (b2.mono k1.size)
  clear P hrd b2 k1
  go_wp2_with fail
  refine (instTextS _ i u q w2 hil hI).mono ?_
  rintro e w3 ⟨rfl, b3⟩
  have hrd3 := rd_under hrd2 b3
  have B3 := B2.trans (b3.mono B2.size)
  have hsz := text_size i
  clear hrd2 b3 B2 hI hil
  generalize instText i = s at hsz ⊢
  go_wp2_with fail
  refine (hurt_any w.heap.size a0 len cap s w3 hrd3 (by omega)).mono ?_
  rintro e w4 ⟨t, rfl, ht, hrd4, hg4⟩
  have B4 : Below w.heap.size w w4 := B3.grown hg4 (Nat.le_of_lt hrd3.lt) (fun q hq => by cases hq; exact Nat.le_refl _)
  clear B3 hg4 hrd4 hrd3
  go_wp2_with fail
  go_ret
  exact ⟨⟨t, rfl, by omega⟩, B4⟩
end Go.Proofs.YtjmoonbpfieifaaGreatDoor
