/- Folding an instruction: boxes and marks of the exact law. -/
import Derived.Test.YtoknhppjdmoblaaGreatDoorFdYQ
import Derived.Test.YtoknhppjdmoblaaGreatDoorTowQ
import Derived.Test.YtoknhppjdmoblaaGreatDoorLsnQ
import Derived.Test.YtoknhppjdmoblaaGreatDoorMemQ
namespace Go.Proofs.YtoknhppjdmoblaaGreatDoor
open Go.RowKit
set_option linter.unusedVariables false

theorem At.hdr {w w' : World} {g lo hi : Nat} {cs : Array Value} {T : TypeId} (h : At w g cs T) (k : Hdr lo hi w w') (hg : g < lo ∨ hi ≤ g) : At w' g cs T := (k.out g hg h.lt).trans h
structure BxA (d : FuncD) (i : InstD) (u0 : Option Addr) (c0 : Nat) (u2 : Option Addr) (c2 : Nat) (ua : Option Addr) (qa : Nat) (w w1 : World) : Prop where
  f : At w1 w.heap.size #[.slice u0 d.params.length c0, .int .i64 d.ret, .slice u2 d.blocks.length c2] 40
  i : At w1 (w.heap.size + 1) #[.int .i64 i.op, .int .i64 i.w, .int .i64 i.a, .int .i64 i.b, .int .i64 i.c, .int .i64 i.imm, .slice ua i.args.length qa] 41
  below : Below w.heap.size w w1
theorem BxA.keep {d : FuncD} {i : InstD} {u0 u2 ua : Option Addr} {c0 c2 qa : Nat} {w w1 w2 : World} (h : BxA d i u0 c0 u2 c2 ua qa w w1) (k : Below w1.heap.size w1 w2) : BxA d i u0 c0 u2 c2 ua qa w w2 := ⟨h.f.below k, h.i.below k, h.below.trans (k.mono h.below.size)⟩
theorem BxA.hdr {d : FuncD} {i : InstD} {u0 u2 ua : Option Addr} {c0 c2 qa lo hi : Nat} {w w1 w2 : World} (h : BxA d i u0 c0 u2 c2 ua qa w w1) (k : Hdr lo hi w1 w2) (hl : w.heap.size + 2 ≤ lo) : BxA d i u0 c0 u2 c2 ua qa w w2 := ⟨h.f.hdr k (.inl (by omega)), h.i.hdr k (.inl (by omega)), below_hdr h.below k (by omega) h.below.size⟩
theorem BxA.start {d : FuncD} {i : InstD} {u0 u2 ua : Option Addr} {c0 c2 qa : Nat} {w : World} : BxA d i u0 c0 u2 c2 ua qa w ((w.alloc (.cells #[.slice u0 d.params.length c0, .int .i64 d.ret, .slice u2 d.blocks.length c2] 40)).alloc (.cells #[.int .i64 i.op, .int .i64 i.w, .int .i64 i.a, .int .i64 i.b, .int .i64 i.c, .int .i64 i.imm, .slice ua i.args.length qa] 41)) := by
  have e1 : (w.alloc (.cells #[.slice u0 d.params.length c0, .int .i64 d.ret, .slice u2 d.blocks.length c2] 40)).heap.size = w.heap.size + 1 := by simp
  have h1 := heap_alloc_last w (.cells #[.slice u0 d.params.length c0, .int .i64 d.ret, .slice u2 d.blocks.length c2] 40)
  have h2 := heap_alloc_last (w.alloc (.cells #[.slice u0 d.params.length c0, .int .i64 d.ret, .slice u2 d.blocks.length c2] 40)) (.cells #[.int .i64 i.op, .int .i64 i.w, .int .i64 i.a, .int .i64 i.b, .int .i64 i.c, .int .i64 i.imm, .slice ua i.args.length qa] 41)
  rw [e1] at h2
  exact ⟨(Below.heap_alloc _ _ _ (by rw [e1]; omega)).trans h1, h2, ((Below.refl _ _).alloc (Nat.le_refl _) _).alloc (by rw [e1]; omega) _⟩
theorem pick_len (i : InstD) (n : Nat) : (pickD i n).args.length ≤ i.args.length := by
  unfold pickD
  split <;> simp [copyD, constD]
theorem foldF_len (d : FuncD) (i : InstD) : (foldF d i).args.length ≤ i.args.length := by
  unfold foldF
  split
  · split
    · split
      · simp [constD]
      · exact Nat.le_refl _
    · exact pick_len _ _
  · split
    · split
      · split
        · simp [constD]
        · exact Nat.le_refl _
      · exact Nat.le_refl _
    · split
      · split
        · simp [copyD]
        · split
          · simp [copyD]
          · exact Nat.le_refl _
      · split
        · split
          · split
            · simp [constD]
            · exact Nat.le_refl _
          · exact Nat.le_refl _
        · exact Nat.le_refl _
theorem foldI_len (d : FuncD) (i : InstD) : (foldI d i).args.length ≤ i.args.length := by
  unfold foldI
  split
  · rw [fold_same]; exact foldF_len d i
  · simp [zeroI]
theorem new_got {w : World} {base : Nat} {r : InstD} {e : Ending} (hm : r.args.length ≤ 1048576) (h : InstNew w base r e) : InstGot w base r e := by
  obtain ⟨ru, rq, he, hr⟩ := h
  obtain ⟨u, c, hu, hi⟩ := Row.ints (by omega) hr
  cases hu
  exact ⟨ru, rq, he, hi⟩
theorem new_own {w : World} {base : Nat} {r : InstD} {e : Ending} (hm : r.args.length ≤ 1048576) (h : InstNew w base r e) : ∃ (ru : Option Addr) (rq : Nat), e = .returned (.agg #[.int .i64 r.op, .int .i64 r.w, .int .i64 r.a, .int .i64 r.b, .int .i64 r.c, .int .i64 r.imm, .slice ru r.args.length rq]) ∧ OI w base ru r.args := by
  obtain ⟨ru, rq, he, hr⟩ := h
  obtain ⟨u, c, hu, hi⟩ := row_own hm hr
  cases hu
  exact ⟨ru, rq, he, hi⟩
theorem markInstK (lo hi : Nat) (d : InstD) (u : Option Addr) (c : Nat) (k : Int) (w : World) (hs : d.args.length ≤ 1048576) (hk0 : 0 ≤ k) (hk : k ≤ 4611686018427387904) (hh : SI w lo hi u d.args.length) :
    Calls Tryz.prog 20 #[.agg #[.int .i64 d.op, .int .i64 d.w, .int .i64 d.a, .int .i64 d.b, .int .i64 d.c, .int .i64 d.imm, .slice u d.args.length c], .int .i64 k] w fun e w' => e = .returned (.int .i64 (k + d.args.length)) ∧ Hdr lo hi w w' := by
  have K := markInts lo hi u c d.args.length k _ hs hk0 hk (hh.keep (Hdr.alloc _ _ w (.cells #[.int .i64 d.op, .int .i64 d.w, .int .i64 d.a, .int .i64 d.b, .int .i64 d.c, .int .i64 d.imm, .slice u d.args.length c] 29)))
  go_enter Tryz.func20, Tryz.ntmps20
  go_wp2_with fail
  refine K.mono ?_
  rintro e w1 ⟨rfl, hd⟩
  go_wp2_with fail
  go_ret
  exact ⟨rfl, (Hdr.alloc _ _ _ _).trans hd⟩
theorem markInst2 (lo hi : Nat) (d : InstD) (u : Option Addr) (c : Nat) (w : World) (hs : d.args.length ≤ 1048576) (hh : SI w lo hi u d.args.length) :
    Calls Tryz.prog 20 #[.agg #[.int .i64 d.op, .int .i64 d.w, .int .i64 d.a, .int .i64 d.b, .int .i64 d.c, .int .i64 d.imm, .slice u d.args.length c], .int .i64 1] w fun e w' => e = .returned (.int .i64 (1 + d.args.length)) ∧ OI w' lo u (marks 1 d.args.length) ∧ Hdr lo hi w w' := by
  have K := mark_both lo hi u c d.args _ hs (hh.keep (Hdr.alloc _ _ w (.cells #[.int .i64 d.op, .int .i64 d.w, .int .i64 d.a, .int .i64 d.b, .int .i64 d.c, .int .i64 d.imm, .slice u d.args.length c] 29)))
  go_enter Tryz.func20, Tryz.ntmps20
  go_wp2_with fail
  refine K.mono ?_
  rintro e w1 ⟨rfl, ho, hd⟩
  go_wp2_with fail
  go_ret
  exact ⟨rfl, ho, (Hdr.alloc _ _ _ _).trans hd⟩
theorem heldInstK (lo : Nat) (d : InstD) (u : Option Addr) (c : Nat) (w : World) (hs : d.args.length ≤ 1048576) (hh : IntsAt w lo u (marks 1 d.args.length)) :
    Calls Tryz.prog 21 #[.agg #[.int .i64 d.op, .int .i64 d.w, .int .i64 d.a, .int .i64 d.b, .int .i64 d.c, .int .i64 d.imm, .slice u d.args.length c], .int .i64 1] w fun e w' => e = .returned (.int .i64 (1 + d.args.length)) ∧ Below w.heap.size w w' := by
  have K := heldInts lo u c d.args.length 1 _ hs (by omega) (by omega) (hh.keep (agree_alloc w (.cells #[.int .i64 d.op, .int .i64 d.w, .int .i64 d.a, .int .i64 d.b, .int .i64 d.c, .int .i64 d.imm, .slice u d.args.length c] 29) lo))
  have hn : ¬ (1 : Int) + d.args.length < 0 := by omega
  go_enter Tryz.func21, Tryz.ntmps21
  go_wp2_with fail
  refine K.mono ?_
  rintro e w1 ⟨rfl, h9⟩
  have h8 := h9.symm
  clear h9
  subst h8
  go_wp2_with fail
  go_ret
  exact ⟨rfl, (Below.refl _ _).alloc (Nat.le_refl _) _⟩
/-- What a drawn region that asks for an instruction and keeps it leaves. -/
def Beg (S : Nat) (lo : Nat) (w1 : World) (g : InstD) (F : Array Value → Prop) (e : Exit) (a' : Act) (W : World) : Prop :=
  e = .normal ∧ ∃ P su sq, a'.defers = [] ∧ a'.tmps.size = 92 ∧ F a'.tmps ∧ a'.tmps.getD S undef = .pointer (some ⟨P, 0, none⟩) ∧ lo ≤ P ∧ At W P #[.int .i64 g.op, .int .i64 g.w, .int .i64 g.a, .int .i64 g.b, .int .i64 g.c, .int .i64 g.imm, .slice su g.args.length sq] 29 ∧ IntsAt W lo su g.args ∧ Below lo w1 W
theorem getD_some9 {t : Array Value} {i : Nat} (h : i < t.size) : t.getD i undef = t[i] := by simp [Array.getD, h]
theorem frame92 (t : Array Value) (h : t.size = 92) : t = #[t.getD 0 undef, t.getD 1 undef, t.getD 2 undef, t.getD 3 undef, t.getD 4 undef, t.getD 5 undef, t.getD 6 undef, t.getD 7 undef, t.getD 8 undef, t.getD 9 undef, t.getD 10 undef, t.getD 11 undef, t.getD 12 undef, t.getD 13 undef, t.getD 14 undef, t.getD 15 undef, t.getD 16 undef, t.getD 17 undef, t.getD 18 undef, t.getD 19 undef, t.getD 20 undef, t.getD 21 undef, t.getD 22 undef, t.getD 23 undef, t.getD 24 undef, t.getD 25 undef, t.getD 26 undef, t.getD 27 undef, t.getD 28 undef, t.getD 29 undef, t.getD 30 undef, t.getD 31 undef, t.getD 32 undef, t.getD 33 undef, t.getD 34 undef, t.getD 35 undef, t.getD 36 undef, t.getD 37 undef, t.getD 38 undef, t.getD 39 undef, t.getD 40 undef, t.getD 41 undef, t.getD 42 undef, t.getD 43 undef, t.getD 44 undef, t.getD 45 undef, t.getD 46 undef, t.getD 47 undef, t.getD 48 undef, t.getD 49 undef, t.getD 50 undef, t.getD 51 undef, t.getD 52 undef, t.getD 53 undef, t.getD 54 undef, t.getD 55 undef, t.getD 56 undef, t.getD 57 undef, t.getD 58 undef, t.getD 59 undef, t.getD 60 undef, t.getD 61 undef, t.getD 62 undef, t.getD 63 undef, t.getD 64 undef, t.getD 65 undef, t.getD 66 undef, t.getD 67 undef, t.getD 68 undef, t.getD 69 undef, t.getD 70 undef, t.getD 71 undef, t.getD 72 undef, t.getD 73 undef, t.getD 74 undef, t.getD 75 undef, t.getD 76 undef, t.getD 77 undef, t.getD 78 undef, t.getD 79 undef, t.getD 80 undef, t.getD 81 undef, t.getD 82 undef, t.getD 83 undef, t.getD 84 undef, t.getD 85 undef, t.getD 86 undef, t.getD 87 undef, t.getD 88 undef, t.getD 89 undef, t.getD 90 undef, t.getD 91 undef] := by
  apply Array.ext
  · rw [h]; rfl
  · intro i h1 h2
    have h3 : i < 92 := by omega
    match i, h1, h2, h3 with
    | 0, h1, _, _ => exact (getD_some9 h1).symm
    | 1, h1, _, _ => exact (getD_some9 h1).symm
    | 2, h1, _, _ => exact (getD_some9 h1).symm
    | 3, h1, _, _ => exact (getD_some9 h1).symm
    | 4, h1, _, _ => exact (getD_some9 h1).symm
    | 5, h1, _, _ => exact (getD_some9 h1).symm
    | 6, h1, _, _ => exact (getD_some9 h1).symm
    | 7, h1, _, _ => exact (getD_some9 h1).symm
    | 8, h1, _, _ => exact (getD_some9 h1).symm
    | 9, h1, _, _ => exact (getD_some9 h1).symm
    | 10, h1, _, _ => exact (getD_some9 h1).symm
    | 11, h1, _, _ => exact (getD_some9 h1).symm
    | 12, h1, _, _ => exact (getD_some9 h1).symm
    | 13, h1, _, _ => exact (getD_some9 h1).symm
    | 14, h1, _, _ => exact (getD_some9 h1).symm
    | 15, h1, _, _ => exact (getD_some9 h1).symm
    | 16, h1, _, _ => exact (getD_some9 h1).symm
    | 17, h1, _, _ => exact (getD_some9 h1).symm
    | 18, h1, _, _ => exact (getD_some9 h1).symm
    | 19, h1, _, _ => exact (getD_some9 h1).symm
    | 20, h1, _, _ => exact (getD_some9 h1).symm
    | 21, h1, _, _ => exact (getD_some9 h1).symm
    | 22, h1, _, _ => exact (getD_some9 h1).symm
    | 23, h1, _, _ => exact (getD_some9 h1).symm
    | 24, h1, _, _ => exact (getD_some9 h1).symm
    | 25, h1, _, _ => exact (getD_some9 h1).symm
    | 26, h1, _, _ => exact (getD_some9 h1).symm
    | 27, h1, _, _ => exact (getD_some9 h1).symm
    | 28, h1, _, _ => exact (getD_some9 h1).symm
    | 29, h1, _, _ => exact (getD_some9 h1).symm
    | 30, h1, _, _ => exact (getD_some9 h1).symm
    | 31, h1, _, _ => exact (getD_some9 h1).symm
    | 32, h1, _, _ => exact (getD_some9 h1).symm
    | 33, h1, _, _ => exact (getD_some9 h1).symm
    | 34, h1, _, _ => exact (getD_some9 h1).symm
    | 35, h1, _, _ => exact (getD_some9 h1).symm
    | 36, h1, _, _ => exact (getD_some9 h1).symm
    | 37, h1, _, _ => exact (getD_some9 h1).symm
    | 38, h1, _, _ => exact (getD_some9 h1).symm
    | 39, h1, _, _ => exact (getD_some9 h1).symm
    | 40, h1, _, _ => exact (getD_some9 h1).symm
    | 41, h1, _, _ => exact (getD_some9 h1).symm
    | 42, h1, _, _ => exact (getD_some9 h1).symm
    | 43, h1, _, _ => exact (getD_some9 h1).symm
    | 44, h1, _, _ => exact (getD_some9 h1).symm
    | 45, h1, _, _ => exact (getD_some9 h1).symm
    | 46, h1, _, _ => exact (getD_some9 h1).symm
    | 47, h1, _, _ => exact (getD_some9 h1).symm
    | 48, h1, _, _ => exact (getD_some9 h1).symm
    | 49, h1, _, _ => exact (getD_some9 h1).symm
    | 50, h1, _, _ => exact (getD_some9 h1).symm
    | 51, h1, _, _ => exact (getD_some9 h1).symm
    | 52, h1, _, _ => exact (getD_some9 h1).symm
    | 53, h1, _, _ => exact (getD_some9 h1).symm
    | 54, h1, _, _ => exact (getD_some9 h1).symm
    | 55, h1, _, _ => exact (getD_some9 h1).symm
    | 56, h1, _, _ => exact (getD_some9 h1).symm
    | 57, h1, _, _ => exact (getD_some9 h1).symm
    | 58, h1, _, _ => exact (getD_some9 h1).symm
    | 59, h1, _, _ => exact (getD_some9 h1).symm
    | 60, h1, _, _ => exact (getD_some9 h1).symm
    | 61, h1, _, _ => exact (getD_some9 h1).symm
    | 62, h1, _, _ => exact (getD_some9 h1).symm
    | 63, h1, _, _ => exact (getD_some9 h1).symm
    | 64, h1, _, _ => exact (getD_some9 h1).symm
    | 65, h1, _, _ => exact (getD_some9 h1).symm
    | 66, h1, _, _ => exact (getD_some9 h1).symm
    | 67, h1, _, _ => exact (getD_some9 h1).symm
    | 68, h1, _, _ => exact (getD_some9 h1).symm
    | 69, h1, _, _ => exact (getD_some9 h1).symm
    | 70, h1, _, _ => exact (getD_some9 h1).symm
    | 71, h1, _, _ => exact (getD_some9 h1).symm
    | 72, h1, _, _ => exact (getD_some9 h1).symm
    | 73, h1, _, _ => exact (getD_some9 h1).symm
    | 74, h1, _, _ => exact (getD_some9 h1).symm
    | 75, h1, _, _ => exact (getD_some9 h1).symm
    | 76, h1, _, _ => exact (getD_some9 h1).symm
    | 77, h1, _, _ => exact (getD_some9 h1).symm
    | 78, h1, _, _ => exact (getD_some9 h1).symm
    | 79, h1, _, _ => exact (getD_some9 h1).symm
    | 80, h1, _, _ => exact (getD_some9 h1).symm
    | 81, h1, _, _ => exact (getD_some9 h1).symm
    | 82, h1, _, _ => exact (getD_some9 h1).symm
    | 83, h1, _, _ => exact (getD_some9 h1).symm
    | 84, h1, _, _ => exact (getD_some9 h1).symm
    | 85, h1, _, _ => exact (getD_some9 h1).symm
    | 86, h1, _, _ => exact (getD_some9 h1).symm
    | 87, h1, _, _ => exact (getD_some9 h1).symm
    | 88, h1, _, _ => exact (getD_some9 h1).symm
    | 89, h1, _, _ => exact (getD_some9 h1).symm
    | 90, h1, _, _ => exact (getD_some9 h1).symm
    | 91, h1, _, _ => exact (getD_some9 h1).symm
    | n + 92, _, _, h3 => exact absurd h3 (by omega)
theorem frame92_f (t : Array Value) (h : t.size = 92) : ∃ f : Nat → Value, t = #[f 0, f 1, f 2, f 3, f 4, f 5, f 6, f 7, f 8, f 9, f 10, f 11, f 12, f 13, f 14, f 15, f 16, f 17, f 18, f 19, f 20, f 21, f 22, f 23, f 24, f 25, f 26, f 27, f 28, f 29, f 30, f 31, f 32, f 33, f 34, f 35, f 36, f 37, f 38, f 39, f 40, f 41, f 42, f 43, f 44, f 45, f 46, f 47, f 48, f 49, f 50, f 51, f 52, f 53, f 54, f 55, f 56, f 57, f 58, f 59, f 60, f 61, f 62, f 63, f 64, f 65, f 66, f 67, f 68, f 69, f 70, f 71, f 72, f 73, f 74, f 75, f 76, f 77, f 78, f 79, f 80, f 81, f 82, f 83, f 84, f 85, f 86, f 87, f 88, f 89, f 90, f 91] := ⟨fun k => t.getD k undef, frame92 t h⟩
end Go.Proofs.YtoknhppjdmoblaaGreatDoor
