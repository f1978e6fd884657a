/- The core of the law FnExactReadInst. -/
import Derived.Test.YtjmoonbpfieifaaGreatDoorRiKQ
import Derived.Test.YtjmoonbpfieifaaGreatDoorTowQ
import Derived.Test.YtjmoonbpfieifaaGreatDoorTo2Q
namespace Go.Proofs.YtjmoonbpfieifaaGreatDoor
open Go.RowKit
set_option linter.unusedVariables false
set_option linter.unusedSimpArgs false

theorem At.hdr {w w' : World} {g lo hi : Nat} {cs : Array Value} {T : TypeId} (h : At w g cs T) (k : Hdr lo hi w w') (hg : g < lo ∨ hi ≤ g) : At w' g cs T := (k.out g hg h.lt).trans h
theorem row_ownR {w : World} {base : Nat} {u : Option Addr} {n c : Nat} {l : List Int} (hm : l.length ≤ 1048576) (h : Row w base (.slice u n c) l) : OI w base u l := by
  rcases h.2 with ⟨hv, hn⟩ | ⟨g, cap, cur, hv, hb, hg, hnc, _, hcs, htk⟩
  · exact ⟨by omega, .inl (List.length_eq_zero_iff.1 hn)⟩
  · simp only [Value.slice.injEq] at hv
    obtain ⟨rfl, _, _⟩ := hv
    refine ⟨by omega, .inr ⟨g, cur, rfl, hb, hg, fun i hi => ?_⟩⟩
    have e : (cur.toList.take (l.length * 1))[i]? = (l.map (Value.int .i64))[i]? := by rw [htk]
    rw [List.getElem?_take, if_pos (by omega)] at e
    simp [hi] at e
    simpa [List.getD, hi] using e
theorem markInst2 (lo hi : Nat) (d : InstD) (u : Option Addr) (c : Nat) (w : World) (hs : d.args.length ≤ 1048576) (hh : SI w lo hi u d.args.length) :
    Calls Tryz.prog 14 #[.agg #[.int .i64 d.op, .int .i64 d.w, .int .i64 d.a, .int .i64 d.b, .int .i64 d.c, .int .i64 d.imm, .slice u d.args.length c], .int .i64 1] w fun e w' => e = .returned (.int .i64 (1 + d.args.length)) ∧ OI w' lo u (marks 1 d.args.length) ∧ Hdr lo hi w w' := by
  have K := mark_both lo hi u c d.args _ hs (hh.keep (Hdr.alloc _ _ w (.cells #[.int .i64 d.op, .int .i64 d.w, .int .i64 d.a, .int .i64 d.b, .int .i64 d.c, .int .i64 d.imm, .slice u d.args.length c] 26)))
  go_enter Tryz.func14, Tryz.ntmps14
  go_wp2_with fail
  refine K.mono ?_
  rintro e w1 ⟨rfl, ho, hd⟩
  go_wp2_with fail
  go_ret
  exact ⟨rfl, ho, (Hdr.alloc _ _ _ _).trans hd⟩
theorem heldInstK (lo : Nat) (d : InstD) (u : Option Addr) (c : Nat) (w : World) (hs : d.args.length ≤ 1048576) (hh : IntsAt w lo u (marks 1 d.args.length)) :
    Calls Tryz.prog 15 #[.agg #[.int .i64 d.op, .int .i64 d.w, .int .i64 d.a, .int .i64 d.b, .int .i64 d.c, .int .i64 d.imm, .slice u d.args.length c], .int .i64 1] w fun e w' => e = .returned (.int .i64 (1 + d.args.length)) ∧ Below w.heap.size w w' := by
  have K := heldInts lo u c d.args.length 1 _ hs (by omega) (by omega) (hh.keep (agree_alloc w (.cells #[.int .i64 d.op, .int .i64 d.w, .int .i64 d.a, .int .i64 d.b, .int .i64 d.c, .int .i64 d.imm, .slice u d.args.length c] 26) lo))
  have hn : ¬ (1 : Int) + d.args.length < 0 := by omega
  go_enter Tryz.func15, Tryz.ntmps15
  go_wp2_with fail
  refine K.mono ?_
  rintro e w1 ⟨rfl, h9⟩
  have h8 := h9.symm
  clear h9
  subst h8
  go_wp2_with fail
  go_ret
  exact ⟨rfl, (Below.refl _ _).alloc (Nat.le_refl _) _⟩
structure Cst (w w1 W : World) (g : InstD) (su : Option Addr) (sq : Nat) : Prop where
  p : At W w1.heap.size #[.int .i64 g.op, .int .i64 g.w, .int .i64 g.a, .int .i64 g.b, .int .i64 g.c, .int .i64 g.imm, .slice su g.args.length sq] 26
  ag : Agree w.heap.size w1 W
  below : Below w.heap.size w W
theorem Cst.keep {w w1 W W2 : World} {g : InstD} {su : Option Addr} {sq : Nat} (h : Cst w w1 W g su sq) (k : Below W.heap.size W W2) : Cst w w1 W2 g su sq := ⟨h.p.below k, agree_below h.ag k, h.below.trans (k.mono h.below.size)⟩
theorem Cst.hdr {w w1 W W2 : World} {g : InstD} {su : Option Addr} {sq lo hi : Nat} (h : Cst w w1 W g su sq) (k : Hdr lo hi W W2) (hl : w1.heap.size < lo) (hw : w.heap.size ≤ lo) : Cst w w1 W2 g su sq := ⟨h.p.hdr k (.inl hl), agree_hdr h.ag k (by omega), below_hdr h.below k hw h.below.size⟩
theorem uni (s : ByteArray) : ∃ (g : InstD) (ok : Bool), g.args.length ≤ 1048576 ∧ (∀ base w e, ReadToldS s base w e → ∃ u q, e = .returned (.tuple #[.agg #[.int .i64 g.op, .int .i64 g.w, .int .i64 g.a, .int .i64 g.b, .int .i64 g.c, .int .i64 g.imm, .slice u g.args.length q], .bool ok]) ∧ IntsAt w base u g.args) ∧ (∀ base w e, ReadTold s base w e → ∃ u q, e = .returned (.tuple #[.agg #[.int .i64 g.op, .int .i64 g.w, .int .i64 g.a, .int .i64 g.b, .int .i64 g.c, .int .i64 g.imm, .slice u g.args.length q], .bool ok]) ∧ Row w base (.slice u g.args.length q) g.args) := by
  by_cases h : ∃ i, ReadOk s i
  · obtain ⟨g, hg⟩ := h
    refine ⟨g, true, ?_, ?_, ?_⟩
    · have := (ok_inst (by omega) hg.1).args
      omega
    · rintro base w e (⟨i, u, q, hi, he, hr⟩ | ⟨hn, _⟩)
      · cases read_one hg hi
        exact ⟨u, q, he, hr⟩
      · exact absurd ⟨g, hg⟩ hn
    · rintro base w e (⟨i, u, q, hi, he, hr⟩ | ⟨hn, _⟩)
      · cases read_one hg hi
        exact ⟨u, q, he, hr⟩
      · exact absurd ⟨g, hg⟩ hn
  · refine ⟨⟨0, 0, 0, 0, 0, 0, []⟩, false, by simp, ?_, ?_⟩
    · rintro base w e (⟨i, u, q, hi, he, hr⟩ | ⟨hn, he⟩)
      · exact absurd ⟨i, hi⟩ h
      · exact ⟨none, 0, he, by simp, .inl rfl⟩
    · rintro base w e (⟨i, u, q, hi, he, hr⟩ | ⟨hn, he⟩)
      · exact absurd ⟨i, hi⟩ h
      · exact ⟨none, 0, he, Row.nil _ _⟩
set_option maxHeartbeats 8000000 in
set_option maxRecDepth 100000 in
theorem fnExactReadInst_core (a : Addr) (s : ByteArray) (w : World) (hv : Gv w 1 (errV a)) (hE : ErrsAt w) (hP : PowAt w) (hO : OpsAt w) :
    Calls Tryz.prog 4 #[.string s] w fun e w' => e = .returned (.bool true) ∧ Below w.heap.size w w' := by
  by_cases hs : 1048576 < s.size
  · have q : (1048576 : Int) < s.size := by omega
    go_enter Tryz.func4, Tryz.ntmps4
    go_wp2_with fail
    go_ret
    exact ⟨rfl, Below.refl _ _⟩
  have q : ¬ (1048576 : Int) < s.size := by omega
  have hs2 : s.size ≤ 1048576 := by omega
  obtain ⟨g, ok, hgl, US, UI⟩ := uni s
  have Hgl : Hid (g.args.length ≤ 1048576) := hgl
  have HUI : Hid (∀ base w e, ReadTold s base w e → ∃ u q, e = .returned (.tuple #[.agg #[.int .i64 g.op, .int .i64 g.w, .int .i64 g.a, .int .i64 g.b, .int .i64 g.c, .int .i64 g.imm, .slice u g.args.length q], .bool ok]) ∧ Row w base (.slice u g.args.length q) g.args) := UI
  have hRI : Hid (∀ W, Below w.heap.size w W → Calls Tryz.prog 8 #[.string s] W fun e w' => ReadTold s W.heap.size w' e ∧ Below W.heap.size W w') := fun W k => readI a s W hs2 (hv.keep k) (hE.keep k) (hP.keep k) (hO.keep k)
  have hRS := readS s w hs2
  clear hv hE hP hO UI hs hs2 hgl
  go_enter Tryz.func4, Tryz.ntmps4
  go_wp2_with fail
  refine hRS.mono ?_
  rintro e w1 ⟨hc, b1⟩
  obtain ⟨su, sq, rfl, hI⟩ := US _ _ _ hc
  have HI : Hid (IntsAt w1 w.heap.size su g.args) := hI
  have k1 : Below w1.heap.size w1 (w1.alloc (.cells #[.int .i64 g.op, .int .i64 g.w, .int .i64 g.a, .int .i64 g.b, .int .i64 g.c, .int .i64 g.imm, .slice su g.args.length sq] 26)) := (Below.refl _ _).alloc (Nat.le_refl _) _
  have C1 : Hid (Cst w w1 (w1.alloc (.cells #[.int .i64 g.op, .int .i64 g.w, .int .i64 g.a, .int .i64 g.b, .int .i64 g.c, .int .i64 g.imm, .slice su g.args.length sq] 26)) g su sq) := ⟨At.new _ _ _, agree_of_below k1 _, b1.trans (k1.mono b1.size)⟩
  have z1 : w.heap.size ≤ w1.heap.size := b1.size
  have z2 : w1.heap.size + 1 = (w1.alloc (.cells #[.int .i64 g.op, .int .i64 g.w, .int .i64 g.a, .int .i64 g.b, .int .i64 g.c, .int .i64 g.imm, .slice su g.args.length sq] 26)).heap.size := by simp
  clear hRS US hc hI b1 k1
  obtain ⟨W2, hW2⟩ : ∃ W, (w1.alloc (.cells #[.int .i64 g.op, .int .i64 g.w, .int .i64 g.a, .int .i64 g.b, .int .i64 g.c, .int .i64 g.imm, .slice su g.args.length sq] 26)) = W := ⟨_, rfl⟩
  rw [hW2] at C1 z2
  go_wp2_with fail
  clear hW2
  refine (hRI.out W2 C1.out.below).mono ?_
  rintro e w3 ⟨hc, b3⟩
  obtain ⟨gu, gq, rfl, hR⟩ := HUI.out _ _ _ hc
  have z3 : W2.heap.size ≤ w3.heap.size := b3.size
  have k3 : Below w3.heap.size w3 (w3.alloc (.cells #[.int .i64 g.op, .int .i64 g.w, .int .i64 g.a, .int .i64 g.b, .int .i64 g.c, .int .i64 g.imm, .slice gu g.args.length gq] 26)) := (Below.refl _ _).alloc (Nat.le_refl _) _
  have C4 : Hid (Cst w w1 (w3.alloc (.cells #[.int .i64 g.op, .int .i64 g.w, .int .i64 g.a, .int .i64 g.b, .int .i64 g.c, .int .i64 g.imm, .slice gu g.args.length gq] 26)) g su sq) := (C1.out.keep b3).keep k3
  have Q4 : Hid (At (w3.alloc (.cells #[.int .i64 g.op, .int .i64 g.w, .int .i64 g.a, .int .i64 g.b, .int .i64 g.c, .int .i64 g.imm, .slice gu g.args.length gq] 26)) w3.heap.size #[.int .i64 g.op, .int .i64 g.w, .int .i64 g.a, .int .i64 g.b, .int .i64 g.c, .int .i64 g.imm, .slice gu g.args.length gq] 26) := At.new _ _ _
  have hO3 := row_ownR Hgl.out hR
  have O4 : Hid (OI (w3.alloc (.cells #[.int .i64 g.op, .int .i64 g.w, .int .i64 g.a, .int .i64 g.b, .int .i64 g.c, .int .i64 g.imm, .slice gu g.args.length gq] 26)) W2.heap.size gu g.args) := hO3.keep (agree_of_below k3 _)
  have S4 : Hid (SI (w3.alloc (.cells #[.int .i64 g.op, .int .i64 g.w, .int .i64 g.a, .int .i64 g.b, .int .i64 g.c, .int .i64 g.imm, .slice gu g.args.length gq] 26)) W2.heap.size w3.heap.size gu g.args.length) := hO3.sh.keep (Hdr.alloc _ _ _ _)
  clear C1 hc hR b3 k3 hO3
  obtain ⟨W4, hW4⟩ : ∃ W, (w3.alloc (.cells #[.int .i64 g.op, .int .i64 g.w, .int .i64 g.a, .int .i64 g.b, .int .i64 g.c, .int .i64 g.imm, .slice gu g.args.length gq] 26)) = W := ⟨_, rfl⟩
  rw [hW4] at C4 Q4 O4 S4
  have x0 : W4.cell? ⟨w1.heap.size, 0, none⟩ = some (.int .i64 g.op) := C4.out.p.cell 0
  have x1 : W4.cell? ⟨w1.heap.size, 1, none⟩ = some (.int .i64 g.w) := C4.out.p.cell 1
  have x2 : W4.cell? ⟨w1.heap.size, 2, none⟩ = some (.int .i64 g.a) := C4.out.p.cell 2
  have x3 : W4.cell? ⟨w1.heap.size, 3, none⟩ = some (.int .i64 g.b) := C4.out.p.cell 3
  have x4 : W4.cell? ⟨w1.heap.size, 4, none⟩ = some (.int .i64 g.c) := C4.out.p.cell 4
  have x5 : W4.cell? ⟨w1.heap.size, 5, none⟩ = some (.int .i64 g.imm) := C4.out.p.cell 5
  have x6 : W4.cell? ⟨w1.heap.size, 6, none⟩ = some (.slice su g.args.length sq) := C4.out.p.cell 6
  have y0 : W4.cell? ⟨w3.heap.size, 0, none⟩ = some (.int .i64 g.op) := Q4.out.cell 0
  have y1 : W4.cell? ⟨w3.heap.size, 1, none⟩ = some (.int .i64 g.w) := Q4.out.cell 1
  have y2 : W4.cell? ⟨w3.heap.size, 2, none⟩ = some (.int .i64 g.a) := Q4.out.cell 2
  have y3 : W4.cell? ⟨w3.heap.size, 3, none⟩ = some (.int .i64 g.b) := Q4.out.cell 3
  have y4 : W4.cell? ⟨w3.heap.size, 4, none⟩ = some (.int .i64 g.c) := Q4.out.cell 4
  have y5 : W4.cell? ⟨w3.heap.size, 5, none⟩ = some (.int .i64 g.imm) := Q4.out.cell 5
  have y6 : W4.cell? ⟨w3.heap.size, 6, none⟩ = some (.slice gu g.args.length gq) := Q4.out.cell 6
  go_wp2_with fail
  clear hW4
  clear x0 x1 x2 x3 x4 x5 x6
  clear y0 y1 y2 y3 y4 y5 y6
  refine (eqInst_any _ _ g gu gq su sq W4 O4.out.at (HI.out.keep C4.out.ag)).mono ?_
  rintro e w5 ⟨rfl, b5⟩
  have C5 : Hid (Cst w w1 w5 g su sq) := C4.out.keep b5
  have Q5 : Hid (At w5 w3.heap.size #[.int .i64 g.op, .int .i64 g.w, .int .i64 g.a, .int .i64 g.b, .int .i64 g.c, .int .i64 g.imm, .slice gu g.args.length gq] 26) := Q4.out.below b5
  have S5 : Hid (SI w5 W2.heap.size w3.heap.size gu g.args.length) := S4.out.keep (hdr_below b5)
  clear C4 Q4 O4 S4 b5
  have y0 : w5.cell? ⟨w3.heap.size, 0, none⟩ = some (.int .i64 g.op) := Q5.out.cell 0
  have y1 : w5.cell? ⟨w3.heap.size, 1, none⟩ = some (.int .i64 g.w) := Q5.out.cell 1
  have y2 : w5.cell? ⟨w3.heap.size, 2, none⟩ = some (.int .i64 g.a) := Q5.out.cell 2
  have y3 : w5.cell? ⟨w3.heap.size, 3, none⟩ = some (.int .i64 g.b) := Q5.out.cell 3
  have y4 : w5.cell? ⟨w3.heap.size, 4, none⟩ = some (.int .i64 g.c) := Q5.out.cell 4
  have y5 : w5.cell? ⟨w3.heap.size, 5, none⟩ = some (.int .i64 g.imm) := Q5.out.cell 5
  have y6 : w5.cell? ⟨w3.heap.size, 6, none⟩ = some (.slice gu g.args.length gq) := Q5.out.cell 6
  go_wp2_with fail
  clear y0 y1 y2 y3 y4 y5 y6
  refine (markInst2 W2.heap.size w3.heap.size g gu gq w5 Hgl.out S5.out).mono ?_
  rintro e w6 ⟨rfl, om, hd⟩
  have C6 : Hid (Cst w w1 w6 g su sq) := C5.out.hdr hd (by omega) (by omega)
  have Q6 : Hid (At w6 w3.heap.size #[.int .i64 g.op, .int .i64 g.w, .int .i64 g.a, .int .i64 g.b, .int .i64 g.c, .int .i64 g.imm, .slice gu g.args.length gq] 26) := Q5.out.hdr hd (.inr (Nat.le_refl _))
  have OM6 : Hid (OI w6 W2.heap.size gu (marks 1 g.args.length)) := om
  clear C5 Q5 S5 om hd
  have y0 : w6.cell? ⟨w3.heap.size, 0, none⟩ = some (.int .i64 g.op) := Q6.out.cell 0
  have y1 : w6.cell? ⟨w3.heap.size, 1, none⟩ = some (.int .i64 g.w) := Q6.out.cell 1
  have y2 : w6.cell? ⟨w3.heap.size, 2, none⟩ = some (.int .i64 g.a) := Q6.out.cell 2
  have y3 : w6.cell? ⟨w3.heap.size, 3, none⟩ = some (.int .i64 g.b) := Q6.out.cell 3
  have y4 : w6.cell? ⟨w3.heap.size, 4, none⟩ = some (.int .i64 g.c) := Q6.out.cell 4
  have y5 : w6.cell? ⟨w3.heap.size, 5, none⟩ = some (.int .i64 g.imm) := Q6.out.cell 5
  have y6 : w6.cell? ⟨w3.heap.size, 6, none⟩ = some (.slice gu g.args.length gq) := Q6.out.cell 6
  go_wp2_with fail
  clear y0 y1 y2 y3 y4 y5 y6
  refine (heldInstK _ g gu gq w6 Hgl.out OM6.out.at).mono ?_
  rintro e w7 ⟨rfl, b7⟩
  have C7 : Hid (Cst w w1 w7 g su sq) := C6.out.keep b7
  have Q7 : Hid (At w7 w3.heap.size #[.int .i64 g.op, .int .i64 g.w, .int .i64 g.a, .int .i64 g.b, .int .i64 g.c, .int .i64 g.imm, .slice gu g.args.length gq] 26) := Q6.out.below b7
  have OM7 : Hid (OI w7 W2.heap.size gu (marks 1 g.args.length)) := OM6.out.keep (agree_of_below b7 _)
  have hnn : ¬ (1 : Int) + g.args.length < 0 := by omega
  clear C6 Q6 OM6 b7
  go_wp2_with fail
  refine (hRI.out w7 C7.out.below).mono ?_
  rintro e w8 ⟨hc, b8⟩
  obtain ⟨hu, hq, rfl, hR⟩ := HUI.out _ _ _ hc
  have k8 : Below w8.heap.size w8 (w8.alloc (.cells #[.int .i64 g.op, .int .i64 g.w, .int .i64 g.a, .int .i64 g.b, .int .i64 g.c, .int .i64 g.imm, .slice hu g.args.length hq] 26)) := (Below.refl _ _).alloc (Nat.le_refl _) _
  have C9 : Hid (Cst w w1 (w8.alloc (.cells #[.int .i64 g.op, .int .i64 g.w, .int .i64 g.a, .int .i64 g.b, .int .i64 g.c, .int .i64 g.imm, .slice hu g.args.length hq] 26)) g su sq) := (C7.out.keep b8).keep k8
  have Q9 : Hid (At (w8.alloc (.cells #[.int .i64 g.op, .int .i64 g.w, .int .i64 g.a, .int .i64 g.b, .int .i64 g.c, .int .i64 g.imm, .slice hu g.args.length hq] 26)) w3.heap.size #[.int .i64 g.op, .int .i64 g.w, .int .i64 g.a, .int .i64 g.b, .int .i64 g.c, .int .i64 g.imm, .slice gu g.args.length gq] 26) := (Q7.out.below b8).below k8
  have OM9 : Hid (OI (w8.alloc (.cells #[.int .i64 g.op, .int .i64 g.w, .int .i64 g.a, .int .i64 g.b, .int .i64 g.c, .int .i64 g.imm, .slice hu g.args.length hq] 26)) W2.heap.size gu (marks 1 g.args.length)) := (OM7.out.keep (agree_of_below b8 _)).keep (agree_of_below k8 _)
  have R9 : Hid (At (w8.alloc (.cells #[.int .i64 g.op, .int .i64 g.w, .int .i64 g.a, .int .i64 g.b, .int .i64 g.c, .int .i64 g.imm, .slice hu g.args.length hq] 26)) w8.heap.size #[.int .i64 g.op, .int .i64 g.w, .int .i64 g.a, .int .i64 g.b, .int .i64 g.c, .int .i64 g.imm, .slice hu g.args.length hq] 26) := At.new _ _ _
  have I9 : Hid (IntsAt (w8.alloc (.cells #[.int .i64 g.op, .int .i64 g.w, .int .i64 g.a, .int .i64 g.b, .int .i64 g.c, .int .i64 g.imm, .slice hu g.args.length hq] 26)) w7.heap.size hu g.args) := (row_ownR Hgl.out hR).at.keep (agree_of_below k8 _)
  clear C7 Q7 OM7 hc hR b8 k8
  obtain ⟨W9, hW9⟩ : ∃ W, (w8.alloc (.cells #[.int .i64 g.op, .int .i64 g.w, .int .i64 g.a, .int .i64 g.b, .int .i64 g.c, .int .i64 g.imm, .slice hu g.args.length hq] 26)) = W := ⟨_, rfl⟩
  rw [hW9] at C9 Q9 OM9 R9 I9
  have x0 : W9.cell? ⟨w1.heap.size, 0, none⟩ = some (.int .i64 g.op) := C9.out.p.cell 0
  have x1 : W9.cell? ⟨w1.heap.size, 1, none⟩ = some (.int .i64 g.w) := C9.out.p.cell 1
  have x2 : W9.cell? ⟨w1.heap.size, 2, none⟩ = some (.int .i64 g.a) := C9.out.p.cell 2
  have x3 : W9.cell? ⟨w1.heap.size, 3, none⟩ = some (.int .i64 g.b) := C9.out.p.cell 3
  have x4 : W9.cell? ⟨w1.heap.size, 4, none⟩ = some (.int .i64 g.c) := C9.out.p.cell 4
  have x5 : W9.cell? ⟨w1.heap.size, 5, none⟩ = some (.int .i64 g.imm) := C9.out.p.cell 5
  have x6 : W9.cell? ⟨w1.heap.size, 6, none⟩ = some (.slice su g.args.length sq) := C9.out.p.cell 6
  have y0 : W9.cell? ⟨w8.heap.size, 0, none⟩ = some (.int .i64 g.op) := R9.out.cell 0
  have y1 : W9.cell? ⟨w8.heap.size, 1, none⟩ = some (.int .i64 g.w) := R9.out.cell 1
  have y2 : W9.cell? ⟨w8.heap.size, 2, none⟩ = some (.int .i64 g.a) := R9.out.cell 2
  have y3 : W9.cell? ⟨w8.heap.size, 3, none⟩ = some (.int .i64 g.b) := R9.out.cell 3
  have y4 : W9.cell? ⟨w8.heap.size, 4, none⟩ = some (.int .i64 g.c) := R9.out.cell 4
  have y5 : W9.cell? ⟨w8.heap.size, 5, none⟩ = some (.int .i64 g.imm) := R9.out.cell 5
  have y6 : W9.cell? ⟨w8.heap.size, 6, none⟩ = some (.slice hu g.args.length hq) := R9.out.cell 6
  go_wp2_with fail
  clear hW9
  clear x0 x1 x2 x3 x4 x5 x6
  clear y0 y1 y2 y3 y4 y5 y6
  refine (eqInst_any _ _ g hu hq su sq W9 I9.out (HI.out.keep C9.out.ag)).mono ?_
  rintro e w10 ⟨rfl, b10⟩
  have C10 : Hid (Below w.heap.size w w10) := (C9.out.keep b10).below
  have Q10 : Hid (At w10 w3.heap.size #[.int .i64 g.op, .int .i64 g.w, .int .i64 g.a, .int .i64 g.b, .int .i64 g.c, .int .i64 g.imm, .slice gu g.args.length gq] 26) := Q9.out.below b10
  have OM10 : Hid (OI w10 W2.heap.size gu (marks 1 g.args.length)) := OM9.out.keep (agree_of_below b10 _)
  clear C9 Q9 OM9 R9 I9 b10
  have y0 : w10.cell? ⟨w3.heap.size, 0, none⟩ = some (.int .i64 g.op) := Q10.out.cell 0
  have y1 : w10.cell? ⟨w3.heap.size, 1, none⟩ = some (.int .i64 g.w) := Q10.out.cell 1
  have y2 : w10.cell? ⟨w3.heap.size, 2, none⟩ = some (.int .i64 g.a) := Q10.out.cell 2
  have y3 : w10.cell? ⟨w3.heap.size, 3, none⟩ = some (.int .i64 g.b) := Q10.out.cell 3
  have y4 : w10.cell? ⟨w3.heap.size, 4, none⟩ = some (.int .i64 g.c) := Q10.out.cell 4
  have y5 : w10.cell? ⟨w3.heap.size, 5, none⟩ = some (.int .i64 g.imm) := Q10.out.cell 5
  have y6 : w10.cell? ⟨w3.heap.size, 6, none⟩ = some (.slice gu g.args.length gq) := Q10.out.cell 6
  go_wp2_with fail
  clear y0 y1 y2 y3 y4 y5 y6
  refine (heldInstK _ g gu gq w10 Hgl.out OM10.out.at).mono ?_
  rintro e w11 ⟨rfl, b11⟩
  have C11 : Hid (Below w.heap.size w w11) := C10.out.trans (b11.mono C10.out.size)
  clear C10 Q10 OM10 b11
  go_wp2_with fail
  go_ret
  exact ⟨rfl, C11.out⟩
end Go.Proofs.YtjmoonbpfieifaaGreatDoor
