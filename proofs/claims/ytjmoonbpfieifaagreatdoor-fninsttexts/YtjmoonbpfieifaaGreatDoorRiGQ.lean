/- Reading: an instruction of a line. -/
import Derived.Test.YtjmoonbpfieifaaGreatDoorRiEQ
namespace Go.Proofs.YtjmoonbpfieifaaGreatDoor
open Go.RowKit
set_option linter.unusedVariables false
set_option linter.unusedSimpArgs false

def InstNew (w : World) (base : Nat) (r : InstD) (e : Ending) : Prop := ∃ (ru : Option Addr) (rq : Nat), e = .returned (.agg #[.int .i64 r.op, .int .i64 r.w, .int .i64 r.a, .int .i64 r.b, .int .i64 r.c, .int .i64 r.imm, .slice ru r.args.length rq]) ∧ Row w base (.slice ru r.args.length rq) r.args
structure OkR (r : InstD) : Prop where
  back : mkD r.op r.w r.imm (opsD r) = r
  three : r.op = 26 ∨ (opsD r).length ≤ 3
  args : r.args.length ≤ 1000
  ops : (opsD r).length ≤ 1000
  rng : ∀ x ∈ opsD r, 0 ≤ x ∧ x ≤ 100000
theorem ok_inst {i : InstD} {ids : Int} (hids : ids ≤ 100000) (h : instB i ids 3 = true) : OkR i := by
  unfold instB at h
  simp only [Bool.and_eq_true] at h
  obtain ⟨⟨⟨_, _⟩, hf⟩, hall⟩ := h
  have hr : ∀ x ∈ opsD i, 0 ≤ x ∧ x ≤ 100000 := by
    intro x hx
    have := List.all_eq_true.1 hall x hx
    simp [belowB] at this
    omega
  unfold fB at hf
  by_cases ho : i.op = 26
  · rw [if_pos ho] at hf
    simp only [Bool.and_eq_true, decide_eq_true_eq, beq_iff_eq] at hf
    obtain ⟨⟨⟨hl, ha⟩, hb⟩, hc⟩ := hf
    have e : opsD i = i.args := by simp [opsD, opB, ho]
    refine ⟨?_, Or.inl ho, by omega, by rw [e]; omega, hr⟩
    rw [e]; unfold mkD; rw [if_pos ho]
    rcases i with ⟨op, w, a, b, c, imm, args⟩
    dsimp only at ha hb hc ⊢
    rw [ha, hb, hc]
  · rw [if_neg ho] at hf
    simp only [Bool.and_eq_true, Bool.or_eq_true, decide_eq_true_eq, beq_iff_eq] at hf
    obtain ⟨⟨⟨hl, ha⟩, hb⟩, hc⟩ := hf
    have hargs : i.args = [] := List.length_eq_zero_iff.1 hl
    have hle : (opsD i).length ≤ 3 ∧ mkD i.op i.w i.imm (opsD i) = i := by
      unfold mkD
      rw [if_neg ho]
      rcases i with ⟨op, w, a, b, c, imm, args⟩
      dsimp only at ha hb hc hargs ho ⊢
      subst hargs
      unfold opsD at *
      dsimp only at *
      split at ha <;> rename_i h1
      · simp [h1] at hb hc ⊢; exact hc.symm
      · split at ha <;> rename_i h2
        · simp [h1, h2] at hb hc ⊢; exact ⟨hb.symm, hc.symm⟩
        · split at ha <;> rename_i h3
          · rw [if_neg h1, if_neg h2, if_pos h3]; simp
          · simp [h1, h2, h3, ho] at ha hb hc ⊢; exact ⟨ha.symm, hb.symm, hc.symm⟩
    exact ⟨hle.2, Or.inr hle.1, by rw [hargs]; simp, by omega, hr⟩
/-- An instruction of its op, its width, its number and its operands: none where these are not just its own. -/
def finN (op x m : Int) (l : List Int) : Option InstD := if op = 26 ∨ opsD (mkD op x m l) = l then some (mkD op x m l) else none
def ofNums (op : Int) : List Int → Option InstD
  | [] => none
  | x :: r => if immB op = true then (match r with
    | [] => none
    | m :: r' => finN op x m r') else finN op x 0 r
theorem fin_ops {op x m : Int} {l : List Int} {i : InstD} (h : finN op x m l = some i) : i = mkD op x m l ∧ opsD i = l := by
  unfold finN at h
  split at h
  · rename_i hc
    cases h
    refine ⟨rfl, ?_⟩
    rcases hc with hc | hc
    · unfold mkD; rw [if_pos hc]; simp [opsD, opB, hc]
    · exact hc
  · cases h
theorem mk_fields (op x m : Int) (l : List Int) : (mkD op x m l).op = op ∧ (mkD op x m l).w = x ∧ (mkD op x m l).imm = m := by unfold mkD; split <;> exact ⟨rfl, rfl, rfl⟩
theorem nums_inst {op : Int} {nums : List Int} {i : InstD} (h : ofNums op nums = some i) : i.op = op ∧ instN i = nums := by
  unfold ofNums at h
  split at h
  · cases h
  · rename_i x r
    split at h
    · rename_i him
      split at h
      · cases h
      · rename_i m r'
        obtain ⟨h1, h2⟩ := fin_ops h
        obtain ⟨f1, f2, f3⟩ := mk_fields op x m r'
        rw [← h1] at f1 f2 f3
        refine ⟨f1, ?_⟩
        unfold instN
        rw [f1, if_pos him, f2, f3, h2]
        rfl
    · rename_i him
      obtain ⟨h1, h2⟩ := fin_ops h
      obtain ⟨f1, f2, f3⟩ := mk_fields op x 0 r
      rw [← h1] at f1 f2 f3
      refine ⟨f1, ?_⟩
      unfold instN
      rw [f1, if_neg him, f2, h2]
      rfl
theorem inst_nums {i : InstD} (h : instB i 60 3 = true) : ofNums i.op (instN i) = some i := by
  have ok := ok_inst (ids := 60) (by omega) h
  have fin : ∀ m, i.imm = m → finN i.op i.w m (opsD i) = some i := fun m hm => by
    unfold finN
    rw [← hm, ok.back]
    rw [if_pos (.inr rfl)]
  unfold instN ofNums
  by_cases him : immB i.op = true
  · rw [if_pos him]
    simp only [List.cons_append, List.nil_append]
    rw [if_pos him]
    exact fin _ rfl
  · rw [if_neg him]
    simp only [List.cons_append, List.nil_append]
    rw [if_neg him]
    refine fin 0 ?_
    simp only [instB, Bool.and_eq_true] at h
    have hi := h.1.1.2
    unfold iB at hi
    have h21 : ¬ i.op = 21 := fun e => him (by simp [immB, e])
    have h26 : ¬ i.op = 26 := fun e => him (by simp [immB, e])
    rw [if_neg h21, if_neg h26] at hi
    simpa using hi
/-- What is read of a text, by its pieces. -/
theorem read_iff {s : ByteArray} {b0 : ByteArray} {ws : List ByteArray} {nums : List Int} (hp : pieces s = b0 :: ws) (hn : NumsIs ws nums) (i : InstD) : ReadOk s i ↔ (ofNums (opNum b0) nums = some i ∧ instB i 60 3 = true) := by
  constructor
  · intro h
    obtain ⟨h1, h2⟩ := read_nums h hp
    have hF := instB_inF h.1
    have e : nums = instN i := hn.one h2
    have ho : opNum b0 = i.op := by
      rw [h1]
      have := opNum_word (k := i.op.toNat) (by have := hF.op1; omega) (by have := hF.op27; omega)
      rw [this]
      have := hF.op1
      omega
    rw [ho, e]
    exact ⟨inst_nums h.1, h.1⟩
  · rintro ⟨h1, h2⟩
    obtain ⟨e1, e2⟩ := nums_inst h1
    have hF := instB_inF h2
    refine read_back hp ?_ (by rw [e2]; exact hn) h2
    rcases opNum_some b0 with h0 | ⟨j, hj, h3, h4⟩
    · have := hF.op1; omega
    · rw [e1, h3]
      exact h4.symm
theorem read_none {s : ByteArray} (h : ∀ w0 ws, pieces s = w0 :: ws → ¬ ∃ nums, NumsIs ws nums) : ¬ ∃ i, ReadOk s i := fun ⟨i, hi⟩ =>
  h _ _ (read_pieces hi) ⟨instN i, nums_is (instN_sm (instB_inF hi.1))⟩
theorem read_one {s : ByteArray} {i j : InstD} (h : ReadOk s i) (k : ReadOk s j) : i = j := by
  have hp := read_pieces h
  obtain ⟨_, hn⟩ := read_nums h hp
  have h1 := ((read_iff hp hn i).1 h).1
  have h2 := ((read_iff hp hn j).1 k).1
  rw [h1] at h2
  cases h2
  rfl
end Go.Proofs.YtjmoonbpfieifaaGreatDoor
namespace Go.Proofs.YtjmoonbpfieifaaGreatDoor
open Go.RowKit
set_option linter.unusedVariables false
set_option linter.unusedSimpArgs false

structure Ls (w W : World) : Prop where
  r : At W (w.heap.size + 1) #[.int .i64 0, .int .i64 0, .int .i64 0, .int .i64 0, .int .i64 0, .int .i64 0, .slice none 0 0] 26
  below : Below w.heap.size w W
  size : w.heap.size + 3 ≤ W.heap.size
theorem Ls.keep {w W W2 : World} (h : Ls w W) (k : Below W.heap.size W W2) : Ls w W2 := ⟨h.r.below k, h.below.trans (k.mono h.below.size), Nat.le_trans h.size k.size⟩
theorem Ls.only {w W W2 : World} (h : Ls w W) (k : OnlyR (w.heap.size + 2) W W2) : Ls w W2 := ⟨(k.block _ h.r.lt (by omega)).trans h.r, h.below.trans (k.down (by omega) h.below.size), Nat.le_trans h.size k.size⟩
theorem row_set7 {w : World} {R base : Nat} {v v0 v1 v2 v3 v4 v5 v6 : Value} {l : List Int} (h : Row w base v l) (hR : R < base) : Row (((((((w.setCell ⟨R, 0, none⟩ v0).setCell ⟨R, 1, none⟩ v1).setCell ⟨R, 2, none⟩ v2).setCell ⟨R, 3, none⟩ v3).setCell ⟨R, 4, none⟩ v4).setCell ⟨R, 5, none⟩ v5).setCell ⟨R, 6, none⟩ v6) base v l :=
  row_setX (row_setX (row_setX (row_setX (row_setX (row_setX (row_setX h hR) hR) hR) hR) hR) hR) hR
/-- What is told of an instruction that is wanted. -/
def InstTold (o : Option InstD) (a : Addr) (base : Nat) (w : World) (e : Ending) : Prop := (∃ i, o = some i ∧ InstNew w base i e) ∨ (o = none ∧ e = .panicked [{ v := errV a, recovered := false }])
set_option maxHeartbeats 8000000 in
set_option maxRecDepth 100000 in
theorem instOfLineI (a : Addr) (lo : Nat) (b0 : ByteArray) (u : Option Addr) (c : Nat) (nums : List Int) (w : World) (hr : Row w lo (.slice u nums.length c) nums) (hl : nums.length ≤ 1048576) (hO : OpsAt w) (hv : Gv w 1 (errV a)) :
    Calls Tryz.prog 48 #[.agg #[.string b0, .slice u nums.length c]] w fun e w' => InstTold (ofNums (opNum b0) nums) a w.heap.size w' e ∧ Below w.heap.size w w' := by
  have B1 : Below w.heap.size w ((w.alloc (.cells #[.string b0, .slice u nums.length c] 40)).alloc (.cells #[.int .i64 0, .int .i64 0, .int .i64 0, .int .i64 0, .int .i64 0, .int .i64 0, .slice none 0 0] 26)) := ((Below.refl _ _).alloc (Nat.le_refl _) _).alloc (by simp) _
  have e1 : ((w.alloc (.cells #[.string b0, .slice u nums.length c] 40)).alloc (.cells #[.int .i64 0, .int .i64 0, .int .i64 0, .int .i64 0, .int .i64 0, .int .i64 0, .slice none 0 0] 26)).heap.size = w.heap.size + 2 := by simp
  have A0 : At ((w.alloc (.cells #[.string b0, .slice u nums.length c] 40)).alloc (.cells #[.int .i64 0, .int .i64 0, .int .i64 0, .int .i64 0, .int .i64 0, .int .i64 0, .slice none 0 0] 26)) w.heap.size #[.string b0, .slice u nums.length c] 40 := (At.new _ _ _).below ((Below.refl _ _).alloc (Nat.le_refl _) _)
  have A1 : At ((w.alloc (.cells #[.string b0, .slice u nums.length c] 40)).alloc (.cells #[.int .i64 0, .int .i64 0, .int .i64 0, .int .i64 0, .int .i64 0, .int .i64 0, .slice none 0 0] 26)) (w.heap.size + 1) #[.int .i64 0, .int .i64 0, .int .i64 0, .int .i64 0, .int .i64 0, .int .i64 0, .slice none 0 0] 26 := by
    have h := At.new (w.alloc (.cells #[.string b0, .slice u nums.length c] 40)) #[.int .i64 0, .int .i64 0, .int .i64 0, .int .i64 0, .int .i64 0, .int .i64 0, .slice none 0 0] 26
    have e : (w.alloc (.cells #[.string b0, .slice u nums.length c] 40)).heap.size = w.heap.size + 1 := by simp
    rw [e] at h
    exact h
  have OP := opOfI b0 _ (hO.keep B1)
  have HGV : Hid (Gv w 1 (errV a)) := hv
  have HR : Hid (Row w lo (.slice u nums.length c) nums) := hr
  obtain ⟨op, hop⟩ : ∃ op, opNum b0 = op := ⟨_, rfl⟩
  rw [hop] at OP
  rw [hop]
  clear hO hv hr hop
  go_enter Tryz.func48, Tryz.ntmps48
  go_wp2_with fail
  generalize ((w.alloc (.cells #[.string b0, .slice u nums.length c] 40)).alloc (.cells #[.int .i64 0, .int .i64 0, .int .i64 0, .int .i64 0, .int .i64 0, .int .i64 0, .slice none 0 0] 26)) = W1 at B1 e1 A0 A1 OP ⊢
  refine OP.mono ?_
  rintro e w1 ⟨rfl, h9⟩
  have h8 := h9.symm
  clear h9
  subst h8
  have y1 : W1.cell? ⟨w.heap.size, 1, none⟩ = some (.slice u nums.length c) := A0.cell 1
  have bx : Below W1.heap.size W1 (W1.alloc (.cells #[.slice u nums.length c] 120)) := (Below.refl _ _).alloc (Nat.le_refl _) _
  have hL : Ls w (W1.alloc (.cells #[.slice u nums.length c] 120)) := ⟨A1.below bx, B1.trans (bx.mono B1.size), by simp [e1]⟩
  have hRw : RwAt (W1.alloc (.cells #[.slice u nums.length c] 120)) (w.heap.size + 2) nums := by
    have hA : At (W1.alloc (.cells #[.slice u nums.length c] 120)) (w.heap.size + 2) #[.slice u nums.length c] 120 := by rw [← e1]; exact At.new _ _ _
    rcases HR.out.2 with ⟨hv, hn⟩ | ⟨g, cap, cur, hv, _, hg, hnc, hcm, hcs, htk⟩
    · have hn0 : nums = [] := List.length_eq_zero_iff.1 hn
      subst hn0
      simp only [Value.slice.injEq, List.length_nil, true_and] at hv
      obtain ⟨rfl, rfl⟩ := hv
      exact .inl ⟨rfl, hA⟩
    · simp only [Value.slice.injEq, true_and] at hv
      obtain ⟨rfl, rfl⟩ := hv
      have hgl : g < w.heap.size := (Array.getElem?_eq_some_iff.1 hg).1
      refine .inr ⟨g, 0, c, hA, hnc, by unfold maxLen at hcm; omega, by omega, by have := hL.below.size; omega, fun i hi => ?_⟩
      refine (cell_block (hL.below.block g hgl)).trans ?_
      rw [Nat.zero_add, cell_of_heap hg]
      have e : (cur.toList.take (nums.length * 1))[i]? = (nums.map (Value.int .i64))[i]? := by rw [htk]
      rw [List.getElem?_take, if_pos (by omega)] at e
      simp [hi] at e
      simpa [List.getD, hi] using e
  have HL : Hid (Ls w (W1.alloc (.cells #[.slice u nums.length c] 120))) := hL
  have HRw : Hid (RwAt (W1.alloc (.cells #[.slice u nums.length c] 120)) (w.heap.size + 2) nums) := hRw
  clear hL hRw OP A0 A1 B1 bx
  go_wp2_with fail
  generalize (W1.alloc (.cells #[.slice u nums.length c] 120)) = W2 at HL HRw ⊢
  clear y1 e1
  cases nums with
  | nil =>
    refine (nextN a _ _ HRw.out (HGV.out.keep HL.out.below)).mono ?_
    rintro e w9 ⟨rfl, h9⟩
    have h8 := h9.symm
    clear h9
    subst h8
    go_wp2_with fail
    exact ⟨rfl, .inr ⟨rfl, rfl⟩, HL.out.below⟩
  | cons x r =>
    have hlr0 : r.length < 1048576 := by simp at hl; omega
    refine (nextY _ x r _ HRw.out hlr0).mono ?_
    rintro e w3 ⟨rfl, hRw3, ho3⟩
    have HL3 : Hid (Ls w w3) := HL.out.only ho3
    have HRw3 : Hid (RwAt w3 (w.heap.size + 2) r) := hRw3
    clear hRw3 ho3 HL HRw HR
    cases him : immB op with
    | true =>
      cases r with
      | nil =>
        have HNo : Hid (ofNums op [x] = none) := by show _ = _; simp [ofNums, him]
        have P := immN a _ op w3 him HRw3.out (HGV.out.keep HL3.out.below)
        have HB3 : Hid (Below w.heap.size w w3) := HL3.out.below
        clear him
        go_wp2_with fail
        refine P.mono ?_
        rintro e w9 ⟨rfl, h9⟩
        have h8 := h9.symm
        clear h9
        subst h8
        go_wp2_with fail
        exact ⟨rfl, .inr ⟨HNo.out, rfl⟩, HB3.out⟩
      | cons m r2 =>
        have HOF : Hid (ofNums op (x :: m :: r2) = finN op x m r2) := by show _ = _; simp [ofNums, him]
        have hlr1 : r2.length < 1048576 := by simp at hlr0; omega
        have hlr : r2.length ≤ 1048576 := by omega
        have P := immY _ op m r2 w3 him HRw3.out hlr1
        clear him
        go_wp2_with fail
        refine P.mono ?_
        rintro e w4 ⟨rfl, hRw4, ho4⟩
        have HL4 : Hid (Ls w w4) := HL3.out.only ho4
        have HRw4 : Hid (RwAt w4 (w.heap.size + 2) r2) := hRw4
        clear hRw4 ho4 P HL3 HRw3
        go_wp2_with fail
        refine (restI (w.heap.size + 2) r2 w4 HRw4.out hlr).mono ?_
        rintro e w5 ⟨v5, rfl, hR5, ho5⟩
        obtain ⟨u5, c5, rfl⟩ := hR5.slice
        have HL5 : Hid (Ls w w5) := HL4.out.only ho5
        have HR5 : Hid (Row w5 w4.heap.size _ r2) := hR5
        have hW5 : w.heap.size + 3 ≤ w4.heap.size := HL4.out.size
        clear hR5 ho5 HRw4
        by_cases h26 : op = 26
        · subst h26
          have HSo : Hid (_ = some (mkD 26 x m r2)) := HOF.out.trans (by unfold finN; rw [if_pos (.inl rfl)])
          have P := instOf26 x m u5 c5 r2 w5
          go_wp2_with fail
          refine P.mono ?_
          rintro e w6 ⟨rfl, b6⟩
          have HL6 : Hid (Ls w w6) := HL5.out.keep b6
          have HR6 : Hid (Row w6 w4.heap.size _ r2) := Row.keep HR5.out b6
          clear P b6 HL5 HR5
          have z0 : w6.cell? ⟨w.heap.size + 1, 0, none⟩ = some (.int .i64 0) := HL6.out.r.cell 0
          have z1 : w6.cell? ⟨w.heap.size + 1, 1, none⟩ = some (.int .i64 0) := HL6.out.r.cell 1
          have z2 : w6.cell? ⟨w.heap.size + 1, 2, none⟩ = some (.int .i64 0) := HL6.out.r.cell 2
          have z3 : w6.cell? ⟨w.heap.size + 1, 3, none⟩ = some (.int .i64 0) := HL6.out.r.cell 3
          have z4 : w6.cell? ⟨w.heap.size + 1, 4, none⟩ = some (.int .i64 0) := HL6.out.r.cell 4
          have z5 : w6.cell? ⟨w.heap.size + 1, 5, none⟩ = some (.int .i64 0) := HL6.out.r.cell 5
          have z6 : w6.cell? ⟨w.heap.size + 1, 6, none⟩ = some (.slice none 0 0) := HL6.out.r.cell 6
          have zf : ∀ o, w6.frozen? ⟨w.heap.size + 1, o, none⟩ = false := fun o => froz_of_heap HL6.out.r
          have hsz := HL6.out.size
          go_wp2_with fail
          have hrr := (heap_set (o := 6) (v := .slice u5 r2.length c5) (heap_set (o := 5) (v := .int .i64 m) (heap_set (o := 4) (v := .int .i64 0) (heap_set (o := 3) (v := .int .i64 0) (heap_set (o := 2) (v := .int .i64 0) (heap_set (o := 1) (v := .int .i64 x) (heap_set (o := 0) (v := .int .i64 26) HL6.out.r)))))))
          refine bodyPost_ret (v := .agg #[.int .i64 26, .int .i64 x, .int .i64 0, .int .i64 0, .int .i64 0, .int .i64 m, .slice u5 r2.length c5]) ((results_cell_row Tryz.results48 _ _ (w.heap.size + 1) 26 _ (0, 0) _ rfl hrr Tryz.underlying26 rfl (by kernel_rfl)).trans (by rfl)) rfl ⟨.inl ⟨_, HSo.out, ?_⟩, ?_⟩
          · exact ⟨u5, c5, rfl, (row_set7 HR6.out (by omega)).low (by omega)⟩
          · exact (by repeat (first | refine Below.setCell ?_ (by dsimp only; omega) _ | exact HL6.out.below))
        · have P := instOfG op x m w4.heap.size u5 c5 r2 w5 a h26 hlr (by obtain ⟨q1, q2, q3, q4⟩ := HR5.out.ints (by omega); cases q3; exact q4) (HGV.out.keep HL5.out.below)
          go_wp2_with fail
          refine P.mono ?_
          rintro e w6 ⟨hc, b6⟩
          have HL6 : Hid (Ls w w6) := HL5.out.keep b6
          clear P b6 HL5 HR5
          rcases hc with ⟨hc, rfl⟩ | ⟨hc, rfl⟩
          · have HSo : Hid (_ = some (mkD op x m r2)) := HOF.out.trans (by unfold finN; rw [if_pos (.inr hc)])
            have HMk : Hid (mkD op x m r2 = ⟨op, x, r2.getD 0 0, r2.getD 1 0, r2.getD 2 0, m, []⟩) := by show _ = _; unfold mkD; rw [if_neg h26]
            clear hc h26
            generalize r2.getD 0 0 = f0 at HMk ⊢
            generalize r2.getD 1 0 = f1 at HMk ⊢
            generalize r2.getD 2 0 = f2 at HMk ⊢
            have z0 : w6.cell? ⟨w.heap.size + 1, 0, none⟩ = some (.int .i64 0) := HL6.out.r.cell 0
            have z1 : w6.cell? ⟨w.heap.size + 1, 1, none⟩ = some (.int .i64 0) := HL6.out.r.cell 1
            have z2 : w6.cell? ⟨w.heap.size + 1, 2, none⟩ = some (.int .i64 0) := HL6.out.r.cell 2
            have z3 : w6.cell? ⟨w.heap.size + 1, 3, none⟩ = some (.int .i64 0) := HL6.out.r.cell 3
            have z4 : w6.cell? ⟨w.heap.size + 1, 4, none⟩ = some (.int .i64 0) := HL6.out.r.cell 4
            have z5 : w6.cell? ⟨w.heap.size + 1, 5, none⟩ = some (.int .i64 0) := HL6.out.r.cell 5
            have z6 : w6.cell? ⟨w.heap.size + 1, 6, none⟩ = some (.slice none 0 0) := HL6.out.r.cell 6
            have zf : ∀ o, w6.frozen? ⟨w.heap.size + 1, o, none⟩ = false := fun o => froz_of_heap HL6.out.r
            have hsz := HL6.out.size
            go_wp2_with fail
            have hrr := (heap_set (o := 6) (v := .slice none 0 0) (heap_set (o := 5) (v := .int .i64 m) (heap_set (o := 4) (v := .int .i64 f2) (heap_set (o := 3) (v := .int .i64 f1) (heap_set (o := 2) (v := .int .i64 f0) (heap_set (o := 1) (v := .int .i64 x) (heap_set (o := 0) (v := .int .i64 op) HL6.out.r)))))))
            refine bodyPost_ret (v := .agg #[.int .i64 op, .int .i64 x, .int .i64 f0, .int .i64 f1, .int .i64 f2, .int .i64 m, .slice none 0 0]) ((results_cell_row Tryz.results48 _ _ (w.heap.size + 1) 26 _ (0, 0) _ rfl hrr Tryz.underlying26 rfl (by kernel_rfl)).trans (by rfl)) rfl ⟨.inl ⟨_, HSo.out, ?_⟩, ?_⟩
            · rw [HMk.out]
              exact ⟨none, 0, rfl, Row.nil _ _⟩
            · exact (by repeat (first | refine Below.setCell ?_ (by dsimp only; omega) _ | exact HL6.out.below))
          · have HNo : Hid (_ = none) := HOF.out.trans (by unfold finN; rw [if_neg (by rintro (k | k); exact h26 k; exact hc k)])
            have HB6 : Hid (Below w.heap.size w w6) := HL6.out.below
            clear hc h26
            go_wp2_with fail
            exact ⟨rfl, .inr ⟨HNo.out, rfl⟩, HB6.out⟩
    | false =>
      have HOF : Hid (ofNums op (x :: r) = finN op x 0 r) := by show _ = _; simp [ofNums, him]
      have hlr : r.length ≤ 1048576 := by omega
      have P := immZ (w.heap.size + 2) op w3 him
      clear him
      go_wp2_with fail
      refine P.mono ?_
      rintro e w9 ⟨rfl, h9⟩
      have h8 := h9.symm
      clear h9
      subst h8
      clear P
      go_wp2_with fail
      refine (restI (w.heap.size + 2) r w3 HRw3.out hlr).mono ?_
      rintro e w5 ⟨v5, rfl, hR5, ho5⟩
      obtain ⟨u5, c5, rfl⟩ := hR5.slice
      have HL5 : Hid (Ls w w5) := HL3.out.only ho5
      have HR5 : Hid (Row w5 w3.heap.size _ r) := hR5
      have hW5 : w.heap.size + 3 ≤ w3.heap.size := HL3.out.size
      clear hR5 ho5 HRw3
      by_cases h26 : op = 26
      · subst h26
        have HSo : Hid (_ = some (mkD 26 x 0 r)) := HOF.out.trans (by unfold finN; rw [if_pos (.inl rfl)])
        have P := instOf26 x 0 u5 c5 r w5
        go_wp2_with fail
        refine P.mono ?_
        rintro e w6 ⟨rfl, b6⟩
        have HL6 : Hid (Ls w w6) := HL5.out.keep b6
        have HR6 : Hid (Row w6 w3.heap.size _ r) := Row.keep HR5.out b6
        clear P b6 HL5 HR5
        have z0 : w6.cell? ⟨w.heap.size + 1, 0, none⟩ = some (.int .i64 0) := HL6.out.r.cell 0
        have z1 : w6.cell? ⟨w.heap.size + 1, 1, none⟩ = some (.int .i64 0) := HL6.out.r.cell 1
        have z2 : w6.cell? ⟨w.heap.size + 1, 2, none⟩ = some (.int .i64 0) := HL6.out.r.cell 2
        have z3 : w6.cell? ⟨w.heap.size + 1, 3, none⟩ = some (.int .i64 0) := HL6.out.r.cell 3
        have z4 : w6.cell? ⟨w.heap.size + 1, 4, none⟩ = some (.int .i64 0) := HL6.out.r.cell 4
        have z5 : w6.cell? ⟨w.heap.size + 1, 5, none⟩ = some (.int .i64 0) := HL6.out.r.cell 5
        have z6 : w6.cell? ⟨w.heap.size + 1, 6, none⟩ = some (.slice none 0 0) := HL6.out.r.cell 6
        have zf : ∀ o, w6.frozen? ⟨w.heap.size + 1, o, none⟩ = false := fun o => froz_of_heap HL6.out.r
        have hsz := HL6.out.size
        go_wp2_with fail
        have hrr := (heap_set (o := 6) (v := .slice u5 r.length c5) (heap_set (o := 5) (v := .int .i64 0) (heap_set (o := 4) (v := .int .i64 0) (heap_set (o := 3) (v := .int .i64 0) (heap_set (o := 2) (v := .int .i64 0) (heap_set (o := 1) (v := .int .i64 x) (heap_set (o := 0) (v := .int .i64 26) HL6.out.r)))))))
        refine bodyPost_ret (v := .agg #[.int .i64 26, .int .i64 x, .int .i64 0, .int .i64 0, .int .i64 0, .int .i64 0, .slice u5 r.length c5]) ((results_cell_row Tryz.results48 _ _ (w.heap.size + 1) 26 _ (0, 0) _ rfl hrr Tryz.underlying26 rfl (by kernel_rfl)).trans (by rfl)) rfl ⟨.inl ⟨_, HSo.out, ?_⟩, ?_⟩
        · exact ⟨u5, c5, rfl, (row_set7 HR6.out (by omega)).low (by omega)⟩
        · exact (by repeat (first | refine Below.setCell ?_ (by dsimp only; omega) _ | exact HL6.out.below))
      · have P := instOfG op x 0 w3.heap.size u5 c5 r w5 a h26 hlr (by obtain ⟨q1, q2, q3, q4⟩ := HR5.out.ints (by omega); cases q3; exact q4) (HGV.out.keep HL5.out.below)
        go_wp2_with fail
        refine P.mono ?_
        rintro e w6 ⟨hc, b6⟩
        have HL6 : Hid (Ls w w6) := HL5.out.keep b6
        clear P b6 HL5 HR5
        rcases hc with ⟨hc, rfl⟩ | ⟨hc, rfl⟩
        · have HSo : Hid (_ = some (mkD op x 0 r)) := HOF.out.trans (by unfold finN; rw [if_pos (.inr hc)])
          have HMk : Hid (mkD op x 0 r = ⟨op, x, r.getD 0 0, r.getD 1 0, r.getD 2 0, 0, []⟩) := by show _ = _; unfold mkD; rw [if_neg h26]
          clear hc h26
          generalize r.getD 0 0 = f0 at HMk ⊢
          generalize r.getD 1 0 = f1 at HMk ⊢
          generalize r.getD 2 0 = f2 at HMk ⊢
          have z0 : w6.cell? ⟨w.heap.size + 1, 0, none⟩ = some (.int .i64 0) := HL6.out.r.cell 0
          have z1 : w6.cell? ⟨w.heap.size + 1, 1, none⟩ = some (.int .i64 0) := HL6.out.r.cell 1
          have z2 : w6.cell? ⟨w.heap.size + 1, 2, none⟩ = some (.int .i64 0) := HL6.out.r.cell 2
          have z3 : w6.cell? ⟨w.heap.size + 1, 3, none⟩ = some (.int .i64 0) := HL6.out.r.cell 3
          have z4 : w6.cell? ⟨w.heap.size + 1, 4, none⟩ = some (.int .i64 0) := HL6.out.r.cell 4
          have z5 : w6.cell? ⟨w.heap.size + 1, 5, none⟩ = some (.int .i64 0) := HL6.out.r.cell 5
          have z6 : w6.cell? ⟨w.heap.size + 1, 6, none⟩ = some (.slice none 0 0) := HL6.out.r.cell 6
          have zf : ∀ o, w6.frozen? ⟨w.heap.size + 1, o, none⟩ = false := fun o => froz_of_heap HL6.out.r
          have hsz := HL6.out.size
          go_wp2_with fail
          have hrr := (heap_set (o := 6) (v := .slice none 0 0) (heap_set (o := 5) (v := .int .i64 0) (heap_set (o := 4) (v := .int .i64 f2) (heap_set (o := 3) (v := .int .i64 f1) (heap_set (o := 2) (v := .int .i64 f0) (heap_set (o := 1) (v := .int .i64 x) (heap_set (o := 0) (v := .int .i64 op) HL6.out.r)))))))
          refine bodyPost_ret (v := .agg #[.int .i64 op, .int .i64 x, .int .i64 f0, .int .i64 f1, .int .i64 f2, .int .i64 0, .slice none 0 0]) ((results_cell_row Tryz.results48 _ _ (w.heap.size + 1) 26 _ (0, 0) _ rfl hrr Tryz.underlying26 rfl (by kernel_rfl)).trans (by rfl)) rfl ⟨.inl ⟨_, HSo.out, ?_⟩, ?_⟩
          · rw [HMk.out]
            exact ⟨none, 0, rfl, Row.nil _ _⟩
          · exact (by repeat (first | refine Below.setCell ?_ (by dsimp only; omega) _ | exact HL6.out.below))
        · have HNo : Hid (_ = none) := HOF.out.trans (by unfold finN; rw [if_neg (by rintro (k | k); exact h26 k; exact hc k)])
          have HB6 : Hid (Below w.heap.size w w6) := HL6.out.below
          clear hc h26
          go_wp2_with fail
          exact ⟨rfl, .inr ⟨HNo.out, rfl⟩, HB6.out⟩
end Go.Proofs.YtjmoonbpfieifaaGreatDoor
