/- What is alive: the sets when a block, and all of them, were gone through; without a program. -/
import Derived.Test.YtolaghondjfhdabGreatDoorLwGQ
import Derived.Test.YtolaghondjfhdabGreatDoorLvBQ
import Derived.Deep.LoopGhost
namespace Go.Proofs.YtolaghondjfhdabGreatDoor
open Go.RowKit
set_option linter.unusedVariables false

theorem afterI_other {F : Alive} {l : List InstD} {first : Nat} {s : List Int} {j : Nat} (hj : j < 21 + first ∨ 21 + first + l.length ≤ j) : ∀ m, m ≤ l.length → afterI F l first s m j = F j
  | 0, _ => rfl
  | m + 1, hm => by
    unfold afterI
    rw [updL_other _ (by omega)]
    exact afterI_other hj m (by omega)
theorem afterI_at {F : Alive} {l : List InstD} {first : Nat} {s : List Int} : ∀ m, m ≤ l.length → ∀ k, k < l.length → l.length ≤ k + m → afterI F l first s m (21 + (first + k)) = bkL l first s (l.length - 1 - k)
  | 0, _, k, h1, h2 => by omega
  | m + 1, hm, k, h1, h2 => by
    unfold afterI
    by_cases e : k = l.length - 1 - m
    · subst e
      rw [updL_same]
      congr 1
      omega
    · rw [updL_other _ (by omega)]
      exact afterI_at m (by omega) k h1 (by omega)
theorem afterP_other {F : Alive} {first : Nat} {s : List Int} {j : Nat} : ∀ n, (j < 21 + first ∨ 21 + first + n ≤ j) → afterP F first s n j = F j
  | 0, _ => rfl
  | n + 1, h => by
    unfold afterP
    rw [updL_other _ (by omega)]
    exact afterP_other n (by omega)
theorem afterP_at {F : Alive} {first : Nat} {s : List Int} : ∀ n i, i < n → afterP F first s n (21 + (first + i)) = s
  | 0, i, h => by omega
  | n + 1, i, h => by
    unfold afterP
    by_cases e : i = n
    · subst e; exact updL_same _ _ _
    · rw [updL_other _ (by omega)]
      exact afterP_at n i (by omega)
theorem thru_in (d : FuncD) (F : Alive) (b : Nat) : thruF d F b (1 + b) = inL d b (fun t => F (1 + t)) := updL_same _ _ _
theorem thru_ins (d : FuncD) (F : Alive) {b t : Nat} (hb : b < 10) (ht : t < 10) (h : t ≠ b) : thruF d F b (1 + t) = F (1 + t) := by
  unfold thruF
  rw [updL_other _ (by omega), afterP_other _ (by omega), afterI_other (by omega) _ (Nat.le_refl _), updL_other _ (by omega)]
theorem thru_out (d : FuncD) (F : Alive) {b : Nat} (hb : b < 10) : thruF d F b (11 + b) = outL d b (fun t => F (1 + t)) := by
  unfold thruF
  rw [updL_other _ (by omega), afterP_other _ (by omega), afterI_other (by omega) _ (Nat.le_refl _), updL_same]
theorem thru_outs (d : FuncD) (F : Alive) {b t : Nat} (hb : b < 10) (ht : t < 10) (h : t ≠ b) : thruF d F b (11 + t) = F (11 + t) := by
  unfold thruF
  rw [updL_other _ (by omega), afterP_other _ (by omega), afterI_other (by omega) _ (Nat.le_refl _), updL_other _ (by omega)]
theorem thru_after (d : FuncD) (F : Alive) {b k : Nat} (hb : b < 10) (hk : k < (blkN d b).insts.length) : thruF d F b (21 + (firstN d b + (blkN d b).phis.length + k)) = backL d b (outL d b (fun t => F (1 + t))) ((blkN d b).insts.length - 1 - k) := by
  unfold thruF
  rw [updL_other _ (by omega), afterP_other _ (by omega), afterI_at _ (Nat.le_refl _) k hk (by omega)]
  rfl
theorem thru_phis (d : FuncD) (F : Alive) {b i : Nat} (hb : b < 10) (hi : i < (blkN d b).phis.length) : thruF d F b (21 + (firstN d b + i)) = backL d b (outL d b (fun t => F (1 + t))) (blkN d b).insts.length := by
  unfold thruF
  rw [updL_other _ (by omega), afterP_at _ i hi]
theorem thru_other (d : FuncD) (F : Alive) {b j : Nat} (hb : b < 10) (h : j < firstN d b ∨ firstN d b + (blkN d b).phis.length + (blkN d b).insts.length ≤ j) : thruF d F b (21 + j) = F (21 + j) := by
  unfold thruF
  rw [updL_other _ (by omega), afterP_other _ (by omega), afterI_other (by omega) _ (Nat.le_refl _), updL_other _ (by omega)]
/-! What is alive at an end hangs on the blocks that there are alone. -/
theorem out_ext {d : FuncD} (hR : RightL d.blocks) {b : Nat} (hb : b < d.blocks.length) {I J : Alive} (h : ∀ t, t < d.blocks.length → I t = J t) : outL d b I = outL d b J := by
  have h2 : ∀ (l : List Nat) (s : List Int), (∀ t ∈ l, t < d.blocks.length) → l.foldl (outStep d b I) s = l.foldl (outStep d b J) s := by
    intro l
    induction l with
    | nil => intro s _; rfl
    | cons t r ih =>
      intro s hl
      show r.foldl (outStep d b I) (outStep d b I s t) = r.foldl (outStep d b J) (outStep d b J s t)
      have e : outStep d b I s t = outStep d b J s t := by unfold outStep; rw [h t (hl t (by simp))]
      rw [e]
      exact ih _ (fun u hu => hl u (by simp [hu]))
  exact h2 _ _ (fun t ht => succ_ltL hR hb t ht)
theorem in_ext {d : FuncD} (hR : RightL d.blocks) {b : Nat} (hb : b < d.blocks.length) {I J : Alive} (h : ∀ t, t < d.blocks.length → I t = J t) : inL d b I = inL d b J := by
  unfold inL
  rw [out_ext hR hb h]
/-- What the sets of a block are when it was gone through with I. -/
structure ToldB (d : FuncD) (I F : Alive) (b : Nat) : Prop where
  out : F (11 + b) = outL d b I
  after : ∀ k, k < (blkN d b).insts.length → F (21 + (firstN d b + (blkN d b).phis.length + k)) = backL d b (outL d b I) ((blkN d b).insts.length - 1 - k)
  phis : ∀ i, i < (blkN d b).phis.length → F (21 + (firstN d b + i)) = backL d b (outL d b I) (blkN d b).insts.length
theorem first_next {d : FuncD} {b : Nat} (hb : b < d.blocks.length) : firstN d (b + 1) = firstN d b + ((blkN d b).phis.length + (blkN d b).insts.length) := by
  have h1 := cntL_take d.blocks b hb
  unfold firstN blkN
  unfold cntB at h1
  omega
theorem first_mono {d : FuncD} {a b : Nat} (h : a ≤ b) (hb : b ≤ d.blocks.length) : firstN d a ≤ firstN d b := by
  induction b with
  | zero => have : a = 0 := by omega
            subst this; exact Nat.le_refl _
  | succ b ih =>
    rcases Nat.lt_or_ge a (b + 1) with h2 | h2
    · have h3 := ih (by omega) (by omega)
      have h4 := first_next (d := d) (b := b) (by omega)
      omega
    · have : a = b + 1 := by omega
      subst this; exact Nat.le_refl _
theorem ToldB.thru {d : FuncD} (hR : RightL d.blocks) {I F : Alive} {b : Nat} (hb : b < d.blocks.length) (h : ∀ t, t < d.blocks.length → F (1 + t) = I t) : ToldB d I (thruF d F b) b := by
  have h10 := hR.2.1
  have e := out_ext hR hb h
  exact ⟨by rw [thru_out d F (by omega), e], fun k hk => by rw [thru_after d F (by omega) hk, e], fun i hi => by rw [thru_phis d F (by omega) hi, e]⟩
theorem ToldB.keep {d : FuncD} (hR : RightL d.blocks) {I F : Alive} {a b : Nat} (ha : a < d.blocks.length) (hb : b < d.blocks.length) (hn : a ≠ b) (h : ToldB d I F a) : ToldB d I (thruF d F b) a := by
  have h10 := hR.2.1
  have n1 := first_next ha
  have n2 := first_next hb
  have hfar : ∀ j, firstN d a ≤ j → j < firstN d a + (blkN d a).phis.length + (blkN d a).insts.length → j < firstN d b ∨ firstN d b + (blkN d b).phis.length + (blkN d b).insts.length ≤ j := fun j h1 h2 => by
    rcases Nat.lt_or_ge a b with h3 | h3
    · have := first_mono (d := d) (a := a + 1) (b := b) (by omega) (by omega)
      omega
    · have := first_mono (d := d) (a := b + 1) (b := a) (by omega) (by omega)
      omega
  refine ⟨by rw [thru_outs d F (by omega) (by omega) hn]; exact h.out, fun k hk => ?_, fun i hi => ?_⟩
  · rw [thru_other d F (by omega) (hfar _ (by omega) (by omega))]
    exact h.after k hk
  · rw [thru_other d F (by omega) (hfar _ (by omega) (by omega))]
    exact h.phis i hi
end Go.Proofs.YtolaghondjfhdabGreatDoor
namespace Go.Proofs.YtolaghondjfhdabGreatDoor
open Go.RowKit
set_option linter.unusedVariables false

/-- The sets of all blocks, in a block of slices that is written into. -/
def InsB (w : World) (gi n : Nat) (I : Alive) : Prop := ∃ cur, w.heap[gi]? = some (.cells cur 22 (0, 0)) ∧ cur.size = n ∧ ∀ t, t < n → ∃ a c, cur[t]? = some (.slice a (I t).length c) ∧ IntsAt w (gi + 1) a (I t)
theorem InsB.lt {w : World} {gi n : Nat} {I : Alive} (h : InsB w gi n I) : gi < w.heap.size := by
  obtain ⟨cur, h1, _⟩ := h
  exact (Array.getElem?_eq_some_iff.1 h1).1
theorem InsB.at {w : World} {gi n : Nat} {I : Alive} (h : InsB w gi n I) : InsAt w gi (gi + 1) n I := by
  refine ⟨h.lt, fun t ht => ?_⟩
  obtain ⟨cur, h1, h2, h3⟩ := h
  obtain ⟨a, c, h4, h5⟩ := h3 t ht
  exact ⟨a, c, (cell_of_heap h1).trans h4, h5⟩
theorem InsB.below {w w' : World} {gi n : Nat} {I : Alive} (h : InsB w gi n I) (k : Below w.heap.size w w') : InsB w' gi n I := by
  have hl := h.lt
  obtain ⟨cur, h1, h2, h3⟩ := h
  exact ⟨cur, (k.block gi hl).trans h1, h2, fun t ht => by
    obtain ⟨a, c, h4, h5⟩ := h3 t ht
    exact ⟨a, c, h4, h5.keep (agree_of_below k _)⟩⟩
theorem InsB.froz {w : World} {gi n : Nat} {I : Alive} (h : InsB w gi n I) (o : Nat) : w.frozen? ⟨gi, o, none⟩ = false := by
  obtain ⟨cur, h1, _⟩ := h
  exact froz_of_heap h1
theorem InsB.set {w : World} {gi n : Nat} {I : Alive} (h : InsB w gi n I) {b : Nat} (hb : b < n) {v : Value} {l : List Int} (hv : SlAt w (gi + 1) v l) : InsB (w.setCell ⟨gi, b, none⟩ v) gi n (updL I b l) := by
  obtain ⟨cur, h1, h2, h3⟩ := h
  refine ⟨cur.setIfInBounds b v, heap_set h1, by simpa using h2, fun t ht => ?_⟩
  have hag := agree_setCell w gi b (gi + 1) v (by omega)
  by_cases e : t = b
  · subst e
    obtain ⟨g, o, c, rfl, _, _, hi⟩ := hv
    exact ⟨some ⟨g, o, none⟩, c, by rw [updL_same]; simp [h2, ht], by rw [updL_same]; exact hi.keep hag⟩
  · obtain ⟨a, c, h4, h5⟩ := h3 t ht
    exact ⟨a, c, by rw [updL_other _ e, Array.getElem?_setIfInBounds_ne (by omega)]; exact h4, by rw [updL_other _ e]; exact h5.keep hag⟩
theorem infoSl : (Tryz.prog.info? 22).map (fun i => (i.zero, i.size, i.bytes)) = some (some (.slice none 0 0), 1, 24) := by kernel_rfl
theorem InsB.start (w : World) (n : Nat) : InsB (w.alloc (.cells (madeCells #[Value.slice none 0 0] n) 22)) w.heap.size n (fun _ => []) := by
  refine ⟨_, heap_alloc_last w _, by simp [size_madeCells], fun t ht => ⟨none, 0, ?_, ⟨by simp, .inl rfl⟩⟩⟩
  have e := toList_madeCells_one (Value.slice none 0 0) n
  rw [← Array.getElem?_toList, e]
  simp [ht]
/-- A round so far: m blocks of the last ones gone through. -/
structure RdAt (d : FuncD) (I : Alive) (m : Nat) (mo : Bool) : Prop where
  no : mo = false → rdL d I m = I ∧ ∀ j, j < m → inL d (d.blocks.length - 1 - j) I = I (d.blocks.length - 1 - j)
  yes : mo = true → allL I d.blocks.length < allL (rdL d I m) d.blocks.length
theorem RdAt.start (d : FuncD) (I : Alive) : RdAt d I 0 false := ⟨fun _ => ⟨rfl, fun j hj => by omega⟩, fun h => (by cases h)⟩
theorem RdAt.same {d : FuncD} {I : Alive} {m : Nat} {mo : Bool} (hF : LvF d) (hG : Grows d I) (h : RdAt d I m mo) (hm : m < d.blocks.length) (hl : (inL d (d.blocks.length - 1 - m) (rdL d I m)).length = (rdL d I m (d.blocks.length - 1 - m)).length) : rdL d I (m + 1) = rdL d I m ∧ RdAt d I (m + 1) mo := by
  have hg := hG.rd hF m (by omega)
  have e : rdL d I (m + 1) = rdL d I m := hg.step_id hF (by omega) hl
  refine ⟨e, fun h0 => ?_, fun h1 => by rw [e]; exact h.yes h1⟩
  obtain ⟨h2, h3⟩ := h.no h0
  refine ⟨e.trans h2, fun j hj => ?_⟩
  by_cases hjm : j = m
  · subst hjm
    have := hg.same hF (b := d.blocks.length - 1 - j) (by omega) hl
    rw [h2] at this
    exact this
  · exact h3 j (by omega)
theorem RdAt.more {d : FuncD} {I : Alive} {m : Nat} {mo : Bool} (hF : LvF d) (hG : Grows d I) (h : RdAt d I m mo) (hm : m < d.blocks.length) (hl : (inL d (d.blocks.length - 1 - m) (rdL d I m)).length ≠ (rdL d I m (d.blocks.length - 1 - m)).length) : RdAt d I (m + 1) true := by
  have hg := hG.rd hF m (by omega)
  obtain ⟨_, h2⟩ := hg.all_step hF (b := d.blocks.length - 1 - m) (by omega)
  have h3 := h2 hl
  refine ⟨fun h0 => (by cases h0), fun _ => ?_⟩
  show allL I _ < allL (stepL d (rdL d I m) (d.blocks.length - 1 - m)) _
  cases mo with
  | false => rw [(h.no rfl).1] at h3 ⊢; exact h3
  | true => have := h.yes rfl; omega
theorem rd_up (d : FuncD) (I : Alive) (m : Nat) : updL (rdL d I m) (d.blocks.length - 1 - m) (inL d (d.blocks.length - 1 - m) (rdL d I m)) = rdL d I (m + 1) := rfl
theorem RdAt.fix {d : FuncD} {I : Alive} (h : RdAt d I d.blocks.length false) : ∀ b, b < d.blocks.length → inL d b I = I b := fun b hb => by
  have := (h.no rfl).2 (d.blocks.length - 1 - b) (by omega)
  rw [show d.blocks.length - 1 - (d.blocks.length - 1 - b) = b by omega] at this
  exact this
set_option maxHeartbeats 8000000 in
set_option maxRecDepth 100000 in
theorem insZ (lo : Nat) (d : FuncD) (u0 : Option Addr) (c0 : Nat) (u2 : Option Addr) (c2 : Nat) (w : World) (hs : SmFunc d) (hF : LvF d) (k2 : BlocksAt w lo u2 d.blocks) :
    Calls Tryz.prog 28 #[.agg #[.slice u0 d.params.length c0, .int .i64 d.ret, .slice u2 d.blocks.length c2]] w fun e w' => ∃ gi, e = .returned (.slice (some ⟨gi, 0, none⟩) d.blocks.length d.blocks.length) ∧ ∃ I, Fix d I ∧ Grows d I ∧ w.heap.size ≤ gi ∧ InsB w' gi d.blocks.length I ∧ Below w.heap.size w w' := by
  have hc60 := hF.cnt
  have HF : Hid (LvF d) := hF
  have HK : Hid (BlocksAt w lo u2 d.blocks) := k2
  have HSM : Hid (SmFunc d) := hs
  have hbl : d.blocks.length ≤ 10 := hF.right.2.1
  obtain ⟨i0, hi, hz0, hz1, hz2⟩ := info_parts infoSl
  have hmk := mk_any (t := 58) d.blocks.length Tryz.underlying58 hi hz0 hz1 hz2 (by omega) (by omega)
  have hmk : ∀ W, (Instr.makeSlice 58 (.int .i64 (d.blocks.length : Int)) (.int .i64 (d.blocks.length : Int))).run Tryz.prog W = .ok (.slice (some ⟨W.heap.size, 0, none⟩) d.blocks.length d.blocks.length) (W.alloc (.cells (madeCells #[Value.slice none 0 0] d.blocks.length) 22)) := fun W => by have := hmk W; rw [Nat.mul_one] at this; exact this
  clear hi hz0 hz1 hz2 hF hs k2
  have A0 := At.new w #[.slice u0 d.params.length c0, .int .i64 d.ret, .slice u2 d.blocks.length c2] 30
  have B0 : Below w.heap.size w (w.alloc (.cells #[.slice u0 d.params.length c0, .int .i64 d.ret, .slice u2 d.blocks.length c2] 30)) := (Below.refl _ _).alloc (Nat.le_refl _) _
  have A1 := A0.below ((Below.refl _ _).alloc (Nat.le_refl _) (.cells (madeCells #[Value.slice none 0 0] d.blocks.length) 22))
  have B1 := B0.alloc B0.size (.cells (madeCells #[Value.slice none 0 0] d.blocks.length) 22)
  have N1 := InsB.start (w.alloc (.cells #[.slice u0 d.params.length c0, .int .i64 d.ret, .slice u2 d.blocks.length c2] 30)) d.blocks.length
  have hz1 : (w.alloc (.cells #[.slice u0 d.params.length c0, .int .i64 d.ret, .slice u2 d.blocks.length c2] 30)).heap.size = w.heap.size + 1 := by simp
  rw [hz1] at N1
  go_enter Tryz.func28, Tryz.ntmps28
  go_wp2_with fail
  generalize ((w.alloc (.cells #[.slice u0 d.params.length c0, .int .i64 d.ret, .slice u2 d.blocks.length c2] 30)).alloc (.cells (madeCells #[Value.slice none 0 0] d.blocks.length) 22)) = W at A1 B1 N1 ⊢
  clear A0 B0 hmk hz1
  go_loopg [4] 700 (fun gk more wr => ∃ (k : Nat) (I : Alive) (mo : Bool), more = .bool mo ∧ Hid (I = iterL d k) ∧ Hid (InsB wr (w.heap.size + 1) d.blocks.length I) ∧ Hid (At wr w.heap.size #[.slice u0 d.params.length c0, .int .i64 d.ret, .slice u2 d.blocks.length c2] 30) ∧ Hid (Below w.heap.size w wr) ∧ Hid (mo = false → ∀ b, b < d.blocks.length → inL d b I = I b) ∧ Hid (mo = true → 602 ≤ gk + allL I d.blocks.length))
  case atStart => exact ⟨0, fun _ => [], true, rfl, rfl, N1, A1, B1, fun h => (by cases h), fun _ => (by show 602 ≤ 700 + _; omega)⟩
  case round =>
    obtain ⟨k, I, mo, rfl, HI, HN, HA, HB, HM0, HM1⟩ := hrel
    clear A1 B1 N1
    have HG : Hid (Grows d I) := by show Grows d I; rw [HI.out]; exact Grows.iter HF.out k
    cases mo with
    | false =>
      have HFX : Hid (Fix d I) := ⟨⟨k, HI.out⟩, HM0.out rfl⟩
      go_wp2_with fail
      go_ret
      exact ⟨w.heap.size + 1, rfl, I, HFX.out, HG.out, by omega, HN.out, HB.out⟩
    | true =>
      have hall := allL_le HG.out hc60 d.blocks.length
      have hgk := HM1.out rfl
      obtain ⟨wo, hwo⟩ : ∃ wo, wo = wr := ⟨_, rfl⟩
      subst hwo
      have a2 : wo.cell? ⟨w.heap.size, 2, none⟩ = some (.slice u2 d.blocks.length c2) := (HA.out.cell 2).trans rfl
      clear HM0 HM1
      go_wp2_with fail
      go_loopw [4, 5] (fun more i wr => ∃ (m : Nat) (mo : Bool), m ≤ d.blocks.length ∧ i = .int .i64 ((d.blocks.length : Int) - 1 - m) ∧ more = .bool mo ∧ Hid (RdAt d I m mo) ∧ Hid (InsB wr (w.heap.size + 1) d.blocks.length (rdL d I m)) ∧ Hid (At wr w.heap.size #[.slice u0 d.params.length c0, .int .i64 d.ret, .slice u2 d.blocks.length c2] 30) ∧ Hid (Below w.heap.size w wr)) (fun _ i _ => (intOf i + 1).toNat)
      case atStart => exact ⟨0, false, by omega, by simp, rfl, RdAt.start d I, HN, HA, HB⟩
      case round =>
        obtain ⟨m, mo, hm, rfl, rfl, HR, HNr, HAr, HBr⟩ := hrel
        obtain ⟨wp, hwp⟩ : ∃ wp, wp = wr := ⟨_, rfl⟩
        subst hwp
        clear a2
        by_cases hlt : m < d.blocks.length
        · have HJ : Hid ((d.blocks.length : Int) - 1 - m = ((d.blocks.length - 1 - m : Nat) : Int)) := by show _ = _; omega
          have hbn : d.blocks.length - 1 - m < d.blocks.length := by omega
          have HGm : Hid (Grows d (rdL d I m)) := HG.out.rd HF.out m hm
          have HSAME : Hid ((inL d (d.blocks.length - 1 - m) (rdL d I m)).length = (rdL d I m (d.blocks.length - 1 - m)).length → rdL d I (m + 1) = rdL d I m ∧ RdAt d I (m + 1) mo) := fun h => HR.out.same HF.out HG.out hlt h
          have HMORE : Hid ((inL d (d.blocks.length - 1 - m) (rdL d I m)).length ≠ (rdL d I m (d.blocks.length - 1 - m)).length → RdAt d I (m + 1) true) := fun h => HR.out.more HF.out HG.out hlt h
          have HUP : Hid (updL (rdL d I m) (d.blocks.length - 1 - m) (inL d (d.blocks.length - 1 - m) (rdL d I m)) = rdL d I (m + 1)) := rd_up d I m
          rw [HJ.out]
          generalize d.blocks.length - 1 - m = b at *
          generalize hI' : rdL d I m = I' at *
          have hIf := HGm.out.fine
          have KB := HK.out.keep (agree_of_below HBr.out lo)
          have lA := HAr.out.lt
          have hgiw : w.heap.size + 1 < wp.heap.size := HNr.out.lt
          have c0' : wp.cell? ⟨w.heap.size, 0, none⟩ = some (.slice u0 d.params.length c0) := (HAr.out.cell 0).trans rfl
          have c1' : wp.cell? ⟨w.heap.size, 1, none⟩ = some (.int .i64 d.ret) := (HAr.out.cell 1).trans rfl
          have c2' : wp.cell? ⟨w.heap.size, 2, none⟩ = some (.slice u2 d.blocks.length c2) := (HAr.out.cell 2).trans rfl
          have PO := fun V (h : Below wp.heap.size wp V) => outZ lo d u0 c0 u2 c2 b (w.heap.size + 1) (w.heap.size + 1 + 1) d.blocks.length I' V HSM.out HF.out hbn (HNr.out.at.below h) hIf (KB.keep (agree_of_below h lo))
          have PB := fun V (h : Below wp.heap.size wp V) lz v s (hlz : lz ≤ V.heap.size) (hv : SlAt V lz v s) (hf : Fine (cntF d) s) => backZ lo lz d u0 c0 u2 c2 b 0 v s V HSM.out HF.out hbn (by omega) hlz hv hf (KB.keep (agree_of_below h lo))
          have hOf := HF.out.out hbn hIf
          clear hI'
          go_wp2_with fail
          refine wp_region_held_drew (S := fun w' => Below wp.heap.size wp w') (by kernel_rfl) ((Below.refl _ _).drew) (fun hHeld => ?_)
          refine wpAnyH_take (i := 0) (v := ?_) rfl (by kernel_rfl) (by kernel_rfl) (by kernel_rfl) (fun _ _ _ h => h) (Or.inl ⟨by rfl, ?_⟩) hHeld ?_
          rotate_left
          · intro w9 hS9
            have g0 := (bcell hS9 w.heap.size 0 lA).trans c0'
            have g1 := (bcell hS9 w.heap.size 1 lA).trans c1'
            have g2 := (bcell hS9 w.heap.size 2 lA).trans c2'
            go_simp
            try with_reducible rfl
          show wpAnyH _ _ _ _ _ _ _ (Act.put _ (some _) _) _
          simp only [Act.put, List.setIfInBounds_toArray, List.set_cons_zero, List.set_cons_succ]
          refine wpAnyH_take (i := 1) (v := ?_) rfl (by kernel_rfl) (by kernel_rfl) (by kernel_rfl) (fun _ _ _ h => h) (Or.inl ⟨by rfl, ?_⟩) hHeld ?_
          rotate_left
          · intro w9 hS9
            go_simp
            try with_reducible rfl
          show wpAnyH _ _ _ _ _ _ _ (Act.put _ (some _) _) _
          simp only [Act.put, List.setIfInBounds_toArray, List.set_cons_zero, List.set_cons_succ]
          refine wpAnyH_take (i := 2) (v := ?_) rfl (by kernel_rfl) (by kernel_rfl) (by kernel_rfl) (fun _ _ _ h => h) (Or.inl ⟨by rfl, ?_⟩) hHeld ?_
          rotate_left
          · intro w9 hS9
            have g0 := (bcell hS9 w.heap.size 0 lA).trans c0'
            have g1 := (bcell hS9 w.heap.size 1 lA).trans c1'
            have g2 := (bcell hS9 w.heap.size 2 lA).trans c2'
            go_simp
            try with_reducible rfl
          show wpAnyH _ _ _ _ _ _ _ (Act.put _ (some _) _) _
          simp only [Act.put, List.setIfInBounds_toArray, List.set_cons_zero, List.set_cons_succ]
          refine wpAnyH_take (i := 3) (v := ?_) rfl (by kernel_rfl) (by kernel_rfl) (by kernel_rfl) (fun _ _ _ h => h) (Or.inl ⟨by rfl, ?_⟩) hHeld ?_
          rotate_left
          · intro w9 hS9
            go_simp
            try with_reducible rfl
          show wpAnyH _ _ _ _ _ _ _ (Act.put _ (some _) _) _
          simp only [Act.put, List.setIfInBounds_toArray, List.set_cons_zero, List.set_cons_succ]
          refine wpAnyH_take (i := 4) (v := ?_) rfl (by kernel_rfl) (by kernel_rfl) (by kernel_rfl) (fun _ _ _ h => h) (Or.inl ⟨by rfl, ?_⟩) hHeld ?_
          rotate_left
          · intro w9 hS9
            go_simp
            try with_reducible rfl
          show wpAnyH _ _ _ _ _ _ _ (Act.put _ (some _) _) _
          simp only [Act.put, List.setIfInBounds_toArray, List.set_cons_zero, List.set_cons_succ]
          refine wpAnyH_ready (rs := [5]) (by kernel_rfl) (by simp) ?_
          refine AllReadyH.cons rfl (fun K hK => ?_) AllReadyH.nil
          go_simp
          go_wp2_with (go_at_call 53; refine (PO _ hHeld).mono ?_; rintro e v5 ⟨vo, rfl, sO, bb⟩; have bc := hHeld.trans (bb.mono hHeld.size))
          refine hK.out _ _ ?_ (fun hHeld2 => ?_)
          · exact bc
          clear hK K
          have hPrev := hHeld
          clear hHeld
          have hHeld := hHeld2
          clear hHeld2 bc
          try simp only [Act.put, List.setIfInBounds_toArray, List.set_cons_zero, List.set_cons_succ]
          have hzo : wp.heap.size ≤ v5.heap.size := hHeld.size
          have sO := sO.low (lo' := wp.heap.size) (by first | exact Nat.le_refl _ | exact hPrev.size)
          clear bb
          refine wpAnyH_ready (rs := [6]) (by kernel_rfl) (by simp) ?_
          refine AllReadyH.cons rfl (fun K hK => ?_) AllReadyH.nil
          go_simp
          go_wp2_with (go_at_call 52; refine (PB _ hHeld wp.heap.size vo _ hzo sO hOf).mono ?_; rintro e v6 ⟨vb, rfl, sb, bb⟩; have bc := hHeld.trans (bb.mono hHeld.size))
          refine hK.out _ _ ?_ (fun hHeld2 => ?_)
          · exact bc
          clear hK K
          have hPrev := hHeld
          clear hHeld
          have hHeld := hHeld2
          clear hHeld2 bc
          try simp only [Act.put, List.setIfInBounds_toArray, List.set_cons_zero, List.set_cons_succ]
          refine wpAnyH_take (i := 7) (v := ?_) rfl (by kernel_rfl) (by kernel_rfl) (by kernel_rfl) (fun _ _ _ h => h) (Or.inl ⟨by rfl, ?_⟩) hHeld ?_
          rotate_left
          · intro w9 hS9
            go_simp
            try with_reducible rfl
          show wpAnyH _ _ _ _ _ _ _ (Act.put _ (some _) _) _
          simp only [Act.put, List.setIfInBounds_toArray, List.set_cons_zero, List.set_cons_succ]
          refine wpAnyH_done (by kernel_rfl) ?_ _
          have HFS : Hid (SlAt v6 wp.heap.size vb (backL d b (outL d b I') (blkN d b).insts.length)) := by
            show SlAt _ _ _ _
            have := sb
            rw [Nat.sub_zero] at this
            exact this
          have HB6 : Hid (Below wp.heap.size wp v6) := hHeld
          have N6 := HNr.out.below hHeld
          have A6 := HAr.out.below hHeld
          have PF := firstS lo d u0 c0 u2 c2 b v6 HSM.out (KB.keep (agree_of_below hHeld lo)) (by omega)
          have hFN := first_le HF.out (b := b) (by omega)
          have HBK : Hid (Fine (cntF d) (backL d b (outL d b I') (blkN d b).insts.length)) := HF.out.back hbn hOf (Nat.le_refl _)
          have HIN : Hid (inL d b I' = phL (firstN d b) (backL d b (outL d b I') (blkN d b).insts.length) (blkN d b).phis.length) := rfl
          have K6 := HK.out.keep (agree_of_below (HBr.out.trans (hHeld.mono HBr.out.size)) lo)
          obtain ⟨g2, o2, rfl, hl2, hg2, ⟨pv, pc, p0, pm⟩, _⟩ := blk_cell K6 hbn
          have hpn : (blkN d b).phis.length ≤ 1048576 := (HSM.out.2.2 _ (getD_mem block0 d.blocks b hbn)).1.1
          clear hHeld hPrev sb PO PB sO KB pm
          generalize backL d b (outL d b I') (blkN d b).insts.length = S0 at *
          generalize firstN d b = F at *
          generalize (blkN d b).phis.length = np at *
          generalize inL d b I' = NI at *
          clear c0' c1' c2'
          have f0 : v6.cell? ⟨w.heap.size, 0, none⟩ = some (.slice u0 d.params.length c0) := (A6.cell 0).trans rfl
          have f1 : v6.cell? ⟨w.heap.size, 1, none⟩ = some (.int .i64 d.ret) := (A6.cell 1).trans rfl
          have f2 : v6.cell? ⟨w.heap.size, 2, none⟩ = some (.slice (some ⟨g2, o2, none⟩) d.blocks.length c2) := (A6.cell 2).trans rfl
          go_wp2_with fail
          refine PF.mono ?_
          rintro e v7 ⟨rfl, b7⟩
          have HB7 : Hid (Below wp.heap.size wp v7) := HB6.out.trans (b7.mono HB6.out.size)
          have HS7 : Hid (SlAt v7 wp.heap.size vb S0) := HFS.out.below b7
          have A7 := A6.below b7
          have p07 := (cell_block (b7.block g2 hg2)).trans p0
          have hg7 : g2 < v7.heap.size := Nat.lt_of_lt_of_le hg2 b7.size
          have HN7 : Hid (InsB v7 (w.heap.size + 1) d.blocks.length I') := N6.below b7
          have f27 : v7.cell? ⟨w.heap.size, 2, none⟩ = some (.slice (some ⟨g2, o2, none⟩) d.blocks.length c2) := (A7.cell 2).trans rfl
          clear f0 f1 f2 A6 N6 PF b7 p0 HFS HB6 K6
          go_wp2_with fail
          go_loopw [6, 8] (fun st i wr => ∃ n : Nat, n ≤ np ∧ i = .int .i64 n ∧ Hid (SlAt wr wp.heap.size st (phL F S0 n)) ∧ Hid (Below v7.heap.size v7 wr)) (fun _ i _ => np - (intOf i).toNat)
          case atStart => exact ⟨0, by omega, rfl, HS7, Below.refl _ _⟩
          case round =>
            obtain ⟨n, hn, rfl, HX, HBn⟩ := hrel
            clear f27
            have f2n : wr.cell? ⟨w.heap.size, 2, none⟩ = some (.slice (some ⟨g2, o2, none⟩) d.blocks.length c2) := ((A7.below HBn.out).cell 2).trans rfl
            have p0n := (cell_block (HBn.out.block g2 hg7)).trans p07
            have hfin := Fine.ph F HBK.out n
            have hfl := hfin.len
            by_cases hnl : n < np
            · have HFj : Hid (((F + n : Nat) : Int) = (F : Int) + (n : Int)) := by show _ = _; push_cast; rfl
              have PL := lessV wp.heap.size u6 (phL F S0 n) ((F + n : Nat) : Int) wr (by omega) HX.out
              rw [HFj.out] at PL
              go_wp2_with fail
              refine PL.mono ?_
              rintro e v8 ⟨vl, rfl, s8, b8⟩
              rw [← HFj.out] at s8
              have HX8 : Hid (SlAt v8 wp.heap.size vl (phL F S0 (n + 1))) := s8.low (by have := HBn.out.size; have := HB7.out.size; omega)
              have HB8 : Hid (Below v7.heap.size v7 v8) := HBn.out.trans (b8.mono HBn.out.size)
              clear s8 b8 PL
              go_wp2_with fail
              go_roundw
              case rel => exact ⟨n + 1, by omega, by go_num, HX8, HB8⟩
              case measure => simp [intOf]; omega
            · have hne : n = np := by omega
              have HXE : Hid (SlAt wr wp.heap.size u6 NI) := by
                show SlAt _ _ _ _
                rw [HIN.out, ← hne]
                exact HX.out
              clear hne
              have HBE : Hid (Below wp.heap.size wp wr) := HB7.out.trans (HBn.out.mono HB7.out.size)
              have NE := HN7.out.below HBn.out
              have AE := HAr.out.below HBE.out
              have BE : Below w.heap.size w wr := HBr.out.trans (HBE.out.mono HBr.out.size)
              obtain ⟨aI, cI, e5, _⟩ := NE.at.2 b hbn
              have fz := NE.froz b
              have HNE : Hid (InsB wr (w.heap.size + 1) d.blocks.length I') := NE
              have HAE : Hid (At wr w.heap.size #[.slice u0 d.params.length c0, .int .i64 d.ret, .slice (some ⟨g2, o2, none⟩) d.blocks.length c2] 30) := AE
              have HBW : Hid (Below w.heap.size w wr) := BE
              have HSG : Hid (SlAt wr (w.heap.size + 1 + 1) u6 NI) := HXE.out.low (by omega)
              obtain ⟨gx, ox, cx, rfl, hcx, _, _⟩ := HXE.out
              clear NE AE BE HXE HX hfin hfl
              by_cases hl : NI.length = (I' b).length
              · obtain ⟨hu, hR2⟩ := HSAME.out hl
                have HR2 : Hid (RdAt d I (m + 1) mo) := hR2
                have HN2 : Hid (InsB wr (w.heap.size + 1) d.blocks.length (rdL d I (m + 1))) := by show InsB _ _ _ _; rw [hu]; exact HNE.out
                have hlI : ((NI.length : Int) == ((I' b).length : Int)) = true := by rw [hl]; simp
                have hlE : NI.length = (I' b).length := hl
                clear hu hR2
                rw [← hlE] at e5
                clear hl hlE hlI
                go_wp2_with fail
                go_roundw
                case rel => exact ⟨m + 1, mo, by omega, congrArg (Value.int .i64) (by have := HJ.out; push_cast; omega), rfl, HR2, HN2, HAE, HBW⟩
                case measure => simp [intOf]
              · have HR2 : Hid (RdAt d I (m + 1) true) := HMORE.out hl
                have hnl2 : ¬ (NI.length : Int) = ((I' b).length : Int) := by omega
                have HN2 : Hid (InsB (wr.setCell ⟨w.heap.size + 1, b, none⟩ (.slice (some ⟨gx, ox, none⟩) NI.length cx)) (w.heap.size + 1) d.blocks.length (rdL d I (m + 1))) := by
                  show InsB _ _ _ _
                  rw [← HUP.out]
                  exact HNE.out.set hbn HSG.out
                have HA2 : Hid (At (wr.setCell ⟨w.heap.size + 1, b, none⟩ (.slice (some ⟨gx, ox, none⟩) NI.length cx)) w.heap.size #[.slice u0 d.params.length c0, .int .i64 d.ret, .slice (some ⟨g2, o2, none⟩) d.blocks.length c2] 30) := HAE.out.setOther (by omega)
                have HB2 : Hid (Below w.heap.size w (wr.setCell ⟨w.heap.size + 1, b, none⟩ (.slice (some ⟨gx, ox, none⟩) NI.length cx))) := HBW.out.setCell (p := ⟨w.heap.size + 1, b, none⟩) (by show w.heap.size ≤ w.heap.size + 1; omega) _
                go_wp2_with fail
                go_roundw
                case rel => exact ⟨m + 1, true, by omega, congrArg (Value.int .i64) (by have := HJ.out; push_cast; omega), rfl, HR2, HN2, HA2, HB2⟩
                case measure => simp [intOf]
        · have hme : m = d.blocks.length := by omega
          have hno : (d.blocks.length : Int) - 1 - m < 0 := by omega
          have HN2 : Hid (InsB wp (w.heap.size + 1) d.blocks.length (iterL d (k + 1))) := by
            have := HNr.out
            rw [hme, HI.out] at this
            exact this
          have HR2 : Hid (RdAt d I d.blocks.length mo) := by rw [← hme]; exact HR
          have HE : Hid (rdL d I d.blocks.length = iterL d (k + 1)) := by show _ = _; rw [HI.out]; rfl
          have HM0 : Hid (mo = false → ∀ b, b < d.blocks.length → inL d b (iterL d (k + 1)) = iterL d (k + 1) b) := fun h => by
            subst h
            have h1 := HR2.out.fix
            rw [← HE.out, (HR2.out.no rfl).1]
            exact h1
          have HM1 : Hid (mo = true → 602 ≤ gk - 1 + allL (iterL d (k + 1)) d.blocks.length) := fun h => by
            have := HR2.out.yes h
            rw [HE.out] at this
            omega
          clear hme HR HNr
          go_wp2_with fail
          go_roundg (gk - 1)
          case measure => omega
          case rel => exact ⟨k + 1, iterL d (k + 1), mo, rfl, rfl, HN2, HAr, HBr, HM0, HM1⟩
end Go.Proofs.YtolaghondjfhdabGreatDoor
