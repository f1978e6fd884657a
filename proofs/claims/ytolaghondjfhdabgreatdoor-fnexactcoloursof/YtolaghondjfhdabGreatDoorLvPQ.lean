/- What is alive: the sets, round by round, without a program. -/
import Derived.Test.YtolaghondjfhdabGreatDoorGrgQ
import Derived.Test.YtolaghondjfhdabGreatDoorGrpQ
import Derived.Test.YtolaghondjfhdabGreatDoorFmDQ
import Derived.Test.YtolaghondjfhdabGreatDoorMemQ
import Derived.Laws.AppendOwnNone
import Derived.Deep.AppendLies
namespace Go.Proofs.YtolaghondjfhdabGreatDoor
open Go.RowKit
set_option linter.unusedVariables false

/-- Numbers that rise. -/
def Srt (l : List Int) : Prop := l.Pairwise (· < ·)
def sumL (a b : List Int) : List Int := b.foldl ins a
def lessL (a : List Int) (n : Int) : List Int := a.filter (fun x => x != n)
theorem mem_ins (l : List Int) (n x : Int) : x ∈ ins l n ↔ x = n ∨ x ∈ l := by
  induction l with
  | nil => simp [ins]
  | cons y r ih =>
    unfold ins
    split
    · simp only [List.mem_cons, ih]; constructor
      · rintro (h | h | h)
        · exact .inr (.inl h)
        · exact .inl h
        · exact .inr (.inr h)
      · rintro (h | h | h)
        · exact .inr (.inl h)
        · exact .inl h
        · exact .inr (.inr h)
    · split
      · rename_i h1 h2
        subst h2
        simp only [List.mem_cons]; constructor
        · exact fun h => .inr h
        · rintro (h | h)
          · exact .inl h
          · exact h
      · simp only [List.mem_cons]
theorem srt_ins {l : List Int} (n : Int) (h : Srt l) : Srt (ins l n) := by
  induction l with
  | nil => simp [ins, Srt]
  | cons y r ih =>
    have h1 := List.pairwise_cons.1 h
    unfold ins
    split
    · rename_i hy
      refine List.pairwise_cons.2 ⟨fun x hx => ?_, ih h1.2⟩
      rcases (mem_ins r n x).1 hx with e | e
      · omega
      · exact h1.1 x e
    · split
      · exact h
      · rename_i hy hn
        refine List.pairwise_cons.2 ⟨fun x hx => ?_, h⟩
        rcases List.mem_cons.1 hx with e | e
        · omega
        · have := h1.1 x e; omega
theorem mem_sumL (b : List Int) : ∀ (a : List Int) (x : Int), x ∈ sumL a b ↔ x ∈ a ∨ x ∈ b := by
  induction b with
  | nil => intro a x; simp [sumL]
  | cons y r ih =>
    intro a x
    show x ∈ sumL (ins a y) r ↔ _
    rw [ih, mem_ins, List.mem_cons]
    constructor
    · rintro ((h | h) | h)
      · exact .inr (.inl h)
      · exact .inl h
      · exact .inr (.inr h)
    · rintro (h | h | h)
      · exact .inl (.inr h)
      · exact .inl (.inl h)
      · exact .inr h
theorem srt_sumL (b : List Int) : ∀ {a : List Int}, Srt a → Srt (sumL a b) := by
  induction b with
  | nil => intro a h; exact h
  | cons y r ih => intro a h; exact ih (srt_ins y h)
theorem mem_lessL (a : List Int) (n x : Int) : x ∈ lessL a n ↔ x ∈ a ∧ x ≠ n := by simp [lessL]
theorem srt_lessL {a : List Int} (n : Int) (h : Srt a) : Srt (lessL a n) := h.filter _
/-- Sorted, below m: short. -/
theorem srt_len {l : List Int} {m : Nat} (h : Srt l) (hb : ∀ x ∈ l, 0 ≤ x ∧ x < m) : l.length ≤ m := by
  have h2 : ∀ (l : List Int) (a : Nat), Srt l → (∀ x ∈ l, (a : Int) ≤ x ∧ x < m) → l.length + a ≤ max m a := by
    intro l
    induction l with
    | nil => intro a _ _; simp; omega
    | cons y r ih =>
      intro a hs hx
      have h1 := List.pairwise_cons.1 hs
      have hy := hx y (by simp)
      have := ih (a + 1) h1.2 (fun x hxr => ⟨by have := h1.1 x hxr; push_cast; omega, (hx x (by simp [hxr])).2⟩)
      simp only [List.length_cons]
      omega
  have := h2 l 0 h (fun x hx => by have := hb x hx; simpa using this)
  omega
theorem srt_ext : ∀ {a b : List Int}, Srt a → Srt b → (∀ x ∈ a, x ∈ b) → a.length = b.length → a = b
  | [], [], _, _, _, _ => rfl
  | [], y :: b, _, _, _, h => by simp at h
  | x :: a, [], _, _, _, h => by simp at h
  | x :: a, y :: b, ha, hb, hs, hl => by
    have ha1 := List.pairwise_cons.1 ha
    have hb1 := List.pairwise_cons.1 hb
    have sub : ∀ z ∈ a, z ∈ b := fun z hz => by
      rcases List.mem_cons.1 (hs z (by simp [hz])) with e | e
      · exfalso
        have hxz := ha1.1 z hz
        rcases List.mem_cons.1 (hs x (by simp)) with e2 | e2
        · omega
        · have := hb1.1 x e2; omega
      · exact e
    have he := srt_ext ha1.2 hb1.2 sub (by simpa using hl)
    subst he
    rcases List.mem_cons.1 (hs x (by simp)) with e | e
    · rw [e]
    · exact absurd (ha1.1 x e) (by omega)

/-- What is alive at the beginnings, block by block. -/
abbrev Alive := Nat → List Int
def blkN (d : FuncD) (b : Nat) : BlockD := d.blocks.getD b block0
def predL (d : FuncD) (t : Nat) : List Int := ints (predN (succN d.blocks) d.blocks.length t)
def firstN (d : FuncD) (b : Nat) : Nat := d.params.length + cntL (d.blocks.take b)
/-- At which place among the ones that lead to t. -/
def atN (d : FuncD) (t b : Nat) : Nat := (predL d t).findIdx (fun x => x == (b : Int))
def phisL (k : Nat) (l : List PhiD) (s : List Int) : List Int := l.foldl (fun s p => ins s (p.ins.getD k 0)) s
def outStep (d : FuncD) (b : Nat) (I : Alive) (s : List Int) (t : Nat) : List Int := phisL (atN d t b) (blkN d t).phis (sumL s (I t))
def outL (d : FuncD) (b : Nat) (I : Alive) : List Int := (succN d.blocks b).foldl (outStep d b I) []
def termO (t : TermD) : List Int := if t.kind = 1 ∨ t.kind = 3 then [t.a] else []
def instL (id : Int) (i : InstD) (s : List Int) : List Int := sumL (lessL s id) (opsD i)
/-- The last m instructions gone back through. -/
def bkL (l : List InstD) (first : Nat) (s : List Int) : Nat → List Int
  | 0 => s
  | m + 1 => instL ((first + (l.length - 1 - m) : Nat) : Int) (l.getD (l.length - 1 - m) inst0) (bkL l first s m)
def phL (first : Nat) (s : List Int) : Nat → List Int
  | 0 => s
  | n + 1 => lessL (phL first s n) ((first + n : Nat) : Int)
/-- Alive ahead of the instructions from the m-th last on. -/
def backL (d : FuncD) (b : Nat) (s : List Int) (m : Nat) : List Int := bkL (blkN d b).insts (firstN d b + (blkN d b).phis.length) (sumL s (termO (blkN d b).term)) m
def inL (d : FuncD) (b : Nat) (I : Alive) : List Int := phL (firstN d b) (backL d b (outL d b I) (blkN d b).insts.length) (blkN d b).phis.length
def updL (I : Alive) (b : Nat) (l : List Int) : Alive := fun t => if t = b then l else I t
theorem updL_same (I : Alive) (b : Nat) (l : List Int) : updL I b l b = l := if_pos rfl
theorem updL_other {I : Alive} {b t : Nat} (l : List Int) (h : t ≠ b) : updL I b l t = I t := if_neg h
theorem updL_id (I : Alive) (b : Nat) : updL I b (I b) = I := funext fun t => by
  by_cases h : t = b
  · subst h; exact updL_same _ _ _
  · exact updL_other _ h
def stepL (d : FuncD) (I : Alive) (b : Nat) : Alive := updL I b (inL d b I)
/-- The last m blocks gone through. -/
def rdL (d : FuncD) (I : Alive) : Nat → Alive
  | 0 => I
  | m + 1 => stepL d (rdL d I m) (d.blocks.length - 1 - m)
def iterL (d : FuncD) : Nat → Alive
  | 0 => fun _ => []
  | k + 1 => rdL d (iterL d k) d.blocks.length

/-! More alive at the beginnings, more everywhere. -/
def Sub (I J : Alive) : Prop := ∀ b x, x ∈ I b → x ∈ J b
theorem phisL_mem (k : Nat) (l : List PhiD) : ∀ (s : List Int) (x : Int), x ∈ phisL k l s ↔ x ∈ s ∨ ∃ p ∈ l, p.ins.getD k 0 = x := by
  induction l with
  | nil => intro s x; simp [phisL]
  | cons p r ih =>
    intro s x
    show x ∈ phisL k r (ins s (p.ins.getD k 0)) ↔ _
    rw [ih, mem_ins]
    constructor
    · rintro ((h | h) | ⟨q, hq, e⟩)
      · exact .inr ⟨p, by simp, h.symm⟩
      · exact .inl h
      · exact .inr ⟨q, by simp [hq], e⟩
    · rintro (h | ⟨q, hq, e⟩)
      · exact .inl (.inr h)
      · rcases List.mem_cons.1 hq with e2 | e2
        · subst e2; exact .inl (.inl e.symm)
        · exact .inr ⟨q, e2, e⟩
theorem phisL_srt (k : Nat) (l : List PhiD) : ∀ {s : List Int}, Srt s → Srt (phisL k l s) := by
  induction l with
  | nil => intro s h; exact h
  | cons p r ih => intro s h; exact ih (srt_ins _ h)
theorem outStep_mono {d : FuncD} {b : Nat} {I J : Alive} (h : Sub I J) {s u : List Int} (hs : ∀ x ∈ s, x ∈ u) (t : Nat) : ∀ x ∈ outStep d b I s t, x ∈ outStep d b J u t := fun x hx => by
  unfold outStep at *
  rw [phisL_mem, mem_sumL] at *
  rcases hx with (hx | hx) | hx
  · exact .inl (.inl (hs x hx))
  · exact .inl (.inr (h t x hx))
  · exact .inr hx
theorem outL_mono {d : FuncD} {b : Nat} {I J : Alive} (h : Sub I J) : ∀ x ∈ outL d b I, x ∈ outL d b J := by
  have h2 : ∀ (l : List Nat) (s u : List Int), (∀ x ∈ s, x ∈ u) → ∀ x ∈ l.foldl (outStep d b I) s, x ∈ l.foldl (outStep d b J) u := by
    intro l
    induction l with
    | nil => intro s u hs x hx; exact hs x hx
    | cons t r ih => intro s u hs x hx; exact ih _ _ (outStep_mono h hs t) x hx
  exact h2 _ _ _ (fun x hx => hx)
theorem bkL_mono (l : List InstD) (first : Nat) {s u : List Int} (h : ∀ x ∈ s, x ∈ u) : ∀ m, ∀ x ∈ bkL l first s m, x ∈ bkL l first u m
  | 0 => h
  | m + 1 => fun x hx => by
    unfold bkL instL at *
    rw [mem_sumL, mem_lessL] at *
    rcases hx with hx | hx
    · exact .inl ⟨bkL_mono l first h m x hx.1, hx.2⟩
    · exact .inr hx
theorem phL_mono (first : Nat) {s u : List Int} (h : ∀ x ∈ s, x ∈ u) : ∀ n, ∀ x ∈ phL first s n, x ∈ phL first u n
  | 0 => h
  | n + 1 => fun x hx => by
    unfold phL at *
    rw [mem_lessL] at *
    exact ⟨phL_mono first h n x hx.1, hx.2⟩
theorem backL_mono {d : FuncD} {b : Nat} {s u : List Int} (h : ∀ x ∈ s, x ∈ u) (m : Nat) : ∀ x ∈ backL d b s m, x ∈ backL d b u m :=
  bkL_mono _ _ (fun x hx => by
    rw [mem_sumL] at *
    exact hx.imp (h x) id) m
theorem inL_mono {d : FuncD} {b : Nat} {I J : Alive} (h : Sub I J) : ∀ x ∈ inL d b I, x ∈ inL d b J :=
  phL_mono _ (backL_mono (outL_mono h) _) _

/-! Sorted, and below the number of ids. -/
def Rng (c : Nat) (s : List Int) : Prop := ∀ x ∈ s, 0 ≤ x ∧ x < c
def Fine (c : Nat) (s : List Int) : Prop := Srt s ∧ Rng c s
theorem Fine.nil (c : Nat) : Fine c [] := ⟨List.Pairwise.nil, fun x hx => by cases hx⟩
theorem Fine.len {c : Nat} {s : List Int} (h : Fine c s) : s.length ≤ c := srt_len h.1 h.2
theorem Fine.ins {c : Nat} {s : List Int} (h : Fine c s) {n : Int} (hn : 0 ≤ n ∧ n < c) : Fine c (ins s n) :=
  ⟨srt_ins n h.1, fun x hx => by
    rcases (mem_ins s n x).1 hx with e | e
    · rw [e]; exact hn
    · exact h.2 x e⟩
theorem Fine.sum {c : Nat} {s b : List Int} (h : Fine c s) (hb : Rng c b) : Fine c (sumL s b) :=
  ⟨srt_sumL b h.1, fun x hx => by
    rcases (mem_sumL b s x).1 hx with e | e
    · exact h.2 x e
    · exact hb x e⟩
theorem Fine.less {c : Nat} {s : List Int} (h : Fine c s) (n : Int) : Fine c (lessL s n) := ⟨srt_lessL n h.1, fun x hx => h.2 x ((mem_lessL s n x).1 hx).1⟩
/-- What is asked of a function: in its form, its phis as long as there are blocks that lead to them. -/
structure LvF (d : FuncD) : Prop where
  right : RightL d.blocks
  cnt : cntF d ≤ 60
  params : d.params.length ≤ 4
  ops : ∀ b, b < d.blocks.length → ∀ i ∈ (blkN d b).insts, Rng (cntF d) (opsD i)
  four : ∀ b, b < d.blocks.length → ∀ i ∈ (blkN d b).insts, (opsD i).length ≤ 4
  phis : ∀ b, b < d.blocks.length → ∀ p ∈ (blkN d b).phis, Rng (cntF d) p.ins ∧ p.ins.length = (predL d b).length
  term : ∀ b, b < d.blocks.length → Rng (cntF d) (termO (blkN d b).term)
theorem cntL_take_le (l : List BlockD) (k : Nat) : cntL (l.take k) ≤ cntL l := by
  have h := cntL_append (l.take k) (l.drop k)
  rw [List.take_append_drop] at h
  omega
theorem first_le {d : FuncD} (h : LvF d) {b : Nat} (hb : b ≤ d.blocks.length) : firstN d b ≤ 60 := by
  have := h.cnt
  have := cntL_take_le d.blocks b
  unfold cntF at this
  unfold firstN cntF at *
  omega
theorem succ_ltL {d : FuncD} (h : RightL d.blocks) {b : Nat} (hb : b < d.blocks.length) : ∀ t ∈ succN d.blocks b, t < d.blocks.length := fun t ht => by
  obtain ⟨x, hx, rfl⟩ := List.mem_map.1 ht
  have := h.2.2 b hb x hx
  omega
theorem mem_predL {d : FuncD} (h : RightL d.blocks) {b t : Nat} (hb : b < d.blocks.length) (ht : t ∈ succN d.blocks b) : (b : Int) ∈ predL d t := by
  unfold predL
  rw [mem_ints]
  unfold predN
  rw [List.mem_filter]
  exact ⟨List.mem_range.2 hb, by simpa using ht⟩
theorem atN_lt {d : FuncD} (h : RightL d.blocks) {b t : Nat} (hb : b < d.blocks.length) (ht : t ∈ succN d.blocks b) : atN d t b < (predL d t).length :=
  List.findIdx_lt_length_of_exists ⟨_, mem_predL h hb ht, by simp⟩
theorem Fine.phis {c k : Nat} {l : List PhiD} (hl : ∀ p ∈ l, Rng c p.ins ∧ k < p.ins.length) : ∀ {s : List Int}, Fine c s → Fine c (phisL k l s) := by
  induction l with
  | nil => intro s h; exact h
  | cons p r ih =>
    intro s h
    obtain ⟨h1, h2⟩ := hl p (by simp)
    exact ih (fun q hq => hl q (by simp [hq])) (h.ins (h1 _ (getD_mem 0 p.ins k h2)))
theorem LvF.outStep {d : FuncD} (h : LvF d) {b : Nat} (hb : b < d.blocks.length) {I : Alive} (hI : ∀ t, Fine (cntF d) (I t)) {s : List Int} (hs : Fine (cntF d) s) {t : Nat} (ht : t ∈ succN d.blocks b) : Fine (cntF d) (outStep d b I s t) :=
  Fine.phis (fun p hp => by
    obtain ⟨h1, h2⟩ := h.phis t (succ_ltL h.right hb t ht) p hp
    exact ⟨h1, by rw [h2]; exact atN_lt h.right hb ht⟩) (hs.sum (hI t).2)
theorem LvF.outs {d : FuncD} (h : LvF d) {b : Nat} (hb : b < d.blocks.length) {I : Alive} (hI : ∀ t, Fine (cntF d) (I t)) : ∀ (l : List Nat), (∀ t ∈ l, t ∈ succN d.blocks b) → ∀ {s : List Int}, Fine (cntF d) s → Fine (cntF d) (l.foldl (Go.Proofs.YtolaghondjfhdabGreatDoor.outStep d b I) s)
  | [], _, s, hs => hs
  | t :: r, hl, s, hs => h.outs hb hI r (fun u hu => hl u (by simp [hu])) (h.outStep hb hI hs (hl t (by simp)))
theorem LvF.out {d : FuncD} (h : LvF d) {b : Nat} (hb : b < d.blocks.length) {I : Alive} (hI : ∀ t, Fine (cntF d) (I t)) : Fine (cntF d) (outL d b I) := h.outs hb hI _ (fun _ ht => ht) (Fine.nil _)
theorem LvF.bk {d : FuncD} (h : LvF d) {b : Nat} (hb : b < d.blocks.length) {first : Nat} {s : List Int} (hs : Fine (cntF d) s) : ∀ m, m ≤ (blkN d b).insts.length → Fine (cntF d) (bkL (blkN d b).insts first s m)
  | 0, _ => hs
  | m + 1, hm => ((h.bk hb hs m (by omega)).less _).sum (h.ops b hb _ (getD_mem inst0 _ _ (by omega)))
theorem LvF.back {d : FuncD} (h : LvF d) {b : Nat} (hb : b < d.blocks.length) {s : List Int} (hs : Fine (cntF d) s) {m : Nat} (hm : m ≤ (blkN d b).insts.length) : Fine (cntF d) (backL d b s m) := h.bk hb (hs.sum (h.term b hb)) m hm
theorem Fine.ph {c : Nat} (first : Nat) {s : List Int} (h : Fine c s) : ∀ n, Fine c (phL first s n)
  | 0 => h
  | n + 1 => (Fine.ph first h n).less _
theorem LvF.inL {d : FuncD} (h : LvF d) {b : Nat} (hb : b < d.blocks.length) {I : Alive} (hI : ∀ t, Fine (cntF d) (I t)) : Fine (cntF d) (inL d b I) := Fine.ph _ (h.back hb (h.out hb hI) (Nat.le_refl _)) _

/-- What holds of the sets while they grow. -/
structure Grows (d : FuncD) (I : Alive) : Prop where
  fine : ∀ t, Fine (cntF d) (I t)
  pf : ∀ b, b < d.blocks.length → ∀ x ∈ I b, x ∈ inL d b I
theorem Grows.start (d : FuncD) : Grows d (fun _ => []) := ⟨fun t => Fine.nil _, fun b _ x hx => by cases hx⟩
theorem Grows.sub {d : FuncD} {I : Alive} (h : Grows d I) {b : Nat} (hb : b < d.blocks.length) : Sub I (stepL d I b) := fun t x hx => by
  unfold stepL
  by_cases e : t = b
  · subst e; rw [updL_same]; exact h.pf t hb x hx
  · rw [updL_other _ e]; exact hx
theorem Grows.step {d : FuncD} {I : Alive} (hF : LvF d) (h : Grows d I) {b : Nat} (hb : b < d.blocks.length) : Grows d (stepL d I b) := by
  have hs := h.sub hb
  refine ⟨fun t => ?_, fun t ht x hx => ?_⟩
  · unfold stepL
    by_cases e : t = b
    · subst e; rw [updL_same]; exact hF.inL hb h.fine
    · rw [updL_other _ e]; exact h.fine t
  · unfold stepL at hx
    by_cases e : t = b
    · subst e; rw [updL_same] at hx; exact inL_mono hs x hx
    · rw [updL_other _ e] at hx; exact inL_mono hs x (h.pf t ht x hx)
theorem Grows.len {d : FuncD} {I : Alive} (hF : LvF d) (h : Grows d I) {b : Nat} (hb : b < d.blocks.length) : (I b).length ≤ (inL d b I).length := by
  have h2 : ∀ {a c : List Int}, Srt a → Srt c → (∀ x ∈ a, x ∈ c) → a.length ≤ c.length := by
    intro a
    induction a with
    | nil => intro c _ _ _; simp
    | cons x r ih =>
      intro c ha hc hs
      have ha1 := List.pairwise_cons.1 ha
      have h3 := ih ha1.2 (srt_lessL x hc) (fun y hy => (mem_lessL c x y).2 ⟨hs y (by simp [hy]), by have := ha1.1 y hy; omega⟩)
      have h4 : (lessL c x).length < c.length := by
        unfold lessL
        exact List.length_filter_lt_length_iff_exists.2 ⟨x, hs x (by simp), by simp⟩
      simp only [List.length_cons]
      omega
  exact h2 (h.fine b).1 (hF.inL hb h.fine).1 (h.pf b hb)
theorem Grows.same {d : FuncD} {I : Alive} (hF : LvF d) (h : Grows d I) {b : Nat} (hb : b < d.blocks.length) (hl : (inL d b I).length = (I b).length) : inL d b I = I b :=
  (srt_ext (h.fine b).1 (hF.inL hb h.fine).1 (h.pf b hb) hl.symm).symm
theorem Grows.step_id {d : FuncD} {I : Alive} (hF : LvF d) (h : Grows d I) {b : Nat} (hb : b < d.blocks.length) (hl : (inL d b I).length = (I b).length) : stepL d I b = I := by
  unfold stepL
  rw [h.same hF hb hl]
  exact updL_id I b
theorem Grows.rd {d : FuncD} {I : Alive} (hF : LvF d) (h : Grows d I) : ∀ m, m ≤ d.blocks.length → Grows d (rdL d I m)
  | 0, _ => h
  | m + 1, hm => (h.rd hF m (by omega)).step hF (by omega)
theorem Grows.iter {d : FuncD} (hF : LvF d) : ∀ k, Grows d (iterL d k)
  | 0 => Grows.start d
  | k + 1 => (Grows.iter hF k).rd hF _ (Nat.le_refl _)
/-- How many are alive at all beginnings together. -/
def allL (I : Alive) : Nat → Nat
  | 0 => 0
  | n + 1 => allL I n + (I n).length
theorem allL_le {d : FuncD} {I : Alive} (h : Grows d I) (hc : cntF d ≤ 60) : ∀ n, allL I n ≤ 60 * n
  | 0 => Nat.le_refl _
  | n + 1 => by
    have := allL_le h hc n
    have := (h.fine n).len
    unfold allL
    omega
theorem allL_upd (I : Alive) (b : Nat) (l : List Int) : ∀ n, b < n → allL (updL I b l) n + (I b).length = allL I n + l.length
  | 0, h => by omega
  | n + 1, h => by
    unfold allL
    by_cases e : b = n
    · subst e
      have : allL (updL I b l) b = allL I b := by
        have h2 : ∀ m, m ≤ b → allL (updL I b l) m = allL I m := by
          intro m
          induction m with
          | zero => intro _; rfl
          | succ m ih => intro hm; unfold allL; rw [ih (by omega), updL_other _ (by omega)]
        exact h2 b (Nat.le_refl _)
      rw [this, updL_same]
      omega
    · have := allL_upd I b l n (by omega)
      rw [updL_other _ (show n ≠ b from fun h => e h.symm)]
      omega
theorem Grows.all_step {d : FuncD} {I : Alive} (hF : LvF d) (h : Grows d I) {b : Nat} (hb : b < d.blocks.length) : allL I d.blocks.length ≤ allL (stepL d I b) d.blocks.length ∧ ((inL d b I).length ≠ (I b).length → allL I d.blocks.length < allL (stepL d I b) d.blocks.length) := by
  have h1 := allL_upd I b (inL d b I) d.blocks.length hb
  have h2 := h.len hF hb
  unfold stepL
  omega
/-- The sets where nothing more comes. -/
def Fix (d : FuncD) (I : Alive) : Prop := (∃ k, I = iterL d k) ∧ ∀ b, b < d.blocks.length → inL d b I = I b
theorem rd_fix {d : FuncD} {I : Alive} (h : ∀ b, b < d.blocks.length → inL d b I = I b) : ∀ m, m ≤ d.blocks.length → rdL d I m = I
  | 0, _ => rfl
  | m + 1, hm => by
    unfold rdL
    rw [rd_fix h m (by omega)]
    unfold stepL
    rw [h _ (by omega)]
    exact updL_id I _
theorem iter_fix {d : FuncD} {k : Nat} (h : ∀ b, b < d.blocks.length → inL d b (iterL d k) = iterL d k b) : ∀ j, iterL d (k + j) = iterL d k
  | 0 => rfl
  | j + 1 => by
    show rdL d (iterL d (k + j)) d.blocks.length = _
    rw [iter_fix h j]
    exact rd_fix h _ (Nat.le_refl _)
theorem Fix.one {d : FuncD} {I J : Alive} (h : Fix d I) (k : Fix d J) : I = J := by
  obtain ⟨⟨a, rfl⟩, h2⟩ := h
  obtain ⟨⟨b, rfl⟩, k2⟩ := k
  rcases Nat.le_total a b with e | e
  · have := iter_fix h2 (b - a)
    rw [show a + (b - a) = b by omega] at this
    exact this.symm
  · have := iter_fix k2 (a - b)
    rw [show b + (a - b) = a by omega] at this
    exact this
end Go.Proofs.YtolaghondjfhdabGreatDoor
namespace Go.Proofs.YtolaghondjfhdabGreatDoor
open Go.RowKit

/-- A list of numbers of the call's own, from block base on. -/
def Row (w : World) (base : Nat) (v : Value) (l : List Int) : Prop := w.ownsRow base 2 1 v l.length (l.map (Value.int .i64))
theorem Row.nil (w : World) (base : Nat) : Row w base (.slice none 0 0) [] := World.ownsRow_nil _ _ _ _
theorem Row.slice {w : World} {base : Nat} {v : Value} {l : List Int} (h : Row w base v l) : ∃ a c, v = .slice a l.length c := by
  rcases h.2 with ⟨rfl, hn⟩ | ⟨g, cap, cur, rfl, _⟩
  · exact ⟨none, 0, by rw [hn]⟩
  · exact ⟨_, _, rfl⟩
theorem Row.ge {w : World} {base : Nat} {v : Value} {l : List Int} (h : Row w base v l) {g : Nat} (hv : v.ownBlock = some g) : base ≤ g ∧ g < w.heap.size := by
  rcases h.2 with ⟨rfl, _⟩ | ⟨g', cap, cur, rfl, hb, hg, r⟩
  · cases hv
  · cases hv; exact ⟨hb, (Array.getElem?_eq_some_iff.1 hg).1⟩
theorem Row.block {w w' : World} {base : Nat} {v : Value} {l : List Int} (h : Row w base v l) (k : ∀ g, v.ownBlock = some g → g < w.heap.size → w'.heap[g]? = w.heap[g]?) : Row w' base v l := by
  refine ⟨h.1, ?_⟩
  rcases h.2 with h2 | ⟨g, cap, cur, rfl, hb, hg, r⟩
  · exact .inl h2
  · exact .inr ⟨g, cap, cur, rfl, hb, (k g rfl (Array.getElem?_eq_some_iff.1 hg).1).trans hg, r⟩
theorem Row.keep {w w' : World} {base : Nat} {v : Value} {l : List Int} (h : Row w base v l) (k : Below w.heap.size w w') : Row w' base v l := h.block fun g _ hg => k.block g hg
theorem Row.alloc {w : World} {base : Nat} {v : Value} {l : List Int} (h : Row w base v l) (o : Obj) : Row (w.alloc o) base v l := World.ownsRow.alloc h o
theorem Row.low {w : World} {lo lo' : Nat} {v : Value} {l : List Int} (h : Row w lo v l) (k : lo' ≤ lo) : Row w lo' v l := by
  refine ⟨h.1, ?_⟩
  rcases h.2 with h2 | ⟨g, cap, cur, hv, hb, r⟩
  · exact .inl h2
  · exact .inr ⟨g, cap, cur, hv, Nat.le_trans k hb, r⟩
theorem Row.ints {w : World} {base : Nat} {v : Value} {l : List Int} (hm : l.length ≤ 4194304) (h : Row w base v l) : ∃ u c, v = .slice u l.length c ∧ IntsAt w base u l := by
  rcases h.2 with ⟨hv, hn⟩ | ⟨g, cap, cur, hv, hb, hg, hnc, _, hcs, htk⟩
  · exact ⟨none, 0, by rw [hv, hn], by omega, .inl (List.length_eq_zero_iff.1 hn)⟩
  · refine ⟨_, cap, hv, by omega, .inr ⟨g, 0, rfl, hb, (Array.getElem?_eq_some_iff.1 hg).1, fun i hi => ?_⟩⟩
    have e : (cur.toList.take (l.length * 1))[i]? = (l.map (Value.int .i64))[i]? := by rw [htk]
    rw [List.getElem?_take, if_pos (by omega)] at e
    simp [hi] at e
    rw [Nat.zero_add, cell_of_heap hg]
    simpa [List.getD, hi] using e
theorem Row.lit (w : World) (base : Nat) (h : base ≤ w.heap.size) : Row (w.alloc (.cells #[] 2)) base (.slice (some ⟨w.heap.size, 0, none⟩) 0 0) [] :=
  World.ownsRow_lit w #[] 0 h (by decide) (by simp)
theorem one_cell (w : World) (v : Value) (t : TypeId) : (w.alloc (.cells #[v] t)).cell? ⟨w.heap.size, 0, none⟩ = some v := (cell_of_heap (heap_alloc_last _ _)).trans rfl
theorem one_cell_at {w : World} {v : Value} {t : TypeId} {s : Nat} (h : w.heap.size = s) : (w.alloc (.cells #[v] t)).cell? ⟨s, 0, none⟩ = some v := by subst h; exact one_cell w v t
theorem push_int {ops : Array Oper} {rest : List Oper} {o : Oper} {a : Act} {Q : Exit → Act → World → Prop} {w : World} (hgd : o.guard = none) (s x : Operand)
    (ho : o.op = .call { callee := .builtin .append, args := #[s, x], argTypes := #[22, 22] })
    (base : Nat) (v : Value) (l : List Int) (hs : a.eval s = v) (hown : Row w base v l) (n : Int) (b c : Nat) (hx : a.eval x = .slice (some ⟨b, 0, none⟩) 1 c) (hc : w.cell? ⟨b, 0, none⟩ = some (.int .i64 n)) (hl : l.length ≤ 4194304) (hbase : base ≤ w.heap.size)
    (h : ∀ v' w', Row w' base v' (l ++ [n]) → w.grownBy w' v.ownBlock → wpList Tryz.prog ops Q rest (a.put o.dst v') w') : wpList Tryz.prog ops Q (o :: rest) a w := by
  obtain ⟨i0, hi, hz0, hz1, hz2⟩ := info_parts infoI
  refine wpList_append_own w hgd s x 22 ho base 2 i0 (.int .i64 0) 1 8 Tryz.underlying22 hi hz0 hz1 hz2 rfl (by decide) v l.length (l.map (Value.int .i64)) hs hown ⟨b, 0, none⟩ 1 c [.int .i64 n] hx (by simp) ?_ (by simp [Value.oneCell']) (by unfold maxLen; omega) (by omega) hbase ?_
  · intro j u hj
    match j, hj with
    | 0, hj => rw [Addr.add_lit]; simp at hj; rw [← hj]; exact hc
  · intro v' w' h1 h2 _
    refine h v' w' ?_ h2
    unfold Row
    rw [List.length_append, List.map_append]
    exact h1
theorem push_at {ops : Array Oper} {rest : List Oper} {o : Oper} {a : Act} {Q : Exit → Act → World → Prop} {w : World} (hgd : o.guard = none) (s x : Operand)
    (ho : o.op = .call { callee := .builtin .append, args := #[s, x], argTypes := #[22, 22] })
    (base : Nat) (v : Value) (l : List Int) (hs : a.eval s = v) (hown : Row w base v l) (n : Int) (b c : Nat) (hx : a.eval x = .slice (some ⟨b, 0, none⟩) 1 c) (hc : w.cell? ⟨b, 0, none⟩ = some (.int .i64 n)) (hl : l.length ≤ 4194304) (hbase : base ≤ w.heap.size) (H : Nat) (hH : w.heap.size = H)
    (h : ∀ g cap w', Row w' base (.slice (some ⟨g, 0, none⟩) (l.length + 1) cap) (l ++ [n]) → w.grownBy w' v.ownBlock → (v.ownBlock = some g ∨ g = H) → g < w'.heap.size → wpList Tryz.prog ops Q rest (a.put o.dst (.slice (some ⟨g, 0, none⟩) (l.length + 1) cap)) w') : wpList Tryz.prog ops Q (o :: rest) a w := by
  obtain ⟨i0, hi, hz0, hz1, hz2⟩ := info_parts infoI
  refine wpList_append_lies w hgd s x 22 ho base 2 i0 (.int .i64 0) 1 8 Tryz.underlying22 hi hz0 hz1 hz2 rfl (by decide) v l.length (l.map (Value.int .i64)) hs hown ⟨b, 0, none⟩ 1 c [.int .i64 n] hx (by simp) ?_ (by simp [Value.oneCell']) (by decide) (by unfold maxLen; omega) (by omega) hbase H hH ?_
  · intro j u hj
    match j, hj with
    | 0, hj => rw [Addr.add_lit]; simp at hj; rw [← hj]; exact hc
  · intro g cap w' h1 h2 h3 h4
    refine h g cap w' ?_ h2 h3 h4
    unfold Row
    rw [List.length_append, List.map_append]
    exact h1
end Go.Proofs.YtolaghondjfhdabGreatDoor
namespace Go.Proofs.YtolaghondjfhdabGreatDoor
open Go.RowKit
set_option linter.unusedVariables false

/-- A set in memory: never nil, in a block from lo on. -/
def SlAt (w : World) (lo : Nat) (v : Value) (l : List Int) : Prop := ∃ g o c, v = .slice (some ⟨g, o, none⟩) l.length c ∧ l.length ≤ c ∧ lo ≤ g ∧ IntsAt w lo (some ⟨g, o, none⟩) l
theorem SlAt.keep {w w' : World} {lo : Nat} {v : Value} {l : List Int} (h : SlAt w lo v l) (k : Agree lo w w') : SlAt w' lo v l := by
  obtain ⟨g, o, c, h1, h2, h3, h4⟩ := h
  exact ⟨g, o, c, h1, h2, h3, h4.keep k⟩
theorem SlAt.low {w : World} {lo lo' : Nat} {v : Value} {l : List Int} (h : SlAt w lo v l) (k : lo' ≤ lo) : SlAt w lo' v l := by
  obtain ⟨g, o, c, h1, h2, h3, h4⟩ := h
  exact ⟨g, o, c, h1, h2, Nat.le_trans k h3, h4.low k⟩
theorem SlAt.below {w w' : World} {lo : Nat} {v : Value} {l : List Int} (h : SlAt w lo v l) (k : Below w.heap.size w w') : SlAt w' lo v l := h.keep (agree_of_below k lo)
theorem row_sl {w : World} {base g c : Nat} {l : List Int} (hm : l.length ≤ 1048576) (h : w.ownsRow base 2 1 (.slice (some ⟨g, 0, none⟩) l.length c) l.length (l.map (Value.int .i64))) : SlAt w base (.slice (some ⟨g, 0, none⟩) l.length c) l := by
  obtain ⟨u, c', e, ho⟩ := own_of_row hm h
  cases e
  rcases h.2 with ⟨hv, _⟩ | ⟨g', cap, cur, hv, hg, hcell, hcap, _⟩
  · cases hv
  · cases hv
    exact ⟨g, 0, c, rfl, hcap, hg, ho.ints⟩
set_option maxHeartbeats 1000000 in
theorem copyZ (lo : Nat) (a : Option Addr) (cap : Nat) (l : List Int) (w : World) (hl : l.length ≤ 1048576) (hv : IntsAt w lo a l) :
    Calls Tryz.prog 83 #[.slice a l.length cap] w fun e w' => ∃ v, e = .returned v ∧ SlAt w' w.heap.size v l ∧ Below w.heap.size w w' := by
  obtain ⟨i0, hi, hz0, hz1, hz2⟩ := info_parts infoI
  rcases a with _ | ad
  · have hnil : l = [] := by
      rcases hv.2 with h | ⟨b, off, h, _⟩
      · exact h
      · simp at h
    subst hnil
    go_enter Tryz.func83, Tryz.ntmps83
    have hap := fun g => append_none (t := 22) (ty := 22) (.slice (some ⟨g, 0, none⟩) 0 0) (.inr ⟨g, rfl⟩) cap (w.alloc (.cells #[] 2)) i0 Tryz.underlying22 hi
    clear hi hz0 hz1 hz2
    go_wp2_with fail
    go_ret
    exact ⟨_, rfl, ⟨w.heap.size, 0, 0, rfl, by simp, Nat.le_refl _, ⟨by simp, .inl rfl⟩⟩, (Below.refl _ _).alloc (Nat.le_refl _) _⟩
  · have hcell : ∀ j u, (l.map (Value.int .i64))[j]? = some u → (w.alloc (.cells #[] 2)).cell? (ad.add j) = some u := by
      intro j u hj
      rcases hv.2 with h | ⟨b, off, h, _, hb, hc⟩
      · simp [h] at hj
      · simp at h
        subst h
        obtain ⟨hjl, rfl⟩ := map_cell hj
        rw [Addr.add_lit, cell_block (Below.heap_alloc w _ b hb), hc j hjl]
    go_enter Tryz.func83, Tryz.ntmps83
    go_wp2_with (at_builtin; refine wpList_append_own _ rfl _ _ 22 rfl w.heap.size 2 i0 (.int .i64 0) 1 8 Tryz.underlying22 hi hz0 hz1 hz2 rfl (by decide) _ 0 [] rfl (World.ownsRow_lit w #[] 0 (Nat.le_refl _) (by decide) (by simp)) ad l.length cap (l.map (Value.int .i64)) rfl (by simp) hcell (by simp [Value.oneCell']) (by unfold maxLen; omega) (by omega) (by simp) ?_; intro v' w1 hown hgrow hnn)
    simp only [Nat.zero_add, List.nil_append] at hown
    have hnz : v' ≠ .slice none 0 0 := fun e => by
      have := (hnn.1 e).1
      cases this
    obtain ⟨g, c, rfl⟩ : ∃ g c, v' = .slice (some ⟨g, 0, none⟩) l.length c := by
      rcases hown.2 with ⟨h1, h2⟩ | ⟨g, c, cur, h1, _⟩
      · exact absurd h1 hnz
      · exact ⟨g, c, h1⟩
    go_ret
    exact ⟨_, rfl, row_sl hl hown, ((Below.refl _ _).alloc (Nat.le_refl _) _).grown hgrow (by simp) (fun k hk => by have hk' : some w.heap.size = some k := hk; simp at hk'; omega)⟩
theorem putZ (lo : Nat) (v : Value) (l : List Int) (n : Int) (w : World) (hlo : lo ≤ w.heap.size) (hl : l.length ≤ 1000) (hv : SlAt w lo v l) :
    Calls Tryz.prog 32 #[v, .int .i64 n] w fun e w' => ∃ v', e = .returned v' ∧ SlAt w' lo v' (ins l n) ∧ Below w.heap.size w w' := by
  obtain ⟨g, o, c, rfl, h2, h3, h4⟩ := hv
  refine (putS lo (some ⟨g, o, none⟩) c l n w hlo hl h2 h4 ⟨g, o, rfl⟩).mono ?_
  rintro e w' ⟨⟨b, off, c', rfl, hc, hb, hi⟩, hB⟩
  refine ⟨_, rfl, ⟨b, off, c', rfl, hc, ?_, hi⟩, hB⟩
  rcases hb with ⟨e, _⟩ | hb
  · cases e; exact h3
  · omega
set_option maxHeartbeats 2000000 in
theorem sumZ (la lb : Nat) (a : Option Addr) (ca : Nat) (A : List Int) (b : Option Addr) (cb : Nat) (B : List Int) (w : World) (hA : A.length ≤ 400) (hB : B.length ≤ 400) (kA : IntsAt w la a A) (kB : IntsAt w lb b B) :
    Calls Tryz.prog 80 #[.slice a A.length ca, .slice b B.length cb] w fun e w' => ∃ v, e = .returned v ∧ SlAt w' w.heap.size v (sumL A B) ∧ Below w.heap.size w w' := by
  have HK : Hid (IntsAt w lb b B) := kB
  have HS : Hid (∀ k, k ≤ B.length → (sumL A (B.take k)).length ≤ 400 + k) := by
    show ∀ k, _
    intro k
    induction k with
    | zero => intro _; simpa [sumL] using hA
    | succ k ih =>
      intro hk
      have h1 := ih (by omega)
      have h2 : sumL A (B.take (k + 1)) = ins (sumL A (B.take k)) (B.getD k 0) := by
        unfold sumL
        rw [List.take_succ_eq_append_getElem (by omega), List.foldl_append]
        simp [List.getD, show k < B.length by omega]
      rw [h2]
      have h3 := ins_len (sumL A (B.take k)) (B.getD k 0)
      omega
  have HT : Hid (∀ k, k < B.length → sumL A (B.take (k + 1)) = ins (sumL A (B.take k)) (B.getD k 0)) := by
    show ∀ k, _
    intro k hk
    unfold sumL
    rw [List.take_succ_eq_append_getElem hk, List.foldl_append]
    simp [List.getD, hk]
  clear kB
  go_enter Tryz.func80, Tryz.ntmps80
  go_wp2_with fail
  refine (copyZ la a ca A w (by omega) kA).mono ?_
  rintro e w1 ⟨v1, rfl, s1, b1⟩
  have HB1 : Hid (Below w.heap.size w w1) := b1
  have HS1 : Hid (SlAt w1 w.heap.size v1 A) := s1
  clear b1 s1 kA
  go_wp2_with fail
  go_loopw [5, 6] (fun st i wr => ∃ k : Nat, k ≤ B.length ∧ i = .int .i64 k ∧ Hid (SlAt wr w.heap.size st (sumL A (B.take k))) ∧ Hid (Below w.heap.size w wr)) (fun _ i _ => B.length - (intOf i).toNat)
  case atStart => exact ⟨0, by omega, rfl, by show SlAt _ _ _ _; simpa [sumL] using HS1.out, HB1⟩
  case round =>
    obtain ⟨k, hk, rfl, HX, HB⟩ := hrel
    clear HB1 HS1
    by_cases hlt : k < B.length
    · obtain ⟨g, off, rfl, e1⟩ : ∃ g off, b = some ⟨g, off, none⟩ ∧ wr.cell? ⟨g, off + k, none⟩ = some (.int .i64 (B.getD k 0)) := by
        rcases (HK.out.keep (agree_of_below HB.out lb)).2 with h | ⟨g, off, ha, _, _, hc⟩
        · rw [h] at hlt; simp at hlt
        · exact ⟨g, off, ha, hc k hlt⟩
      have h4 := HS.out k (by omega)
      have HN := HT.out k hlt
      have P := putZ w.heap.size u5 (sumL A (B.take k)) (B.getD k 0) wr HB.out.size (by omega) HX.out
      have HN2 : Hid (sumL A (B.take (k + 1)) = ins (sumL A (B.take k)) (B.getD k 0)) := HN
      clear HN
      generalize B.getD k 0 = x at e1 P HN2
      go_wp2_with fail
      refine P.mono ?_
      rintro e w2 ⟨v2, rfl, s2, b2⟩
      have HX2 : Hid (SlAt w2 w.heap.size v2 (sumL A (B.take (k + 1)))) := by show SlAt _ _ _ _; rw [HN2.out]; exact s2
      have HB2 : Hid (Below w.heap.size w w2) := HB.out.trans (b2.mono HB.out.size)
      clear s2 b2 P
      go_wp2_with fail
      go_roundw
      case rel => exact ⟨k + 1, by omega, by go_num, HX2, HB2⟩
      case measure => simp [intOf]; omega
    · have HX2 : Hid (SlAt wr w.heap.size u5 (sumL A B)) := by
        have := HX.out
        rw [List.take_of_length_le (by omega)] at this
        exact this
      go_wp2_with fail
      go_ret
      exact ⟨_, rfl, HX2.out, HB.out⟩
theorem lessL_snoc {A : List Int} {k : Nat} (n : Int) (h : k < A.length) : lessL (A.take (k + 1)) n = lessL (A.take k) n ++ (if A.getD k 0 = n then [] else [A.getD k 0]) := by
  unfold lessL
  rw [List.take_succ_eq_append_getElem h, List.filter_append]
  congr 1
  simp only [List.getD, List.getElem?_eq_getElem h, Option.getD_some]
  by_cases e : A[k] = n
  · simp [e]
  · simp [e]
set_option maxHeartbeats 2000000 in
theorem lessZ (la : Nat) (a : Option Addr) (ca : Nat) (A : List Int) (n : Int) (w : World) (hA : A.length ≤ 800) (kA : IntsAt w la a A) :
    Calls Tryz.prog 55 #[.slice a A.length ca, .int .i64 n] w fun e w' => ∃ v, e = .returned v ∧ SlAt w' w.heap.size v (lessL A n) ∧ Below w.heap.size w w' := by
  have HK : Hid (IntsAt w la a A) := kA
  have HS : Hid (∀ k, (lessL (A.take k) n).length ≤ 800) := by
    show ∀ k, _
    intro k
    have := List.length_filter_le (fun x => x != n) (A.take k)
    rw [List.length_take] at this
    unfold lessL
    omega
  have HT : Hid (∀ k, k < A.length → lessL (A.take (k + 1)) n = lessL (A.take k) n ++ (if A.getD k 0 = n then [] else [A.getD k 0])) := fun k hk => lessL_snoc n hk
  clear kA
  go_enter Tryz.func55, Tryz.ntmps55
  go_wp2_with fail
  go_loopw [5, 6] (fun st i wr => ∃ (k g c : Nat), k ≤ A.length ∧ i = .int .i64 k ∧ st = .slice (some ⟨g, 0, none⟩) (lessL (A.take k) n).length c ∧ Hid (Row wr w.heap.size (.slice (some ⟨g, 0, none⟩) (lessL (A.take k) n).length c) (lessL (A.take k) n)) ∧ Hid (Below w.heap.size w wr)) (fun _ i _ => A.length - (intOf i).toNat)
  case atStart => exact ⟨0, w.heap.size, 0, by omega, rfl, rfl, Row.lit w w.heap.size (Nat.le_refl _), (Below.refl _ _).alloc (Nat.le_refl _) _⟩
  case round =>
    obtain ⟨k, g, c, hk, rfl, rfl, HX, HB⟩ := hrel
    by_cases hlt : k < A.length
    · obtain ⟨ga, off, rfl, e1⟩ : ∃ ga off, a = some ⟨ga, off, none⟩ ∧ wr.cell? ⟨ga, off + k, none⟩ = some (.int .i64 (A.getD k 0)) := by
        rcases (HK.out.keep (agree_of_below HB.out la)).2 with h | ⟨ga, off, ha, _, _, hc⟩
        · rw [h] at hlt; simp at hlt
        · exact ⟨ga, off, ha, hc k hlt⟩
      have hsl := HS.out k
      have HN : Hid (lessL (A.take (k + 1)) n = lessL (A.take k) n ++ (if A.getD k 0 = n then [] else [A.getD k 0])) := HT.out k hlt
      generalize A.getD k 0 = x at e1 HN
      have hz := HB.out.size
      by_cases hx : x = n
      · subst hx
        have HN2 : Hid (lessL (A.take (k + 1)) x = lessL (A.take k) x) := by show _ = _; rw [HN.out, if_pos rfl, List.append_nil]
        clear HN
        go_wp2_with fail
        go_roundw
        case rel => exact ⟨k + 1, g, c, by omega, by go_num, by rw [HN2.out], by rw [HN2.out]; exact HX, HB⟩
        case measure => simp [intOf]; omega
      · have HN2 : Hid (lessL (A.take (k + 1)) n = lessL (A.take k) n ++ [x]) := by show _ = _; rw [HN.out, if_neg hx]
        have nx : (x == n) = false := by simpa using hx
        clear HN
        go_wp2_with (at_builtin; refine push_at rfl _ _ rfl w.heap.size (.slice (some ⟨g, 0, none⟩) (lessL (A.take k) n).length c) (lessL (A.take k) n) rfl (HX.out.alloc _) x _ 1 rfl (by exact one_cell_at (by simp)) (by omega) (by simp; omega) _ rfl ?_; intro g3 c3 w3 ho3 hg3 _ _)
        have HX3 : Hid (Row w3 w.heap.size (.slice (some ⟨g3, 0, none⟩) (lessL (A.take (k + 1)) n).length c3) (lessL (A.take (k + 1)) n)) := by show Row _ _ _ _; rw [HN2.out, List.length_append]; exact ho3
        have HB3 : Hid (Below w.heap.size w w3) := (HB.out.alloc hz _).grown hg3 (by simp; omega) (fun q hq => (HX.out.ge hq).1)
        clear ho3 hg3
        go_wp2_with fail
        go_roundw
        case rel => exact ⟨k + 1, g3, c3, by omega, by go_num, by rw [HN2.out, List.length_append]; rfl, HX3, HB3⟩
        case measure => simp [intOf]; omega
    · have hkl : A.take k = A := List.take_of_length_le (by omega)
      have HX2 : Hid (SlAt wr w.heap.size (.slice (some ⟨g, 0, none⟩) (lessL (A.take k) n).length c) (lessL A n)) := by
        show SlAt _ _ _ _
        have h1 := HX.out
        have h2 := HS.out k
        rw [hkl] at h1 h2 ⊢
        exact row_sl (by omega) h1
      clear hkl
      go_wp2_with fail
      go_ret
      exact ⟨_, rfl, HX2.out, HB.out⟩
set_option maxHeartbeats 1000000 in
theorem l12atS (lo : Nat) (a : Option Addr) (c : Nat) (l : List Int) (n : Int) (w : World) (hl : l.length ≤ 1000) (hv : IntsAt w lo a l) (hn : n ∈ l) :
    Calls Tryz.prog 81 #[.slice a l.length c, .int .i64 n] w fun e w' => e = .returned (.int .i64 (l.findIdx (fun x => x == n) : Nat)) ∧ Below w.heap.size w w' := by
  have hlt : l.findIdx (fun x => x == n) < l.length := List.findIdx_lt_length_of_exists ⟨n, hn, by simp⟩
  have hat : l.getD (l.findIdx (fun x => x == n)) 0 = n := by
    have := List.findIdx_getElem (w := hlt)
    simp only [List.getD, List.getElem?_eq_getElem hlt, Option.getD_some]
    simpa using this
  have HM : Hid (∀ j, j < l.findIdx (fun x => x == n) → l.getD j 0 ≠ n) := fun j hj => by
    have := List.not_of_lt_findIdx hj
    have hjl : j < l.length := by omega
    simp only [List.getD, List.getElem?_eq_getElem hjl, Option.getD_some]
    simpa using this
  generalize l.findIdx (fun x => x == n) = K at *
  go_enter Tryz.func81, Tryz.ntmps81
  go_wp2_with fail
  go_loopw [5] (fun i wr => ∃ k : Nat, k ≤ K ∧ i = .int .i64 k ∧ Hid (Below w.heap.size w wr)) (fun i _ => l.length - (intOf i).toNat)
  case atStart => exact ⟨0, by omega, rfl, Below.refl _ _⟩
  case round =>
    obtain ⟨k, hk, rfl, HB⟩ := hrel
    obtain ⟨g, off, rfl, e1⟩ : ∃ g off, a = some ⟨g, off, none⟩ ∧ wr.cell? ⟨g, off + k, none⟩ = some (.int .i64 (l.getD k 0)) := by
      rcases (hv.keep (agree_of_below HB.out lo)).2 with h | ⟨g, off, ha, _, _, hc⟩
      · rw [h] at hlt; simp at hlt
      · exact ⟨g, off, ha, hc k (by omega)⟩
    have hkl : k < l.length := by omega
    by_cases hkK : k = K
    · subst hkK
      rw [hat] at e1
      go_wp2_with fail
      go_ret
      exact ⟨rfl, HB.out⟩
    · have hne : (l.getD k 0 == n) = false := by simpa using HM.out k (by omega)
      generalize l.getD k 0 = x at e1 hne
      go_wp2_with fail
      go_roundw
      case rel => exact ⟨k + 1, by omega, by go_num, HB⟩
      case measure => simp [intOf]; omega
end Go.Proofs.YtolaghondjfhdabGreatDoor
