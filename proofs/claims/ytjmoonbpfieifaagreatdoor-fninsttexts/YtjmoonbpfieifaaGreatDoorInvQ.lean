/- A region that draws its order, by what holds whatever has come up so far. -/
import Derived.Test.YtjmoonbpfieifaaGreatDoorGnEQ
namespace Go.Proofs.YtjmoonbpfieifaaGreatDoor
open Go.RowKit Go.Deep
set_option linter.unusedVariables false

theorem wpAny_inv {P : Program} {md : Region.Mode} {ops : Array Oper} {Q : Exit → Act → World → Prop} (J : Array Bool → Act → World → Prop)
    (hend : ∀ listed a w, listed.size = ops.size → Region.ready md ops listed = [] → J listed a w → Q .normal a w)
    (hstep : ∀ listed i a w, listed.size = ops.size → i ∈ Region.ready md ops listed → J listed a w → wpOp P ops Q i (J (listed.setIfInBounds i true)) a w) :
    ∀ (fuel : Nat) (listed : Array Bool) (a : Act) (w : World), listed.size = ops.size → listed.toList.count false ≤ fuel → J listed a w → wpAny P md ops Q fuel listed a w := by
  have key : ∀ (listed : Array Bool) (i : Nat), i ∈ Region.ready md ops listed → ∃ h : i < listed.toList.length, listed.toList[i] = false := fun listed i hi => by
    have h1 := (mem_ready.1 hi)
    have h2 : listed.getD i true = false := by simp_all
    by_cases h3 : i < listed.size
    · refine ⟨by simpa using h3, ?_⟩
      simpa [Array.getD, h3] using h2
    · simp [Array.getD, h3] at h2
  intro fuel
  induction fuel with
  | zero =>
    intro listed a w hs hc hJ
    have h0 : Region.ready md ops listed = [] := by
      refine List.eq_nil_iff_forall_not_mem.2 fun i hi => ?_
      obtain ⟨h1, h2⟩ := key listed i hi
      have h3 : false ∈ listed.toList := h2 ▸ List.getElem_mem h1
      have := List.count_pos_iff.2 h3
      omega
    exact ⟨h0, hend _ _ _ hs h0 hJ⟩
  | succ fuel ih =>
    intro listed a w hs hc hJ
    refine ⟨fun h0 => hend _ _ _ hs h0 hJ, fun i hi => wpOp_mono (fun a' w' hJ' => ih _ _ _ (by simpa using hs) ?_ hJ') (hstep listed i a w hs hi hJ)⟩
    obtain ⟨h1, h2⟩ := key listed i hi
    have h3 : false ∈ listed.toList := h2 ▸ List.getElem_mem h1
    have h4 := List.count_pos_iff.2 h3
    rw [Array.toList_setIfInBounds, List.count_set h1, h2]
    generalize listed.toList.count false = n at hc h4 ⊢
    simp
    omega
/-- The same for a whole region. -/
theorem wp_region_inv {P : Program} {id : Nat} {ops : Array Oper} {Q : Exit → Act → World → Prop} {a : Act} {w : World} (hm : P.follows .mixedOrders = true) (J : Array Bool → Act → World → Prop)
    (h0 : J (Array.replicate ops.size false) a w.drew)
    (hend : ∀ listed a w, listed.size = ops.size → Region.ready .any ops listed = [] → J listed a w → Q .normal a w)
    (hstep : ∀ listed i a w, listed.size = ops.size → i ∈ Region.ready .any ops listed → J listed a w → wpOp P ops Q i (J (listed.setIfInBounds i true)) a w) : (Code.region id ops true).wp P Q a w :=
  wp_region_any hm (wpAny_inv J hend hstep ops.size _ a _ (by simp) (by rw [Array.toList_replicate, List.count_replicate_self]; exact Nat.le_refl _) h0)
end Go.Proofs.YtjmoonbpfieifaaGreatDoor
namespace Go.Proofs.YtjmoonbpfieifaaGreatDoor
open Go.RowKit Go.Deep
set_option linter.unusedVariables false

def upd {α : Type} (f : Nat → α) (i : Nat) (x : α) : Nat → α := fun j => if j = i then x else f j
theorem upd_same {α : Type} (f : Nat → α) (i : Nat) (x : α) : upd f i x i = x := by simp [upd]
theorem upd_ne {α : Type} (f : Nat → α) {i j : Nat} (x : α) (h : j ≠ i) : upd f i x j = f j := by simp [upd, h]
/-- An activation with slots s, s + 1, .. as told. -/
def putsF (A : Act) (s : Nat) : Nat → (Nat → Value) → Act
  | 0, _ => A
  | n + 1, f => (putsF A s n f).put (some (s + n)) (f n)
theorem put_get (A : Act) (t u : Nat) (v : Value) : (A.put (some t) v).tmps.getD u undef = if u = t ∧ t < A.tmps.size then v else A.tmps.getD u undef := by
  unfold Act.put
  simp only [Array.getD_eq_getD_getElem?, Array.getElem?_setIfInBounds]
  by_cases h : t = u
  · subst h
    by_cases h2 : t < A.tmps.size
    · simp [h2]
    · simp [h2]
  · have h' : ¬ u = t := fun e => h e.symm
    simp [h, h']
theorem put_size (A : Act) (t : Nat) (v : Value) : (A.put (some t) v).tmps.size = A.tmps.size := by simp [Act.put]
theorem putsF_size (A : Act) (s : Nat) (f : Nat → Value) : ∀ n, (putsF A s n f).tmps.size = A.tmps.size
  | 0 => rfl
  | n + 1 => by rw [putsF, put_size, putsF_size A s f n]
theorem putsF_defers (A : Act) (s : Nat) (f : Nat → Value) : ∀ n, (putsF A s n f).defers = A.defers
  | 0 => rfl
  | n + 1 => putsF_defers A s f n
theorem putsF_out (A : Act) (s : Nat) (f : Nat → Value) (t : Nat) : ∀ n, (t < s ∨ s + n ≤ t) → (putsF A s n f).tmps.getD t undef = A.tmps.getD t undef
  | 0, _ => rfl
  | n + 1, h => by rw [putsF, put_get, if_neg (by omega), putsF_out A s f t n (by omega)]
theorem putsF_in (A : Act) (s : Nat) (f : Nat → Value) (i : Nat) : ∀ n, i < n → s + n ≤ A.tmps.size → (putsF A s n f).tmps.getD (s + i) undef = f i
  | 0, h, _ => by omega
  | n + 1, h, hs => by
    rw [putsF, put_get, putsF_size]
    by_cases e : i = n
    · rw [if_pos (by omega), e]
    · rw [if_neg (by omega), putsF_in A s f i n (by omega) (by omega)]
theorem act_ext {a b : Act} (hs : a.tmps.size = b.tmps.size) (hd : a.defers = b.defers) (h : ∀ t, a.tmps.getD t undef = b.tmps.getD t undef) : a = b := by
  obtain ⟨a, d⟩ := a
  obtain ⟨b, e⟩ := b
  simp only at hs hd h
  subst hd
  congr 1
  refine Array.ext hs fun i h1 h2 => ?_
  have := h i
  simpa [Array.getD, h1, h2] using this
theorem putsF_put (A : Act) (s n : Nat) (f : Nat → Value) (i : Nat) (v : Value) (hi : i < n) (hs : s + n ≤ A.tmps.size) : (putsF A s n f).put (some (s + i)) v = putsF A s n (upd f i v) := by
  refine act_ext (by rw [put_size, putsF_size, putsF_size]) (by show (putsF A s n f).defers = _; rw [putsF_defers, putsF_defers]) fun t => ?_
  rw [put_get, putsF_size]
  by_cases h : t < s ∨ s + n ≤ t
  · rw [if_neg (by omega), putsF_out _ _ _ _ _ h, putsF_out _ _ _ _ _ h]
  · obtain ⟨j, rfl⟩ : ∃ j, t = s + j := ⟨t - s, by omega⟩
    rw [putsF_in _ _ _ _ _ (by omega) hs, putsF_in _ _ _ _ _ (by omega) hs]
    by_cases e : j = i
    · subst e; rw [if_pos (by omega), upd_same]
    · rw [if_neg (by omega), upd_ne _ _ e]
theorem putsF_self (A : Act) (s n : Nat) (hs : s + n ≤ A.tmps.size) : putsF A s n (fun i => A.tmps.getD (s + i) undef) = A := by
  refine act_ext (putsF_size ..) (putsF_defers ..) fun t => ?_
  by_cases h : t < s ∨ s + n ≤ t
  · rw [putsF_out _ _ _ _ _ h]
  · obtain ⟨j, rfl⟩ : ∃ j, t = s + j := ⟨t - s, by omega⟩
    rw [putsF_in _ _ _ _ _ (by omega) hs]
/-- Each operation has its slot, none is guarded, each waits only for earlier ones. -/
def slotsOk (s n : Nat) (ops : Array Oper) : Bool := ops.size == n && (List.range n).all fun i => match ops[i]? with
  | none => false
  | some o => o.dst == some (s + i) && o.guard.isNone && o.after.all fun e => decide (e.on < i)
theorem slotsOk_at {s n : Nat} {ops : Array Oper} (h : slotsOk s n ops = true) {i : Nat} {o : Oper} (ho : ops[i]? = some o) : i < n ∧ o.dst = some (s + i) ∧ o.guard = none ∧ ∀ e ∈ o.after, e.on < i := by
  unfold slotsOk at h
  rw [Bool.and_eq_true] at h
  have hn : ops.size = n := by simpa using h.1
  have hi : i < n := by rw [← hn]; exact (Array.getElem?_eq_some_iff.1 ho).1
  have h2 := (List.all_eq_true.1 h.2) i (List.mem_range.2 hi)
  rw [ho] at h2
  simp only [Bool.and_eq_true, beq_iff_eq, Option.isNone_iff_eq_none] at h2
  refine ⟨hi, h2.1.1, h2.1.2, fun e he => ?_⟩
  have h3 := h2.2
  rw [Array.all_eq_true'] at h3
  simpa using h3 e he
theorem ready_nil {s n : Nat} {ops : Array Oper} (h : slotsOk s n ops = true) {listed : Array Bool} (hl : listed.size = ops.size) (hr : Region.ready .any ops listed = []) : ∀ i, i < n → listed.getD i false = true := by
  have hn : ops.size = n := by unfold slotsOk at h; rw [Bool.and_eq_true] at h; simpa using h.1
  intro i
  induction i using Nat.strongRecOn with
  | _ i ih =>
    intro hi
    obtain ⟨o, ho⟩ : ∃ o, ops[i]? = some o := ⟨ops[i]'(by omega), by simp [show i < ops.size by omega]⟩
    obtain ⟨_, _, _, ha⟩ := slotsOk_at h ho
    rcases hb : listed.getD i false with _ | _
    · exfalso
      have h1 : listed.getD i true = false := by
        have h2 : i < listed.size := by omega
        simp [Array.getD, h2] at hb ⊢
        exact hb
      have : i ∈ Region.ready .any ops listed := mem_ready.2 ⟨h1, o, ho, fun e he _ => ih e.on (ha e he) (by have := ha e he; omega)⟩
      rw [hr] at this
      simp at this
    · rfl
theorem wp_region_slots {P : Program} {id : Nat} {ops : Array Oper} {Q : Exit → Act → World → Prop} {A : Act} {w : World} (hm : P.follows .mixedOrders = true) (s n : Nat) (hsz : s + n ≤ A.tmps.size) (hops : slotsOk s n ops = true)
    (J : (Nat → Bool) → (Nat → Value) → World → Prop)
    (h0 : J (fun _ => false) (fun i => A.tmps.getD (s + i) undef) w.drew)
    (hend : ∀ f w, J (fun i => decide (i < n)) f w → Q .normal (putsF A s n f) w)
    (hstep : ∀ i o up f w, ops[i]? = some o → (∀ e ∈ o.after, Region.binds .any e = true → up e.on = true) → (∀ k o, ops[k]? = some o → up k = true → ∀ e ∈ o.after, Region.binds .any e = true → up e.on = true) → up i = false → J up f w → o.wp P (putsF A s n f) w (fun a w' => ∃ v, a = (putsF A s n f).put (some (s + i)) v ∧ J (upd up i true) (upd f i v) w') Q) : (Code.region id ops true).wp P Q A w := by
  have hn : ops.size = n := by unfold slotsOk at hops; rw [Bool.and_eq_true] at hops; simpa using hops.1
  refine wp_region_inv hm (fun listed a w => ∃ f, a = putsF A s n f ∧ (∀ k o, ops[k]? = some o → listed.getD k false = true → ∀ e ∈ o.after, Region.binds .any e = true → listed.getD e.on false = true) ∧ J (fun i => listed.getD i false) f w) ?_ ?_ ?_
  · have e : (fun i => (Array.replicate ops.size false).getD i false) = fun _ => false := by
      funext i
      by_cases h : i < ops.size <;> simp [Array.getD, h]
    refine ⟨_, (putsF_self A s n hsz).symm, fun k o _ hk => ?_, by rw [e]; exact h0⟩
    rw [congrFun e k] at hk
    cases hk
  · rintro listed a w hl hr ⟨f, rfl, _, hJ⟩
    refine hend f w ?_
    have e : (fun i => listed.getD i false) = fun i => decide (i < n) := by
      funext i
      by_cases h : i < n
      · rw [ready_nil hops hl hr i h]; simp [h]
      · simp [Array.getD, show ¬ i < listed.size by omega, h]
    rw [e] at hJ; exact hJ
  · rintro listed i a w hl hi ⟨f, rfl, hcl, hJ⟩
    obtain ⟨h1, o, ho, ha⟩ := mem_ready.1 hi
    obtain ⟨hin, hd, hg, _⟩ := slotsOk_at hops ho
    have hw : Region.wanted o (yielded ops (putsF A s n f).tmps) = true := by simp [Region.wanted, hg]
    have h2 : listed.getD i false = false := by
      have h2 : i < listed.size := by omega
      simp [Array.getD, h2] at h1 ⊢
      exact h1
    unfold wpOp
    rw [ho]
    show if Region.wanted o (yielded ops (putsF A s n f).tmps) = true then _ else _
    rw [if_pos hw]
    refine .inl (Oper.wp_mono ?_ (hstep i o _ f w ho ha hcl h2 hJ))
    rintro a' w' ⟨v, rfl, hJ'⟩
    have e : (fun j => (listed.setIfInBounds i true).getD j false) = upd (fun j => listed.getD j false) i true := by
      funext j
      unfold upd
      by_cases h : j = i
      · subst h
        simp [Array.getD, show j < listed.size by omega]
      · have h' : ¬ i = j := fun e => h e.symm
        simp [h, h', Array.getD_eq_getD_getElem?]
    refine ⟨_, putsF_put A s n f i v hin hsz, fun k o' ho' hk x hx hb => ?_, by rw [e]; exact hJ'⟩
    rw [congrFun e x.on]
    rw [congrFun e k] at hk
    have keep : listed.getD x.on false = true → upd (fun j => listed.getD j false) i true x.on = true := fun h => by
      unfold upd
      split
      · rfl
      · exact h
    by_cases hki : k = i
    · subst hki
      rw [ho] at ho'
      cases ho'
      exact keep (ha x hx hb)
    · rw [upd_ne _ _ hki] at hk
      exact keep (hcl k o' ho' hk x hx hb)
end Go.Proofs.YtjmoonbpfieifaaGreatDoor
