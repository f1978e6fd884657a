/- A region that draws its order, whose operations lie in slots in a row, some of them guarded. -/
import Derived.Test.YtiflkkkggidhbaaInv2
import Derived.Test.YtiflkkkggidhbaaDrFQ
import Derived.Test.YtiflkkkggidhbaaSucQ
import Derived.Test.YtiflkkkggidhbaaLwL
namespace Go.Proofs.Ytiflkkkggidhbaa
open Go.RowKit Go.Deep
set_option linter.unusedVariables false

theorem putsF_at (A : Act) (s n : Nat) (f : Nat → Value) (i : Nat) (hi : i < n) (hs : s + n ≤ A.tmps.size) : (putsF A s n f).tmps[s + i]? = some (f i) := by
  have h := putsF_in A s f i n hi hs
  have hl : s + i < (putsF A s n f).tmps.size := by rw [putsF_size]; omega
  rw [Array.getD_eq_getD_getElem?, Array.getElem?_eq_getElem hl] at h
  rw [Array.getElem?_eq_getElem hl]
  exact congrArg some h
/-- Each operation has its slot, each waits only for earlier ones. -/
def slotsG (s n : Nat) (ops : Array Oper) : Bool := ops.size == n && (List.range n).all fun i => match ops[i]? with
  | none => false
  | some o => o.dst == some (s + i) && o.after.all fun e => decide (e.on < i)
theorem slotsG_at {s n : Nat} {ops : Array Oper} (h : slotsG s n ops = true) {i : Nat} {o : Oper} (ho : ops[i]? = some o) : i < n ∧ o.dst = some (s + i) ∧ ∀ e ∈ o.after, e.on < i := by
  unfold slotsG at h
  rw [Bool.and_eq_true] at h
  have hn : ops.size = n := by simpa using h.1
  have hi : i < n := by rw [← hn]; exact (Array.getElem?_eq_some_iff.1 ho).1
  have h2 := (List.all_eq_true.1 h.2) i (List.mem_range.2 hi)
  rw [ho] at h2
  simp only [Bool.and_eq_true, beq_iff_eq] at h2
  refine ⟨hi, h2.1, fun e he => ?_⟩
  have h3 := h2.2
  rw [Array.all_eq_true'] at h3
  simpa using h3 e he
theorem ready_nilG {s n : Nat} {ops : Array Oper} (h : slotsG s n ops = true) {listed : Array Bool} (hl : listed.size = ops.size) (hr : Region.ready .any ops listed = []) : ∀ i, i < n → listed.getD i false = true := by
  have hn : ops.size = n := by unfold slotsG at h; rw [Bool.and_eq_true] at h; simpa using h.1
  intro i
  induction i using Nat.strongRecOn with
  | _ i ih =>
    intro hi
    obtain ⟨o, ho⟩ : ∃ o, ops[i]? = some o := ⟨ops[i]'(by omega), by simp [show i < ops.size by omega]⟩
    obtain ⟨_, _, ha⟩ := slotsG_at h ho
    rcases hb : listed.getD i false with _ | _
    · exfalso
      have h1 : listed.getD i true = false := by
        have h2 : i < listed.size := by omega
        simp [Array.getD, h2] at hb ⊢
        exact hb
      have : i ∈ Region.ready .any ops listed := mem_ready.2 ⟨h1, o, ho, fun e he _ => ih e.on (ha e he) (by have := ha e he; omega)⟩
      rw [hr] at this
      simp at this
    · rfl
theorem wp_region_guards {P : Program} {id : Nat} {ops : Array Oper} {Q : Exit → Act → World → Prop} {A : Act} {w : World} (hm : P.follows .mixedOrders = true) (s n : Nat) (hsz : s + n ≤ A.tmps.size) (hops : slotsG s n ops = true)
    (J : (Nat → Bool) → (Nat → Value) → World → Prop)
    (h0 : J (fun _ => false) (fun i => A.tmps.getD (s + i) undef) w.drew)
    (hend : ∀ f w, J (fun i => decide (i < n)) f w → Q .normal (putsF A s n f) w)
    (hstep : ∀ i o up f w, ops[i]? = some o → (∀ e ∈ o.after, Region.binds .any e = true → up e.on = true) → (∀ k o, ops[k]? = some o → up k = true → ∀ e ∈ o.after, Region.binds .any e = true → up e.on = true) → up i = false → J up f w → Region.wanted o (yielded ops (putsF A s n f).tmps) = true ∧ o.wp P (putsF A s n f) w (fun a w' => ∃ v, a = (putsF A s n f).put (some (s + i)) v ∧ J (upd up i true) (upd f i v) w') Q) : (Code.region id ops true).wp P Q A w := by
  have hn : ops.size = n := by unfold slotsG at hops; rw [Bool.and_eq_true] at hops; simpa using hops.1
  refine wp_region_inv hm (fun listed a w => ∃ f, a = putsF A s n f ∧ (∀ k o, ops[k]? = some o → listed.getD k false = true → ∀ e ∈ o.after, Region.binds .any e = true → listed.getD e.on false = true) ∧ J (fun i => listed.getD i false) f w) ?_ ?_ ?_
  · have e : (fun i => (Array.replicate ops.size false).getD i false) = fun _ => false := by
      funext i
      by_cases h : i < ops.size <;> simp [Array.getD, h]
    refine ⟨_, (putsF_self A s n hsz).symm, fun k o _ hk => ?_, by rw [e]; exact h0⟩
    rw [congrFun e k] at hk
    cases hk
  · rintro listed a w hl hr ⟨f, rfl, _, hJ⟩
    refine hend f w ?_
    have e : (fun i => listed.getD i false) = fun i => decide (i < n) := by
      funext i
      by_cases h : i < n
      · rw [ready_nilG hops hl hr i h]; simp [h]
      · simp [Array.getD, show ¬ i < listed.size by omega, h]
    rw [e] at hJ; exact hJ
  · rintro listed i a w hl hi ⟨f, rfl, hcl, hJ⟩
    obtain ⟨h1, o, ho, ha⟩ := mem_ready.1 hi
    obtain ⟨hin, hd, _⟩ := slotsG_at hops ho
    have h2 : listed.getD i false = false := by
      have h2 : i < listed.size := by omega
      simp [Array.getD, h2] at h1 ⊢
      exact h1
    obtain ⟨hw, hwp⟩ := hstep i o _ f w ho ha hcl h2 hJ
    unfold wpOp
    rw [ho]
    show if Region.wanted o (yielded ops (putsF A s n f).tmps) = true then _ else _
    rw [if_pos hw]
    refine .inl (Oper.wp_mono ?_ hwp)
    rintro a' w' ⟨v, rfl, hJ'⟩
    have e : (fun j => (listed.setIfInBounds i true).getD j false) = upd (fun j => listed.getD j false) i true := by
      funext j
      unfold upd
      by_cases h : j = i
      · subst h
        simp [Array.getD, show j < listed.size by omega]
      · have h' : ¬ i = j := fun e => h e.symm
        simp [h, h', Array.getD_eq_getD_getElem?]
    refine ⟨_, putsF_put A s n f i v hin hsz, fun k o' ho' hk x hx hb => ?_, by rw [e]; exact hJ'⟩
    rw [congrFun e x.on]
    rw [congrFun e k] at hk
    have keep : listed.getD x.on false = true → upd (fun j => listed.getD j false) i true x.on = true := fun h => by
      unfold upd
      split
      · rfl
      · exact h
    by_cases hki : k = i
    · subst hki
      rw [ho] at ho'
      cases ho'
      exact keep (ha x hx hb)
    · rw [upd_ne _ _ hki] at hk
      exact keep (hcl k o' ho' hk x hx hb)
end Go.Proofs.Ytiflkkkggidhbaa
namespace Go.Proofs.Ytiflkkkggidhbaa
open Go.RowKit Go.Deep
set_option linter.unusedVariables false

/-- A list of numbers in memory. -/
def Sl (w : World) (x : Value) (r : List Int) : Prop := ∃ u c, x = .slice u r.length c ∧ IntsAt w 0 u r
theorem Sl.keep {w w' : World} {x : Value} {r : List Int} (h : Sl w x r) (k : Below w.heap.size w w') : Sl w' x r := by
  obtain ⟨u, c, h1, h2⟩ := h
  exact ⟨u, c, h1, h2.keep (agree_of_below k 0)⟩
/-- How far a region is: its world, and what its slots hold. -/
def JG (Bx : World → Prop) (Ty : Nat → Value → World → Prop) (up : Nat → Bool) (f : Nat → Value) (w : World) : Prop := Bx w ∧ ∀ i, up i = true → Ty i (f i) w
theorem JG.step {Bx : World → Prop} {Ty : Nat → Value → World → Prop} {up : Nat → Bool} {f : Nat → Value} {w w' : World} {i : Nat} {x : Value} (h : JG Bx Ty up f w) (hb : Bx w') (hm : ∀ i x, Ty i x w → Ty i x w') (hx : Ty i x w') : JG Bx Ty (upd up i true) (upd f i x) w' := by
  refine ⟨hb, fun k hk => ?_⟩
  by_cases hki : k = i
  · subst hki; rw [upd_same]; exact hx
  · rw [upd_ne _ _ hki] at hk ⊢
    exact hm _ _ (h.2 k hk)
theorem JG.still {Bx : World → Prop} {Ty : Nat → Value → World → Prop} {up : Nat → Bool} {f : Nat → Value} {w : World} {i : Nat} {x : Value} (h : JG Bx Ty up f w) (hx : Ty i x w) : JG Bx Ty (upd up i true) (upd f i x) w := h.step h.1 (fun _ _ h => h) hx
/-- Two lists asked for members. -/
def Ty13 (C : Array Value) (i k : Nat) (r p : List Int) (b : Bool) : Nat → Value → World → Prop
  | 0, x, _ => x = .agg C
  | 1, x, _ => x = .int .i64 i
  | 2, x, w => Sl w x r
  | 3, x, _ => x = .int .i64 k
  | 4, x, _ => x = .bool b
  | 5, x, _ => x = .agg C
  | 6, x, _ => x = .int .i64 k
  | 7, x, w => Sl w x p
  | 8, x, _ => x = .int .i64 i
  | 9, x, _ => x = .bool b
  | 10, x, _ => x = .bool false
  | _, _, _ => True
theorem Ty13.keep {C : Array Value} {i k : Nat} {r p : List Int} {b : Bool} {w w' : World} (hb : Below w.heap.size w w') : ∀ j x, Ty13 C i k r p b j x w → Ty13 C i k r p b j x w'
  | 0, _, h => h
  | 1, _, h => h
  | 2, _, h => Sl.keep h hb
  | 3, _, h => h
  | 4, _, h => h
  | 5, _, h => h
  | 6, _, h => h
  | 7, _, h => Sl.keep h hb
  | 8, _, h => h
  | 9, _, h => h
  | 10, _, h => h
  | _ + 11, _, _ => trivial
/-- Four lists, two and two the same. -/
def Ty4 (C : Array Value) (b : Int) (r p : List Int) : Nat → Value → World → Prop
  | 0, x, _ => x = .agg C
  | 1, x, _ => x = .int .i64 b
  | 2, x, w => Sl w x r
  | 3, x, _ => x = .agg C
  | 4, x, _ => x = .int .i64 b
  | 5, x, w => Sl w x r
  | 6, x, _ => x = .bool true
  | 7, x, _ => x = .bool false
  | 8, x, _ => x = .bool false
  | 9, x, _ => x = .agg C
  | 10, x, _ => x = .int .i64 b
  | 11, x, w => Sl w x p
  | 12, x, _ => x = .agg C
  | 13, x, _ => x = .int .i64 b
  | 14, x, w => Sl w x p
  | 15, x, _ => x = .bool true
  | 16, x, _ => x = .bool false
  | 17, x, _ => x = .bool false
  | _, _, _ => True
theorem Ty4.keep {C : Array Value} {b : Int} {r p : List Int} {w w' : World} (hb : Below w.heap.size w w') : ∀ j x, Ty4 C b r p j x w → Ty4 C b r p j x w'
  | 0, _, h => h
  | 1, _, h => h
  | 2, _, h => Sl.keep h hb
  | 3, _, h => h
  | 4, _, h => h
  | 5, _, h => Sl.keep h hb
  | 6, _, h => h
  | 7, _, h => h
  | 8, _, h => h
  | 9, _, h => h
  | 10, _, h => h
  | 11, _, h => Sl.keep h hb
  | 12, _, h => h
  | 13, _, h => h
  | 14, _, h => Sl.keep h hb
  | 15, _, h => h
  | 16, _, h => h
  | 17, _, h => h
  | _ + 18, _, _ => trivial
theorem succ_pred {l : List BlockD} {i k : Nat} {r p : List Int} (hi : i < l.length) (hk : k < l.length) (hr : SuccR l i r) (hp : PredR l k p) : (k : Int) ∈ r ↔ (i : Int) ∈ p := by
  by_cases hR : RightL l
  · have h1 := hr.1 ⟨hR, by omega, by omega⟩
    have h2 := hp.1 ⟨hR, by omega, by omega⟩
    rw [Int.toNat_natCast] at h1 h2
    rw [h1, h2, mem_succ hR hi]
    unfold ints predN
    simp
    constructor
    · intro h
      exact ⟨i, ⟨hi, h⟩, rfl⟩
    · rintro ⟨a, ⟨_, h⟩, e⟩
      obtain rfl : a = i := by omega
      exact h
  · have h1 := hr.2 (fun h => hR h.1)
    have h2 := hp.2 (fun h => hR h.1)
    rw [h1, h2]
    simp
theorem pred_rises {l : List BlockD} {b : Int} {p : List Int} (hp : PredR l b p) : p.Pairwise (· < ·) := by
  by_cases hI : InB l b
  · rw [hp.1 hI]
    unfold ints predN
    rw [List.pairwise_map]
    exact ((List.pairwise_lt_range).filter _).imp (by intro a b h; omega)
  · rw [hp.2 hI]
    exact List.Pairwise.nil
/-- Calls, in these words. -/
theorem succI_sl {lo : Nat} {d : FuncD} {up ub : Option Addr} {cp cb : Nat} {b : Int} {r : List Int} {w : World} (hs : SmFunc d) (k2 : BlocksAt w lo ub d.blocks) (hr : SuccR d.blocks b r) (hl : r.length ≤ 1048576) :
    Calls Try.prog 16 #[.agg #[.slice up d.params.length cp, .int .i64 d.ret, .slice ub d.blocks.length cb], .int .i64 b] w fun e w' => ∃ x, e = .returned x ∧ Sl w' x r ∧ Below w.heap.size w w' := by
  refine (succsI lo d up cp ub cb b r w hs k2 hr).mono ?_
  rintro e w' ⟨v, rfl, ho, hb⟩
  obtain ⟨u, c, rfl, h⟩ := ints_own rfl hl ho
  exact ⟨_, rfl, ⟨u, c, rfl, h.ints.low (Nat.zero_le _)⟩, hb⟩
theorem predI_sl {lo : Nat} {d : FuncD} {up ub : Option Addr} {cp cb : Nat} {b : Int} {r : List Int} {w : World} (hs : SmFunc d) (k2 : BlocksAt w lo ub d.blocks) (hr : PredR d.blocks b r) (hl : r.length ≤ 1048576) :
    Calls Try.prog 18 #[.agg #[.slice up d.params.length cp, .int .i64 d.ret, .slice ub d.blocks.length cb], .int .i64 b] w fun e w' => ∃ x, e = .returned x ∧ Sl w' x r ∧ Below w.heap.size w w' := by
  refine (predsI lo d up cp ub cb b r w hs k2 hr).mono ?_
  rintro e w' ⟨v, rfl, ho, hb⟩
  obtain ⟨u, c, rfl, h⟩ := ints_own rfl hl ho
  exact ⟨_, rfl, ⟨u, c, rfl, h.ints.low (Nat.zero_le _)⟩, hb⟩
theorem succF_sl {lo : Nat} {d : FuncD} {up ub : Option Addr} {cp cb : Nat} {b : Int} {r : List Int} {w : World} (hs : SmFunc d) (k2 : BlocksAt w lo ub d.blocks) (hr : SuccR d.blocks b r) :
    Calls Try.prog 17 #[.agg #[.slice up d.params.length cp, .int .i64 d.ret, .slice ub d.blocks.length cb], .int .i64 b] w fun e w' => ∃ x, e = .returned x ∧ Sl w' x r ∧ Below w.heap.size w w' := by
  refine (succsF lo d up cp ub cb b r w hs k2 hr).mono ?_
  rintro e w' ⟨u, c, rfl, h, hb⟩
  exact ⟨_, rfl, ⟨u, c, rfl, h.low (Nat.zero_le _)⟩, hb⟩
theorem predF_sl {lo : Nat} {d : FuncD} {up ub : Option Addr} {cp cb : Nat} {b : Int} {r : List Int} {w : World} (hs : SmFunc d) (k2 : BlocksAt w lo ub d.blocks) (hr : PredR d.blocks b r) :
    Calls Try.prog 19 #[.agg #[.slice up d.params.length cp, .int .i64 d.ret, .slice ub d.blocks.length cb], .int .i64 b] w fun e w' => ∃ x, e = .returned x ∧ Sl w' x r ∧ Below w.heap.size w w' := by
  refine (predsF lo d up cp ub cb b r w hs k2 hr).mono ?_
  rintro e w' ⟨u, c, rfl, h, hb⟩
  exact ⟨_, rfl, ⟨u, c, rfl, h.low (Nat.zero_le _)⟩, hb⟩
end Go.Proofs.Ytiflkkkggidhbaa
namespace Go.Proofs.Ytiflkkkggidhbaa
open Go.RowKit Go.Deep
set_option linter.unusedVariables false

set_option maxHeartbeats 4000000 in
set_option maxRecDepth 100000 in
theorem fnGraphs_core (a0 : Option Addr) (len cap : Nat) (w : World) (hc : Code a0 len w.heap.size w) :
    Calls Try.prog 4 #[.slice a0 len cap] w fun e w' => e = .returned (.bool true) ∧ Below w.heap.size w w' := by
  by_cases hb : 1048576 < len
  · have d : decide (1048576 < len) = true := by simpa using hb
    go_enter Try.func4, Try.ntmps4
    go_wp2_with (go_at_call 6; refine (big_any _ _ _ _).mono ?_; rintro e w' ⟨rfl, rfl⟩)
    go_ret
    exact ⟨rfl, Below.refl _ _⟩
  · have dd : decide (1048576 < len) = false := by simpa using hb
    have hl : len ≤ 1048576 := by omega
    have PD := drawSuccsOf a0 len cap w hl hc
    go_enter Try.func4, Try.ntmps4
    go_wp2_with (first | (go_at_call 6; refine (big_any _ _ _ _).mono ?_; rintro e w' ⟨rfl, rfl⟩) | (go_at_call 14; refine PD.mono ?_; rintro e w2 ⟨d, up, ub, cp, cb, b, rfl, hn1, hn2, hs, hone, hin, hbl, hB2⟩))
    have hx0 : Below (w2.heap.size + 1) (w2.alloc (.cells #[.slice up d.params.length cp, .int .i64 d.ret, .slice ub d.blocks.length cb] 27)) (w2.alloc (.cells #[.slice up d.params.length cp, .int .i64 d.ret, .slice ub d.blocks.length cb] 27)) := Below.refl _ _
    have HBK : ∀ x, Below (w2.heap.size + 1) (w2.alloc (.cells #[.slice up d.params.length cp, .int .i64 d.ret, .slice ub d.blocks.length cb] 27)) x → BlocksAt x w'.heap.size ub d.blocks := fun x hx => hbl.keep (agree_of_below (below_box hx) _)
    have hbn := hs.2.1
    obtain ⟨r, hr, hlr⟩ := SuccR_some d.blocks b
    obtain ⟨p, hp, hlp⟩ := PredR_some d.blocks b
    clear PD
    generalize hA : ({ tmps := _, defers := _ } : Act) = A
    have hsz : A.tmps.size = 62 := by rw [← hA]; rfl
    have hA3 : A.tmps[3]?.getD undef = .pointer (some ⟨w2.heap.size, 0, none⟩) := by rw [← hA]; rfl
    have hA4 : A.tmps[4]?.getD undef = .int .i64 b := by rw [← hA]; rfl
    refine wp_region_guards (by kernel_rfl) 15 18 (by omega) (by kernel_rfl) (JG (fun x => Below (w2.heap.size + 1) (w2.alloc (.cells #[.slice up d.params.length cp, .int .i64 d.ret, .slice ub d.blocks.length cb] 27)) x) (Ty4 #[.slice up d.params.length cp, .int .i64 d.ret, .slice ub d.blocks.length cb] b r p)) ?_ ?_ ?_
    · exact ⟨hx0.drew, fun i hi => by cases hi⟩
    · intro f w9 hJ
      have v17 : f 17 = .bool false := hJ.2 17 (by decide)
      have hx9 := hJ.1
      subst hA
      simp only [putsF, Act.put, List.setIfInBounds_toArray, List.set_cons_zero, List.set_cons_succ, Nat.reduceAdd, v17]
      clear hJ v17 hsz hA3 hA4 hr hp hlr hlp hx0
      obtain ⟨p1, p2, p3⟩ := box3 hx9
      go_wp2_with fail
      go_loopw [6] (fun x wr => ∃ i : Nat, i ≤ d.blocks.length ∧ x = .int .i64 i ∧ Below (w2.heap.size + 1) (w2.alloc (.cells #[.slice up d.params.length cp, .int .i64 d.ret, .slice ub d.blocks.length cb] 27)) wr) (fun x _ => d.blocks.length - (intOf x).toNat)
      case atStart => exact ⟨0, by omega, rfl, hx9⟩
      case round =>
        obtain ⟨i, hi, rfl, hxi⟩ := hrel
        clear hx9 p1 p2 p3
        by_cases hlt : i < d.blocks.length
        · go_wp2_with fail
          go_loopw [7] (fun x wq => ∃ k : Nat, k ≤ d.blocks.length ∧ x = .int .i64 k ∧ Below (w2.heap.size + 1) (w2.alloc (.cells #[.slice up d.params.length cp, .int .i64 d.ret, .slice ub d.blocks.length cb] 27)) wq) (fun x _ => d.blocks.length - (intOf x).toNat)
          case atStart => exact ⟨0, by omega, rfl, hxi⟩
          case round =>
            clear hxi
            obtain ⟨k, hk, rfl, hxk⟩ := hrel
            by_cases hlk : k < d.blocks.length
            · go_wp2_with fail
              obtain ⟨r, hr, hlr⟩ := SuccR_some d.blocks (i : Int)
              obtain ⟨p, hp, hlp⟩ := PredR_some d.blocks (k : Int)
              obtain ⟨bb, hbr, hbp⟩ : ∃ bb : Bool, (bb = true ↔ (k : Int) ∈ r) ∧ (bb = true ↔ (i : Int) ∈ p) := ⟨decide ((k : Int) ∈ r), by simp, by rw [← succ_pred hlt hlk hr hp]; simp⟩
              generalize hA : ({ tmps := _, defers := _ } : Act) = A
              have hsz : A.tmps.size = 62 := by rw [← hA]; rfl
              have hA3 : A.tmps[3]?.getD undef = .pointer (some ⟨w2.heap.size, 0, none⟩) := by rw [← hA]; rfl
              have hA6 : A.tmps[6]?.getD undef = .int .i64 i := by rw [← hA]; rfl
              have hA7 : A.tmps[7]?.getD undef = .int .i64 k := by rw [← hA]; rfl
              refine wp_region_slots (by kernel_rfl) 46 11 (by omega) (by kernel_rfl) (JG (fun x => Below (w2.heap.size + 1) (w2.alloc (.cells #[.slice up d.params.length cp, .int .i64 d.ret, .slice ub d.blocks.length cb] 27)) x) (Ty13 #[.slice up d.params.length cp, .int .i64 d.ret, .slice ub d.blocks.length cb] i k r p bb)) ?_ ?_ ?_
              · exact ⟨hxk.drew, fun i hi => by cases hi⟩
              · intro f w9 hJ
                have v10 : f 10 = .bool false := hJ.2 10 (by decide)
                have hx9 := hJ.1
                subst hA
                simp only [putsF, Act.put, List.setIfInBounds_toArray, List.set_cons_zero, List.set_cons_succ, Nat.reduceAdd, v10]
                clear hJ v10 hsz hA3 hA6 hA7 hr hp hlr hlp hbr hbp hxk
                go_wp2_with fail
                exact ⟨⟨k + 1, by omega, by go_num, hx9⟩, by simp [intOf]; omega⟩
              · intro ii o uq f w9 ho hd hcl hup hJ
                have B3 : (putsF A 46 11 f).tmps[3]?.getD undef = .pointer (some ⟨w2.heap.size, 0, none⟩) := by have := putsF_out A 46 f 3 11 (by omega); simp only [Array.getD_eq_getD_getElem?] at this; exact this.trans hA3
                have B6 : (putsF A 46 11 f).tmps[6]?.getD undef = .int .i64 i := by have := putsF_out A 46 f 6 11 (by omega); simp only [Array.getD_eq_getD_getElem?] at this; exact this.trans hA6
                have B7 : (putsF A 46 11 f).tmps[7]?.getD undef = .int .i64 k := by have := putsF_out A 46 f 7 11 (by omega); simp only [Array.getD_eq_getD_getElem?] at this; exact this.trans hA7
                have E : ∀ i, i < 11 → (putsF A 46 11 f).tmps[46 + i]?.getD undef = f i := fun i hi => by have := putsF_in A 46 f i 11 hi (by omega); simpa only [Array.getD_eq_getD_getElem?] using this
                have Z : ∀ i, i < 11 → (putsF A 46 11 f).tmps[46 + i]? = some (f i) := fun i hi => putsF_at A 46 11 f i hi (by omega)
                generalize putsF A 46 11 f = B at B3 B6 B7 E Z ⊢
                clear hA hA3 hA6 hA7 hsz
                rcases ii with _ | _ | _ | _ | _ | _ | _ | _ | _ | _ | _ | ii
                all_goals first | (obtain rfl := Option.some.inj ho) | (exfalso; simp at ho)
                · clear hd hcl ho
                  obtain ⟨p1, p2, p3⟩ := box3 hJ.1
                  refine wp_by fun K' hK => ?_
                  go_simp
                  exact hK _ _ ⟨_, rfl, hJ.still rfl⟩
                · clear hd hcl ho
                  refine wp_by fun K' hK => ?_
                  go_simp
                  exact hK _ _ ⟨_, rfl, hJ.still rfl⟩
                · have u0 : uq 0 = true := hd ⟨0, .data⟩ (by simp) rfl
                  have u1 : uq 1 = true := hd ⟨1, .data⟩ (by simp) rfl
                  clear hd hcl ho
                  have t0 : f 0 = .agg #[.slice up d.params.length cp, .int .i64 d.ret, .slice ub d.blocks.length cb] := hJ.2 0 u0
                  have e46 : B.tmps[46]?.getD undef = .agg #[.slice up d.params.length cp, .int .i64 d.ret, .slice ub d.blocks.length cb] := (E 0 (by omega)).trans t0
                  have t1 : f 1 = .int .i64 i := hJ.2 1 u1
                  have e47 : B.tmps[47]?.getD undef = .int .i64 i := (E 1 (by omega)).trans t1
                  have PC := succI_sl (up := up) (cp := cp) (cb := cb) (b := (i : Int)) hs (HBK w9 hJ.1) hr hlr
                  refine wp_by fun K' hK => ?_
                  go_simp
                  go_at_call 16
                  refine PC.mono ?_
                  rintro e w8 ⟨x8, rfl, hx8, hb8⟩
                  exact hK _ _ ⟨_, rfl, hJ.step (box_next hJ.1 hb8) (Ty13.keep hb8) hx8⟩
                · clear hd hcl ho
                  refine wp_by fun K' hK => ?_
                  go_simp
                  exact hK _ _ ⟨_, rfl, hJ.still rfl⟩
                · have u2 : uq 2 = true := hd ⟨2, .data⟩ (by simp) rfl
                  have u3 : uq 3 = true := hd ⟨3, .data⟩ (by simp) rfl
                  clear hd hcl ho
                  obtain ⟨ul, cl, t2, il⟩ : Sl w9 (f 2) r := hJ.2 2 u2
                  have e48 : B.tmps[48]?.getD undef = .slice ul r.length cl := (E 2 (by omega)).trans t2
                  have t3 : f 3 = .int .i64 k := hJ.2 3 u3
                  have e49 : B.tmps[49]?.getD undef = .int .i64 k := (E 3 (by omega)).trans t3
                  have PC := hasL 0 ul cl r k bb w9 hlr il hbr
                  refine wp_by fun K' hK => ?_
                  go_simp
                  go_at_call 20
                  refine PC.mono ?_
                  rintro e w8 ⟨rfl, rfl⟩
                  exact hK _ _ ⟨_, rfl, hJ.still rfl⟩
                · clear hd hcl ho
                  obtain ⟨p1, p2, p3⟩ := box3 hJ.1
                  refine wp_by fun K' hK => ?_
                  go_simp
                  exact hK _ _ ⟨_, rfl, hJ.still rfl⟩
                · clear hd hcl ho
                  refine wp_by fun K' hK => ?_
                  go_simp
                  exact hK _ _ ⟨_, rfl, hJ.still rfl⟩
                · have u5 : uq 5 = true := hd ⟨5, .data⟩ (by simp) rfl
                  have u6 : uq 6 = true := hd ⟨6, .data⟩ (by simp) rfl
                  clear hd hcl ho
                  have t5 : f 5 = .agg #[.slice up d.params.length cp, .int .i64 d.ret, .slice ub d.blocks.length cb] := hJ.2 5 u5
                  have e51 : B.tmps[51]?.getD undef = .agg #[.slice up d.params.length cp, .int .i64 d.ret, .slice ub d.blocks.length cb] := (E 5 (by omega)).trans t5
                  have t6 : f 6 = .int .i64 k := hJ.2 6 u6
                  have e52 : B.tmps[52]?.getD undef = .int .i64 k := (E 6 (by omega)).trans t6
                  have PC := predI_sl (up := up) (cp := cp) (cb := cb) (b := (k : Int)) hs (HBK w9 hJ.1) hp hlp
                  refine wp_by fun K' hK => ?_
                  go_simp
                  go_at_call 18
                  refine PC.mono ?_
                  rintro e w8 ⟨x8, rfl, hx8, hb8⟩
                  exact hK _ _ ⟨_, rfl, hJ.step (box_next hJ.1 hb8) (Ty13.keep hb8) hx8⟩
                · clear hd hcl ho
                  refine wp_by fun K' hK => ?_
                  go_simp
                  exact hK _ _ ⟨_, rfl, hJ.still rfl⟩
                · have u7 : uq 7 = true := hd ⟨7, .data⟩ (by simp) rfl
                  have u8 : uq 8 = true := hd ⟨8, .data⟩ (by simp) rfl
                  clear hd hcl ho
                  obtain ⟨ul, cl, t7, il⟩ : Sl w9 (f 7) p := hJ.2 7 u7
                  have e53 : B.tmps[53]?.getD undef = .slice ul p.length cl := (E 7 (by omega)).trans t7
                  have t8 : f 8 = .int .i64 i := hJ.2 8 u8
                  have e54 : B.tmps[54]?.getD undef = .int .i64 i := (E 8 (by omega)).trans t8
                  have PC := hasL 0 ul cl p i bb w9 hlp il hbp
                  refine wp_by fun K' hK => ?_
                  go_simp
                  go_at_call 20
                  refine PC.mono ?_
                  rintro e w8 ⟨rfl, rfl⟩
                  exact hK _ _ ⟨_, rfl, hJ.still rfl⟩
                · have u4 : uq 4 = true := hd ⟨4, .data⟩ (by simp) rfl
                  have u9 : uq 9 = true := hd ⟨9, .data⟩ (by simp) rfl
                  clear hd hcl ho
                  have t4 : f 4 = .bool bb := hJ.2 4 u4
                  have e50 : B.tmps[50]?.getD undef = .bool bb := (E 4 (by omega)).trans t4
                  have t9 : f 9 = .bool bb := hJ.2 9 u9
                  have e55 : B.tmps[55]?.getD undef = .bool bb := (E 9 (by omega)).trans t9
                  cases bb
                  all_goals
                    refine wp_by fun K' hK => ?_
                    go_simp
                    exact hK _ _ ⟨_, rfl, hJ.still rfl⟩
            · obtain ⟨p, hp, hlp⟩ := PredR_some d.blocks (i : Int)
              obtain ⟨p1, p2, p3⟩ := box3 hxk
              have PP := predI_sl (up := up) (cp := cp) (cb := cb) (b := (i : Int)) hs (HBK _ hxk) hp hlp
              go_wp2_with (first | (go_at_call 18; refine PP.mono ?_; rintro e w7 ⟨x7, rfl, ⟨u7, c7, rfl, i7⟩, hb7⟩; have PR := risingL 0 u7 c7 p w7 hlp i7 (pred_rises hp)) | (go_at_call 21; refine PR.mono ?_; rintro e w8 ⟨rfl, nn, rfl⟩))
              exact ⟨⟨i + 1, by omega, by go_num, below_drewN (box_next hxk hb7) _⟩, by simp [intOf]; omega⟩
        · go_wp2_with fail
          go_ret
          exact ⟨rfl, hB2.trans ((below_box hxi).mono hB2.size)⟩
    · intro ii o uq f w9 ho hd hcl hup hJ
      have B3 : (putsF A 15 18 f).tmps[3]?.getD undef = .pointer (some ⟨w2.heap.size, 0, none⟩) := by have := putsF_out A 15 f 3 18 (by omega); simp only [Array.getD_eq_getD_getElem?] at this; exact this.trans hA3
      have B4 : (putsF A 15 18 f).tmps[4]?.getD undef = .int .i64 b := by have := putsF_out A 15 f 4 18 (by omega); simp only [Array.getD_eq_getD_getElem?] at this; exact this.trans hA4
      have E : ∀ i, i < 18 → (putsF A 15 18 f).tmps[15 + i]?.getD undef = f i := fun i hi => by have := putsF_in A 15 f i 18 hi (by omega); simpa only [Array.getD_eq_getD_getElem?] using this
      have Z : ∀ i, i < 18 → (putsF A 15 18 f).tmps[15 + i]? = some (f i) := fun i hi => putsF_at A 15 18 f i hi (by omega)
      generalize putsF A 15 18 f = B at B3 B4 E Z ⊢
      clear hA hA3 hA4 hsz
      rcases ii with _ | _ | _ | _ | _ | _ | _ | _ | _ | _ | _ | _ | _ | _ | _ | _ | _ | _ | ii
      all_goals first | (obtain rfl := Option.some.inj ho) | (exfalso; simp at ho)
      · clear hd hcl ho
        refine ⟨rfl, ?_⟩
        obtain ⟨p1, p2, p3⟩ := box3 hJ.1
        refine wp_by fun K' hK => ?_
        go_simp
        exact hK _ _ ⟨_, rfl, hJ.still rfl⟩
      · clear hd hcl ho
        refine ⟨rfl, ?_⟩
        refine wp_by fun K' hK => ?_
        go_simp
        exact hK _ _ ⟨_, rfl, hJ.still rfl⟩
      · have u0 : uq 0 = true := hd ⟨0, .data⟩ (by simp) rfl
        have u1 : uq 1 = true := hd ⟨1, .data⟩ (by simp) rfl
        clear hd hcl ho
        refine ⟨rfl, ?_⟩
        have t0 : f 0 = .agg #[.slice up d.params.length cp, .int .i64 d.ret, .slice ub d.blocks.length cb] := hJ.2 0 u0
        have e15 : B.tmps[15]?.getD undef = .agg #[.slice up d.params.length cp, .int .i64 d.ret, .slice ub d.blocks.length cb] := (E 0 (by omega)).trans t0
        have t1 : f 1 = .int .i64 b := hJ.2 1 u1
        have e16 : B.tmps[16]?.getD undef = .int .i64 b := (E 1 (by omega)).trans t1
        have PC := succI_sl (up := up) (cp := cp) (cb := cb) hs (HBK w9 hJ.1) hr hlr
        refine wp_by fun K' hK => ?_
        go_simp
        go_at_call 16
        refine PC.mono ?_
        rintro e w8 ⟨x8, rfl, hx8, hb8⟩
        exact hK _ _ ⟨_, rfl, hJ.step (box_next hJ.1 hb8) (Ty4.keep hb8) hx8⟩
      · clear hd hcl ho
        refine ⟨rfl, ?_⟩
        obtain ⟨p1, p2, p3⟩ := box3 hJ.1
        refine wp_by fun K' hK => ?_
        go_simp
        exact hK _ _ ⟨_, rfl, hJ.still rfl⟩
      · clear hd hcl ho
        refine ⟨rfl, ?_⟩
        refine wp_by fun K' hK => ?_
        go_simp
        exact hK _ _ ⟨_, rfl, hJ.still rfl⟩
      · have u3 : uq 3 = true := hd ⟨3, .data⟩ (by simp) rfl
        have u4 : uq 4 = true := hd ⟨4, .data⟩ (by simp) rfl
        clear hd hcl ho
        refine ⟨rfl, ?_⟩
        have t3 : f 3 = .agg #[.slice up d.params.length cp, .int .i64 d.ret, .slice ub d.blocks.length cb] := hJ.2 3 u3
        have e18 : B.tmps[18]?.getD undef = .agg #[.slice up d.params.length cp, .int .i64 d.ret, .slice ub d.blocks.length cb] := (E 3 (by omega)).trans t3
        have t4 : f 4 = .int .i64 b := hJ.2 4 u4
        have e19 : B.tmps[19]?.getD undef = .int .i64 b := (E 4 (by omega)).trans t4
        have PC := succF_sl (up := up) (cp := cp) (cb := cb) hs (HBK w9 hJ.1) hr
        refine wp_by fun K' hK => ?_
        go_simp
        go_at_call 17
        refine PC.mono ?_
        rintro e w8 ⟨x8, rfl, hx8, hb8⟩
        exact hK _ _ ⟨_, rfl, hJ.step (box_next hJ.1 hb8) (Ty4.keep hb8) hx8⟩
      · have u2 : uq 2 = true := hd ⟨2, .data⟩ (by simp) rfl
        have u5 : uq 5 = true := hd ⟨5, .data⟩ (by simp) rfl
        clear hd hcl ho
        refine ⟨rfl, ?_⟩
        obtain ⟨ul, cl, t2, il⟩ : Sl w9 (f 2) r := hJ.2 2 u2
        have e17 : B.tmps[17]?.getD undef = .slice ul r.length cl := (E 2 (by omega)).trans t2
        obtain ⟨um, cm, t5, im⟩ : Sl w9 (f 5) r := hJ.2 5 u5
        have e20 : B.tmps[20]?.getD undef = .slice um r.length cm := (E 5 (by omega)).trans t5
        have PC := sameL 0 0 ul um cl cm r w9 hlr il im
        refine wp_by fun K' hK => ?_
        go_simp
        go_at_call 15
        refine PC.mono ?_
        rintro e w8 ⟨rfl, nn, rfl⟩
        exact hK _ _ ⟨_, rfl, hJ.step (below_drewN hJ.1 _) (Ty4.keep (below_drewN (Below.refl _ _) _)) rfl⟩
      · have u6 : uq 6 = true := hd ⟨6, .data⟩ (by simp) rfl
        clear hd hcl ho
        refine ⟨rfl, ?_⟩
        have t6 : f 6 = .bool true := hJ.2 6 u6
        have e21 : B.tmps[21]?.getD undef = .bool true := (E 6 (by omega)).trans t6
        refine wp_by fun K' hK => ?_
        go_simp
        exact hK _ _ ⟨_, rfl, hJ.still rfl⟩
      · have u7 : uq 7 = true := hd ⟨7, .data⟩ (by simp) rfl
        clear hd hcl ho
        refine ⟨rfl, ?_⟩
        have t7 : f 7 = .bool false := hJ.2 7 u7
        have e22 : B.tmps[22]?.getD undef = .bool false := (E 7 (by omega)).trans t7
        refine wp_by fun K' hK => ?_
        go_simp
        exact hK _ _ ⟨_, rfl, hJ.still rfl⟩
      · have u8 : uq 8 = true := hd ⟨8, .guard⟩ (by simp) rfl
        clear hd hcl ho
        have y8 : f 8 = .bool false := hJ.2 8 u8
        have z8 : B.tmps[23]? = some (.bool false) := (Z 8 (by omega)).trans (congrArg some y8)
        refine ⟨by simp [Region.wanted, yielded, z8], ?_⟩
        obtain ⟨p1, p2, p3⟩ := box3 hJ.1
        refine wp_by fun K' hK => ?_
        go_simp
        exact hK _ _ ⟨_, rfl, hJ.still rfl⟩
      · have u8 : uq 8 = true := hd ⟨8, .guard⟩ (by simp) rfl
        clear hd hcl ho
        have y8 : f 8 = .bool false := hJ.2 8 u8
        have z8 : B.tmps[23]? = some (.bool false) := (Z 8 (by omega)).trans (congrArg some y8)
        refine ⟨by simp [Region.wanted, yielded, z8], ?_⟩
        refine wp_by fun K' hK => ?_
        go_simp
        exact hK _ _ ⟨_, rfl, hJ.still rfl⟩
      · have u9 : uq 9 = true := hd ⟨9, .data⟩ (by simp) rfl
        have u10 : uq 10 = true := hd ⟨10, .data⟩ (by simp) rfl
        have u8 : uq 8 = true := hd ⟨8, .guard⟩ (by simp) rfl
        clear hd hcl ho
        have y8 : f 8 = .bool false := hJ.2 8 u8
        have z8 : B.tmps[23]? = some (.bool false) := (Z 8 (by omega)).trans (congrArg some y8)
        refine ⟨by simp [Region.wanted, yielded, z8], ?_⟩
        have t9 : f 9 = .agg #[.slice up d.params.length cp, .int .i64 d.ret, .slice ub d.blocks.length cb] := hJ.2 9 u9
        have e24 : B.tmps[24]?.getD undef = .agg #[.slice up d.params.length cp, .int .i64 d.ret, .slice ub d.blocks.length cb] := (E 9 (by omega)).trans t9
        have t10 : f 10 = .int .i64 b := hJ.2 10 u10
        have e25 : B.tmps[25]?.getD undef = .int .i64 b := (E 10 (by omega)).trans t10
        have PC := predI_sl (up := up) (cp := cp) (cb := cb) hs (HBK w9 hJ.1) hp hlp
        refine wp_by fun K' hK => ?_
        go_simp
        go_at_call 18
        refine PC.mono ?_
        rintro e w8 ⟨x8, rfl, hx8, hb8⟩
        exact hK _ _ ⟨_, rfl, hJ.step (box_next hJ.1 hb8) (Ty4.keep hb8) hx8⟩
      · have u8 : uq 8 = true := hd ⟨8, .guard⟩ (by simp) rfl
        clear hd hcl ho
        have y8 : f 8 = .bool false := hJ.2 8 u8
        have z8 : B.tmps[23]? = some (.bool false) := (Z 8 (by omega)).trans (congrArg some y8)
        refine ⟨by simp [Region.wanted, yielded, z8], ?_⟩
        obtain ⟨p1, p2, p3⟩ := box3 hJ.1
        refine wp_by fun K' hK => ?_
        go_simp
        exact hK _ _ ⟨_, rfl, hJ.still rfl⟩
      · have u8 : uq 8 = true := hd ⟨8, .guard⟩ (by simp) rfl
        clear hd hcl ho
        have y8 : f 8 = .bool false := hJ.2 8 u8
        have z8 : B.tmps[23]? = some (.bool false) := (Z 8 (by omega)).trans (congrArg some y8)
        refine ⟨by simp [Region.wanted, yielded, z8], ?_⟩
        refine wp_by fun K' hK => ?_
        go_simp
        exact hK _ _ ⟨_, rfl, hJ.still rfl⟩
      · have u12 : uq 12 = true := hd ⟨12, .data⟩ (by simp) rfl
        have u13 : uq 13 = true := hd ⟨13, .data⟩ (by simp) rfl
        have u8 : uq 8 = true := hd ⟨8, .guard⟩ (by simp) rfl
        clear hd hcl ho
        have y8 : f 8 = .bool false := hJ.2 8 u8
        have z8 : B.tmps[23]? = some (.bool false) := (Z 8 (by omega)).trans (congrArg some y8)
        refine ⟨by simp [Region.wanted, yielded, z8], ?_⟩
        have t12 : f 12 = .agg #[.slice up d.params.length cp, .int .i64 d.ret, .slice ub d.blocks.length cb] := hJ.2 12 u12
        have e27 : B.tmps[27]?.getD undef = .agg #[.slice up d.params.length cp, .int .i64 d.ret, .slice ub d.blocks.length cb] := (E 12 (by omega)).trans t12
        have t13 : f 13 = .int .i64 b := hJ.2 13 u13
        have e28 : B.tmps[28]?.getD undef = .int .i64 b := (E 13 (by omega)).trans t13
        have PC := predF_sl (up := up) (cp := cp) (cb := cb) hs (HBK w9 hJ.1) hp
        refine wp_by fun K' hK => ?_
        go_simp
        go_at_call 19
        refine PC.mono ?_
        rintro e w8 ⟨x8, rfl, hx8, hb8⟩
        exact hK _ _ ⟨_, rfl, hJ.step (box_next hJ.1 hb8) (Ty4.keep hb8) hx8⟩
      · have u11 : uq 11 = true := hd ⟨11, .data⟩ (by simp) rfl
        have u14 : uq 14 = true := hd ⟨14, .data⟩ (by simp) rfl
        have u8 : uq 8 = true := hd ⟨8, .guard⟩ (by simp) rfl
        clear hd hcl ho
        have y8 : f 8 = .bool false := hJ.2 8 u8
        have z8 : B.tmps[23]? = some (.bool false) := (Z 8 (by omega)).trans (congrArg some y8)
        refine ⟨by simp [Region.wanted, yielded, z8], ?_⟩
        obtain ⟨ul, cl, t11, il⟩ : Sl w9 (f 11) p := hJ.2 11 u11
        have e26 : B.tmps[26]?.getD undef = .slice ul p.length cl := (E 11 (by omega)).trans t11
        obtain ⟨um, cm, t14, im⟩ : Sl w9 (f 14) p := hJ.2 14 u14
        have e29 : B.tmps[29]?.getD undef = .slice um p.length cm := (E 14 (by omega)).trans t14
        have PC := sameL 0 0 ul um cl cm p w9 hlp il im
        refine wp_by fun K' hK => ?_
        go_simp
        go_at_call 15
        refine PC.mono ?_
        rintro e w8 ⟨rfl, nn, rfl⟩
        exact hK _ _ ⟨_, rfl, hJ.step (below_drewN hJ.1 _) (Ty4.keep (below_drewN (Below.refl _ _) _)) rfl⟩
      · have u15 : uq 15 = true := hd ⟨15, .data⟩ (by simp) rfl
        have u8 : uq 8 = true := hd ⟨8, .guard⟩ (by simp) rfl
        clear hd hcl ho
        have y8 : f 8 = .bool false := hJ.2 8 u8
        have z8 : B.tmps[23]? = some (.bool false) := (Z 8 (by omega)).trans (congrArg some y8)
        refine ⟨by simp [Region.wanted, yielded, z8], ?_⟩
        have t15 : f 15 = .bool true := hJ.2 15 u15
        have e30 : B.tmps[30]?.getD undef = .bool true := (E 15 (by omega)).trans t15
        refine wp_by fun K' hK => ?_
        go_simp
        exact hK _ _ ⟨_, rfl, hJ.still rfl⟩
      · have u8 : uq 8 = true := hd ⟨8, .data⟩ (by simp) rfl
        have u16 : uq 16 = true := hd ⟨16, .data⟩ (by simp) rfl
        clear hd hcl ho
        refine ⟨rfl, ?_⟩
        have t8 : f 8 = .bool false := hJ.2 8 u8
        have e23 : B.tmps[23]?.getD undef = .bool false := (E 8 (by omega)).trans t8
        have t16 : f 16 = .bool false := hJ.2 16 u16
        have e31 : B.tmps[31]?.getD undef = .bool false := (E 16 (by omega)).trans t16
        refine wp_by fun K' hK => ?_
        go_simp
        exact hK _ _ ⟨_, rfl, hJ.still rfl⟩
end Go.Proofs.Ytiflkkkggidhbaa
