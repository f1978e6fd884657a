import Derived.Test.YtojhakjkfkmklaaGreatDoorRbNV
import Derived.Test.YtojhakjkfkmklaaGreatDoorRbUV
import Derived.Test.YtojhakjkfkmklaaGreatDoorOwBV
import Derived.Test.YtojhakjkfkmklaaGreatDoorFmKV
import Derived.Test.YtojhakjkfkmklaaGreatDoorCrcV
import Derived.Test.YtojhakjkfkmklaaGreatDoorRows
import Derived.RowKitTokens
import Derived.LaidLaws
import Derived.LaidHandle
import Derived.LaidMore
import Derived.Stop.LaidErr
import Derived.Stop.ErrReads
import Derived.Stop.Joined
import Derived.Lay
namespace Go.Proofs.YtojhakjkfkmklaaGreatDoor
open Go.RowKit
set_option linter.unusedVariables false
set_option linter.unusedSimpArgs false
theorem cell_lt {w : World} {a : Addr} {v : Value} (h : w.cell? a = some v) : a.block < w.heap.size := by
 rcases Nat.lt_or_ge a.block w.heap.size with h' | h'
 ·exact h'
 ·unfold World.cell? at h
  simp [Array.getElem?_eq_none h'] at h
theorem cell_kp {w w' : World} (k : Below w.heap.size w w') {a : Addr} {v : Value} (h : w.cell? a = some v) : w'.cell? a = some v ∧ w'.frozen? a = w.frozen? a :=
 ⟨(k.cell (cell_lt h)).trans h, k.frozen (cell_lt h)⟩
theorem int_kp {w w' : World} (k : Below w.heap.size w w') {a : Addr} (h : (∃ z : Int, w.cell? a = some (.int .i64 z)) ∧ w.frozen? a = false) : (∃ z : Int, w'.cell? a = some (.int .i64 z)) ∧ w'.frozen? a = false := by
 obtain ⟨⟨z, h1⟩, h2⟩ := h
 exact ⟨⟨z, (cell_kp k h1).1⟩, (cell_kp k h1).2.trans h2⟩
theorem IntR.kp {w w' : World} {u : Option Addr} {n : Nat} (h : IntR w u n) (k : Below w.heap.size w w') : IntR w' u n := by
 refine ⟨h.1, ?_⟩
 rcases h.2 with h | ⟨g, o, e, h⟩
 ·exact .inl h
 ·exact .inr ⟨g, o, e, fun i hi => int_kp k (h i hi)⟩
theorem OwnR.kp {w w' : World} {g o s n : Nat} {F : List Nat} (h : OwnR w g o s F n) (k : Below w.heap.size w w') : OwnR w' g o s F n := fun i hi f hf => int_kp k (h i hi f hf)
theorem HdrR.kp {K : List Addr} {w w' : World} {g o s f : Nat} {hs : List (Option Addr × Nat)} (h : HdrR K w g o s f hs) (k : Below w.heap.size w w') : HdrR K w' g o s f hs := fun i hi => by
 obtain ⟨⟨c, h1⟩, h2, h3⟩ := h i hi
 exact ⟨⟨c, (cell_kp k h1).1⟩, h2, h3.kp k⟩
theorem StrR.kp {K : List Addr} {w w' : World} {s f : Nat} {F : List Nat} {u : Option Addr} {hs : List (Option Addr × Nat)} (h : StrR K w s f F u hs) (k : Below w.heap.size w w') : StrR K w' s f F u hs := by
 refine ⟨h.1, ?_⟩
 rcases h.2 with h | ⟨g, o, e, h1, h2⟩
 ·exact .inl h
 ·exact .inr ⟨g, o, e, h1.kp k, h2.kp k⟩
theorem BlsR.kp {K : List Addr} {w w' : World} {u : Option Addr} {bs : List BlkH} (h : BlsR K w u bs) (k : Below w.heap.size w w') : BlsR K w' u bs := by
 refine ⟨h.1, ?_⟩
 rcases h.2 with h | ⟨g, o, e, h1, h2⟩
 ·exact .inl h
 ·refine .inr ⟨g, o, e, h1.kp k, fun i hi => ?_⟩
  obtain ⟨⟨c, k1⟩, k2, ⟨d, k3⟩, k4, k5, k6⟩ := h2 i hi
  exact ⟨⟨c, (cell_kp k k1).1⟩, k2, ⟨d, (cell_kp k k3).1⟩, k4, k5.kp k, k6.kp k⟩
theorem FusR.kp {K : List Addr} {w w' : World} {u : Option Addr} {fs : List FunH} (h : FusR K w u fs) (k : Below w.heap.size w w') : FusR K w' u fs := by
 refine ⟨h.1, ?_⟩
 rcases h.2 with h | ⟨g, o, e, h1, h2⟩
 ·exact .inl h
 ·refine .inr ⟨g, o, e, h1.kp k, fun i hi => ?_⟩
  obtain ⟨⟨c, k1⟩, k2, ⟨d, k3⟩, k4, k5, k6⟩ := h2 i hi
  exact ⟨⟨c, (cell_kp k k1).1⟩, k2, ⟨d, (cell_kp k k3).1⟩, k4, k5.kp k, k6.kp k⟩
theorem Hlds.kp {w w' : World} {A : List Addr} {k : Int} (h : Hlds w A k) (b : Below w.heap.size w w') : Hlds w' A k := fun i a ha => (cell_kp b (h i a ha)).1
theorem mkw_other : ∀ (A : List Addr) (k : Int) (w : World) (b : Nat), (∀ a ∈ A, a.block ≠ b) → (mkw w A k).heap[b]? = w.heap[b]?
 | [], _, _, _, _ => rfl
 | a :: A, k, w, b, h => by
  rw [mkw, mkw_other A _ _ b (fun x hx => h x (List.mem_cons_of_mem _ hx))]
  exact Below.heap_setCell _ _ _ _ (fun e => h a (List.mem_cons_self ..) e.symm)
theorem strA_bound {g s m : Nat} {F : List Nat} : ∀ (l : List (List Addr × List Addr)) (o : Nat), (∀ q ∈ l, q.1.length + q.2.length ≤ m) → (strA g s F o l).length ≤ l.length * (F.length + m)
 | [], _, _ => by simp [strA]
 | (P, Q) :: l, o, h => by
  have h1 := h (P, Q) (List.mem_cons_self ..)
  have h2 := strA_bound (g := g) (s := s) (F := F) l (o + s) (fun q hq => h q (List.mem_cons_of_mem _ hq))
  rw [strA, List.length_append, List.length_append, List.length_append, List.length_map, List.length_cons, Nat.succ_mul]
  dsimp only at h1
  omega
theorem rowH_le (u : Option Addr) (n : Nat) : (rowH u n).length ≤ n := by
 cases u with
 | none => simp [rowH]
 | some p => show (rowA _ _ _ _).length ≤ n; rw [rowA_len]; exact Nat.le_refl _
theorem strO_bound {s m n : Nat} {F : List Nat} (u : Option Addr) (hs : List (Option Addr × Nat)) (h : ∀ x ∈ hs, x.2 ≤ m) (hn : hs.length ≤ n) : (strO s F u hs).length ≤ n * (F.length + m) := by
 cases u with
 | none => simp [strO]
 | some p =>
  have := strA_bound (g := p.block) (s := s) (F := F) (m := m) (rowsQ hs) p.off (fun q hq => by
   obtain ⟨x, hx, rfl⟩ := List.mem_map.1 hq
   have := rowH_le x.1 x.2
   have := h x hx
   simp only [List.length_nil]
   omega)
  rw [show (rowsQ hs).length = hs.length from List.length_map ..] at this
  exact Nat.le_trans this (Nat.mul_le_mul_right _ hn)
theorem args_len {d : InstD} (h : Plain d) (h4 : (opsD d).length ≤ 4) : d.args.length ≤ 4 := by
 obtain ⟨h1, _⟩ := h
 have h2 := congrArg InstD.args h1
 rw [h2]
 unfold mkD
 split
 ·exact h4
 ·simp
theorem marks_few {es : List FnE} (u : Option Addr) (h3 : es.length ≤ 3) (h : ∀ f ∈ es, FitF f.d) : (strF u (es.map FnE.h)).length ≤ 40000 := by
 cases u with
 | none => simp [strF]
 | some p =>
  have := strA_bound (g := p.block) (s := 3) (F := [1]) (m := 12644) (funsQ (es.map FnE.h)) p.off (fun q hq => by
   obtain ⟨x, hx, rfl⟩ := List.mem_map.1 hq
   obtain ⟨f, hf, rfl⟩ := List.mem_map.1 hx
   obtain ⟨k1, k2, k3⟩ := h f hf
   have g1 := rowH_le f.pu f.pars.length
   have k1' : f.pars.length ≤ 4 := k1
   have k2' : f.bs.length ≤ 10 := by have : (f.bs.map BkE.d).length ≤ 10 := k2; rwa [List.length_map] at this
   have g2 : (strB f.bu (f.bs.map BkE.h)).length ≤ 12640 := by
    cases hbu : f.bu with
    | none => simp [strB]
    | some q =>
     have := strA_bound (g := q.block) (s := 6) (F := [2, 3, 4, 5]) (m := 1260) (blksQ (f.bs.map BkE.h)) q.off (fun y hy => by
      obtain ⟨z, hz, rfl⟩ := List.mem_map.1 hy
      obtain ⟨b, hb, rfl⟩ := List.mem_map.1 hz
      obtain ⟨m1, m2, m3, m4, _⟩ := k3 b.d (List.mem_map.2 ⟨b, hb, rfl⟩)
      have m1' : b.ps.length ≤ 60 := by have : (b.ps.map (·.1)).length ≤ 60 := m1; rwa [List.length_map] at this
      have m3' : b.is.length ≤ 60 := by have : (b.is.map (·.1)).length ≤ 60 := m3; rwa [List.length_map] at this
      have n1 := strO_bound (s := 2) (m := 10) (n := 60) (F := [0]) b.pu (b.ps.map PhE.h) (fun x hx => by
       obtain ⟨e, he, rfl⟩ := List.mem_map.1 hx
       exact m2 e.1 (List.mem_map.2 ⟨e, he, rfl⟩)) (by rw [List.length_map]; exact m1')
      have n2 := strO_bound (s := 7) (m := 4) (n := 60) (F := [0, 1, 2, 3, 4, 5]) b.iu (b.is.map InE.h) (fun x hx => by
       obtain ⟨e, he, rfl⟩ := List.mem_map.1 hx
       obtain ⟨q1, q2⟩ := m4 e.1 (List.mem_map.2 ⟨e, he, rfl⟩)
       exact args_len q1 q2) (by rw [List.length_map]; exact m3')
      show (blkA b.h).length + ([] : List Addr).length ≤ 1260
      have e : blkA b.h = strO 2 [0] b.pu (b.ps.map PhE.h) ++ strO 7 [0, 1, 2, 3, 4, 5] b.iu (b.is.map InE.h) := rfl
      rw [e, List.length_append]
      simp only [List.length_nil, List.length_cons] at n1 n2 ⊢
      omega)
     have e1 : (blksQ (f.bs.map BkE.h)).length = f.bs.length := by simp [blksQ]
     rw [e1] at this
     show (strA q.block 6 [2, 3, 4, 5] q.off (blksQ (f.bs.map BkE.h))).length ≤ _
     have := Nat.le_trans this (Nat.mul_le_mul_right _ k2')
     simpa using this
   show (rowH f.pu f.pars.length).length + (strB f.bu (f.bs.map BkE.h)).length ≤ _
   omega)
  have e1 : (funsQ (es.map FnE.h)).length = es.length := by simp [funsQ]
  rw [e1] at this
  show (strA p.block 3 [1] p.off (funsQ (es.map FnE.h))).length ≤ _
  have := Nat.le_trans this (Nat.mul_le_mul_right _ h3)
  simp at this
  omega
def MTold (w : World) (base : Nat) (l : List FuncD) (ok : Bool) (e : Ending) : Prop := ∃ u c, e = .returned (.tuple #[.agg #[.slice u l.length c], .bool ok]) ∧ FuncsAt w base u l
def MOwn (w : World) (base : Nat) (l : List FuncD) (ok : Bool) (e : Ending) : Prop := ∃ fs u c, fs.map FnE.d = l ∧ e = .returned (.tuple #[.agg #[.slice u fs.length c], .bool ok]) ∧ OwnFns w base w.heap.size u fs
theorem uniB (s : ByteArray) : ∃ (l : List FuncD) (ok : Bool), (l.length ≤ 3 ∧ ∀ d ∈ l, FitF d) ∧ (∀ base w e, BytesToldS s base e w → MTold w base l ok e) ∧ (∀ base w e, base ≤ w.heap.size → BytesTold s base e w → MOwn w base l ok e) := by
 by_cases h : ∃ l, OkM s l
 ·obtain ⟨l, hl⟩ := h
  refine ⟨l, true, ⟨(modB_parts hl.1).1, fit_mod hl.1⟩, ?_, ?_⟩
  ·rintro base w e (⟨l', u, c, h1, he, h2, _⟩ | ⟨hn, _⟩)
   ·obtain rfl := okm_one hl h1
    exact ⟨u, c, he, h2⟩
   ·exact absurd ⟨l, hl⟩ hn
  ·rintro base w e _ (⟨fs, u, c, h1, he, h2⟩ | ⟨hn, _⟩)
   ·exact ⟨fs, u, c, okm_one h1 hl, he, h2⟩
   ·exact absurd ⟨l, hl⟩ hn
 ·refine ⟨[], false, ⟨by simp, fun d hd => by cases hd⟩, ?_, ?_⟩
  ·rintro base w e (⟨l', u, c, h1, _⟩ | ⟨_, he⟩)
   ·exact absurd ⟨l', h1⟩ h
   ·exact ⟨none, 0, he, by simp, .inl rfl⟩
  ·rintro base w e hb (⟨fs, u, c, h1, _⟩ | ⟨_, he⟩)
   ·exact absurd ⟨_, h1⟩ h
   ·exact ⟨[], none, 0, rfl, he, OwnL.none hb⟩
end Go.Proofs.YtojhakjkfkmklaaGreatDoor
namespace Go.Proofs.YtojhakjkfkmklaaGreatDoor
open Go.RowKit
set_option linter.unusedVariables false
set_option linter.unusedSimpArgs false
structure CsM (w w1 W : World) (l : List FuncD) (us : Option Addr) (cs : Nat) : Prop where
 p_ : At W w1.heap.size #[.slice us l.length cs] 26
 ag : Agree w.heap.size w1 W
 below : Below w.heap.size w W
theorem CsM.keep {w w1 W W2 : World} {l : List FuncD} {us : Option Addr} {cs : Nat} (h : CsM w w1 W l us cs) (k : Below W.heap.size W W2) : CsM w w1 W2 l us cs := ⟨h.p_.below k, agree_below h.ag k, h.below.trans (k.mono h.below.size)⟩
set_option maxHeartbeats 8000000 in
set_option maxRecDepth 100000 in
theorem fnExactReadBytes_core (a : Addr) (s : ByteArray) (w : World) (hv : Gv w 0 (errV a)) :
  Calls Tryz.prog 5 #[.string s] w fun e w' => e = .returned (.bool true) ∧ Below w.heap.size w w' := by
 by_cases hs : 1048576 < s.size
 ·have q : (1048576 : Int) < s.size := by omega
  go_enter Tryz.func5, Tryz.ntmps5
  go_wp2_with fail
  go_ret
  exact ⟨rfl, Below.refl _ _⟩
 have q : ¬ (1048576 : Int) < s.size := by omega
 have hs2 : s.size ≤ 1048576 := by omega
 obtain ⟨l, ok, hgl, US, UI⟩ := uniB s
 have Hgl : Hid (l.length ≤ 3 ∧ ∀ d ∈ l, FitF d) := hgl
 have HUI : Hid (∀ base w e, base ≤ w.heap.size → BytesTold s base e w → MOwn w base l ok e) := UI
 have hRI : Hid (∀ W, Below w.heap.size w W → Calls Tryz.prog 9 #[.string s] W fun e w' => BytesTold s W.heap.size e w' ∧ Below W.heap.size W w') := fun W k => readBI a s W (hv.keep k)
 have hRS := readBS s w hs2
 clear hv UI hs hs2 hgl
 go_enter Tryz.func5, Tryz.ntmps5
 go_wp2_with fail
 refine hRS.mono ?_
 rintro e w1 ⟨hc, b1⟩
 obtain ⟨us, cs, rfl, i1⟩ := US _ _ _ hc
 have k1 : Below w1.heap.size w1 (w1.alloc (.cells #[.slice us l.length cs] 26)) := (Below.refl _ _).alloc (Nat.le_refl _) _
 have C1 : Hid (CsM w w1 (w1.alloc (.cells #[.slice us l.length cs] 26)) l us cs) := ⟨At.new _ _ _, agree_of_below k1 _, b1.trans (k1.mono b1.size)⟩
 have HI1 : Hid (FuncsAt w1 w.heap.size us l) := i1
 have z2 : w1.heap.size + 1 = (w1.alloc (.cells #[.slice us l.length cs] 26)).heap.size := by simp
 have z1 : w.heap.size ≤ w1.heap.size := b1.size
 clear hRS US hc i1 b1 k1
 obtain ⟨W2, hW2⟩ : ∃ W, (w1.alloc (.cells #[.slice us l.length cs] 26)) = W := ⟨_, rfl⟩
 rw [hW2] at C1 z2
 go_wp2_with fail
 clear hW2
 refine (hRI.out W2 C1.out.below).mono ?_
 rintro e w3 ⟨hc, b3⟩
 obtain ⟨fs, u, c, hfl, rfl, hO⟩ := HUI.out _ _ _ b3.size hc
 have hn : fs.length = l.length := by rw [← hfl, List.length_map]
 have z3 : W2.heap.size ≤ w3.heap.size := b3.size
 obtain ⟨a1, a2⟩ := hO.inA
 obtain ⟨K, hK⟩ : ∃ K, strF u (fs.map FnE.h) = K := ⟨_, rfl⟩
 have hlK : K.length ≤ 40000 := by
  rw [← hK]
  exact marks_few u (by rw [hn]; exact Hgl.out.1) (fun f hf => Hgl.out.2 f.d (by rw [← hfl]; exact List.mem_map.2 ⟨f, hf, rfl⟩))
 have hF : FusR K w3 u (fs.map FnE.h) := hO.fusR (by rw [← hK]; exact a1.ki)
 have hat : FuncsAt w3 W2.heap.size u l := by rw [← hfl]; exact hO.at_
 rw [hK] at a1 a2
 have HIA : Hid (InA w3 W2.heap.size w3.heap.size 5 K) := a1
 have HND : Hid K.Nodup := a2
 have k3 : Below w3.heap.size w3 (w3.alloc (.cells #[.slice u l.length c] 26)) := (Below.refl _ _).alloc (Nat.le_refl _) _
 have C4 : Hid (CsM w w1 (w3.alloc (.cells #[.slice u l.length c] 26)) l us cs) := (C1.out.keep b3).keep k3
 have Q4 : Hid (At (w3.alloc (.cells #[.slice u l.length c] 26)) w3.heap.size #[.slice u l.length c] 26) := At.new _ _ _
 have F4 : Hid (FusR K (w3.alloc (.cells #[.slice u l.length c] 26)) u (fs.map FnE.h)) := hF.kp k3
 have G4 : Hid (FuncsAt (w3.alloc (.cells #[.slice u l.length c] 26)) W2.heap.size u l) := hat.keep (agree_of_below k3 _)
 have I4 : Hid (∀ a ∈ K, ∃ v, (w3.alloc (.cells #[.slice u l.length c] 26)).cell? a = some v) := fun a ha => by
  obtain ⟨_, _, _, z, hz⟩ := HIA.out a ha
  exact ⟨_, (cell_kp k3 hz).1⟩
 have HKB : Hid (∀ a ∈ K, W2.heap.size ≤ a.block ∧ a.block < w3.heap.size) := fun a ha => ⟨(HIA.out a ha).1, (HIA.out a ha).2.1⟩
 have hln : (fs.map FnE.h).length = l.length := by rw [List.length_map, hn]
 have HLN : Hid ((fs.map FnE.h).length = l.length) := hln
 have HKK : Hid (strF u (fs.map FnE.h) = K) := hK
 rw [hn]
 clear C1 hc hO b3 k3 a1 a2 hF hat HIA hln hK hfl hn
 obtain ⟨hs, hhs⟩ : ∃ hs, fs.map FnE.h = hs := ⟨_, rfl⟩
 rw [hhs] at F4 HLN HKK
 clear hhs
 obtain ⟨W4, hW4⟩ : ∃ W, (w3.alloc (.cells #[.slice u l.length c] 26)) = W := ⟨_, rfl⟩
 rw [hW4] at C4 Q4 F4 G4 I4
 have x0 : W4.cell? ⟨w1.heap.size, 0, none⟩ = some (.slice us l.length cs) := C4.out.p_.cell 0
 have y0 : W4.cell? ⟨w3.heap.size, 0, none⟩ = some (.slice u l.length c) := Q4.out.cell 0
 go_wp2_with fail
 clear hW4 x0 y0
 refine (eqModule_any _ _ l u c us cs W4 G4.out (HI1.out.keep C4.out.ag)).mono ?_
 rintro e w5 ⟨rfl, b5⟩
 have C5 : Hid (CsM w w1 w5 l us cs) := C4.out.keep b5
 have Q5 : Hid (At w5 w3.heap.size #[.slice u l.length c] 26) := Q4.out.below b5
 have k6 : Below w5.heap.size w5 (w5.alloc (.cells #[.slice u l.length c] 26)) := (Below.refl _ _).alloc (Nat.le_refl _) _
 have F6 : FusR K (w5.alloc (.cells #[.slice u l.length c] 26)) u hs := (F4.out.kp b5).kp k6
 have I6 : ∀ a ∈ K, ∃ v, (w5.alloc (.cells #[.slice u l.length c] 26)).cell? a = some v := fun a ha => by
  obtain ⟨v, hv⟩ := I4.out a ha
  exact ⟨v, (cell_kp k6 (cell_kp b5 hv).1).1⟩
 have z5 : w3.heap.size < w5.heap.size := Q5.out.lt
 have M := markMod K u c hs 1 w5 (by rw [HLN.out]; exact F6) (by rw [HKK.out]; exact fun a h => h) (by omega) (by rw [HKK.out]; omega)
 rw [HKK.out, HLN.out] at M
 have HF6 : Hid (FusR K (mkw (w5.alloc (.cells #[.slice u l.length c] 26)) K 1) u hs) := F6.mk (fun a h => h) 1
 have HH6 : Hid (Hlds (mkw (w5.alloc (.cells #[.slice u l.length c] 26)) K 1) K 1) := hlds_mkw HND.out I6
 have same : ∀ b, (b < W2.heap.size ∨ w3.heap.size ≤ b) → (mkw (w5.alloc (.cells #[.slice u l.length c] 26)) K 1).heap[b]? = (w5.alloc (.cells #[.slice u l.length c] 26)).heap[b]? := fun b hb => mkw_other K 1 _ b (fun a ha e => by have := HKB.out a ha; omega)
 have C5' := C5.out.keep k6
 have zm : (mkw (w5.alloc (.cells #[.slice u l.length c] 26)) K 1).heap.size = (w5.alloc (.cells #[.slice u l.length c] 26)).heap.size := mkw_size _ _ _
 have z6 : w5.heap.size ≤ (mkw (w5.alloc (.cells #[.slice u l.length c] 26)) K 1).heap.size := by rw [zm]; exact k6.size
 have HB6 : Hid (Below w.heap.size w (mkw (w5.alloc (.cells #[.slice u l.length c] 26)) K 1)) := mkw_below K 1 w _ (fun a ha => by have := (HKB.out a ha).1; omega) C5'.below
 have HP6 : Hid (At (mkw (w5.alloc (.cells #[.slice u l.length c] 26)) K 1) w1.heap.size #[.slice us l.length cs] 26) := (same _ (.inl (by omega))).trans C5'.p_
 have HQ6 : Hid (At (mkw (w5.alloc (.cells #[.slice u l.length c] 26)) K 1) w3.heap.size #[.slice u l.length c] 26) := (same _ (.inr (Nat.le_refl _))).trans (Q5.out.below k6)
 have HC6 : Hid (CsM w w1 (mkw (w5.alloc (.cells #[.slice u l.length c] 26)) K 1) l us cs) := ⟨HP6.out, ⟨Nat.le_trans C5'.ag.1 (by rw [zm]; exact Nat.le_refl _), fun b h1 h2 => (same b (.inl (by omega))).trans (C5'.ag.2 b h1 h2)⟩, HB6.out⟩
 have y0 : w5.cell? ⟨w3.heap.size, 0, none⟩ = some (.slice u l.length c) := Q5.out.cell 0
 clear C4 Q4 F4 G4 I4 b5 C5 k6 F6 I6 same C5' zm HB6 HP6
 go_wp2_with fail
 refine M.mono ?_
 rintro e w6 ⟨rfl, hw6⟩
 rw [← hw6] at HF6 HH6 z6 HQ6 HC6
 clear hw6 M y0 Q5
 have k7 : Below w6.heap.size w6 (w6.alloc (.cells #[.slice u l.length c] 26)) := (Below.refl _ _).alloc (Nat.le_refl _) _
 have HF7 : Hid (FusR K (w6.alloc (.cells #[.slice u l.length c] 26)) u hs) := HF6.out.kp k7
 have HH7 : Hid (Hlds (w6.alloc (.cells #[.slice u l.length c] 26)) K 1) := HH6.out.kp k7
 have HC7 : Hid (CsM w w1 (w6.alloc (.cells #[.slice u l.length c] 26)) l us cs) := HC6.out.keep k7
 have HQ7 : Hid (At (w6.alloc (.cells #[.slice u l.length c] 26)) w3.heap.size #[.slice u l.length c] 26) := HQ6.out.below k7
 have N := heldMod K u c hs 1 w6 (by rw [HLN.out]; exact HF7.out) (by rw [HLN.out, HKK.out]; exact HH7.out) (by omega) (by rw [HKK.out]; omega)
 rw [HKK.out, HLN.out] at N
 have y0 : w6.cell? ⟨w3.heap.size, 0, none⟩ = some (.slice u l.length c) := HQ6.out.cell 0
 have hnn : ¬ (1 : Int) + (K.length : Int) < 0 := by omega
 clear k7 HF6 HH6 HC6 HQ6
 go_wp2_with fail
 refine N.mono ?_
 rintro e w7 ⟨rfl, hw7⟩
 rw [← hw7] at HF7 HH7 HC7 HQ7
 clear hw7 N y0
 go_wp2_with fail
 refine (hRI.out w7 HC7.out.below).mono ?_
 rintro e w8 ⟨hc, b8⟩
 obtain ⟨fs8, u8, c8, hfl8, rfl, hO8⟩ := HUI.out _ _ _ b8.size hc
 have hn8 : fs8.length = l.length := by rw [← hfl8, List.length_map]
 have hat : FuncsAt w8 w7.heap.size u8 l := by rw [← hfl8]; exact hO8.at_
 have k8 : Below w8.heap.size w8 (w8.alloc (.cells #[.slice u8 l.length c8] 26)) := (Below.refl _ _).alloc (Nat.le_refl _) _
 have C9 : Hid (CsM w w1 (w8.alloc (.cells #[.slice u8 l.length c8] 26)) l us cs) := (HC7.out.keep b8).keep k8
 have Q9 : Hid (At (w8.alloc (.cells #[.slice u8 l.length c8] 26)) w3.heap.size #[.slice u l.length c] 26) := (HQ7.out.below b8).below k8
 have R9 : Hid (At (w8.alloc (.cells #[.slice u8 l.length c8] 26)) w8.heap.size #[.slice u8 l.length c8] 26) := At.new _ _ _
 have F9 : Hid (FusR K (w8.alloc (.cells #[.slice u8 l.length c8] 26)) u hs) := (HF7.out.kp b8).kp k8
 have H9 : Hid (Hlds (w8.alloc (.cells #[.slice u8 l.length c8] 26)) K 1) := (HH7.out.kp b8).kp k8
 have G9 : Hid (FuncsAt (w8.alloc (.cells #[.slice u8 l.length c8] 26)) w7.heap.size u8 l) := hat.keep (agree_of_below k8 _)
 rw [hn8]
 clear hc hO8 b8 k8 hat hfl8 hn8 HF7 HH7 HC7 HQ7
 obtain ⟨W9, hW9⟩ : ∃ W, (w8.alloc (.cells #[.slice u8 l.length c8] 26)) = W := ⟨_, rfl⟩
 rw [hW9] at C9 Q9 R9 F9 H9 G9
 have x0 : W9.cell? ⟨w1.heap.size, 0, none⟩ = some (.slice us l.length cs) := C9.out.p_.cell 0
 have y0 : W9.cell? ⟨w8.heap.size, 0, none⟩ = some (.slice u8 l.length c8) := R9.out.cell 0
 go_wp2_with fail
 clear hW9 x0 y0
 refine (eqModule_any _ _ l u8 c8 us cs W9 G9.out (HI1.out.keep C9.out.ag)).mono ?_
 rintro e w10 ⟨rfl, b10⟩
 have C10 : Hid (CsM w w1 w10 l us cs) := C9.out.keep b10
 have Q10 : Hid (At w10 w3.heap.size #[.slice u l.length c] 26) := Q9.out.below b10
 have k11 : Below w10.heap.size w10 (w10.alloc (.cells #[.slice u l.length c] 26)) := (Below.refl _ _).alloc (Nat.le_refl _) _
 have N := heldMod K u c hs 1 w10 (by rw [HLN.out]; exact (F9.out.kp b10).kp k11) (by rw [HLN.out, HKK.out]; exact (H9.out.kp b10).kp k11) (by omega) (by rw [HKK.out]; omega)
 rw [HKK.out, HLN.out] at N
 have C11 : Hid (Below w.heap.size w (w10.alloc (.cells #[.slice u l.length c] 26))) := (C10.out.keep k11).below
 have y0 : w10.cell? ⟨w3.heap.size, 0, none⟩ = some (.slice u l.length c) := Q10.out.cell 0
 clear C9 Q9 R9 F9 H9 G9 b10 C10 k11
 go_wp2_with fail
 refine N.mono ?_
 rintro e w11 ⟨rfl, hw11⟩
 rw [← hw11] at C11
 clear hw11 N y0 Q10
 go_wp2_with fail
 go_ret
 exact ⟨rfl, C11.out⟩
end Go.Proofs.YtojhakjkfkmklaaGreatDoor
namespace Go.Proofs.YtojhakjkfkmklaaGreatDoor
open Go.ChangeShapes Go.WideShapes Go.RowKit
set_option linter.unusedVariables false
theorem gC : Tryz.prog.globalNamed "loop.example/g00457/impl.errUnread" = some 0 := by kernel_rfl
theorem tC : (Tryz.prog.globals[0]?).map (·.type) = some 66 := by kernel_rfl
theorem lcES : Tryz.prog.cellsOf 195 = 1 := by kernel_rfl
theorem lcS : Tryz.prog.cellsOf 9 = 1 := by kernel_rfl
theorem lstar : "*" ++ "errors.errorString" = "*errors.errorString" := by decide
theorem lrow (u : TypeId) (h : Tryz.prog.typeName? 3 u = some "*errors.errorString") : u = 181 :=
 typeName_ptr_named (nm := "errors.errorString") (by rw [lstar]; kernel_rfl) (by kernel_rfl) (by decide) u (by rw [lstar]; exact h)
theorem var_below {W W' : World} {n : String} {g : Nat} {cs : Array Value} (hg : Tryz.prog.globalNamed n = some g) (h : W.var? Tryz.prog n = some cs) (k : Below W.heap.size W W') : W'.var? Tryz.prog n = some cs := by
 unfold World.var? at h ⊢
 simp only [hg, Option.bind_some] at h ⊢
 have hlt : g < W.heap.size := by
  rcases Nat.lt_or_ge g W.heap.size with h' | h'
  ·exact h'
  ·simp [Array.getElem?_eq_none h'] at h
 rw [k.block g hlt]
 exact h
theorem vars_cons {H : Type} (enc : TypeId × Value → H) {W : World} {n : String} {g : Nat} {x : Value} {ns : List String} {ds : List (DataW H)} {qs : List MemPlace} {sp : Nat → Bool}
  (hg : Tryz.prog.globalNamed n = some g) (ht : (Tryz.prog.globals[g]?).map (·.type) = some 66) (h : W.var? Tryz.prog n = some #[x]) (ix : IsIface x) (r : DataW.TrodVars enc Tryz.prog W sp ns ds qs) :
  DataW.TrodVars enc Tryz.prog W sp (n :: ns) (tok enc x :: ds) (.cell g 0 :: qs) :=
 ⟨g, 66, #[x], 1, [], qs, hg, ht, h, trod_held Tryz.underlying66 ix 0, r, rfl⟩
structure LaidC (W : World) (aC : Addr) : Prop where
 c : W.var? Tryz.prog "loop.example/g00457/impl.errUnread" = some #[errV aC]
theorem LaidC.keep {W W' : World} {aC : Addr} (h : LaidC W aC) (k : Below W.heap.size W W') : LaidC W' aC := ⟨var_below gC h.c k⟩
theorem LaidC.read {H : Type} (enc : TypeId × Value → H) {W : World} {aC : Addr} (h : LaidC W aC) (sp : Nat → Bool) :
  DataW.TrodVars enc Tryz.prog W sp ["loop.example/g00457/impl.errUnread"] [tok enc (errV aC)] [.cell 0 0] :=
 vars_cons enc gC tC h.c trivial rfl
set_option maxHeartbeats 4000000 in
set_option maxRecDepth 100000 in
theorem cnt_of_laid {W : World} (h : laidMetH Tryz.prog [("loop.example/g00457/impl.errUnread", Rows.laid_loop_example_g00457_impl_errUnread)] W) : ∃ aC, LaidC W aC := by
 rw [MakeChecks.laidMetH_plain _ _ _ (by kernel_rfl)] at h
 obtain ⟨ps, ⟨g0, t0, cs0, f0, p0, q0, hg0, ht0, hv0, hd0, hq0, e0⟩, hnd, hrows⟩ := h
 obtain rfl := Option.some.inj (gC.symm.trans hg0)
 obtain rfl := Option.some.inj (tC.symm.trans ht0)
 have hq0' : q0 = [] := hq0
 subst hq0'
 subst e0
 obtain ⟨l0⟩ := cs0
 have ok0 : ∀ u v, l0 = [.iface u v] → Value.okWide Tryz.prog W .any 0 u v := fun u v e => by
  subst e
  exact (hrows 0 0 (by simp [MemPlace.row])).2 u v (by simpa using World.var?_cell hg0 hv0 0)
 obtain ⟨a0, s0, rfl, hc0, hs0, hz0, rfl⟩ := errorString_of_trod Tryz.underlying66 lrow Tryz.underlying181 Tryz.underlying195 rfl rfl Tryz.underlying9 lcES lcS hd0 ok0
 exact ⟨a0, ⟨hv0⟩⟩
theorem door_metC (os : Os) (args : Array Value) : laidMetH Tryz.prog [("loop.example/g00457/impl.errUnread", Rows.laid_loop_example_g00457_impl_errUnread)] ((World.doorLaid Tryz.prog 28 os).forCall (fun _ _ => 0) ⟨#[], args, []⟩).memory := by
 rw [MakeChecks.laidMetH_plain _ _ _ (by kernel_rfl)]
 exact laidMet_of_run' 8 (by kernel_rfl) (by kernel_rfl)
theorem gv_of {W : World} {n : String} {g : Nat} {x : Value} (hg : Tryz.prog.globalNamed n = some g) (h : W.var? Tryz.prog n = some #[x]) : Gv W g x := by
 have hc : W.cell? ⟨g, 0, none⟩ = some x := by rw [World.var?_cell hg h 0]; rfl
 refine ⟨hc, ?_⟩
 rcases Nat.lt_or_ge g W.heap.size with h | h
 ·exact h
 ·simp [World.cell?, Array.getElem?_eq_none h] at hc
theorem LaidC.gv {W : World} {aC : Addr} (h : LaidC W aC) : Gv W 0 (errV aC) := gv_of gC h.c
end Go.Proofs.YtojhakjkfkmklaaGreatDoor
