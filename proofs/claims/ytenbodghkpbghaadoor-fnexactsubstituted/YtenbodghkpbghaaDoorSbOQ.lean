import Derived.Test.YtenbodghkpbghaaDoorSbFQ
import Derived.Test.YtenbodghkpbghaaDoorMkGQ
import Derived.Test.YtenbodghkpbghaaDoorFmJQ
import Derived.Test.YtenbodghkpbghaaDoorMrkQ
import Derived.Test.YtenbodghkpbghaaDoorOps2Q
import Derived.Test.YtenbodghkpbghaaDoorMemQ
import Derived.Test.YtenbodghkpbghaaDoorRows
import Derived.RowKitTokens
import Derived.LaidLaws
import Derived.LaidHandle
import Derived.LaidMore
import Derived.Stop.LaidErr
import Derived.Stop.ErrReads
import Derived.Stop.Joined
import Derived.Lay
namespace Go.Proofs.YtenbodghkpbghaaDoor
open Go.RowKit
set_option linter.unusedVariables false
set_option linter.unusedSimpArgs false
theorem cell_ltO {w : World} {a : Addr} {v : Value} (h : w.cell? a = some v) : a.block < w.heap.size := by
 rcases Nat.lt_or_ge a.block w.heap.size with h' | h'
 ·exact h'
 ·unfold World.cell? at h
  simp [Array.getElem?_eq_none h'] at h
theorem cell_kp {w w' : World} (k : Below w.heap.size w w') {a : Addr} {v : Value} (h : w.cell? a = some v) : w'.cell? a = some v ∧ w'.frozen? a = w.frozen? a :=
 ⟨(k.cell (cell_ltO h)).trans h, k.frozen (cell_ltO h)⟩
theorem int_kp {w w' : World} (k : Below w.heap.size w w') {a : Addr} (h : (∃ z : Int, w.cell? a = some (.int .i64 z)) ∧ w.frozen? a = false) : (∃ z : Int, w'.cell? a = some (.int .i64 z)) ∧ w'.frozen? a = false := by
 obtain ⟨⟨z, h1⟩, h2⟩ := h
 exact ⟨⟨z, (cell_kp k h1).1⟩, (cell_kp k h1).2.trans h2⟩
theorem IntR.kp {w w' : World} {u : Option Addr} {n : Nat} (h : IntR w u n) (k : Below w.heap.size w w') : IntR w' u n := by
 refine ⟨h.1, ?_⟩
 rcases h.2 with h | ⟨g, o, e, h⟩
 ·exact .inl h
 ·exact .inr ⟨g, o, e, fun i hi => int_kp k (h i hi)⟩
theorem OwnR.kp {w w' : World} {g o s n : Nat} {F : List Nat} (h : OwnR w g o s F n) (k : Below w.heap.size w w') : OwnR w' g o s F n := fun i hi f hf => int_kp k (h i hi f hf)
theorem HdrR.kp {K : List Addr} {w w' : World} {g o s f : Nat} {hs : List (Option Addr × Nat)} (h : HdrR K w g o s f hs) (k : Below w.heap.size w w') : HdrR K w' g o s f hs := fun i hi => by
 obtain ⟨⟨c, h1⟩, h2, h3⟩ := h i hi
 exact ⟨⟨c, (cell_kp k h1).1⟩, h2, h3.kp k⟩
theorem StrR.kp {K : List Addr} {w w' : World} {s f : Nat} {F : List Nat} {u : Option Addr} {hs : List (Option Addr × Nat)} (h : StrR K w s f F u hs) (k : Below w.heap.size w w') : StrR K w' s f F u hs := by
 refine ⟨h.1, ?_⟩
 rcases h.2 with h | ⟨g, o, e, h1, h2⟩
 ·exact .inl h
 ·exact .inr ⟨g, o, e, h1.kp k, h2.kp k⟩
theorem BlsR.kp {K : List Addr} {w w' : World} {u : Option Addr} {bs : List BlkH} (h : BlsR K w u bs) (k : Below w.heap.size w w') : BlsR K w' u bs := by
 refine ⟨h.1, ?_⟩
 rcases h.2 with h | ⟨g, o, e, h1, h2⟩
 ·exact .inl h
 ·refine .inr ⟨g, o, e, h1.kp k, fun i hi => ?_⟩
  obtain ⟨⟨c, k1⟩, k2, ⟨d, k3⟩, k4, k5, k6⟩ := h2 i hi
  exact ⟨⟨c, (cell_kp k k1).1⟩, k2, ⟨d, (cell_kp k k3).1⟩, k4, k5.kp k, k6.kp k⟩
theorem Hlds.kp {w w' : World} {A : List Addr} {k : Int} (h : Hlds w A k) (b : Below w.heap.size w w') : Hlds w' A k := fun i a ha => (cell_kp b (h i a ha)).1
theorem mkw_other : ∀ (A : List Addr) (k : Int) (w : World) (b : Nat), (∀ a ∈ A, a.block ≠ b) → (mkw w A k).heap[b]? = w.heap[b]?
 | [], _, _, _, _ => rfl
 | a :: A, k, w, b, h => by
  rw [mkw, mkw_other A _ _ b (fun x hx => h x (List.mem_cons_of_mem _ hx))]
  exact Below.heap_setCell _ _ _ _ (fun e => h a (List.mem_cons_self ..) e.symm)
theorem strA_bound {g s m : Nat} {F : List Nat} : ∀ (l : List (List Addr × List Addr)) (o : Nat), (∀ q ∈ l, q.1.length + q.2.length ≤ m) → (strA g s F o l).length ≤ l.length * (F.length + m)
 | [], _, _ => by simp [strA]
 | (P, Q) :: l, o, h => by
  have h1 := h (P, Q) (List.mem_cons_self ..)
  have h2 := strA_bound (g := g) (s := s) (F := F) l (o + s) (fun q hq => h q (List.mem_cons_of_mem _ hq))
  rw [strA, List.length_append, List.length_append, List.length_append, List.length_map, List.length_cons, Nat.succ_mul]
  dsimp only at h1
  omega
theorem rowH_le (u : Option Addr) (n : Nat) : (rowH u n).length ≤ n := by
 cases u with
 | none => simp [rowH]
 | some p => show (rowA _ _ _ _).length ≤ n; rw [rowA_len]; exact Nat.le_refl _
theorem strO_bound {s m n : Nat} {F : List Nat} (u : Option Addr) (hs : List (Option Addr × Nat)) (h : ∀ x ∈ hs, x.2 ≤ m) (hn : hs.length ≤ n) : (strO s F u hs).length ≤ n * (F.length + m) := by
 cases u with
 | none => simp [strO]
 | some p =>
  have := strA_bound (g := p.block) (s := s) (F := F) (m := m) (rowsQ hs) p.off (fun q hq => by
   obtain ⟨x, hx, rfl⟩ := List.mem_map.1 hq
   have := rowH_le x.1 x.2
   have := h x hx
   simp only [List.length_nil]
   omega)
  rw [show (rowsQ hs).length = hs.length from List.length_map ..] at this
  exact Nat.le_trans this (Nat.mul_le_mul_right _ hn)
def fnA (h : FunH) : List Addr := rowH h.1.1 h.1.2 ++ strB h.2.1 h.2.2
def FnR (K : List Addr) (w : World) (h : FunH) : Prop := IntR w h.1.1 h.1.2 ∧ BlsR K w h.2.1 h.2.2
theorem FnR.kp {K : List Addr} {w w' : World} {h : FunH} (hh : FnR K w h) (k : Below w.heap.size w w') : FnR K w' h := ⟨hh.1.kp k, hh.2.kp k⟩
theorem FnR.mk {K : List Addr} {w : World} {h : FunH} (hh : FnR K w h) {A : List Addr} (hA : ∀ a ∈ A, a ∈ K) (k : Int) : FnR K (mkw w A k) h := ⟨hh.1.mk A k, hh.2.mk hA k⟩
theorem OwnFn.fnR {w : World} {lo hi : Nat} {f : FnE} {K : List Addr} (h : OwnFn w lo hi f) (hK : KI w K) : FnR K w f.h := by
 obtain ⟨m, _, _, h3, h4⟩ := h
 exact ⟨h3.intR, h4.blsR hK⟩
set_option maxHeartbeats 2000000 in
theorem markFn (K : List Addr) (h : FunH) (c0 c2 : Nat) (ret k : Int) (w : World) (hh : FnR K (w.alloc (.cells #[.slice h.1.1 h.1.2 c0, .int .i64 ret, .slice h.2.1 h.2.2.length c2] 27)) h) (hA : ∀ a ∈ fnA h, a ∈ K) (hb : ∀ a ∈ fnA h, a.block ≠ w.heap.size) (hk0 : 0 ≤ k) (hk : k + (fnA h).length ≤ 4611686018427387904) :
  Calls Tryd.prog 18 #[.agg #[.slice h.1.1 h.1.2 c0, .int .i64 ret, .slice h.2.1 h.2.2.length c2], .int .i64 k] w fun e w' => e = .returned (.int .i64 (k + (fnA h).length)) ∧ w' = mkw (w.alloc (.cells #[.slice h.1.1 h.1.2 c0, .int .i64 ret, .slice h.2.1 h.2.2.length c2] 27)) (fnA h) k := by
 have hlA : (fnA h).length = (rowH h.1.1 h.1.2).length + (strB h.2.1 h.2.2).length := List.length_append ..
 have hlr : (rowH h.1.1 h.1.2).length = h.1.2 := hh.1.len
 have P1 := markIR h.1.1 c0 h.1.2 k _ hh.1 hk0 (by omega)
 have hs1 : ∀ a ∈ rowH h.1.1 h.1.2, a ∈ K := fun a ha => hA a (List.mem_append_left _ ha)
 have hh2 := hh.mk hs1 k
 have P2 := markBlO K h.2.1 c2 h.2.2 (k + h.1.2) _ hh2.2 (fun a ha => hA a (List.mem_append_right _ ha)) (by omega) (by omega)
 have A0 : At (w.alloc (.cells #[.slice h.1.1 h.1.2 c0, .int .i64 ret, .slice h.2.1 h.2.2.length c2] 27)) w.heap.size #[.slice h.1.1 h.1.2 c0, .int .i64 ret, .slice h.2.1 h.2.2.length c2] 27 := At.new _ _ _
 have x2 : (mkw (w.alloc (.cells #[.slice h.1.1 h.1.2 c0, .int .i64 ret, .slice h.2.1 h.2.2.length c2] 27)) (rowH h.1.1 h.1.2) k).cell? ⟨w.heap.size, 2, none⟩ = some (.slice h.2.1 h.2.2.length c2) := (cell_block (mkw_other _ _ _ _ fun a ha e => hb a (List.mem_append_left _ ha) e)).trans (A0.cell 2)
 have x0 : (w.alloc (.cells #[.slice h.1.1 h.1.2 c0, .int .i64 ret, .slice h.2.1 h.2.2.length c2] 27)).cell? ⟨w.heap.size, 0, none⟩ = some (.slice h.1.1 h.1.2 c0) := A0.cell 0
 have HE : Hid (mkw (mkw (w.alloc (.cells #[.slice h.1.1 h.1.2 c0, .int .i64 ret, .slice h.2.1 h.2.2.length c2] 27)) (rowH h.1.1 h.1.2) k) (strB h.2.1 h.2.2) (k + h.1.2) = mkw (w.alloc (.cells #[.slice h.1.1 h.1.2 c0, .int .i64 ret, .slice h.2.1 h.2.2.length c2] 27)) (fnA h) k) := by
  show _ = _
  unfold fnA
  rw [mkw_append, hlr]
 have HL : Hid (k + h.1.2 + ((strB h.2.1 h.2.2).length : Int) = k + ((fnA h).length : Int)) := by
  show _ = _
  rw [hlA, hlr]; omega
 clear hh hh2 hA hb hs1 A0 hlA hlr
 go_enter Tryd.func18, Tryd.ntmps18
 go_upto_region 1 with fail
 generalize hW1 : (w.alloc (.cells #[.slice h.1.1 h.1.2 c0, .int .i64 ret, .slice h.2.1 h.2.2.length c2] 27)) = W1 at *
 go_wp2_with fail
 refine P1.mono ?_
 rintro e w2 ⟨rfl, h9⟩
 rw [← h9] at P2 x2 HE
 clear h9 P1 x0
 go_wp2_with fail
 refine P2.mono ?_
 rintro e w3 ⟨rfl, h9⟩
 rw [← h9] at HE
 clear h9 P2 x2
 go_wp2_with fail
 go_ret
 exact ⟨ret_int HL.out, HE.out.trans (by rw [← hW1])⟩
set_option maxHeartbeats 2000000 in
theorem heldFn (K : List Addr) (h : FunH) (c0 c2 : Nat) (ret k : Int) (v : World) (hh : FnR K (v.alloc (.cells #[.slice h.1.1 h.1.2 c0, .int .i64 ret, .slice h.2.1 h.2.2.length c2] 27)) h) (hA : Hlds (v.alloc (.cells #[.slice h.1.1 h.1.2 c0, .int .i64 ret, .slice h.2.1 h.2.2.length c2] 27)) (fnA h) k) (hk0 : 0 ≤ k) (hk : k + (fnA h).length ≤ 4611686018427387904) :
  Calls Tryd.prog 20 #[.agg #[.slice h.1.1 h.1.2 c0, .int .i64 ret, .slice h.2.1 h.2.2.length c2], .int .i64 k] v fun e w' => e = .returned (.int .i64 (k + (fnA h).length)) ∧ w' = v.alloc (.cells #[.slice h.1.1 h.1.2 c0, .int .i64 ret, .slice h.2.1 h.2.2.length c2] 27) := by
 have hlA : (fnA h).length = (rowH h.1.1 h.1.2).length + (strB h.2.1 h.2.2).length := List.length_append ..
 have hlr : (rowH h.1.1 h.1.2).length = h.1.2 := hh.1.len
 have P1 := heldIR h.1.1 c0 h.1.2 k _ hh.1 hA.left hk0 (by omega)
 have hr := hA.right
 rw [hlr] at hr
 have P2 := heldBlO K h.2.1 c2 h.2.2 (k + h.1.2) _ hh.2 hr (by omega) (by omega)
 have A0 : At (v.alloc (.cells #[.slice h.1.1 h.1.2 c0, .int .i64 ret, .slice h.2.1 h.2.2.length c2] 27)) v.heap.size #[.slice h.1.1 h.1.2 c0, .int .i64 ret, .slice h.2.1 h.2.2.length c2] 27 := At.new _ _ _
 have x2 : (v.alloc (.cells #[.slice h.1.1 h.1.2 c0, .int .i64 ret, .slice h.2.1 h.2.2.length c2] 27)).cell? ⟨v.heap.size, 2, none⟩ = some (.slice h.2.1 h.2.2.length c2) := A0.cell 2
 have x0 : (v.alloc (.cells #[.slice h.1.1 h.1.2 c0, .int .i64 ret, .slice h.2.1 h.2.2.length c2] 27)).cell? ⟨v.heap.size, 0, none⟩ = some (.slice h.1.1 h.1.2 c0) := A0.cell 0
 have HL : Hid (k + h.1.2 + ((strB h.2.1 h.2.2).length : Int) = k + ((fnA h).length : Int)) := by
  show _ = _
  rw [hlA, hlr]; omega
 have n1 : ¬ (k + (h.1.2 : Int) < 0) := by omega
 have n2 : ¬ (k + (h.1.2 : Int) + ((strB h.2.1 h.2.2).length : Int) < 0) := by omega
 clear hh hA hr A0 hlA hlr
 go_enter Tryd.func20, Tryd.ntmps20
 go_upto_region 1 with fail
 generalize hW1 : (v.alloc (.cells #[.slice h.1.1 h.1.2 c0, .int .i64 ret, .slice h.2.1 h.2.2.length c2] 27)) = W1 at *
 go_wp2_with fail
 refine P1.mono ?_
 rintro e w2 ⟨rfl, h9⟩
 have h8 := h9.symm
 clear h9 P1 x0
 subst h8
 go_wp2_with fail
 refine P2.mono ?_
 rintro e w3 ⟨rfl, h9⟩
 have h8 := h9.symm
 clear h9 P2 x2
 subst h8
 go_wp2_with fail
 go_ret
 exact ⟨ret_int HL.out, hW1.symm⟩
def FitFn (d : FuncD) : Prop := d.params.length ≤ 1000 ∧ d.blocks.length ≤ 1000 ∧ ∀ b ∈ d.blocks, b.phis.length ≤ 1000 ∧ (∀ p ∈ b.phis, p.ins.length ≤ 1000) ∧ b.insts.length ≤ 1000 ∧ ∀ i ∈ b.insts, i.args.length ≤ 1000
theorem fnA_few {f : FnE} (h : FitFn f.d) : (fnA f.h).length ≤ 4000000000 := by
 obtain ⟨k1, k2, k3⟩ := h
 have g1 := rowH_le f.pu f.pars.length
 have k1' : f.pars.length ≤ 1000 := k1
 have k2' : f.bs.length ≤ 1000 := by have : (f.bs.map BkE.d).length ≤ 1000 := k2; rwa [List.length_map] at this
 have g2 : (strB f.bu (f.bs.map BkE.h)).length ≤ 1000 * (4 + 2100000) := by
  cases hbu : f.bu with
  | none => simp [strB]
  | some q =>
   have := strA_bound (g := q.block) (s := 6) (F := [2, 3, 4, 5]) (m := 2100000) (blksQ (f.bs.map BkE.h)) q.off (fun y hy => by
    obtain ⟨z, hz, rfl⟩ := List.mem_map.1 hy
    obtain ⟨b, hb, rfl⟩ := List.mem_map.1 hz
    obtain ⟨m1, m2, m3, m4⟩ := k3 b.d (List.mem_map.2 ⟨b, hb, rfl⟩)
    have m1' : b.ps.length ≤ 1000 := by have : (b.ps.map (·.1)).length ≤ 1000 := m1; rwa [List.length_map] at this
    have m3' : b.is.length ≤ 1000 := by have : (b.is.map (·.1)).length ≤ 1000 := m3; rwa [List.length_map] at this
    have n1 := strO_bound (s := 2) (m := 1000) (n := 1000) (F := [0]) b.pu (b.ps.map PhE.h) (fun x hx => by
     obtain ⟨e, he, rfl⟩ := List.mem_map.1 hx
     exact m2 e.1 (List.mem_map.2 ⟨e, he, rfl⟩)) (by rw [List.length_map]; exact m1')
    have n2 := strO_bound (s := 7) (m := 1000) (n := 1000) (F := [0, 1, 2, 3, 4, 5]) b.iu (b.is.map InE.h) (fun x hx => by
     obtain ⟨e, he, rfl⟩ := List.mem_map.1 hx
     exact m4 e.1 (List.mem_map.2 ⟨e, he, rfl⟩)) (by rw [List.length_map]; exact m3')
    show (blkA b.h).length + ([] : List Addr).length ≤ 2100000
    have e : blkA b.h = strO 2 [0] b.pu (b.ps.map PhE.h) ++ strO 7 [0, 1, 2, 3, 4, 5] b.iu (b.is.map InE.h) := rfl
    rw [e, List.length_append]
    simp only [List.length_nil, List.length_cons] at n1 n2 ⊢
    omega)
   have e1 : (blksQ (f.bs.map BkE.h)).length = f.bs.length := by simp [blksQ]
   rw [e1] at this
   show (strA q.block 6 [2, 3, 4, 5] q.off (blksQ (f.bs.map BkE.h))).length ≤ _
   have := Nat.le_trans this (Nat.mul_le_mul_right _ k2')
   simpa using this
 show (rowH f.pu f.pars.length ++ strB f.bu (f.bs.map BkE.h)).length ≤ _
 rw [List.length_append]
 omega
theorem OwnI.same {w w' : World} {lo hi : Nat} {u : Option Addr} {l : List Int} (h : OwnI w lo hi u l) (k : ∀ b, lo ≤ b → b < hi → w'.heap[b]? = w.heap[b]?) : OwnI w' lo hi u l := by
 refine ⟨h.1, ?_⟩
 rcases h.2 with h | ⟨g, cur, e, h1, h2, h3, h4⟩
 ·exact .inl h
 ·exact .inr ⟨g, cur, e, h1, h2, (k g h1 h2).trans h3, h4⟩
theorem OwnL.same {α : Type} {T : TypeId} {s : Nat} {C : α → List Value} {O : World → Nat → Nat → α → Prop} {w w' : World} {lo hi : Nat} {u : Option Addr} {es : List α} (h : OwnL T s C O w lo hi u es) (k : ∀ b, lo ≤ b → b < hi → w'.heap[b]? = w.heap[b]?) (hO : ∀ a m x, lo ≤ a → m ≤ hi → O w a m x → O w' a m x) : OwnL T s C O w' lo hi u es := by
 refine ⟨h.1, ?_, h.2.2.mapB hO⟩
 rcases h.2.1 with h0 | ⟨g, cur, e0, h1, h2, h3, h4⟩
 ·exact .inl h0
 ·exact .inr ⟨g, cur, e0, h1, h2, (k g h1 h2).trans h3, h4⟩
theorem OwnFn.same {w w' : World} {lo hi : Nat} {f : FnE} (h : OwnFn w lo hi f) (k : ∀ b, lo ≤ b → b < hi → w'.heap[b]? = w.heap[b]?) : OwnFn w' lo hi f := by
 obtain ⟨m, h1, h2, h3, h4⟩ := h
 refine ⟨m, h1, h2, h3.same fun b k1 k2 => k b k1 (by omega), OwnL.same h4 (fun b k1 k2 => k b (by omega) k2) fun a m2 x j1 j2 hx => ?_⟩
 obtain ⟨n, i1, i2, i3, i4⟩ := hx
 refine ⟨n, i1, i2, OwnL.same i3 (fun b k1 k2 => k b (by omega) (by omega)) fun a3 m3 y l1 l2 hy => OwnI.same hy fun b k1 k2 => k b (by omega) (by omega), OwnL.same i4 (fun b k1 k2 => k b (by omega) (by omega)) fun a3 m3 y l1 l2 hy => OwnI.same hy fun b k1 k2 => k b (by omega) (by omega)⟩
theorem OwnFn.at_ {w : World} {lo hi : Nat} {f : FnE} (h : OwnFn w lo hi f) : IntsAt w lo f.pu f.d.params ∧ BlocksAt w lo f.bu f.d.blocks := by
 obtain ⟨m, h1, h2, h3, h4⟩ := h
 exact ⟨h3.ints, (OwnBks.at_ h4).low h1⟩
end Go.Proofs.YtenbodghkpbghaaDoor
namespace Go.Proofs.YtenbodghkpbghaaDoor
open Go.RowKit
set_option linter.unusedVariables false
set_option linter.unusedSimpArgs false
theorem fit_ok {ρ : Int → Int} {d : FuncD} (h : OkFn d) : FitFn (sbFunc ρ d) := by
 refine ⟨h.pr, by show (d.blocks.map (sbBlock ρ)).length ≤ 1000; rw [List.length_map]; exact h.bl, fun b hb => ?_⟩
 obtain ⟨x, hx, rfl⟩ := List.mem_map.1 (show b ∈ d.blocks.map (sbBlock ρ) from hb)
 have hk := h.bk x hx
 refine ⟨by show (x.phis.map (sbPhi ρ)).length ≤ 1000; rw [List.length_map]; exact hk.pl, fun p hp => ?_, by show (x.insts.map (sbInst ρ)).length ≤ 1000; rw [List.length_map]; exact hk.il, fun i hi => ?_⟩
 ·obtain ⟨y, hy, rfl⟩ := List.mem_map.1 (show p ∈ x.phis.map (sbPhi ρ) from hp)
  show (y.ins.map ρ).length ≤ 1000
  rw [List.length_map]
  exact (hk.ph y hy).1
 ·obtain ⟨y, hy, rfl⟩ := List.mem_map.1 (show i ∈ x.insts.map (sbInst ρ) from hi)
  show (mkD y.op y.w y.imm ((opsD y).map ρ)).args.length ≤ 1000
  unfold mkD
  split
  ·show ((opsD y).map ρ).length ≤ 1000
   rw [List.length_map]
   exact (hk.is y hy).2.1
  ·exact Nat.zero_le _
theorem fit_sub (d : FuncD) (l : List Int) : FitFn (substD d l).1 := by
 by_cases h : subOk d l
 ·rw [subst_yes h]
  exact fit_ok (ok_form h.1)
 ·rw [subst_no h]
  exact ⟨by simp [func0], by simp [func0], fun b hb => by simp [func0] at hb⟩
structure CsF (B : Nat) (w w3 W : World) (xs ws : Array Value) : Prop where
 bx : At W w.heap.size xs 47
 bw : At W w3.heap.size ws 27
 ag : Agree B w3 W
 below : Below w.heap.size w W
 le : w.heap.size ≤ w3.heap.size
theorem CsF.to {B : Nat} {w w3 W W2 : World} {xs ws : Array Value} (h : CsF B w w3 W xs ws) (hl : ∀ b, b ≤ w3.heap.size → W2.heap[b]? = W.heap[b]?) (hz : W.heap.size ≤ W2.heap.size) (hb : Below w.heap.size w W2) : CsF B w w3 W2 xs ws :=
 ⟨(hl _ h.le).trans h.bx, (hl _ (Nat.le_refl _)).trans h.bw, ⟨Nat.le_trans h.ag.1 hz, fun b h1 h2 => (hl b (by omega)).trans (h.ag.2 b h1 h2)⟩, hb, h.le⟩
theorem CsF.keep {B : Nat} {w w3 W W2 : World} {xs ws : Array Value} (h : CsF B w w3 W xs ws) (k : Below W.heap.size W W2) : CsF B w w3 W2 xs ws :=
 h.to (fun b hb => k.block b (by have := h.bw.lt; omega)) k.size (h.below.trans (k.mono h.below.size))
theorem CsF.hdr {B lo hi : Nat} {w w3 W W2 : World} {xs ws : Array Value} (h : CsF B w w3 W xs ws) (k : Hdr lo hi W W2) (hlo : w3.heap.size < lo) : CsF B w w3 W2 xs ws :=
 h.to (fun b hb => k.out b (.inl (by omega)) (by have := h.bw.lt; omega)) k.size (below_hdr h.below k (by have := h.le; omega) h.below.size)
theorem SI.widen {w : World} {lo hi lo' hi' : Nat} {a : Option Addr} {n : Nat} (h : SI w lo hi a n) (h1 : lo' ≤ lo) (h2 : hi ≤ hi') : SI w lo' hi' a n := by
 rcases h with h | ⟨g, cur, e, k1, k2, k3⟩
 ·exact .inl h
 ·exact .inr ⟨g, cur, e, by omega, by omega, k3⟩
set_option maxHeartbeats 16000000 in
set_option maxRecDepth 100000 in
theorem fnExactSubstituted_core (lo la : Nat) (d : FuncD) (u0 : Option Addr) (c0 : Nat) (u2 : Option Addr) (c2 : Nat) (l : List Int) (ul : Option Addr) (cl : Nat) (w : World) (k0 : IntsAt w lo u0 d.params) (k2 : BlocksAt w lo u2 d.blocks) (kl : IntsAt w la ul l) :
  Calls Tryd.prog 4 #[.agg #[.slice u0 d.params.length c0, .int .i64 d.ret, .slice u2 d.blocks.length c2], .slice ul l.length cl] w fun e w' => e = .returned (.bool true) ∧ Below w.heap.size w w' := by
 have hlb := kl.1
 by_cases hll : l.length ≤ 1048576
 rotate_left
 ·have hgt : (1048576 : Int) < l.length := by omega
  go_enter Tryd.func4, Tryd.ntmps4
  go_wp2_with fail
  go_ret
  exact ⟨rfl, (Below.refl _ _).alloc (Nat.le_refl _) _⟩
 have hgt : ¬ ((1048576 : Int) < l.length) := by omega
 have HK0 : Hid (∀ W, Below w.heap.size w W → IntsAt W lo u0 d.params) := fun W q => k0.keep (agree_of_below q lo)
 have HK2 : Hid (∀ W, Below w.heap.size w W → BlocksAt W lo u2 d.blocks) := fun W q => k2.keep (agree_of_below q lo)
 have HKL : Hid (∀ W, Below w.heap.size w W → IntsAt W la ul l) := fun W q => kl.keep (agree_of_below q la)
 obtain ⟨p, hq⟩ : ∃ p, substD d l = p := ⟨_, rfl⟩
 have hfit := fit_sub d l
 rw [hq] at hfit
 obtain ⟨q, ok⟩ := p
 have HFIT : Hid (FitFn q) := hfit
 have HSI : Hid (∀ (lo : Nat) (u0 : Option Addr) (c0 : Nat) (u2 : Option Addr) (c2 : Nat) (ut : Option Addr) (ct : Nat) (W : World), SmFunc d → IntsAt W lo u0 d.params → BlocksAt W lo u2 d.blocks → IntsAt W lo ut l → Calls Tryd.prog 7 #[.agg #[.slice u0 d.params.length c0, .int .i64 d.ret, .slice u2 d.blocks.length c2], .slice ut l.length ct] W fun e w' => SubTold W (q, ok) e w') := fun lo u0 c0 u2 c2 ut ct W h1 h2 h3 h4 => by
  rw [← hq]; exact substI lo d u0 c0 u2 c2 l ut ct W h1 h2 h3 h4 hll
 have HSS : Hid (∀ (lo : Nat) (u0 : Option Addr) (c0 : Nat) (u2 : Option Addr) (c2 : Nat) (ut : Option Addr) (ct : Nat) (W : World), SmFunc d → IntsAt W lo u0 d.params → BlocksAt W lo u2 d.blocks → IntsAt W lo ut l → Calls Tryd.prog 8 #[.agg #[.slice u0 d.params.length c0, .int .i64 d.ret, .slice u2 d.blocks.length c2], .slice ut l.length ct] W fun e w' => SubMT W (q, ok) e w') := fun lo u0 c0 u2 c2 ut ct W h1 h2 h3 h4 => by
  rw [← hq]; exact substS lo d u0 c0 u2 c2 l ut ct W h1 h2 h3 h4 hll
 clear hq hfit k0 k2 kl
 have b0 : Below w.heap.size w (w.alloc (.cells #[.slice u0 d.params.length c0, .int .i64 d.ret, .slice u2 d.blocks.length c2] 47)) := (Below.refl _ _).alloc (Nat.le_refl _) _
 have A0 : At (w.alloc (.cells #[.slice u0 d.params.length c0, .int .i64 d.ret, .slice u2 d.blocks.length c2] 47)) w.heap.size #[.slice u0 d.params.length c0, .int .i64 d.ret, .slice u2 d.blocks.length c2] 47 := At.new _ _ _
 have hz0 : ((w.alloc (.cells #[.slice u0 d.params.length c0, .int .i64 d.ret, .slice u2 d.blocks.length c2] 47))).heap.size = w.heap.size + 1 := by simp
 have HA0 : Hid (At (w.alloc (.cells #[.slice u0 d.params.length c0, .int .i64 d.ret, .slice u2 d.blocks.length c2] 47)) w.heap.size #[.slice u0 d.params.length c0, .int .i64 d.ret, .slice u2 d.blocks.length c2] 47) := A0
 have HB0 : Hid (Below w.heap.size w (w.alloc (.cells #[.slice u0 d.params.length c0, .int .i64 d.ret, .slice u2 d.blocks.length c2] 47))) := b0
 have P1 := szFunc_any lo d u0 c0 u2 c2 1048576 (w.alloc (.cells #[.slice u0 d.params.length c0, .int .i64 d.ret, .slice u2 d.blocks.length c2] 47)) (by omega) (by omega) (HK0.out _ b0) (HK2.out _ b0)
 have x0 : ((w.alloc (.cells #[.slice u0 d.params.length c0, .int .i64 d.ret, .slice u2 d.blocks.length c2] 47))).cell? ⟨w.heap.size, 0, none⟩ = some (.slice u0 d.params.length c0) := A0.cell 0
 have x1 : ((w.alloc (.cells #[.slice u0 d.params.length c0, .int .i64 d.ret, .slice u2 d.blocks.length c2] 47))).cell? ⟨w.heap.size, 1, none⟩ = some (.int .i64 d.ret) := A0.cell 1
 have x2 : ((w.alloc (.cells #[.slice u0 d.params.length c0, .int .i64 d.ret, .slice u2 d.blocks.length c2] 47))).cell? ⟨w.heap.size, 2, none⟩ = some (.slice u2 d.blocks.length c2) := A0.cell 2
 clear b0 A0
 go_enter Tryd.func4, Tryd.ntmps4
 go_upto_region 1 with fail
 generalize (w.alloc (.cells #[.slice u0 d.params.length c0, .int .i64 d.ret, .slice u2 d.blocks.length c2] 47)) = W0 at *
 go_wp2_with fail
 refine P1.mono ?_
 rintro e w1 ⟨rfl, b1⟩
 clear P1 x0 x1 x2
 have HA1 : Hid (At w1 w.heap.size #[.slice u0 d.params.length c0, .int .i64 d.ret, .slice u2 d.blocks.length c2] 47) := HA0.out.below b1
 have HB1 : Hid (Below w.heap.size w w1) := HB0.out.trans (b1.mono (by omega))
 have hz1 : w.heap.size < w1.heap.size := HA1.out.lt
 clear HA0 HB0 b1 hz0
 rcases szFunc_falls d 1048576 (by omega) with hz | ⟨hz, _⟩
 ·have hz2 : szFunc d 1048576 < 0 := by omega
  clear hz
  go_wp2_with fail
  go_ret
  exact ⟨rfl, HB1.out⟩
 have HSM : Hid (SmFunc d) := szFunc_small (by omega) hz
 have hz3 : ¬ szFunc d 1048576 < 0 := by omega
 clear hz
 have x0 : w1.cell? ⟨w.heap.size, 0, none⟩ = some (.slice u0 d.params.length c0) := HA1.out.cell 0
 have x1 : w1.cell? ⟨w.heap.size, 1, none⟩ = some (.int .i64 d.ret) := HA1.out.cell 1
 have x2 : w1.cell? ⟨w.heap.size, 2, none⟩ = some (.slice u2 d.blocks.length c2) := HA1.out.cell 2
 have P2 := toFunc_any lo d u0 c0 u2 c2 w1 HSM.out (HK0.out _ HB1.out) (HK2.out _ HB1.out)
 go_wp2_with fail
 refine P2.mono ?_
 rintro e w2 ⟨v0, q0, v2, q2, rfl, n0, n2, b2⟩
 clear P2 x0 x1 x2 hz3
 have HB2 : Hid (Below w.heap.size w w2) := HB1.out.trans (b2.mono HB1.out.size)
 have HA2 : Hid (At w2 w.heap.size #[.slice u0 d.params.length c0, .int .i64 d.ret, .slice u2 d.blocks.length c2] 47) := HA1.out.below b2
 have P3 := toInts_any la ul cl l w2 hll (HKL.out _ HB2.out)
 clear HB1 HA1
 go_wp2_with fail
 refine P3.mono ?_
 rintro e w2b ⟨us, cs, rfl, sl, b2b⟩
 clear P3
 have HB2b : Hid (Below w.heap.size w w2b) := HB2.out.trans (b2b.mono HB2.out.size)
 have HA2b : Hid (At w2b w.heap.size #[.slice u0 d.params.length c0, .int .i64 d.ret, .slice u2 d.blocks.length c2] 47) := HA2.out.below b2b
 have P4 := HSS.out w1.heap.size v0 q0 v2 q2 us cs w2b HSM.out (n0.keep (agree_of_below b2b _)) (n2.keep (agree_of_below b2b _)) (sl.low b2.size)
 clear HB2 HA2 n0 n2 sl b2b b2
 go_wp2_with fail
 refine P4.mono ?_
 rintro e w3 ⟨⟨pu, pc, bu, bc, rfl, hp, hbk⟩, b3⟩
 clear P4
 have HMP : Hid (IntsAt w3 w2b.heap.size pu q.params) := hp
 have HMB : Hid (BlocksAt w3 w2b.heap.size bu q.blocks) := hbk
 have k3 : Below w3.heap.size w3 (w3.alloc (.cells #[.slice pu q.params.length pc, .int .i64 q.ret, .slice bu q.blocks.length bc] 27)) := (Below.refl _ _).alloc (Nat.le_refl _) _
 have hB3 : Below w.heap.size w w3 := HB2b.out.trans (b3.mono HB2b.out.size)
 have HC3 : Hid (CsF w2b.heap.size w w3 (w3.alloc (.cells #[.slice pu q.params.length pc, .int .i64 q.ret, .slice bu q.blocks.length bc] 27)) #[.slice u0 d.params.length c0, .int .i64 d.ret, .slice u2 d.blocks.length c2] #[.slice pu q.params.length pc, .int .i64 q.ret, .slice bu q.blocks.length bc]) := ⟨(HA2b.out.below b3).below k3, At.new _ _ _, agree_of_below k3 _, hB3.trans (k3.mono hB3.size), hB3.size⟩
 have hz3 : ((w3.alloc (.cells #[.slice pu q.params.length pc, .int .i64 q.ret, .slice bu q.blocks.length bc] 27))).heap.size = w3.heap.size + 1 := by simp
 clear hp hbk b3 HB2b HA2b k3 hB3
 go_upto_region 8 with fail
 generalize (w3.alloc (.cells #[.slice pu q.params.length pc, .int .i64 q.ret, .slice bu q.blocks.length bc] 27)) = W3 at *
 have x0 : W3.cell? ⟨w.heap.size, 0, none⟩ = some (.slice u0 d.params.length c0) := HC3.out.bx.cell 0
 have x1 : W3.cell? ⟨w.heap.size, 1, none⟩ = some (.int .i64 d.ret) := HC3.out.bx.cell 1
 have x2 : W3.cell? ⟨w.heap.size, 2, none⟩ = some (.slice u2 d.blocks.length c2) := HC3.out.bx.cell 2
 have P5 := toFunc_own lo d u0 c0 u2 c2 W3 HSM.out (HK0.out _ HC3.out.below) (HK2.out _ HC3.out.below)
 go_wp2_with fail
 refine P5.mono ?_
 rintro e w4 ⟨m0, r0, m2, r2, rfl, j0, j2, b4⟩
 clear P5 x0 x1 x2
 have k4 : Below w4.heap.size w4 (w4.alloc (.cells #[.slice m0 d.params.length r0, .int .i64 d.ret, .slice m2 d.blocks.length r2] 27)) := (Below.refl _ _).alloc (Nat.le_refl _) _
 have HC4 : Hid (CsF w2b.heap.size w w3 (w4.alloc (.cells #[.slice m0 d.params.length r0, .int .i64 d.ret, .slice m2 d.blocks.length r2] 27)) #[.slice u0 d.params.length c0, .int .i64 d.ret, .slice u2 d.blocks.length c2] #[.slice pu q.params.length pc, .int .i64 q.ret, .slice bu q.blocks.length bc]) := (HC3.out.keep b4).keep k4
 have HX4 : Hid (At (w4.alloc (.cells #[.slice m0 d.params.length r0, .int .i64 d.ret, .slice m2 d.blocks.length r2] 27)) w4.heap.size #[.slice m0 d.params.length r0, .int .i64 d.ret, .slice m2 d.blocks.length r2] 27) := At.new _ _ _
 have HJ0 : Hid (OI (w4.alloc (.cells #[.slice m0 d.params.length r0, .int .i64 d.ret, .slice m2 d.blocks.length r2] 27)) W3.heap.size m0 d.params) := j0.keep (agree_of_below k4 _)
 have HJ2 : Hid (OB (w4.alloc (.cells #[.slice m0 d.params.length r0, .int .i64 d.ret, .slice m2 d.blocks.length r2] 27)) W3.heap.size m2 d.blocks) := j2.keep (agree_of_below k4 _)
 have hz4 : W3.heap.size ≤ ((w4.alloc (.cells #[.slice m0 d.params.length r0, .int .i64 d.ret, .slice m2 d.blocks.length r2] 27))).heap.size := Nat.le_trans b4.size k4.size
 clear HC3 j0 j2 b4 k4
 go_upto_region 9 with fail
 generalize (w4.alloc (.cells #[.slice m0 d.params.length r0, .int .i64 d.ret, .slice m2 d.blocks.length r2] 27)) = W4 at *
 have P6 := toInts_own la ul cl l W4 hll (HKL.out _ HC4.out.below)
 go_wp2_with fail
 refine P6.mono ?_
 rintro e w5 ⟨ux, cx, rfl, s5, b5⟩
 clear P6
 have HC5 : Hid (CsF w2b.heap.size w w3 w5 #[.slice u0 d.params.length c0, .int .i64 d.ret, .slice u2 d.blocks.length c2] #[.slice pu q.params.length pc, .int .i64 q.ret, .slice bu q.blocks.length bc]) := HC4.out.keep b5
 have HX5 : Hid (At w5 w4.heap.size #[.slice m0 d.params.length r0, .int .i64 d.ret, .slice m2 d.blocks.length r2] 27) := HX4.out.below b5
 have j05 := HJ0.out.keep (agree_of_below b5 _)
 have j25 := HJ2.out.keep (agree_of_below b5 _)
 have HT0 : Hid (SI w5 W3.heap.size w5.heap.size m0 d.params.length) := j05.sh
 have HT2 : Hid (SB w5 W3.heap.size w5.heap.size m2 d.blocks) := j25.sh
 have HTU : Hid (SI w5 W3.heap.size w5.heap.size ux l.length) := s5.sh.widen hz4 (Nat.le_refl _)
 have HI0 : Hid (IntsAt w5 W3.heap.size m0 d.params) := j05.at
 have HI2 : Hid (BlocksAt w5 W3.heap.size m2 d.blocks) := j25.at
 have HIU : Hid (IntsAt w5 W3.heap.size ux l) := s5.at.low hz4
 have P7 := HSI.out W3.heap.size m0 r0 m2 r2 ux cx w5 HSM.out HI0.out HI2.out HIU.out
 have hz5 : W3.heap.size ≤ w5.heap.size := Nat.le_trans hz4 b5.size
 have h45 : w4.heap.size < w5.heap.size := HX5.out.lt
 clear HC4 HX4 HJ0 HJ2 s5 b5 j05 j25 hz4
 have y0 : w5.cell? ⟨w4.heap.size, 0, none⟩ = some (.slice m0 d.params.length r0) := HX5.out.cell 0
 have y1 : w5.cell? ⟨w4.heap.size, 1, none⟩ = some (.int .i64 d.ret) := HX5.out.cell 1
 have y2 : w5.cell? ⟨w4.heap.size, 2, none⟩ = some (.slice m2 d.blocks.length r2) := HX5.out.cell 2
 go_wp2_with fail
 refine P7.mono ?_
 rintro e w6 ⟨⟨f, hfd, rfl, hown⟩, b6⟩
 clear P7 y0 y1 y2
 dsimp only at hfd ⊢
 have e1 : f.pars.length = q.params.length := by rw [← hfd]; rfl
 have e2 : f.ret = q.ret := by rw [← hfd]; rfl
 have e3 : f.bs.length = q.blocks.length := by rw [← hfd]; show _ = (f.bs.map BkE.d).length; rw [List.length_map]
 rw [e1, e2, e3]
 obtain ⟨h, hh⟩ : ∃ h, f.h = h := ⟨_, rfl⟩
 have a1 : h.1.1 = f.pu := by rw [← hh]; rfl
 have a2 : h.1.2 = q.params.length := by rw [← hh, ← e1]; rfl
 have a3 : h.2.1 = f.bu := by rw [← hh]; rfl
 have a4 : h.2.2.length = q.blocks.length := by rw [← hh, ← e3]; show (f.bs.map BkE.h).length = _; rw [List.length_map]
 have HH : Hid (f.h = h) := hh
 have HFD : Hid (f.d = q) := hfd
 have HLH : Hid (h.1.1 = f.pu ∧ h.1.2 = q.params.length ∧ h.2.1 = f.bu ∧ h.2.2.length = q.blocks.length) := ⟨a1, a2, a3, a4⟩
 have HLK : Hid ((fnA h).length ≤ 4000000000) := by show _ ≤ _; rw [← hh]; exact fnA_few (by rw [hfd]; exact HFIT.out)
 clear e1 e2 e3 a1 a2 a3 a4 hh hfd HFIT
 have k6 : Below w6.heap.size w6 (w6.alloc (.cells #[.slice f.pu q.params.length f.pc, .int .i64 q.ret, .slice f.bu q.blocks.length f.bc] 27)) := (Below.refl _ _).alloc (Nat.le_refl _) _
 have HC6 : Hid (CsF w2b.heap.size w w3 (w6.alloc (.cells #[.slice f.pu q.params.length f.pc, .int .i64 q.ret, .slice f.bu q.blocks.length f.bc] 27)) #[.slice u0 d.params.length c0, .int .i64 d.ret, .slice u2 d.blocks.length c2] #[.slice pu q.params.length pc, .int .i64 q.ret, .slice bu q.blocks.length bc]) := (HC5.out.keep b6).keep k6
 have HX6 : Hid (At (w6.alloc (.cells #[.slice f.pu q.params.length f.pc, .int .i64 q.ret, .slice f.bu q.blocks.length f.bc] 27)) w4.heap.size #[.slice m0 d.params.length r0, .int .i64 d.ret, .slice m2 d.blocks.length r2] 27) := (HX5.out.below b6).below k6
 have HG6 : Hid (At (w6.alloc (.cells #[.slice f.pu q.params.length f.pc, .int .i64 q.ret, .slice f.bu q.blocks.length f.bc] 27)) w6.heap.size #[.slice f.pu q.params.length f.pc, .int .i64 q.ret, .slice f.bu q.blocks.length f.bc] 27) := At.new _ _ _
 have b56 : Below w5.heap.size w5 (w6.alloc (.cells #[.slice f.pu q.params.length f.pc, .int .i64 q.ret, .slice f.bu q.blocks.length f.bc] 27)) := b6.trans (k6.mono b6.size)
 have HO6 : Hid (OwnFn (w6.alloc (.cells #[.slice f.pu q.params.length f.pc, .int .i64 q.ret, .slice f.bu q.blocks.length f.bc] 27)) w5.heap.size w6.heap.size f) := OwnFn.still hown (Still.below (k := 9) k6) (by decide)
 have HD6 : Hid (Below w5.heap.size w5 (w6.alloc (.cells #[.slice f.pu q.params.length f.pc, .int .i64 q.ret, .slice f.bu q.blocks.length f.bc] 27))) := b56
 have hz6 : w5.heap.size ≤ w6.heap.size := b6.size
 clear HC5 HX5 hown b6 k6 b56
 go_upto_region 11 with fail
 generalize (w6.alloc (.cells #[.slice f.pu q.params.length f.pc, .int .i64 q.ret, .slice f.bu q.blocks.length f.bc] 27)) = W6 at *
 have v0 : W6.cell? ⟨w3.heap.size, 0, none⟩ = some (.slice pu q.params.length pc) := HC6.out.bw.cell 0
 have v1 : W6.cell? ⟨w3.heap.size, 1, none⟩ = some (.int .i64 q.ret) := HC6.out.bw.cell 1
 have v2 : W6.cell? ⟨w3.heap.size, 2, none⟩ = some (.slice bu q.blocks.length bc) := HC6.out.bw.cell 2
 have g0 : W6.cell? ⟨w6.heap.size, 0, none⟩ = some (.slice f.pu q.params.length f.pc) := HG6.out.cell 0
 have g1 : W6.cell? ⟨w6.heap.size, 1, none⟩ = some (.int .i64 q.ret) := HG6.out.cell 1
 have g2 : W6.cell? ⟨w6.heap.size, 2, none⟩ = some (.slice f.bu q.blocks.length f.bc) := HG6.out.cell 2
 have o6 := OwnFn.at_ HO6.out
 rw [HFD.out] at o6
 have P8 := eqFunc_any w5.heap.size w2b.heap.size q f.pu f.pc f.bu f.bc pu pc bu bc W6 o6.1 o6.2 (HMP.out.keep HC6.out.ag) (HMB.out.keep HC6.out.ag)
 clear o6
 go_wp2_with fail
 refine P8.mono ?_
 rintro e w7 ⟨rfl, b7⟩
 clear P8 v0 v1 v2 g0 g1 g2
 have HC7 : Hid (CsF w2b.heap.size w w3 w7 #[.slice u0 d.params.length c0, .int .i64 d.ret, .slice u2 d.blocks.length c2] #[.slice pu q.params.length pc, .int .i64 q.ret, .slice bu q.blocks.length bc]) := HC6.out.keep b7
 have HX7 : Hid (At w7 w4.heap.size #[.slice m0 d.params.length r0, .int .i64 d.ret, .slice m2 d.blocks.length r2] 27) := HX6.out.below b7
 have HG7 : Hid (At w7 w6.heap.size #[.slice f.pu q.params.length f.pc, .int .i64 q.ret, .slice f.bu q.blocks.length f.bc] 27) := HG6.out.below b7
 have HO7 : Hid (OwnFn w7 w5.heap.size w6.heap.size f) := OwnFn.still HO6.out (Still.below (k := 9) b7) (by decide)
 have HD7 : Hid (Below w5.heap.size w5 w7) := HD6.out.trans (b7.mono HD6.out.size)
 clear HC6 HX6 HG6 HO6 HD6 b7
 go_upto_region 13 with fail
 have P9 := toFunc_any lo d u0 c0 u2 c2 w7.drew HSM.out (HK0.out _ HC7.out.below.drew) (HK2.out _ HC7.out.below.drew)
 have s0 : At w7.drew w.heap.size #[.slice u0 d.params.length c0, .int .i64 d.ret, .slice u2 d.blocks.length c2] 47 ∧ At w7.drew w4.heap.size #[.slice m0 d.params.length r0, .int .i64 d.ret, .slice m2 d.blocks.length r2] 27 := ⟨HC7.out.bx, HX7.out⟩
 have rowX : Hid (∀ W : World, At W w.heap.size #[.slice u0 d.params.length c0, .int .i64 d.ret, .slice u2 d.blocks.length c2] 47 ∧ At W w4.heap.size #[.slice m0 d.params.length r0, .int .i64 d.ret, .slice m2 d.blocks.length r2] 27 → W.cell? ⟨w.heap.size, 0, none⟩ = some (.slice u0 d.params.length c0) ∧ W.cell? ⟨w.heap.size, 1, none⟩ = some (.int .i64 d.ret) ∧ W.cell? ⟨w.heap.size, 2, none⟩ = some (.slice u2 d.blocks.length c2) ∧ W.cell? ⟨w4.heap.size, 0, none⟩ = some (.slice m0 d.params.length r0) ∧ W.cell? ⟨w4.heap.size, 1, none⟩ = some (.int .i64 d.ret) ∧ W.cell? ⟨w4.heap.size, 2, none⟩ = some (.slice m2 d.blocks.length r2)) := fun W h => ⟨h.1.cell 0, h.1.cell 1, h.1.cell 2, h.2.cell 0, h.2.cell 1, h.2.cell 2⟩
 refine startX (fun w' => At w' w.heap.size #[.slice u0 d.params.length c0, .int .i64 d.ret, .slice u2 d.blocks.length c2] 47 ∧ At w' w4.heap.size #[.slice m0 d.params.length r0, .int .i64 d.ret, .slice m2 d.blocks.length r2] 27) (fun _ => false) (by kernel_rfl) ?_
 refine takeX 0 (v := ?_) rfl rfl (by kernel_rfl) (fun _ _ _ h => h) (yesH (by rfl) ?_) s0 ?_
 rotate_left
 ·intro w9 hS9
  obtain ⟨a0, a1, a2, a3, a4, a5⟩ := rowX.out w9 hS9
  go_simp
  try with_reducible rfl
 try simp only [Act.put, sA, sB, sC]
 refine takeX 1 (v := ?_) rfl rfl (by kernel_rfl) (fun _ _ _ h => h) (yesH (by rfl) ?_) s0 ?_
 rotate_left
 ·intro w9 hS9
  obtain ⟨a0, a1, a2, a3, a4, a5⟩ := rowX.out w9 hS9
  go_simp
  try with_reducible rfl
 try simp only [Act.put, sA, sB, sC]
 refine readyX 2 rfl (by kernel_rfl) (fun K hK => ?_)
 go_simp
 go_wp2_with fail
 refine P9.mono ?_
 rintro e w8 ⟨z0, s0', z2, s2, rfl, l0, l2, b8'⟩
 have b8 : Below w7.heap.size w7 w8 := undrew b8'
 have s8 : At w8 w.heap.size #[.slice u0 d.params.length c0, .int .i64 d.ret, .slice u2 d.blocks.length c2] 47 ∧ At w8 w4.heap.size #[.slice m0 d.params.length r0, .int .i64 d.ret, .slice m2 d.blocks.length r2] 27 := ⟨HC7.out.bx.below b8, HX7.out.below b8⟩
 have b58 : Below w5.heap.size w5 w8 := HD7.out.trans (b8.mono HD7.out.size)
 have P10 := eqFunc_any W3.heap.size w7.heap.size d m0 r0 m2 r2 z0 s0' z2 s2 w8 (HI0.out.keep (agree_of_below b58 _)) (HI2.out.keep (agree_of_below b58 _)) l0 l2
 refine hK.out _ _ (.inr s8) ?_
 clear hK K P9 s0 b8' l0 l2
 try simp only [Act.put, sA, sB, sC]
 refine readyX 3 rfl (by kernel_rfl) (fun K hK => ?_)
 go_simp
 go_wp2_with fail
 refine P10.mono ?_
 rintro e w9 ⟨rfl, b9⟩
 have b79 : Below w7.heap.size w7 w9 := b8.trans (b9.mono b8.size)
 have s9 : At w9 w.heap.size #[.slice u0 d.params.length c0, .int .i64 d.ret, .slice u2 d.blocks.length c2] 47 ∧ At w9 w4.heap.size #[.slice m0 d.params.length r0, .int .i64 d.ret, .slice m2 d.blocks.length r2] 27 := ⟨s8.1.below b9, s8.2.below b9⟩
 have HC9 : Hid (CsF w2b.heap.size w w3 w9 #[.slice u0 d.params.length c0, .int .i64 d.ret, .slice u2 d.blocks.length c2] #[.slice pu q.params.length pc, .int .i64 q.ret, .slice bu q.blocks.length bc]) := HC7.out.keep b79
 have HX9 : Hid (At w9 w4.heap.size #[.slice m0 d.params.length r0, .int .i64 d.ret, .slice m2 d.blocks.length r2] 27) := HX7.out.below b79
 have HG9 : Hid (At w9 w6.heap.size #[.slice f.pu q.params.length f.pc, .int .i64 q.ret, .slice f.bu q.blocks.length f.bc] 27) := HG7.out.below b79
 have HO9 : Hid (OwnFn w9 w5.heap.size w6.heap.size f) := OwnFn.still HO7.out (Still.below (k := 9) b79) (by decide)
 have HD9 : Hid (Below w5.heap.size w5 w9) := HD7.out.trans (b79.mono HD7.out.size)
 refine hK.out _ _ (.inr s9) ?_
 clear hK K P10 s8 b8 b9 b79 b58 HC7 HX7 HG7 HO7 HD7
 try simp only [Act.put, sA, sB, sC]
 refine takeX 4 (v := ?_) rfl rfl (by kernel_rfl) (fun _ _ _ h => h) (yesH (by rfl) ?_) s9 ?_
 rotate_left
 ·intro w9 hS9
  go_simp
  try with_reducible rfl
 try simp only [Act.put, sA, sB, sC]
 clear s9 rowX
 refine doneX (by kernel_rfl) ?_ _
 have P11 := toInts_any la ul cl l w9 hll (HKL.out _ HC9.out.below)
 go_wp2_with fail
 refine P11.mono ?_
 rintro e w10 ⟨uy, cy, rfl, sy, b10⟩
 have b510 : Below w5.heap.size w5 w10 := HD9.out.trans (b10.mono HD9.out.size)
 have P12 := eqInts_any W3.heap.size w9.heap.size ux uy cx cy l w10 (HIU.out.keep (agree_of_below b510 _)) sy
 clear P11 sy
 go_wp2_with fail
 refine P12.mono ?_
 rintro e w11 ⟨rfl, b11⟩
 have b911 : Below w9.heap.size w9 w11 := b10.trans (b11.mono b10.size)
 have HC11 : Hid (CsF w2b.heap.size w w3 w11 #[.slice u0 d.params.length c0, .int .i64 d.ret, .slice u2 d.blocks.length c2] #[.slice pu q.params.length pc, .int .i64 q.ret, .slice bu q.blocks.length bc]) := HC9.out.keep b911
 have HX11 : Hid (At w11 w4.heap.size #[.slice m0 d.params.length r0, .int .i64 d.ret, .slice m2 d.blocks.length r2] 27) := HX9.out.below b911
 have HG11 : Hid (At w11 w6.heap.size #[.slice f.pu q.params.length f.pc, .int .i64 q.ret, .slice f.bu q.blocks.length f.bc] 27) := HG9.out.below b911
 have HO11 : Hid (OwnFn w11 w5.heap.size w6.heap.size f) := OwnFn.still HO9.out (Still.below (k := 9) b911) (by decide)
 have b511 : Below w5.heap.size w5 w11 := HD9.out.trans (b911.mono HD9.out.size)
 have t0 := HT0.out.keep (hdr_below b511)
 have t2 := HT2.out.keep (hdr_below b511)
 have HTU11 : Hid (SI w11 W3.heap.size w5.heap.size ux l.length) := HTU.out.keep (hdr_below b511)
 have hz11 : w5.heap.size ≤ w11.heap.size := b511.size
 have P13 := markFunc_le W3.heap.size w5.heap.size d m0 r0 m2 r2 1 w11 HSM.out (by omega) (by omega) hz11 t0 t2
 clear P12 HC9 HX9 HG9 HO9 HD9 b510 b911 b511 b10 b11 t0 t2 HT0 HT2 HTU HI0 HI2 HIU
 have y0 : w11.cell? ⟨w4.heap.size, 0, none⟩ = some (.slice m0 d.params.length r0) := HX11.out.cell 0
 have y1 : w11.cell? ⟨w4.heap.size, 1, none⟩ = some (.int .i64 d.ret) := HX11.out.cell 1
 have y2 : w11.cell? ⟨w4.heap.size, 2, none⟩ = some (.slice m2 d.blocks.length r2) := HX11.out.cell 2
 go_wp2_with fail
 refine P13.mono ?_
 rintro e w12 ⟨x, rfl, hx0, hx4, d12⟩
 clear P13 y0 y1 y2
 have P14 := markInts W3.heap.size w5.heap.size ux cx l.length x w12 hll hx0 (by omega) (HTU11.out.keep d12)
 go_wp2_with fail
 refine P14.mono ?_
 rintro e w13 ⟨rfl, d13⟩
 have dd := d12.trans d13
 have HC13 : Hid (CsF w2b.heap.size w w3 w13 #[.slice u0 d.params.length c0, .int .i64 d.ret, .slice u2 d.blocks.length c2] #[.slice pu q.params.length pc, .int .i64 q.ret, .slice bu q.blocks.length bc]) := HC11.out.hdr dd (by omega)
 have HG13 : Hid (At w13 w6.heap.size #[.slice f.pu q.params.length f.pc, .int .i64 q.ret, .slice f.bu q.blocks.length f.bc] 27) := (dd.out _ (.inr hz6) HG11.out.lt).trans HG11.out
 have HO13 : Hid (OwnFn w13 w5.heap.size w6.heap.size f) := HO11.out.same fun b h1 h2 => dd.out b (.inr h1) (by have := HG11.out.lt; omega)
 clear P14 HTU11 HC11 HX11 HG11 HO11 d12 d13 dd
 have hxn : ¬ x + (l.length : Int) < 0 := by omega
 have v0 : w13.cell? ⟨w3.heap.size, 0, none⟩ = some (.slice pu q.params.length pc) := HC13.out.bw.cell 0
 have v1 : w13.cell? ⟨w3.heap.size, 1, none⟩ = some (.int .i64 q.ret) := HC13.out.bw.cell 1
 have v2 : w13.cell? ⟨w3.heap.size, 2, none⟩ = some (.slice bu q.blocks.length bc) := HC13.out.bw.cell 2
 have g0 : w13.cell? ⟨w6.heap.size, 0, none⟩ = some (.slice f.pu q.params.length f.pc) := HG13.out.cell 0
 have g1 : w13.cell? ⟨w6.heap.size, 1, none⟩ = some (.int .i64 q.ret) := HG13.out.cell 1
 have g2 : w13.cell? ⟨w6.heap.size, 2, none⟩ = some (.slice f.bu q.blocks.length f.bc) := HG13.out.cell 2
 have o13 := OwnFn.at_ HO13.out
 rw [HFD.out] at o13
 have P15 := eqFunc_any w5.heap.size w2b.heap.size q f.pu f.pc f.bu f.bc pu pc bu bc w13 o13.1 o13.2 (HMP.out.keep HC13.out.ag) (HMB.out.keep HC13.out.ag)
 clear o13
 go_wp2_with fail
 refine P15.mono ?_
 rintro e w14 ⟨rfl, b14⟩
 clear P15 v0 v1 v2 g0 g1 g2
 have HC14 : Hid (CsF w2b.heap.size w w3 w14 #[.slice u0 d.params.length c0, .int .i64 d.ret, .slice u2 d.blocks.length c2] #[.slice pu q.params.length pc, .int .i64 q.ret, .slice bu q.blocks.length bc]) := HC13.out.keep b14
 have HG14 : Hid (At w14 w6.heap.size #[.slice f.pu q.params.length f.pc, .int .i64 q.ret, .slice f.bu q.blocks.length f.bc] 27) := HG13.out.below b14
 have HO14 : Hid (OwnFn w14 w5.heap.size w6.heap.size f) := OwnFn.still HO13.out (Still.below (k := 9) b14) (by decide)
 clear HC13 HG13 HO13 b14 hx4
 obtain ⟨inA, nod⟩ := HO14.out.inA
 have hK0 : rowH f.pu f.pars.length ++ strB f.bu (f.bs.map BkE.h) = fnA h := by rw [← HH.out]; rfl
 rw [hK0] at inA nod
 have hfr : FnR (fnA h) w14 h := by have := HO14.out.fnR inA.ki; rw [HH.out] at this; exact this
 have kk : Below w14.heap.size w14 (w14.alloc (.cells #[.slice f.pu q.params.length f.pc, .int .i64 q.ret, .slice f.bu q.blocks.length f.bc] 27)) := (Below.refl _ _).alloc (Nat.le_refl _) _
 have HFR : Hid (FnR (fnA h) (w14.alloc (.cells #[.slice f.pu q.params.length f.pc, .int .i64 q.ret, .slice f.bu q.blocks.length f.bc] 27)) h) := hfr.kp kk
 have HKB : Hid (∀ a ∈ fnA h, w5.heap.size ≤ a.block ∧ a.block < w6.heap.size) := fun a ha => ⟨(inA a ha).1, (inA a ha).2.1⟩
 have hIA : ∀ a ∈ fnA h, ∃ v, ((w14.alloc (.cells #[.slice f.pu q.params.length f.pc, .int .i64 q.ret, .slice f.bu q.blocks.length f.bc] 27))).cell? a = some v := fun a ha => by
  obtain ⟨_, _, _, z, hz⟩ := inA a ha
  exact ⟨_, (cell_kp kk hz).1⟩
 have HHL : Hid (Hlds (mkw (w14.alloc (.cells #[.slice f.pu q.params.length f.pc, .int .i64 q.ret, .slice f.bu q.blocks.length f.bc] 27)) (fnA h) 1) (fnA h) 1) := hlds_mkw nod hIA
 have HF15 : Hid (FnR (fnA h) (mkw (w14.alloc (.cells #[.slice f.pu q.params.length f.pc, .int .i64 q.ret, .slice f.bu q.blocks.length f.bc] 27)) (fnA h) 1) h) := HFR.out.mk (fun a ha => ha) 1
 obtain ⟨a1, a2, a3, a4⟩ := HLH.out
 have hlt14 : w6.heap.size < w14.heap.size := HG14.out.lt
 have M : Calls Tryd.prog 18 #[.agg #[.slice f.pu q.params.length f.pc, .int .i64 q.ret, .slice f.bu q.blocks.length f.bc], .int .i64 1] w14 fun e w' => e = .returned (.int .i64 (1 + (fnA h).length)) ∧ w' = mkw (w14.alloc (.cells #[.slice f.pu q.params.length f.pc, .int .i64 q.ret, .slice f.bu q.blocks.length f.bc] 27)) (fnA h) 1 := by
  have h9 := markFn (fnA h) h f.pc f.bc q.ret 1 w14 (by rw [a1, a2, a3, a4]; exact HFR.out) (fun a ha => ha) (fun a ha e => by have := HKB.out a ha; omega) (by omega) (by have := HLK.out; omega)
  rw [a1, a2, a3, a4] at h9
  exact h9
 have same : ∀ b, (b < w5.heap.size ∨ w6.heap.size ≤ b) → (mkw (w14.alloc (.cells #[.slice f.pu q.params.length f.pc, .int .i64 q.ret, .slice f.bu q.blocks.length f.bc] 27)) (fnA h) 1).heap[b]? = ((w14.alloc (.cells #[.slice f.pu q.params.length f.pc, .int .i64 q.ret, .slice f.bu q.blocks.length f.bc] 27))).heap[b]? := fun b hb => mkw_other _ 1 _ b (fun a ha e => by have := HKB.out a ha; omega)
 have C14' := HC14.out.keep kk
 have zm : (mkw (w14.alloc (.cells #[.slice f.pu q.params.length f.pc, .int .i64 q.ret, .slice f.bu q.blocks.length f.bc] 27)) (fnA h) 1).heap.size = ((w14.alloc (.cells #[.slice f.pu q.params.length f.pc, .int .i64 q.ret, .slice f.bu q.blocks.length f.bc] 27))).heap.size := mkw_size _ _ _
 have h35 : w3.heap.size < w5.heap.size := by omega
 have hw3 : w.heap.size ≤ w3.heap.size := C14'.le
 have HC15 : Hid (CsF w2b.heap.size w w3 (mkw (w14.alloc (.cells #[.slice f.pu q.params.length f.pc, .int .i64 q.ret, .slice f.bu q.blocks.length f.bc] 27)) (fnA h) 1) #[.slice u0 d.params.length c0, .int .i64 d.ret, .slice u2 d.blocks.length c2] #[.slice pu q.params.length pc, .int .i64 q.ret, .slice bu q.blocks.length bc]) := C14'.to (fun b hb => same b (.inl (by omega))) (by rw [zm]; exact Nat.le_refl _) (mkw_below _ 1 w _ (fun a ha => by have := (HKB.out a ha).1; omega) C14'.below)
 have HG15 : Hid (At (mkw (w14.alloc (.cells #[.slice f.pu q.params.length f.pc, .int .i64 q.ret, .slice f.bu q.blocks.length f.bc] 27)) (fnA h) 1) w6.heap.size #[.slice f.pu q.params.length f.pc, .int .i64 q.ret, .slice f.bu q.blocks.length f.bc] 27) := (same _ (.inr (Nat.le_refl _))).trans (HG14.out.below kk)
 have g0 : w14.cell? ⟨w6.heap.size, 0, none⟩ = some (.slice f.pu q.params.length f.pc) := HG14.out.cell 0
 have g1 : w14.cell? ⟨w6.heap.size, 1, none⟩ = some (.int .i64 q.ret) := HG14.out.cell 1
 have g2 : w14.cell? ⟨w6.heap.size, 2, none⟩ = some (.slice f.bu q.blocks.length f.bc) := HG14.out.cell 2
 clear HO14 inA nod hK0 hfr kk hIA same C14' zm HFR HC14
 go_wp2_with fail
 refine M.mono ?_
 rintro e w15 ⟨rfl, hw15⟩
 rw [← hw15] at HHL HF15 HC15 HG15
 clear hw15 M g0 g1 g2 HG14 HKB hlt14
 have hnn : ¬ (1 : Int) + ((fnA h).length : Int) < 0 := by omega
 have HELD : Hid (∀ W, Below w15.heap.size w15 W → Calls Tryd.prog 20 #[.agg #[.slice f.pu q.params.length f.pc, .int .i64 q.ret, .slice f.bu q.blocks.length f.bc], .int .i64 1] W fun e w' => e = .returned (.int .i64 (1 + (fnA h).length)) ∧ w' = W.alloc (.cells #[.slice f.pu q.params.length f.pc, .int .i64 q.ret, .slice f.bu q.blocks.length f.bc] 27)) := fun W k => by
  have kk : Below W.heap.size W (W.alloc (.cells #[.slice f.pu q.params.length f.pc, .int .i64 q.ret, .slice f.bu q.blocks.length f.bc] 27)) := (Below.refl _ _).alloc (Nat.le_refl _) _
  have h9 := heldFn (fnA h) h f.pc f.bc q.ret 1 W (by rw [a1, a2, a3, a4]; exact (HF15.out.kp k).kp kk) (by rw [a1, a2, a3, a4]; exact (HHL.out.kp k).kp kk) (by omega) (by have := HLK.out; omega)
  rw [a1, a2, a3, a4] at h9
  exact h9
 clear a1 a2 a3 a4
 have N := HELD.out w15 (Below.refl _ _)
 have g0 : w15.cell? ⟨w6.heap.size, 0, none⟩ = some (.slice f.pu q.params.length f.pc) := HG15.out.cell 0
 have g1 : w15.cell? ⟨w6.heap.size, 1, none⟩ = some (.int .i64 q.ret) := HG15.out.cell 1
 have g2 : w15.cell? ⟨w6.heap.size, 2, none⟩ = some (.slice f.bu q.blocks.length f.bc) := HG15.out.cell 2
 clear HHL HF15 HLH HLK HH HFD
 have b16 : Below w15.heap.size w15 (w15.alloc (.cells #[.slice f.pu q.params.length f.pc, .int .i64 q.ret, .slice f.bu q.blocks.length f.bc] 27)) := (Below.refl _ _).alloc (Nat.le_refl _) _
 have HC16 : Hid (CsF w2b.heap.size w w3 (w15.alloc (.cells #[.slice f.pu q.params.length f.pc, .int .i64 q.ret, .slice f.bu q.blocks.length f.bc] 27)) #[.slice u0 d.params.length c0, .int .i64 d.ret, .slice u2 d.blocks.length c2] #[.slice pu q.params.length pc, .int .i64 q.ret, .slice bu q.blocks.length bc]) := HC15.out.keep b16
 have HG16 : Hid (At (w15.alloc (.cells #[.slice f.pu q.params.length f.pc, .int .i64 q.ret, .slice f.bu q.blocks.length f.bc] 27)) w6.heap.size #[.slice f.pu q.params.length f.pc, .int .i64 q.ret, .slice f.bu q.blocks.length f.bc] 27) := HG15.out.below b16
 have HB16 : Hid (Below w15.heap.size w15 (w15.alloc (.cells #[.slice f.pu q.params.length f.pc, .int .i64 q.ret, .slice f.bu q.blocks.length f.bc] 27))) := b16
 go_wp2_with fail
 refine N.mono ?_
 rintro e w16 ⟨rfl, hw16⟩
 rw [← hw16] at HC16 HG16 HB16
 clear hw16 N g0 g1 g2 b16 HC15 HG15
 have x0 : w16.cell? ⟨w.heap.size, 0, none⟩ = some (.slice u0 d.params.length c0) := HC16.out.bx.cell 0
 have x1 : w16.cell? ⟨w.heap.size, 1, none⟩ = some (.int .i64 d.ret) := HC16.out.bx.cell 1
 have x2 : w16.cell? ⟨w.heap.size, 2, none⟩ = some (.slice u2 d.blocks.length c2) := HC16.out.bx.cell 2
 have P17 := toFunc_any lo d u0 c0 u2 c2 w16 HSM.out (HK0.out _ HC16.out.below) (HK2.out _ HC16.out.below)
 go_wp2_with fail
 refine P17.mono ?_
 rintro e w17 ⟨v0, q0, v2, q2, rfl, n0, n2, b17⟩
 clear P17 x0 x1 x2
 have HC17 : Hid (CsF w2b.heap.size w w3 w17 #[.slice u0 d.params.length c0, .int .i64 d.ret, .slice u2 d.blocks.length c2] #[.slice pu q.params.length pc, .int .i64 q.ret, .slice bu q.blocks.length bc]) := HC16.out.keep b17
 have P18 := toInts_any la ul cl l w17 hll (HKL.out _ HC17.out.below)
 go_wp2_with fail
 refine P18.mono ?_
 rintro e w18 ⟨us8, cs8, rfl, sl8, b18⟩
 have P19 := HSI.out w16.heap.size v0 q0 v2 q2 us8 cs8 w18 HSM.out (n0.keep (agree_of_below b18 _)) (n2.keep (agree_of_below b18 _)) (sl8.low b17.size)
 have HC18 : Hid (CsF w2b.heap.size w w3 w18 #[.slice u0 d.params.length c0, .int .i64 d.ret, .slice u2 d.blocks.length c2] #[.slice pu q.params.length pc, .int .i64 q.ret, .slice bu q.blocks.length bc]) := HC17.out.keep b18
 have b1618 : Below w16.heap.size w16 w18 := b17.trans (b18.mono b17.size)
 clear P18 n0 n2 sl8 HC17 HC16
 go_wp2_with fail
 refine P19.mono ?_
 rintro e w19 ⟨⟨f9, hfd9, rfl, hown9⟩, b19⟩
 clear P19
 dsimp only at hfd9 ⊢
 have e1 : f9.pars.length = q.params.length := by rw [← hfd9]; rfl
 have e2 : f9.ret = q.ret := by rw [← hfd9]; rfl
 have e3 : f9.bs.length = q.blocks.length := by rw [← hfd9]; show _ = (f9.bs.map BkE.d).length; rw [List.length_map]
 rw [e1, e2, e3]
 have o9 := OwnFn.at_ hown9
 rw [hfd9] at o9
 clear e1 e2 e3 hfd9 hown9
 have kA : Below w19.heap.size w19 (w19.alloc (.cells #[.slice f9.pu q.params.length f9.pc, .int .i64 q.ret, .slice f9.bu q.blocks.length f9.bc] 27)) := (Below.refl _ _).alloc (Nat.le_refl _) _
 have HCA : Hid (CsF w2b.heap.size w w3 (w19.alloc (.cells #[.slice f9.pu q.params.length f9.pc, .int .i64 q.ret, .slice f9.bu q.blocks.length f9.bc] 27)) #[.slice u0 d.params.length c0, .int .i64 d.ret, .slice u2 d.blocks.length c2] #[.slice pu q.params.length pc, .int .i64 q.ret, .slice bu q.blocks.length bc]) := (HC18.out.keep b19).keep kA
 have HGA : Hid (At (w19.alloc (.cells #[.slice f9.pu q.params.length f9.pc, .int .i64 q.ret, .slice f9.bu q.blocks.length f9.bc] 27)) w6.heap.size #[.slice f.pu q.params.length f.pc, .int .i64 q.ret, .slice f.bu q.blocks.length f.bc] 27) := ((HG16.out.below b1618).below b19).below kA
 have HHA : Hid (At (w19.alloc (.cells #[.slice f9.pu q.params.length f9.pc, .int .i64 q.ret, .slice f9.bu q.blocks.length f9.bc] 27)) w19.heap.size #[.slice f9.pu q.params.length f9.pc, .int .i64 q.ret, .slice f9.bu q.blocks.length f9.bc] 27) := At.new _ _ _
 have b16A : Below w16.heap.size w16 (w19.alloc (.cells #[.slice f9.pu q.params.length f9.pc, .int .i64 q.ret, .slice f9.bu q.blocks.length f9.bc] 27)) := (b1618.trans (b19.mono b1618.size)).trans (kA.mono (Nat.le_trans b1618.size b19.size))
 have HBA : Hid (Below w15.heap.size w15 (w19.alloc (.cells #[.slice f9.pu q.params.length f9.pc, .int .i64 q.ret, .slice f9.bu q.blocks.length f9.bc] 27))) := HB16.out.trans (b16A.mono HB16.out.size)
 have PA := eqFunc_any w18.heap.size w2b.heap.size q f9.pu f9.pc f9.bu f9.bc pu pc bu bc (w19.alloc (.cells #[.slice f9.pu q.params.length f9.pc, .int .i64 q.ret, .slice f9.bu q.blocks.length f9.bc] 27)) (o9.1.keep (agree_of_below kA _)) (o9.2.keep (agree_of_below kA _)) (HMP.out.keep HCA.out.ag) (HMB.out.keep HCA.out.ag)
 clear HC18 HG16 o9 kA b16A HB16 b1618 b17 b18 b19
 go_upto_region 31 with fail
 generalize (w19.alloc (.cells #[.slice f9.pu q.params.length f9.pc, .int .i64 q.ret, .slice f9.bu q.blocks.length f9.bc] 27)) = WA at *
 have v0 : WA.cell? ⟨w3.heap.size, 0, none⟩ = some (.slice pu q.params.length pc) := HCA.out.bw.cell 0
 have v1 : WA.cell? ⟨w3.heap.size, 1, none⟩ = some (.int .i64 q.ret) := HCA.out.bw.cell 1
 have v2 : WA.cell? ⟨w3.heap.size, 2, none⟩ = some (.slice bu q.blocks.length bc) := HCA.out.bw.cell 2
 have g0 : WA.cell? ⟨w19.heap.size, 0, none⟩ = some (.slice f9.pu q.params.length f9.pc) := HHA.out.cell 0
 have g1 : WA.cell? ⟨w19.heap.size, 1, none⟩ = some (.int .i64 q.ret) := HHA.out.cell 1
 have g2 : WA.cell? ⟨w19.heap.size, 2, none⟩ = some (.slice f9.bu q.blocks.length f9.bc) := HHA.out.cell 2
 go_wp2_with fail
 refine PA.mono ?_
 rintro e w20 ⟨rfl, b20⟩
 clear PA v0 v1 v2 g0 g1 g2
 have N := HELD.out w20 (HBA.out.trans (b20.mono HBA.out.size))
 have HC20 : Hid (Below w.heap.size w w20) := (HCA.out.keep b20).below
 have HG20 : Hid (At w20 w6.heap.size #[.slice f.pu q.params.length f.pc, .int .i64 q.ret, .slice f.bu q.blocks.length f.bc] 27) := HGA.out.below b20
 have HCZ : Hid (Below w.heap.size w (w20.alloc (.cells #[.slice f.pu q.params.length f.pc, .int .i64 q.ret, .slice f.bu q.blocks.length f.bc] 27))) := HC20.out.alloc HC20.out.size _
 have g0 : w20.cell? ⟨w6.heap.size, 0, none⟩ = some (.slice f.pu q.params.length f.pc) := HG20.out.cell 0
 have g1 : w20.cell? ⟨w6.heap.size, 1, none⟩ = some (.int .i64 q.ret) := HG20.out.cell 1
 have g2 : w20.cell? ⟨w6.heap.size, 2, none⟩ = some (.slice f.bu q.blocks.length f.bc) := HG20.out.cell 2
 clear HCA HGA HHA HBA b20 HG20
 go_wp2_with fail
 refine N.mono ?_
 rintro e w21 ⟨rfl, hw21⟩
 rw [← hw21] at HCZ
 clear hw21 N g0 g1 g2
 go_wp2_with fail
 go_ret
 exact ⟨rfl, HCZ.out⟩
end Go.Proofs.YtenbodghkpbghaaDoor
namespace Go.Proofs.YtenbodghkpbghaaDoor
open Go.ChangeShapes Go.WideShapes Go.RowKit
set_option linter.unusedVariables false
theorem gC : Tryd.prog.globalNamed "loop.example/g00457/impl.errUnread" = some 0 := by kernel_rfl
theorem tC : (Tryd.prog.globals[0]?).map (·.type) = some 163 := by kernel_rfl
theorem lcES : Tryd.prog.cellsOf 181 = 1 := by kernel_rfl
theorem lcS : Tryd.prog.cellsOf 9 = 1 := by kernel_rfl
theorem lstar : "*" ++ "errors.errorString" = "*errors.errorString" := by decide
theorem lrow (u : TypeId) (h : Tryd.prog.typeName? 3 u = some "*errors.errorString") : u = 164 :=
 typeName_ptr_named (nm := "errors.errorString") (by rw [lstar]; kernel_rfl) (by kernel_rfl) (by decide) u (by rw [lstar]; exact h)
def errV (a : Addr) : Value := .iface 164 (.pointer (some a))
theorem var_below {W W' : World} {n : String} {g : Nat} {cs : Array Value} (hg : Tryd.prog.globalNamed n = some g) (h : W.var? Tryd.prog n = some cs) (k : Below W.heap.size W W') : W'.var? Tryd.prog n = some cs := by
 unfold World.var? at h ⊢
 simp only [hg, Option.bind_some] at h ⊢
 have hlt : g < W.heap.size := by
  rcases Nat.lt_or_ge g W.heap.size with h' | h'
  ·exact h'
  ·simp [Array.getElem?_eq_none h'] at h
 rw [k.block g hlt]
 exact h
theorem vars_cons {H : Type} (enc : TypeId × Value → H) {W : World} {n : String} {g : Nat} {x : Value} {ns : List String} {ds : List (DataW H)} {qs : List MemPlace} {sp : Nat → Bool}
  (hg : Tryd.prog.globalNamed n = some g) (ht : (Tryd.prog.globals[g]?).map (·.type) = some 163) (h : W.var? Tryd.prog n = some #[x]) (ix : IsIface x) (r : DataW.TrodVars enc Tryd.prog W sp ns ds qs) :
  DataW.TrodVars enc Tryd.prog W sp (n :: ns) (tok enc x :: ds) (.cell g 0 :: qs) :=
 ⟨g, 163, #[x], 1, [], qs, hg, ht, h, trod_held Tryd.underlying163 ix 0, r, rfl⟩
structure LaidC (W : World) (aC : Addr) : Prop where
 c : W.var? Tryd.prog "loop.example/g00457/impl.errUnread" = some #[errV aC]
theorem LaidC.keep {W W' : World} {aC : Addr} (h : LaidC W aC) (k : Below W.heap.size W W') : LaidC W' aC := ⟨var_below gC h.c k⟩
theorem LaidC.read {H : Type} (enc : TypeId × Value → H) {W : World} {aC : Addr} (h : LaidC W aC) (sp : Nat → Bool) :
  DataW.TrodVars enc Tryd.prog W sp ["loop.example/g00457/impl.errUnread"] [tok enc (errV aC)] [.cell 0 0] :=
 vars_cons enc gC tC h.c trivial rfl
set_option maxHeartbeats 4000000 in
set_option maxRecDepth 100000 in
theorem cnt_of_laid {W : World} (h : laidMetH Tryd.prog [("loop.example/g00457/impl.errUnread", Rows.laid_loop_example_g00457_impl_errUnread)] W) : ∃ aC, LaidC W aC := by
 rw [MakeChecks.laidMetH_plain _ _ _ (by kernel_rfl)] at h
 obtain ⟨ps, ⟨g0, t0, cs0, f0, p0, q0, hg0, ht0, hv0, hd0, hq0, e0⟩, hnd, hrows⟩ := h
 obtain rfl := Option.some.inj (gC.symm.trans hg0)
 obtain rfl := Option.some.inj (tC.symm.trans ht0)
 have hq0' : q0 = [] := hq0
 subst hq0'
 subst e0
 obtain ⟨l0⟩ := cs0
 have ok0 : ∀ u v, l0 = [.iface u v] → Value.okWide Tryd.prog W .any 0 u v := fun u v e => by
  subst e
  exact (hrows 0 0 (by simp [MemPlace.row])).2 u v (by simpa using World.var?_cell hg0 hv0 0)
 obtain ⟨a0, s0, rfl, hc0, hs0, hz0, rfl⟩ := errorString_of_trod Tryd.underlying163 lrow Tryd.underlying164 Tryd.underlying181 rfl rfl Tryd.underlying9 lcES lcS hd0 ok0
 exact ⟨a0, ⟨hv0⟩⟩
theorem door_metC (os : Os) (args : Array Value) : laidMetH Tryd.prog [("loop.example/g00457/impl.errUnread", Rows.laid_loop_example_g00457_impl_errUnread)] ((World.doorLaid Tryd.prog 28 os).forCall (fun _ _ => 0) ⟨#[], args, []⟩).memory := by
 rw [MakeChecks.laidMetH_plain _ _ _ (by kernel_rfl)]
 exact laidMet_of_run' 8 (by kernel_rfl) (by kernel_rfl)
end Go.Proofs.YtenbodghkpbghaaDoor
