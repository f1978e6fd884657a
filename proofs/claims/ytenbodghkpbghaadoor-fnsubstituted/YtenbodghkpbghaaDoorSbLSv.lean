import Derived.Test.YtenbodghkpbghaaDoorSbKSv
namespace Go.Proofs.YtenbodghkpbghaaDoor
open Go.RowKit
set_option linter.unusedVariables false
set_option linter.unusedSimpArgs false
structure LSt (z m0 : Nat) (w wr : World) (PS CS ZS : Array Value) (pu : Option Addr) (pars : List Int) (bu : Option Addr) (bs : List BkE) : Prop where
 s : SSt w wr z 27 PS CS ZS
 pr : OwnI wr (w.heap.size + 2) m0 pu pars
 bk : OwnBksZ z wr m0 z bu bs
 m : w.heap.size + 2 ≤ m0
theorem LSt.keep {z m0 : Nat} {w wr w2 : World} {PS CS ZS : Array Value} {pu bu : Option Addr} {pars : List Int} {bs : List BkE} (h : LSt z m0 w wr PS CS ZS pu pars bu bs) (k : Below wr.heap.size wr w2) : LSt z m0 w w2 PS CS ZS pu pars bu bs :=
 ⟨h.s.keep k, h.pr.still (Still.below (k := 9) k) (by decide), OwnBksZ.still h.bk (Still.below (k := 9) k) (by decide), h.m⟩
theorem LSt.drew {z m0 : Nat} {w wr : World} {PS CS ZS : Array Value} {pu bu : Option Addr} {pars : List Int} {bs : List BkE} (h : LSt z m0 w wr PS CS ZS pu pars bu bs) : LSt z m0 w wr.drew PS CS ZS pu pars bu bs := ⟨h.s.drew, h.pr, OwnBksZ.still h.bk (Still.refl 9 wr).drew (by decide), h.m⟩
theorem LSt.far {z m0 X o : Nat} {w wr : World} {PS CS ZS cs : Array Value} {pu bu : Option Addr} {pars : List Int} {bs : List BkE} {v : Value} (h : LSt z m0 w wr PS CS ZS pu pars bu bs) (hX : At wr X cs 41) (hz : z < X) : LSt z m0 w (wr.setCell ⟨X, o, none⟩ v) PS CS ZS pu pars bu bs := by
 have one := One.set X o v wr
 have q3 : ∀ cur T, lvT T < 3 → wr.heap[X]? ≠ some (.cells cur T (0, 0)) := fun cur T hT => lv_ne hX (by rw [show lvT 41 = 3 by decide]; omega) cur
 have h1 := h.s.ltX
 exact ⟨h.s.far (by omega) (by omega), h.pr.other one (fun cur => q3 cur _ (by decide)), OwnL.away h.bk one (by omega) fun a m x _ _ hx => hx.other one q3, h.m⟩
theorem SSt.fars {w : World} {X q : Nat} {T : TypeId} {ps cs zs : Array Value} (h1 : q ≠ X) (h2 : w.heap.size + 1 < q) : ∀ (vs : List Value) (o : Nat) {wr : World}, SSt w wr X T ps cs zs → SSt w (wr.setCells q o vs) X T ps cs zs
 | [], _, _, h => h
 | v :: r, o, _, h => SSt.fars h1 h2 r (o + 1) (h.far h1 h2)
theorem LSt.cell {z m0 b i k : Nat} {w wr : World} {PS CS ZS : Array Value} {pu bu : Option Addr} {pars : List Int} {bs : List BkE} {bk : BkE} {e : PhE} (h : LSt z m0 w wr PS CS ZS pu pars bu bs) (hb : bs[b]? = some bk) (he : bk.ps[i]? = some e) (hk : k < e.1.ins.length) :
  ∃ q cur, e.2.1 = some ⟨q, 0, none⟩ ∧ q < z ∧ At wr q cur 2 ∧ cur[k]? = some (.int .i64 (e.1.ins.getD k 0)) ∧ ∀ v : Int, LSt z m0 w (wr.setCell ⟨q, k, none⟩ (.int .i64 v)) PS CS ZS pu pars bu (bs.set b (bk.ph (bk.ps.set i (⟨e.1.w, e.1.ins.set k v⟩, e.2)))) := by
 obtain ⟨q, cur, h1, h2, h3, h4, h5, h6⟩ := bksCell h.bk (Nat.le_refl _) hb he hk
 have hm := h.m
 refine ⟨q, cur, h1, h3, h4, h5, fun v => ⟨h.s.far (by omega) (by omega), h.pr.away (One.set q k _ wr) (by omega), h6 v, hm⟩⟩
theorem LSt.inst {z m0 b i : Nat} {w wr : World} {PS CS ZS : Array Value} {pu bu : Option Addr} {pars : List Int} {bs : List BkE} {bk : BkE} {e : InE} (h : LSt z m0 w wr PS CS ZS pu pars bu bs) (hb : bs[b]? = some bk) (he : bk.is[i]? = some e) :
  ∃ g cur l, bk.iu = some ⟨g, 0, none⟩ ∧ g < z ∧ At wr g cur 44 ∧ (∀ j, j < 7 → cur[i * 7 + j]? = (inC e)[j]?) ∧ IntsAt wr l e.2.1 e.1.args ∧
   ∀ (w2 : World) (e' : InE), Below wr.heap.size wr w2 → OwnI w2 wr.heap.size w2.heap.size e'.2.1 e'.1.args → LSt z m0 w (w2.setCells g (i * 7) (inC e')) PS CS ZS pu pars bu (bs.set b (bk.ins (bk.is.set i e'))) := by
 obtain ⟨g, cur, h1, h2, h3, h4, h5, ⟨l, h6⟩, h7⟩ := bksInst h.bk (Nat.le_refl _) hb he
 have hm := h.m
 have hzl := h.s.box.lt
 refine ⟨g, cur, l, h1, h3, h4, h5, h6.elim (fun h => h.1) (fun h => h.1), fun w2 e' k ho => ?_⟩
 have one : One g wr (w2.setCells g (i * 7) (inC e')) := One.sets _ _ (One.of_below k)
 have one2 : One g w2 (w2.setCells g (i * 7) (inC e')) := One.sets _ _ ⟨Nat.le_refl _, fun _ _ _ => rfl⟩
 exact ⟨SSt.fars (by omega) (by omega) _ _ (h.s.keep k), h.pr.away one (by omega), h7 _ e' one (heap_setCells _ _ _ _ (h4.below k)) ⟨w2.heap.size, (ho.wide (by omega) (Nat.le_refl _)).away one2 (by omega)⟩, hm⟩
theorem LSt.block {z m0 b : Nat} {w wr : World} {PS CS ZS : Array Value} {pu bu : Option Addr} {pars : List Int} {bs : List BkE} {bk : BkE} (h : LSt z m0 w wr PS CS ZS pu pars bu bs) (hb : bs[b]? = some bk) :
  ∃ g cur, bu = some ⟨g, 0, none⟩ ∧ g < z ∧ At wr g cur 41 ∧ (∀ j, j < 6 → cur[b * 6 + j]? = (bkC bk)[j]?) ∧
   ∀ (t' : TermD), LSt z m0 w (wr.setCells g (b * 6) (bkC (bk.tm t'))) PS CS ZS pu pars bu (bs.set b (bk.tm t')) := by
 obtain ⟨g, cur, h1, h2, h3, h4, h5, h7⟩ := bksBlock h.bk (Nat.le_refl _) hb
 have hm := h.m
 refine ⟨g, cur, h1, h3, h4, h5, fun t' => ?_⟩
 have one : One g wr (wr.setCells g (b * 6) (bkC (bk.tm t'))) := One.sets _ _ ⟨Nat.le_refl _, fun _ _ _ => rfl⟩
 exact ⟨SSt.fars (by omega) (by omega) _ _ h.s, h.pr.away one (by omega), h7 _ t' one (heap_setCells _ _ _ _ h4), hm⟩
theorem set_same {α : Type} {l : List α} {b : Nat} {x : α} (h : l[b]? = some x) : l.set b x = l := by
 obtain ⟨hl, rfl⟩ := List.getElem?_eq_some_iff.1 h
 exact List.set_getElem_self hl
theorem set_at {α : Type} {l : List α} {b : Nat} {x y : α} (h : l[b]? = some x) : (l.set b y)[b]? = some y := by
 rw [List.getElem?_set_self (List.getElem?_eq_some_iff.1 h).1]
theorem get_of {α : Type} {l : List α} {b : Nat} (h : b < l.length) : ∃ x, l[b]? = some x := ⟨l[b], List.getElem?_eq_getElem h⟩
theorem mid_el {α β : Type} (g : α → β) (f : β → β) (z : β) {l : List α} {D : List β} {b : Nat} {x : α} (hm : l.map g = (D.take b).map f ++ D.drop b) (hb : b < D.length) (hx : l[b]? = some x) : g x = D.getD b z := by
 have h1 : (l.map g)[b]? = some (g x) := by rw [List.getElem?_map, hx]; rfl
 rw [hm, mid_get f D b hb] at h1
 simp [List.getD, h1]
theorem mid_set {α β : Type} (g : α → β) (f : β → β) (z : β) {l : List α} {D : List β} {b : Nat} {y : α} (hm : l.map g = (D.take b).map f ++ D.drop b) (hb : b < D.length) (hy : g y = f (D.getD b z)) : (l.set b y).map g = (D.take (b + 1)).map f ++ D.drop (b + 1) := by
 rw [List.map_set, hm, hy, set_mid f z D b hb]
structure InF (tt : List Int) (d : FuncD) : Prop where
 ph : ∀ b ∈ d.blocks, ∀ p ∈ b.phis, InT tt p.ins
 is : ∀ b ∈ d.blocks, ∀ i ∈ b.insts, fB i = true ∧ InT tt (opsD i)
 tm : ∀ b ∈ d.blocks, InT tt (namesT b.term)
end Go.Proofs.YtenbodghkpbghaaDoor
namespace Go.Proofs.YtenbodghkpbghaaDoor
open Go.RowKit
set_option linter.unusedVariables false
set_option linter.unusedSimpArgs false
def SubM (w : World) (d : FuncD) (e : Ending) (w' : World) : Prop := (∃ pu pc bu bc, e = .returned (.agg #[.slice pu d.params.length pc, .int .i64 d.ret, .slice bu d.blocks.length bc]) ∧ IntsAt w' w.heap.size pu d.params ∧ BlocksAt w' w.heap.size bu d.blocks) ∧ Below w.heap.size w w'
theorem setCells_six (w : World) (g o : Nat) (a b c d e f : Value) : w.setCells g o [a, b, c, d, e, f] = (((((w.setCell ⟨g, o, none⟩ a).setCell ⟨g, o + 1, none⟩ b).setCell ⟨g, o + 2, none⟩ c).setCell ⟨g, o + 3, none⟩ d).setCell ⟨g, o + 4, none⟩ e).setCell ⟨g, o + 5, none⟩ f := rfl
set_option maxHeartbeats 16000000 in
set_option maxRecDepth 100000 in
theorem l8SubstS (lo : Nat) (d : FuncD) (u0 : Option Addr) (c0 : Nat) (u2 : Option Addr) (c2 : Nat) (tt : List Int) (ut : Option Addr) (ct : Nat) (w : World) (m0 : IntsAt w lo u0 d.params) (m2 : BlocksAt w lo u2 d.blocks) (mt : IntsAt w lo ut tt) (hd : OkFn d) (hin : InF tt d) :
  Calls Tryd.prog 31 #[.agg #[.slice u0 d.params.length c0, .int .i64 d.ret, .slice u2 d.blocks.length c2], .slice ut tt.length ct] w fun e w' => SubM w (sbFunc (rhoT tt) d) e w' := by
 have HD : Hid (OkFn d) := hd
 have HIN : Hid (InF tt d) := hin
 have HMT : Hid (IntsAt w lo ut tt) := mt
 have b0 : Below w.heap.size w ((w.alloc (.cells #[.slice u0 d.params.length c0, .int .i64 d.ret, .slice u2 d.blocks.length c2] 27)).alloc (.cells #[.slice none 0 0, .int .i64 0, .slice none 0 0] 27)) := ((Below.refl _ _).alloc (Nat.le_refl _) _).alloc (by simp) _
 have A0 : At ((w.alloc (.cells #[.slice u0 d.params.length c0, .int .i64 d.ret, .slice u2 d.blocks.length c2] 27)).alloc (.cells #[.slice none 0 0, .int .i64 0, .slice none 0 0] 27)) w.heap.size #[.slice u0 d.params.length c0, .int .i64 d.ret, .slice u2 d.blocks.length c2] 27 := (Below.heap_alloc _ _ _ (by simp)).trans (heap_alloc_last _ _)
 have HB : Hid (Below w.heap.size w ((w.alloc (.cells #[.slice u0 d.params.length c0, .int .i64 d.ret, .slice u2 d.blocks.length c2] 27)).alloc (.cells #[.slice none 0 0, .int .i64 0, .slice none 0 0] 27))) := b0
 have HZ : Hid (At ((w.alloc (.cells #[.slice u0 d.params.length c0, .int .i64 d.ret, .slice u2 d.blocks.length c2] 27)).alloc (.cells #[.slice none 0 0, .int .i64 0, .slice none 0 0] 27)) (w.heap.size + 1) #[.slice none 0 0, .int .i64 0, .slice none 0 0] 27) := heap_two2 _ _ _
 have HA : Hid (At ((w.alloc (.cells #[.slice u0 d.params.length c0, .int .i64 d.ret, .slice u2 d.blocks.length c2] 27)).alloc (.cells #[.slice none 0 0, .int .i64 0, .slice none 0 0] 27)) w.heap.size #[.slice u0 d.params.length c0, .int .i64 d.ret, .slice u2 d.blocks.length c2] 27) := A0
 have hz : (((w.alloc (.cells #[.slice u0 d.params.length c0, .int .i64 d.ret, .slice u2 d.blocks.length c2] 27)).alloc (.cells #[.slice none 0 0, .int .i64 0, .slice none 0 0] 27))).heap.size = w.heap.size + 2 := by simp
 have P := copyFnS lo d u0 c0 u2 c2 ((w.alloc (.cells #[.slice u0 d.params.length c0, .int .i64 d.ret, .slice u2 d.blocks.length c2] 27)).alloc (.cells #[.slice none 0 0, .int .i64 0, .slice none 0 0] 27)) (m0.keep (agree_of_below b0 lo)) (m2.keep (agree_of_below b0 lo)) hd
 have x0 : (((w.alloc (.cells #[.slice u0 d.params.length c0, .int .i64 d.ret, .slice u2 d.blocks.length c2] 27)).alloc (.cells #[.slice none 0 0, .int .i64 0, .slice none 0 0] 27))).cell? ⟨w.heap.size, 0, none⟩ = some (.slice u0 d.params.length c0) := A0.cell 0
 have x1 : (((w.alloc (.cells #[.slice u0 d.params.length c0, .int .i64 d.ret, .slice u2 d.blocks.length c2] 27)).alloc (.cells #[.slice none 0 0, .int .i64 0, .slice none 0 0] 27))).cell? ⟨w.heap.size, 1, none⟩ = some (.int .i64 d.ret) := A0.cell 1
 have x2 : (((w.alloc (.cells #[.slice u0 d.params.length c0, .int .i64 d.ret, .slice u2 d.blocks.length c2] 27)).alloc (.cells #[.slice none 0 0, .int .i64 0, .slice none 0 0] 27))).cell? ⟨w.heap.size, 2, none⟩ = some (.slice u2 d.blocks.length c2) := A0.cell 2
 clear b0 A0 m0 m2 mt hd hin
 go_enter Tryd.func31, Tryd.ntmps31
 go_upto_region 1 with fail
 generalize ((w.alloc (.cells #[.slice u0 d.params.length c0, .int .i64 d.ret, .slice u2 d.blocks.length c2] 27)).alloc (.cells #[.slice none 0 0, .int .i64 0, .slice none 0 0] 27)) = W1 at *
 go_wp2_with fail
 refine P.mono ?_
 rintro e w2 ⟨f, hfd, rfl, hown, b2⟩
 clear P x0 x1 x2
 obtain ⟨pars, pu, pc, ret, bs0, bu, bc⟩ := f
 have hp1 : pars = d.params := by rw [← hfd]; rfl
 have hp2 : ret = d.ret := by rw [← hfd]; rfl
 have hbs : bs0.map BkE.d = d.blocks := by rw [← hfd]; rfl
 subst hp1
 subst hp2
 clear hfd
 dsimp only at hown ⊢
 obtain ⟨m0, hm1, hm2, hpr, hbk⟩ := hown
 rw [hz] at hm1 hpr
 have hlen0 : bs0.length = d.blocks.length := by rw [← hbs, List.length_map]
 rw [hlen0]
 have b3 : Below w2.heap.size w2 (w2.alloc (.cells #[.slice pu d.params.length pc, .int .i64 d.ret, .slice bu d.blocks.length bc] 27)) := (Below.refl _ _).alloc (Nat.le_refl _) _
 have HS3 : Hid (LSt w2.heap.size m0 w (w2.alloc (.cells #[.slice pu d.params.length pc, .int .i64 d.ret, .slice bu d.blocks.length bc] 27)) #[.slice u0 d.params.length c0, .int .i64 d.ret, .slice u2 d.blocks.length c2] #[.slice pu d.params.length pc, .int .i64 d.ret, .slice bu d.blocks.length bc] #[.slice none 0 0, .int .i64 0, .slice none 0 0] pu d.params bu bs0) := ⟨⟨(HA.out.below b2).below b3, (HZ.out.below b2).below b3, At.new _ _ _, HB.out.trans ((b2.mono (by omega)).trans (b3.mono (by have := b2.size; omega))), by have := b2.size; omega⟩, hpr.still (Still.below (k := 9) b3) (by decide), OwnBksZ.still (OwnBks.zone hbk) (Still.below (k := 9) b3) (by decide), hm1⟩
 have HL0 : Hid (bs0.length = d.blocks.length) := hlen0
 have HM0 : Hid (bs0.map BkE.d = (d.blocks.take 0).map (sbBlock (rhoT tt)) ++ d.blocks.drop 0) := by show _ = _; rw [hbs]; simp
 clear hlen0 hbs hpr hbk b2 HA HZ HB hm1
 go_upto_region 2 with fail
 clear b3 hz
 generalize (w2.alloc (.cells #[.slice pu d.params.length pc, .int .i64 d.ret, .slice bu d.blocks.length bc] 27)) = W3 at *
 generalize w2.heap.size = z at *
 clear w2
 have SP : Hid (∀ (W : World) (bs : List BkE), LSt z m0 w W #[.slice u0 d.params.length c0, .int .i64 d.ret, .slice u2 d.blocks.length c2] #[.slice pu d.params.length pc, .int .i64 d.ret, .slice bu d.blocks.length bc] #[.slice none 0 0, .int .i64 0, .slice none 0 0] pu d.params bu bs → W.cell? ⟨w.heap.size, 2, none⟩ = some (.slice u2 d.blocks.length c2) ∧ W.cell? ⟨z, 2, none⟩ = some (.slice bu d.blocks.length bc)) := fun W bs h => ⟨h.s.par.cell 2, h.s.box.cell 2⟩
 go_wp2_with fail
 go_loopw [6] (fun i wr => ∃ (b : Nat) (bs : List BkE), b ≤ d.blocks.length ∧ i = .int .i64 b ∧ Hid (bs.length = d.blocks.length) ∧ Hid (bs.map BkE.d = (d.blocks.take b).map (sbBlock (rhoT tt)) ++ d.blocks.drop b) ∧ Hid (LSt z m0 w wr #[.slice u0 d.params.length c0, .int .i64 d.ret, .slice u2 d.blocks.length c2] #[.slice pu d.params.length pc, .int .i64 d.ret, .slice bu d.blocks.length bc] #[.slice none 0 0, .int .i64 0, .slice none 0 0] pu d.params bu bs)) (fun i _ => d.blocks.length - (intOf i).toNat)
 case atStart => exact ⟨0, bs0, by omega, rfl, HL0.out, HM0.out, HS3.out⟩
 case round =>
  clear HS3 HL0 HM0
  obtain ⟨b, bs, hb, rfl, HL, HM, HS⟩ := hrel
  obtain ⟨w5, hwo⟩ : ∃ w1, w1 = wr := ⟨_, rfl⟩
  subst hwo
  have hn60 := HD.out.bl
  by_cases hbl : b < d.blocks.length
  ·obtain ⟨bk, hbk⟩ := get_of (l := bs) (b := b) (by have := HL.out; omega)
   have HBK : Hid (bs[b]? = some bk) := hbk
   have hbd : bk.d = d.blocks.getD b block0 := mid_el BkE.d _ block0 HM.out hbl hbk
   have hmem := getD_mem block0 d.blocks b hbl
   generalize hp : d.blocks.getD b block0 = p at *
   have HP : Hid (d.blocks.getD b block0 = p) := hp
   have hpl1000 := (HD.out.bk p hmem).pl
   have hil1000 := (HD.out.bk p hmem).il
   have HPd : Hid (p ∈ d.blocks) := hmem
   have HPS : Hid (bk.ps.map (·.1) = p.phis) := by show _ = _; rw [← hbd]; rfl
   have HIS : Hid (bk.is.map (·.1) = p.insts) := by show _ = _; rw [← hbd]; rfl
   have HTM : Hid (bk.t = p.term) := by show _ = _; rw [← hbd]; rfl
   obtain ⟨g, cur, hbu, hgz, hg, hgc, hrest⟩ := HS.out.block hbk
   clear hrest
   have HBU : Hid (bu = some ⟨g, 0, none⟩) := hbu
   have key : ∀ j, j < 6 → w5.cell? ⟨g, b * 6 + j, none⟩ = (bkC bk)[j]? := fun j hj => (hg.cell _).trans (hgc j hj)
   have y0 : w5.cell? ⟨g, b * 6, none⟩ = some (.slice bk.pu bk.ps.length bk.pc) := key 0 (by decide)
   have y1 : w5.cell? ⟨g, b * 6 + 1, none⟩ = some (.slice bk.iu bk.is.length bk.ic) := key 1 (by decide)
   have y2 : w5.cell? ⟨g, b * 6 + 2, none⟩ = some (.int .i64 bk.t.kind) := key 2 (by decide)
   have y3 : w5.cell? ⟨g, b * 6 + 3, none⟩ = some (.int .i64 bk.t.a) := key 3 (by decide)
   have y4 : w5.cell? ⟨g, b * 6 + 4, none⟩ = some (.int .i64 bk.t.x) := key 4 (by decide)
   have y5 : w5.cell? ⟨g, b * 6 + 5, none⟩ = some (.int .i64 bk.t.y) := key 5 (by decide)
   obtain ⟨s1, s2⟩ := SP.out _ _ HS.out
   rw [hbu] at s2
   have hbI : (b : Int) < d.blocks.length := by omega
   have b6 : Below w5.heap.size w5 (w5.alloc (.cells #[.slice bk.pu bk.ps.length bk.pc, .slice bk.iu bk.is.length bk.ic, .int .i64 bk.t.kind, .int .i64 bk.t.a, .int .i64 bk.t.x, .int .i64 bk.t.y] 41)) := (Below.refl _ _).alloc (Nat.le_refl _) _
   have HS6 : Hid (LSt z m0 w (w5.alloc (.cells #[.slice bk.pu bk.ps.length bk.pc, .slice bk.iu bk.is.length bk.ic, .int .i64 bk.t.kind, .int .i64 bk.t.a, .int .i64 bk.t.x, .int .i64 bk.t.y] 41)) #[.slice u0 d.params.length c0, .int .i64 d.ret, .slice u2 d.blocks.length c2] #[.slice pu d.params.length pc, .int .i64 d.ret, .slice bu d.blocks.length bc] #[.slice none 0 0, .int .i64 0, .slice none 0 0] pu d.params bu (bs.set b (bk.ph bk.ps))) := by
    show LSt _ _ _ _ _ _ _ _ _ _ _
    rw [set_same (x := bk.ph bk.ps) (show bs[b]? = some (bk.ph bk.ps) from hbk)]
    exact HS.out.keep b6
   have HX6 : Hid (At (w5.alloc (.cells #[.slice bk.pu bk.ps.length bk.pc, .slice bk.iu bk.is.length bk.ic, .int .i64 bk.t.kind, .int .i64 bk.t.a, .int .i64 bk.t.x, .int .i64 bk.t.y] 41)) w5.heap.size #[.slice bk.pu bk.ps.length bk.pc, .slice bk.iu bk.is.length bk.ic, .int .i64 bk.t.kind, .int .i64 bk.t.a, .int .i64 bk.t.x, .int .i64 bk.t.y] 41) := At.new _ _ _
   have hzX : z < w5.heap.size := HS.out.s.box.lt
   clear hbk hbd hmem hp hbu hg hgc key HS
   go_upto_region 6 with fail
   clear y0 y1 y2 y3 y4 y5 s1 s2 b6
   generalize (w5.alloc (.cells #[.slice bk.pu bk.ps.length bk.pc, .slice bk.iu bk.is.length bk.ic, .int .i64 bk.t.kind, .int .i64 bk.t.a, .int .i64 bk.t.x, .int .i64 bk.t.y] 41)) = W6 at *
   generalize w5.heap.size = X at *
   clear w5
   go_wp2_with fail
   go_loopw [8] (fun i wr => ∃ (j : Nat) (ps : List PhE), j ≤ bk.ps.length ∧ i = .int .i64 j ∧ Hid (ps.length = bk.ps.length) ∧ Hid (ps.map (·.1) = (p.phis.take j).map (sbPhi (rhoT tt)) ++ p.phis.drop j) ∧ Hid (LSt z m0 w wr #[.slice u0 d.params.length c0, .int .i64 d.ret, .slice u2 d.blocks.length c2] #[.slice pu d.params.length pc, .int .i64 d.ret, .slice bu d.blocks.length bc] #[.slice none 0 0, .int .i64 0, .slice none 0 0] pu d.params bu (bs.set b (bk.ph ps))) ∧ Hid (At wr X #[.slice bk.pu bk.ps.length bk.pc, .slice bk.iu bk.is.length bk.ic, .int .i64 bk.t.kind, .int .i64 bk.t.a, .int .i64 bk.t.x, .int .i64 bk.t.y] 41)) (fun i _ => bk.ps.length - (intOf i).toNat)
   case atStart => exact ⟨0, bk.ps, by omega, rfl, rfl, (by show _ = _; rw [HPS.out]; simp), HS6.out, HX6.out⟩
   case round =>
    clear HS6 HX6
    obtain ⟨j, ps, hj, rfl, HPL, HPM, HS, HX⟩ := hrel
    obtain ⟨w5, hwo⟩ : ∃ w1, w1 = wr := ⟨_, rfl⟩
    subst hwo
    have HPN : Hid (bk.ps.length = p.phis.length) := by show _ = _; rw [← HPS.out, List.length_map]
    have hb1000 : bk.ps.length ≤ 1000 := by have := HPN.out; omega
    have hX0 : w5.cell? ⟨X, 0, none⟩ = some (.slice bk.pu bk.ps.length bk.pc) := HX.out.cell 0
    by_cases hjl : j < bk.ps.length
    ·obtain ⟨e, he⟩ := get_of (l := ps) (b := j) (by have := HPL.out; omega)
     have HE : Hid (ps[j]? = some e) := he
     have hef : e.1 = p.phis.getD j phi0 := mid_el (fun x : PhE => x.1) _ phi0 HPM.out (by have := HPN.out; omega) he
     have hfm := getD_mem phi0 p.phis j (by have := HPN.out; omega)
     have hin := HIN.out.ph p HPd.out _ hfm
     have hok := ((HD.out.bk p HPd.out).ph _ hfm).1
     generalize hf : p.phis.getD j phi0 = f at *
     have HFD : Hid (p.phis.getD j phi0 = f) := hf
     have HIF : Hid (InT tt f.ins) := hin
     have HS7 : Hid (LSt z m0 w w5 #[.slice u0 d.params.length c0, .int .i64 d.ret, .slice u2 d.blocks.length c2] #[.slice pu d.params.length pc, .int .i64 d.ret, .slice bu d.blocks.length bc] #[.slice none 0 0, .int .i64 0, .slice none 0 0] pu d.params bu (bs.set b (bk.ph (ps.set j (⟨f.w, (f.ins.take 0).map (rhoT tt) ++ f.ins.drop 0⟩, e.2))))) := by
      show LSt _ _ _ _ _ _ _ _ _ _ _
      rw [set_same (show ps[j]? = some ((⟨f.w, (f.ins.take 0).map (rhoT tt) ++ f.ins.drop 0⟩ : PhiD), e.2) from by
       rw [he, ← hef]; simp)]
      exact HS.out
     clear he hef hfm hin hf HS
     go_upto_region 9 with fail
     clear hX0
     go_wp2_with fail
     go_loopw [9] (fun i wr => ∃ k : Nat, k ≤ f.ins.length ∧ i = .int .i64 k ∧ Hid (LSt z m0 w wr #[.slice u0 d.params.length c0, .int .i64 d.ret, .slice u2 d.blocks.length c2] #[.slice pu d.params.length pc, .int .i64 d.ret, .slice bu d.blocks.length bc] #[.slice none 0 0, .int .i64 0, .slice none 0 0] pu d.params bu (bs.set b (bk.ph (ps.set j (⟨f.w, (f.ins.take k).map (rhoT tt) ++ f.ins.drop k⟩, e.2))))) ∧ Hid (At wr X #[.slice bk.pu bk.ps.length bk.pc, .slice bk.iu bk.is.length bk.ic, .int .i64 bk.t.kind, .int .i64 bk.t.a, .int .i64 bk.t.x, .int .i64 bk.t.y] 41)) (fun i _ => f.ins.length - (intOf i).toNat)
     case atStart => exact ⟨0, by omega, rfl, HS7.out, HX.out⟩
     case round =>
      clear HS7 HX
      obtain ⟨k, hk, rfl, HS, HX⟩ := hrel
      obtain ⟨w5, hwo⟩ : ∃ w1, w1 = wr := ⟨_, rfl⟩
      subst hwo
      have hb3 := set_at (y := bk.ph (ps.set j (⟨f.w, (f.ins.take k).map (rhoT tt) ++ f.ins.drop k⟩, e.2))) HBK.out
      have he3 := set_at (y := ((⟨f.w, (f.ins.take k).map (rhoT tt) ++ f.ins.drop k⟩ : PhiD), e.2)) HE.out
      have hml : ((f.ins.take k).map (rhoT tt) ++ f.ins.drop k).length = f.ins.length := mid_len _ _ _
      obtain ⟨gp, curp, hpu, hrest1, hgpz, hgp, hcp, hrest⟩ := bksPhi HS.out.bk hb3 he3
      clear hrest hrest1
      have hX0 : w5.cell? ⟨X, 0, none⟩ = some (.slice (some ⟨gp, 0, none⟩) bk.ps.length bk.pc) := by rw [← (show bk.pu = some ⟨gp, 0, none⟩ from hpu)]; exact HX.out.cell 0
      have hH1 : w5.cell? ⟨gp, j * 2 + 1, none⟩ = some (.slice e.2.1 f.ins.length e.2.2) := by
       refine (hgp.cell _).trans ((hcp 1 (by decide)).trans ?_)
       show some (Value.slice e.2.1 ((f.ins.take k).map (rhoT tt) ++ f.ins.drop k).length e.2.2) = _
       rw [hml]
      have hjI : (j : Int) < bk.ps.length := by omega
      by_cases hkl : k < f.ins.length
      ·obtain ⟨q, curq, heq, hqz, hq, hqc, hnew⟩ := HS.out.cell hb3 he3 (by show k < ((f.ins.take k).map (rhoT tt) ++ f.ins.drop k).length; rw [hml]; exact hkl)
       obtain ⟨n, hn, hnl⟩ := nat_of (HIF.out _ (getD_mem 0 f.ins k hkl))
       obtain ⟨ga, off, hut, hga, e2⟩ := ints_get HMT.out hnl
       have hset := set_mid (rhoT tt) 0 f.ins k hkl
       rw [hn, rho_at hnl] at hset
       have hold : ((f.ins.take k).map (rhoT tt) ++ f.ins.drop k).getD k 0 = (n : Int) := by rw [← hn]; simp only [List.getD, mid_get _ _ _ hkl]
       have hv := hnew (tt.getD n 0)
       have HS8 : Hid (LSt z m0 w (w5.setCell ⟨q, k, none⟩ (.int .i64 (tt.getD n 0))) #[.slice u0 d.params.length c0, .int .i64 d.ret, .slice u2 d.blocks.length c2] #[.slice pu d.params.length pc, .int .i64 d.ret, .slice bu d.blocks.length bc] #[.slice none 0 0, .int .i64 0, .slice none 0 0] pu d.params bu (bs.set b (bk.ph (ps.set j (⟨f.w, (f.ins.take (k + 1)).map (rhoT tt) ++ f.ins.drop (k + 1)⟩, e.2))))) := by
        have h := hv
        dsimp only [BkE.ph] at h
        rw [List.set_set, List.set_set, hset] at h
        exact h
       have hqX : q ≠ X := by omega
       have HX8 : Hid (At (w5.setCell ⟨q, k, none⟩ (.int .i64 (tt.getD n 0))) X #[.slice bk.pu bk.ps.length bk.pc, .slice bk.iu bk.is.length bk.ic, .int .i64 bk.t.kind, .int .i64 bk.t.a, .int .i64 bk.t.x, .int .i64 bk.t.y] 41) := HX.out.setOther (Ne.symm hqX)
       have hqn : w5.cell? ⟨q, k, none⟩ = some (.int .i64 (n : Int)) := by
        refine (hq.cell _).trans (hqc.trans ?_)
        show some (Value.int .i64 (((f.ins.take k).map (rhoT tt) ++ f.ins.drop k).getD k 0)) = _
        rw [hold]
       have hqf : w5.frozen? ⟨q, k, none⟩ = false := froz_of_heap hq
       have hta : w5.cell? ⟨ga, off + n, none⟩ = some (.int .i64 (tt.getD n 0)) := (cell_block (HS.out.s.bel.block ga hga)).trans e2
       have heq' : e.2.1 = some ⟨q, 0, none⟩ := heq
       rw [heq'] at hH1
       generalize tt.getD n 0 = v at *
       have hkI : (k : Int) < f.ins.length := by omega
       have hnI : (n : Int) < tt.length := by omega
       have s0 : w5.drew.cell? ⟨X, 0, none⟩ = some (.slice (some ⟨gp, 0, none⟩) bk.ps.length bk.pc) ∧ w5.drew.cell? ⟨gp, j * 2 + 1, none⟩ = some (.slice (some ⟨q, 0, none⟩) f.ins.length e.2.2) ∧ w5.drew.cell? ⟨q, k, none⟩ = some (.int .i64 (n : Int)) ∧ w5.drew.cell? ⟨ga, off + n, none⟩ = some (.int .i64 v) := ⟨hX0, hH1, hqn, hta⟩
       subst hut
       clear hv hnew hset hold hqc hq heq heq' hcp hgp hpu hb3 he3 hml e2 hn HS HX hqX
       go_wp2_with fail
       refine startX (fun w' => w'.cell? ⟨X, 0, none⟩ = some (.slice (some ⟨gp, 0, none⟩) bk.ps.length bk.pc) ∧ w'.cell? ⟨gp, j * 2 + 1, none⟩ = some (.slice (some ⟨q, 0, none⟩) f.ins.length e.2.2) ∧ w'.cell? ⟨q, k, none⟩ = some (.int .i64 (n : Int)) ∧ w'.cell? ⟨ga, off + n, none⟩ = some (.int .i64 v)) (fun i => decide (i = 20)) (by kernel_rfl) ?_
       clear hX0 hH1 hta
       refine takeX 0 (v := ?_) rfl rfl (by kernel_rfl) (fun _ _ _ h => h) (yesH (by rfl) ?_) s0 ?_
       rotate_left
       ·intro w9 hS9
        obtain ⟨g0, g1, g2, g3⟩ := hS9
        go_simp
        try with_reducible rfl
       try simp only [Act.put, sA, sB, sC]
       refine takeX 1 (v := ?_) rfl rfl (by kernel_rfl) (fun _ _ _ h => h) (yesH (by rfl) ?_) s0 ?_
       rotate_left
       ·intro w9 hS9
        obtain ⟨g0, g1, g2, g3⟩ := hS9
        go_simp
        try with_reducible rfl
       try simp only [Act.put, sA, sB, sC]
       refine takeX 2 (v := ?_) rfl rfl (by kernel_rfl) (fun _ _ _ h => h) (yesH (by rfl) ?_) s0 ?_
       rotate_left
       ·intro w9 hS9
        obtain ⟨g0, g1, g2, g3⟩ := hS9
        go_simp
        try with_reducible rfl
       try simp only [Act.put, sA, sB, sC]
       refine takeX 3 (v := ?_) rfl rfl (by kernel_rfl) (fun _ _ _ h => h) (yesH (by rfl) ?_) s0 ?_
       rotate_left
       ·intro w9 hS9
        obtain ⟨g0, g1, g2, g3⟩ := hS9
        go_simp
        try with_reducible rfl
       try simp only [Act.put, sA, sB, sC]
       refine takeX 4 (v := ?_) rfl rfl (by kernel_rfl) (fun _ _ _ h => h) (yesH (by rfl) ?_) s0 ?_
       rotate_left
       ·intro w9 hS9
        obtain ⟨g0, g1, g2, g3⟩ := hS9
        go_simp
        try with_reducible rfl
       try simp only [Act.put, sA, sB, sC]
       refine takeX 5 (v := ?_) rfl rfl (by kernel_rfl) (fun _ _ _ h => h) (yesH (by rfl) ?_) s0 ?_
       rotate_left
       ·intro w9 hS9
        obtain ⟨g0, g1, g2, g3⟩ := hS9
        go_simp
        try with_reducible rfl
       try simp only [Act.put, sA, sB, sC]
       refine takeX 6 (v := ?_) rfl rfl (by kernel_rfl) (fun _ _ _ h => h) (yesH (by rfl) ?_) s0 ?_
       rotate_left
       ·intro w9 hS9
        obtain ⟨g0, g1, g2, g3⟩ := hS9
        go_simp
        try with_reducible rfl
       try simp only [Act.put, sA, sB, sC]
       refine takeX 7 (v := ?_) rfl rfl (by kernel_rfl) (fun _ _ _ h => h) (yesH (by rfl) ?_) s0 ?_
       rotate_left
       ·intro w9 hS9
        obtain ⟨g0, g1, g2, g3⟩ := hS9
        go_simp
        try with_reducible rfl
       try simp only [Act.put, sA, sB, sC]
       refine takeX 8 (v := ?_) rfl rfl (by kernel_rfl) (fun _ _ _ h => h) (yesH (by rfl) ?_) s0 ?_
       rotate_left
       ·intro w9 hS9
        obtain ⟨g0, g1, g2, g3⟩ := hS9
        go_simp
        try with_reducible rfl
       try simp only [Act.put, sA, sB, sC]
       refine takeX 9 (v := ?_) rfl rfl (by kernel_rfl) (fun _ _ _ h => h) (yesH (by rfl) ?_) s0 ?_
       rotate_left
       ·intro w9 hS9
        obtain ⟨g0, g1, g2, g3⟩ := hS9
        go_simp
        try with_reducible rfl
       try simp only [Act.put, sA, sB, sC]
       refine takeX 10 (v := ?_) rfl rfl (by kernel_rfl) (fun _ _ _ h => h) (yesH (by rfl) ?_) s0 ?_
       rotate_left
       ·intro w9 hS9
        obtain ⟨g0, g1, g2, g3⟩ := hS9
        go_simp
        try with_reducible rfl
       try simp only [Act.put, sA, sB, sC]
       refine takeX 11 (v := ?_) rfl rfl (by kernel_rfl) (fun _ _ _ h => h) (yesH (by rfl) ?_) s0 ?_
       rotate_left
       ·intro w9 hS9
        obtain ⟨g0, g1, g2, g3⟩ := hS9
        go_simp
        try with_reducible rfl
       try simp only [Act.put, sA, sB, sC]
       refine takeX 12 (v := ?_) rfl rfl (by kernel_rfl) (fun _ _ _ h => h) (yesH (by rfl) ?_) s0 ?_
       rotate_left
       ·intro w9 hS9
        obtain ⟨g0, g1, g2, g3⟩ := hS9
        go_simp
        try with_reducible rfl
       try simp only [Act.put, sA, sB, sC]
       refine takeX 13 (v := ?_) rfl rfl (by kernel_rfl) (fun _ _ _ h => h) (yesH (by rfl) ?_) s0 ?_
       rotate_left
       ·intro w9 hS9
        obtain ⟨g0, g1, g2, g3⟩ := hS9
        go_simp
        try with_reducible rfl
       try simp only [Act.put, sA, sB, sC]
       refine takeX 14 (v := ?_) rfl rfl (by kernel_rfl) (fun _ _ _ h => h) (yesH (by rfl) ?_) s0 ?_
       rotate_left
       ·intro w9 hS9
        obtain ⟨g0, g1, g2, g3⟩ := hS9
        go_simp
        try with_reducible rfl
       try simp only [Act.put, sA, sB, sC]
       refine takeX 15 (v := ?_) rfl rfl (by kernel_rfl) (fun _ _ _ h => h) (yesH (by rfl) ?_) s0 ?_
       rotate_left
       ·intro w9 hS9
        obtain ⟨g0, g1, g2, g3⟩ := hS9
        go_simp
        try with_reducible rfl
       try simp only [Act.put, sA, sB, sC]
       refine takeX 16 (v := ?_) rfl rfl (by kernel_rfl) (fun _ _ _ h => h) (yesH (by rfl) ?_) s0 ?_
       rotate_left
       ·intro w9 hS9
        obtain ⟨g0, g1, g2, g3⟩ := hS9
        go_simp
        try with_reducible rfl
       try simp only [Act.put, sA, sB, sC]
       refine takeX 17 (v := ?_) rfl rfl (by kernel_rfl) (fun _ _ _ h => h) (yesH (by rfl) ?_) s0 ?_
       rotate_left
       ·intro w9 hS9
        obtain ⟨g0, g1, g2, g3⟩ := hS9
        go_simp
        try with_reducible rfl
       try simp only [Act.put, sA, sB, sC]
       refine takeX 18 (v := ?_) rfl rfl (by kernel_rfl) (fun _ _ _ h => h) (yesH (by rfl) ?_) s0 ?_
       rotate_left
       ·intro w9 hS9
        obtain ⟨g0, g1, g2, g3⟩ := hS9
        go_simp
        try with_reducible rfl
       try simp only [Act.put, sA, sB, sC]
       refine takeX 19 (v := ?_) rfl rfl (by kernel_rfl) (fun _ _ _ h => h) (yesH (by rfl) ?_) s0 ?_
       rotate_left
       ·intro w9 hS9
        obtain ⟨g0, g1, g2, g3⟩ := hS9
        go_simp
        try with_reducible rfl
       try simp only [Act.put, sA, sB, sC]
       clear s0
       refine readyX 20 rfl (by kernel_rfl) (fun K hK => ?_)
       go_simp
       refine hK.out _ _ (.inl rfl) ?_
       clear hK K
       refine doneX (by kernel_rfl) ?_ _
       go_wp2_with fail
       go_roundw
       case rel => exact ⟨k + 1, by omega, by go_num, HS8.out.drew, HX8.out⟩
       case measure => simp [intOf]; omega
      ·have hke : k = f.ins.length := by omega
       have HS8 : Hid (LSt z m0 w w5 #[.slice u0 d.params.length c0, .int .i64 d.ret, .slice u2 d.blocks.length c2] #[.slice pu d.params.length pc, .int .i64 d.ret, .slice bu d.blocks.length bc] #[.slice none 0 0, .int .i64 0, .slice none 0 0] pu d.params bu (bs.set b (bk.ph (ps.set j (sbPhi (rhoT tt) f, e.2))))) := by
        have h := HS.out
        rw [hke, List.take_length, List.drop_length, List.append_nil] at h
        exact h
       have HPM8 : Hid ((ps.set j (sbPhi (rhoT tt) f, e.2)).map (·.1) = (p.phis.take (j + 1)).map (sbPhi (rhoT tt)) ++ p.phis.drop (j + 1)) := mid_set (fun x : PhE => x.1) _ phi0 HPM.out (by have := HPN.out; omega) (by rw [HFD.out])
       clear HS hb3 he3 hml hpu hgp hcp
       go_wp2_with fail
       go_roundw
       case rel => exact ⟨j + 1, _, by omega, by go_num, (by show _ = _; rw [List.length_set]; exact HPL.out), HPM8.out, HS8.out, HX.out⟩
       case measure => simp [intOf]; omega
    ·have HPF : Hid (ps.map (·.1) = p.phis.map (sbPhi (rhoT tt))) := by
      have hje : j = p.phis.length := by have := HPN.out; omega
      have h := HPM.out
      rw [hje, List.take_length, List.drop_length, List.append_nil] at h
      exact h
     have HS7 : Hid (LSt z m0 w w5 #[.slice u0 d.params.length c0, .int .i64 d.ret, .slice u2 d.blocks.length c2] #[.slice pu d.params.length pc, .int .i64 d.ret, .slice bu d.blocks.length bc] #[.slice none 0 0, .int .i64 0, .slice none 0 0] pu d.params bu (bs.set b ((bk.ph ps).ins bk.is))) := HS.out
     clear HS HPM HPN
     go_upto_region 13 with fail
     clear hX0
     go_wp2_with fail
     go_loopw [10] (fun i wr => ∃ (j : Nat) (is : List InE), j ≤ bk.is.length ∧ i = .int .i64 j ∧ Hid (is.length = bk.is.length) ∧ Hid (is.map (·.1) = (p.insts.take j).map (sbInst (rhoT tt)) ++ p.insts.drop j) ∧ Hid (LSt z m0 w wr #[.slice u0 d.params.length c0, .int .i64 d.ret, .slice u2 d.blocks.length c2] #[.slice pu d.params.length pc, .int .i64 d.ret, .slice bu d.blocks.length bc] #[.slice none 0 0, .int .i64 0, .slice none 0 0] pu d.params bu (bs.set b ((bk.ph ps).ins is))) ∧ Hid (At wr X #[.slice bk.pu bk.ps.length bk.pc, .slice bk.iu bk.is.length bk.ic, .int .i64 bk.t.kind, .int .i64 bk.t.a, .int .i64 bk.t.x, .int .i64 bk.t.y] 41)) (fun i _ => bk.is.length - (intOf i).toNat)
     case atStart => exact ⟨0, bk.is, by omega, rfl, rfl, (by show _ = _; rw [HIS.out]; simp), HS7.out, HX.out⟩
     case round =>
      clear HS7 HX hjl hj
      obtain ⟨j, is, hj, rfl, HIL, HIM, HS, HX⟩ := hrel
      obtain ⟨w5, hwo⟩ : ∃ w1, w1 = wr := ⟨_, rfl⟩
      subst hwo
      have HIN2 : Hid (bk.is.length = p.insts.length) := by show _ = _; rw [← HIS.out, List.length_map]
      have hc1000 : bk.is.length ≤ 1000 := by have := HIN2.out; omega
      have hX1 : w5.cell? ⟨X, 1, none⟩ = some (.slice bk.iu bk.is.length bk.ic) := HX.out.cell 1
      by_cases hjl : j < bk.is.length
      ·obtain ⟨e, he⟩ := get_of (l := is) (b := j) (by have := HIL.out; omega)
       have hef : e.1 = p.insts.getD j inst0 := mid_el (fun x : InE => x.1) _ inst0 HIM.out (by have := HIN2.out; omega) he
       have hfm := getD_mem inst0 p.insts j (by have := HIN2.out; omega)
       have hin := HIN.out.is p HPd.out _ hfm
       have hok := ((HD.out.bk p HPd.out).is _ hfm).1
       generalize hf : p.insts.getD j inst0 = f at *
       have HFD : Hid (p.insts.getD j inst0 = f) := hf
       have hb3 := set_at (y := (bk.ph ps).ins is) HBK.out
       obtain ⟨gi, curi, li, hiu, hgiz, hgi, hci, hargs, hnew⟩ := HS.out.inst hb3 he
       obtain ⟨ef, eu, ec⟩ := e
       obtain rfl : ef = f := hef
       have hiu' : bk.iu = some ⟨gi, 0, none⟩ := hiu
       have HIU : Hid (bk.iu = some ⟨gi, 0, none⟩) := hiu
       rw [hiu'] at hX1
       have hjI : (j : Int) < bk.is.length := by omega
       have PI := l8InstS lo li ef eu ec tt ut ct w5.drew hargs (HMT.out.keep (agree_of_below HS.out.s.bel.drew lo)) hin.1 hin.2 hok
       have row7i : Hid (∀ W : World, W.heap[gi]? = some (.cells curi 44 (0, 0)) → W.cell? ⟨gi, j * 7, none⟩ = some (.int .i64 ef.op) ∧ W.cell? ⟨gi, j * 7 + 1, none⟩ = some (.int .i64 ef.w) ∧ W.cell? ⟨gi, j * 7 + 2, none⟩ = some (.int .i64 ef.a) ∧ W.cell? ⟨gi, j * 7 + 3, none⟩ = some (.int .i64 ef.b) ∧ W.cell? ⟨gi, j * 7 + 4, none⟩ = some (.int .i64 ef.c) ∧ W.cell? ⟨gi, j * 7 + 5, none⟩ = some (.int .i64 ef.imm) ∧ W.cell? ⟨gi, j * 7 + 6, none⟩ = some (.slice eu ef.args.length ec)) := fun W h => ⟨(cell_of_heap h).trans (hci 0 (by decide)), (cell_of_heap h).trans (hci 1 (by decide)), (cell_of_heap h).trans (hci 2 (by decide)), (cell_of_heap h).trans (hci 3 (by decide)), (cell_of_heap h).trans (hci 4 (by decide)), (cell_of_heap h).trans (hci 5 (by decide)), (cell_of_heap h).trans (hci 6 (by decide))⟩
       have s0 : w5.drew.cell? ⟨X, 1, none⟩ = some (.slice (some ⟨gi, 0, none⟩) bk.is.length bk.ic) ∧ w5.drew.heap[gi]? = some (.cells curi 44 (0, 0)) := ⟨hX1, hgi⟩
       have HNEW : Hid (∀ (w2 : World) (e' : InE), Below w5.heap.size w5 w2 → OwnI w2 w5.heap.size w2.heap.size e'.2.1 e'.1.args → LSt z m0 w (w2.setCells gi (j * 7) (inC e')) #[.slice u0 d.params.length c0, .int .i64 d.ret, .slice u2 d.blocks.length c2] #[.slice pu d.params.length pc, .int .i64 d.ret, .slice bu d.blocks.length bc] #[.slice none 0 0, .int .i64 0, .slice none 0 0] pu d.params bu (bs.set b ((bk.ph ps).ins (is.set j e')))) := fun w2 e' k1 k2 => by
        have h := hnew w2 e' k1 k2
        dsimp only [BkE.ins] at h
        rw [List.set_set] at h
        exact h
       have hXw : X < w5.heap.size := HX.out.lt
       clear hnew hargs hiu hiu' hb3 hin hfm hf he hok hci
       go_wp2_with fail
       clear hX1
       refine startX (fun w' => w'.cell? ⟨X, 1, none⟩ = some (.slice (some ⟨gi, 0, none⟩) bk.is.length bk.ic) ∧ w'.heap[gi]? = some (.cells curi 44 (0, 0))) (fun i => decide (i = 11)) (by kernel_rfl) ?_
       refine takeX 0 (v := ?_) rfl rfl (by kernel_rfl) (fun _ _ _ h => h) (yesH (by rfl) ?_) s0 ?_
       rotate_left
       ·intro w9 hS9
        obtain ⟨g0, g1⟩ := hS9
        obtain ⟨k0, k1, k2, k3, k4, k5, k6⟩ := row7i.out w9 g1
        go_simp
        try with_reducible rfl
       try simp only [Act.put, sA, sB, sC]
       refine takeX 1 (v := ?_) rfl rfl (by kernel_rfl) (fun _ _ _ h => h) (yesH (by rfl) ?_) s0 ?_
       rotate_left
       ·intro w9 hS9
        obtain ⟨g0, g1⟩ := hS9
        obtain ⟨k0, k1, k2, k3, k4, k5, k6⟩ := row7i.out w9 g1
        go_simp
        try with_reducible rfl
       try simp only [Act.put, sA, sB, sC]
       refine takeX 2 (v := ?_) rfl rfl (by kernel_rfl) (fun _ _ _ h => h) (yesH (by rfl) ?_) s0 ?_
       rotate_left
       ·intro w9 hS9
        obtain ⟨g0, g1⟩ := hS9
        obtain ⟨k0, k1, k2, k3, k4, k5, k6⟩ := row7i.out w9 g1
        go_simp
        try with_reducible rfl
       try simp only [Act.put, sA, sB, sC]
       refine takeX 3 (v := ?_) rfl rfl (by kernel_rfl) (fun _ _ _ h => h) (yesH (by rfl) ?_) s0 ?_
       rotate_left
       ·intro w9 hS9
        obtain ⟨g0, g1⟩ := hS9
        obtain ⟨k0, k1, k2, k3, k4, k5, k6⟩ := row7i.out w9 g1
        go_simp
        try with_reducible rfl
       try simp only [Act.put, sA, sB, sC]
       refine takeX 4 (v := ?_) rfl rfl (by kernel_rfl) (fun _ _ _ h => h) (yesH (by rfl) ?_) s0 ?_
       rotate_left
       ·intro w9 hS9
        obtain ⟨g0, g1⟩ := hS9
        obtain ⟨k0, k1, k2, k3, k4, k5, k6⟩ := row7i.out w9 g1
        go_simp
        try with_reducible rfl
       try simp only [Act.put, sA, sB, sC]
       refine takeX 5 (v := ?_) rfl rfl (by kernel_rfl) (fun _ _ _ h => h) (yesH (by rfl) ?_) s0 ?_
       rotate_left
       ·intro w9 hS9
        obtain ⟨g0, g1⟩ := hS9
        obtain ⟨k0, k1, k2, k3, k4, k5, k6⟩ := row7i.out w9 g1
        go_simp
        try with_reducible rfl
       try simp only [Act.put, sA, sB, sC]
       refine takeX 6 (v := ?_) rfl rfl (by kernel_rfl) (fun _ _ _ h => h) (yesH (by rfl) ?_) s0 ?_
       rotate_left
       ·intro w9 hS9
        obtain ⟨g0, g1⟩ := hS9
        obtain ⟨k0, k1, k2, k3, k4, k5, k6⟩ := row7i.out w9 g1
        go_simp
        try with_reducible rfl
       try simp only [Act.put, sA, sB, sC]
       refine takeX 7 (v := ?_) rfl rfl (by kernel_rfl) (fun _ _ _ h => h) (yesH (by rfl) ?_) s0 ?_
       rotate_left
       ·intro w9 hS9
        obtain ⟨g0, g1⟩ := hS9
        obtain ⟨k0, k1, k2, k3, k4, k5, k6⟩ := row7i.out w9 g1
        go_simp
        try with_reducible rfl
       try simp only [Act.put, sA, sB, sC]
       refine takeX 8 (v := ?_) rfl rfl (by kernel_rfl) (fun _ _ _ h => h) (yesH (by rfl) ?_) s0 ?_
       rotate_left
       ·intro w9 hS9
        obtain ⟨g0, g1⟩ := hS9
        obtain ⟨k0, k1, k2, k3, k4, k5, k6⟩ := row7i.out w9 g1
        go_simp
        try with_reducible rfl
       try simp only [Act.put, sA, sB, sC]
       refine readyX 9 rfl (by kernel_rfl) (fun K hK => ?_)
       go_simp
       go_wp2_with fail
       refine PI.mono ?_
       rintro e w7 ⟨ru, rc, rfl, hown, b7'⟩
       have b7 : Below w5.heap.size w5 w7 := undrew b7'
       generalize hq : sbInst (rhoT tt) ef = q at *
       have HQ : Hid (sbInst (rhoT tt) ef = q) := hq
       have HX7 : Hid (At w7 X #[.slice bk.pu bk.ps.length bk.pc, .slice bk.iu bk.is.length bk.ic, .int .i64 bk.t.kind, .int .i64 bk.t.a, .int .i64 bk.t.x, .int .i64 bk.t.y] 41) := HX.out.below b7
       have hgi7 : At w7 gi curi 44 := At.below hgi b7
       have HS8 : Hid (LSt z m0 w (((((((w7.setCell ⟨gi, j * 7, none⟩ (.int .i64 q.op)).setCell ⟨gi, j * 7 + 1, none⟩ (.int .i64 q.w)).setCell ⟨gi, j * 7 + 2, none⟩ (.int .i64 q.a)).setCell ⟨gi, j * 7 + 3, none⟩ (.int .i64 q.b)).setCell ⟨gi, j * 7 + 4, none⟩ (.int .i64 q.c)).setCell ⟨gi, j * 7 + 5, none⟩ (.int .i64 q.imm)).setCell ⟨gi, j * 7 + 6, none⟩ (.slice ru q.args.length rc)) #[.slice u0 d.params.length c0, .int .i64 d.ret, .slice u2 d.blocks.length c2] #[.slice pu d.params.length pc, .int .i64 d.ret, .slice bu d.blocks.length bc] #[.slice none 0 0, .int .i64 0, .slice none 0 0] pu d.params bu (bs.set b ((bk.ph ps).ins (is.set j (q, ru, rc))))) := HNEW.out w7 (q, ru, rc) b7 hown
       have HX8 : Hid (At (((((((w7.setCell ⟨gi, j * 7, none⟩ (.int .i64 q.op)).setCell ⟨gi, j * 7 + 1, none⟩ (.int .i64 q.w)).setCell ⟨gi, j * 7 + 2, none⟩ (.int .i64 q.a)).setCell ⟨gi, j * 7 + 3, none⟩ (.int .i64 q.b)).setCell ⟨gi, j * 7 + 4, none⟩ (.int .i64 q.c)).setCell ⟨gi, j * 7 + 5, none⟩ (.int .i64 q.imm)).setCell ⟨gi, j * 7 + 6, none⟩ (.slice ru q.args.length rc)) X #[.slice bk.pu bk.ps.length bk.pc, .slice bk.iu bk.is.length bk.ic, .int .i64 bk.t.kind, .int .i64 bk.t.a, .int .i64 bk.t.x, .int .i64 bk.t.y] 41) := (((((((HX7.out.setOther (by omega)).setOther (by omega)).setOther (by omega)).setOther (by omega)).setOther (by omega)).setOther (by omega)).setOther (by omega))
       have HIM8 : Hid ((is.set j (q, ru, rc)).map (·.1) = (p.insts.take (j + 1)).map (sbInst (rhoT tt)) ++ p.insts.drop (j + 1)) := mid_set (fun x : InE => x.1) _ inst0 HIM.out (by have := HIN2.out; omega) (by rw [HFD.out, HQ.out])
       have s7 : w7.cell? ⟨X, 1, none⟩ = some (.slice (some ⟨gi, 0, none⟩) bk.is.length bk.ic) ∧ w7.heap[gi]? = some (.cells curi 44 (0, 0)) := ⟨by rw [← HIU.out]; exact HX7.out.cell 1, hgi7⟩
       obtain ⟨k0, k1, k2, k3, k4, k5, k6⟩ := row7i.out w7 hgi7
       have kf : ∀ o, w7.frozen? ⟨gi, o, none⟩ = false := fun o => froz_of_heap hgi7
       clear PI b7 b7' hown hq HX7 hgi7 HNEW HS HX HIM HQ hgi s0 HIN2
       refine hK.out _ _ (.inr s7) ?_
       clear hK K row7i
       try simp only [Act.put, sA, sB, sC]
       refine takeX 10 (v := ?_) rfl rfl (by kernel_rfl) (fun _ _ _ h => h) (yesH (by rfl) ?_) s7 ?_
       rotate_left
       ·intro w9 hS9
        obtain ⟨g0, g1⟩ := hS9
        go_simp
        try with_reducible rfl
       try simp only [Act.put, sA, sB, sC]
       clear s7
       refine readyX 11 rfl (by kernel_rfl) (fun K hK => ?_)
       go_simp
       refine hK.out _ _ (.inl rfl) ?_
       clear hK K k0 k1 k2 k3 k4 k5 k6 kf
       refine doneX (by kernel_rfl) ?_ _
       go_wp2_with fail
       go_roundw
       case rel => exact ⟨j + 1, _, by omega, by go_num, (by show _ = _; rw [List.length_set]; exact HIL.out), HIM8.out, HS8.out, HX8.out⟩
       case measure => simp [intOf]; omega
      ·have HIF : Hid (is.map (·.1) = p.insts.map (sbInst (rhoT tt))) := by
        have hje : j = p.insts.length := by have := HIN2.out; omega
        have h := HIM.out
        rw [hje, List.take_length, List.drop_length, List.append_nil] at h
        exact h
       have PT := l8TermS lo p.term tt ut ct w5 (HMT.out.keep (agree_of_below HS.out.s.bel lo)) (HIN.out.tm p HPd.out)
       have hpsl := HPL.out
       have hisl := HIL.out
       obtain ⟨pt, hpt⟩ : ∃ pt, sbTerm (rhoT tt) p.term = pt := ⟨_, rfl⟩
       have HPT : Hid (sbTerm (rhoT tt) p.term = pt) := hpt
       rw [hpt, ← HTM.out] at PT
       have z0 : w5.cell? ⟨X, 0, none⟩ = some (.slice bk.pu bk.ps.length bk.pc) := HX.out.cell 0
       have z1 : w5.cell? ⟨X, 1, none⟩ = some (.slice bk.iu bk.is.length bk.ic) := HX.out.cell 1
       have z2 : w5.cell? ⟨X, 2, none⟩ = some (.int .i64 bk.t.kind) := HX.out.cell 2
       have z3 : w5.cell? ⟨X, 3, none⟩ = some (.int .i64 bk.t.a) := HX.out.cell 3
       have z4 : w5.cell? ⟨X, 4, none⟩ = some (.int .i64 bk.t.x) := HX.out.cell 4
       have z5 : w5.cell? ⟨X, 5, none⟩ = some (.int .i64 bk.t.y) := HX.out.cell 5
       have zf : ∀ o, w5.frozen? ⟨X, o, none⟩ = false := fun o => froz_of_heap HX.out
       clear HIM hpt HIN2 hX1
       go_upto_region 17 with fail
       go_wp2_with fail
       refine PT.mono ?_
       rintro e w6 ⟨rfl, b6⟩
       clear PT z0 z1 z2 z3 z4 z5 zf
       have HS6 := HS.out.keep b6
       have HX6 : At w6 X #[.slice bk.pu bk.ps.length bk.pc, .slice bk.iu bk.is.length bk.ic, .int .i64 bk.t.kind, .int .i64 bk.t.a, .int .i64 bk.t.x, .int .i64 bk.t.y] 41 := HX.out.below b6
       have z2 : w6.cell? ⟨X, 2, none⟩ = some (.int .i64 bk.t.kind) := HX6.cell 2
       have z3 : w6.cell? ⟨X, 3, none⟩ = some (.int .i64 bk.t.a) := HX6.cell 3
       have z4 : w6.cell? ⟨X, 4, none⟩ = some (.int .i64 bk.t.x) := HX6.cell 4
       have z5 : w6.cell? ⟨X, 5, none⟩ = some (.int .i64 bk.t.y) := HX6.cell 5
       have zf : ∀ o, w6.frozen? ⟨X, o, none⟩ = false := fun o => froz_of_heap HX6
       have HS7 : Hid (LSt z m0 w ((((w6.setCell ⟨X, 2, none⟩ (.int .i64 pt.kind)).setCell ⟨X, 3, none⟩ (.int .i64 pt.a)).setCell ⟨X, 4, none⟩ (.int .i64 pt.x)).setCell ⟨X, 5, none⟩ (.int .i64 pt.y)) #[.slice u0 d.params.length c0, .int .i64 d.ret, .slice u2 d.blocks.length c2] #[.slice pu d.params.length pc, .int .i64 d.ret, .slice bu d.blocks.length bc] #[.slice none 0 0, .int .i64 0, .slice none 0 0] pu d.params bu (bs.set b ((bk.ph ps).ins is))) := (((HS6.far HX6 hzX).far (heap_set (o := 2) HX6) hzX).far (heap_set (o := 3) (heap_set (o := 2) HX6)) hzX).far (heap_set (o := 4) (heap_set (o := 3) (heap_set (o := 2) HX6))) hzX
       have HX7 : Hid (At ((((w6.setCell ⟨X, 2, none⟩ (.int .i64 pt.kind)).setCell ⟨X, 3, none⟩ (.int .i64 pt.a)).setCell ⟨X, 4, none⟩ (.int .i64 pt.x)).setCell ⟨X, 5, none⟩ (.int .i64 pt.y)) X #[.slice bk.pu bk.ps.length bk.pc, .slice bk.iu bk.is.length bk.ic, .int .i64 pt.kind, .int .i64 pt.a, .int .i64 pt.x, .int .i64 pt.y] 41) := heap_set (o := 5) (heap_set (o := 4) (heap_set (o := 3) (heap_set (o := 2) HX6)))
       clear HS HX b6 HS6 HX6
       go_upto_region 18 with fail
       clear z2 z3 z4 z5 zf
       generalize ((((w6.setCell ⟨X, 2, none⟩ (.int .i64 pt.kind)).setCell ⟨X, 3, none⟩ (.int .i64 pt.a)).setCell ⟨X, 4, none⟩ (.int .i64 pt.x)).setCell ⟨X, 5, none⟩ (.int .i64 pt.y)) = w7 at *
       clear w6
       have hb3 := set_at (y := (bk.ph ps).ins is) HBK.out
       obtain ⟨g2, cur2, hbu2, hg2z, hg2, hgc2, hnew2⟩ := HS7.out.block hb3
       obtain ⟨s1, s2⟩ := SP.out _ _ HS7.out
       rw [hbu2] at s2
       have hbI : (b : Int) < d.blocks.length := by omega
       have gc0 : w7.cell? ⟨g2, b * 6, none⟩ = some (.slice bk.pu ps.length bk.pc) := (hg2.cell _).trans (hgc2 0 (by decide))
       have gc1 : w7.cell? ⟨g2, b * 6 + 1, none⟩ = some (.slice bk.iu is.length bk.ic) := (hg2.cell _).trans (hgc2 1 (by decide))
       have gc2 : w7.cell? ⟨g2, b * 6 + 2, none⟩ = some (.int .i64 bk.t.kind) := (hg2.cell _).trans (hgc2 2 (by decide))
       have gc3 : w7.cell? ⟨g2, b * 6 + 3, none⟩ = some (.int .i64 bk.t.a) := (hg2.cell _).trans (hgc2 3 (by decide))
       have gc4 : w7.cell? ⟨g2, b * 6 + 4, none⟩ = some (.int .i64 bk.t.x) := (hg2.cell _).trans (hgc2 4 (by decide))
       have gc5 : w7.cell? ⟨g2, b * 6 + 5, none⟩ = some (.int .i64 bk.t.y) := (hg2.cell _).trans (hgc2 5 (by decide))
       have gf : ∀ o, w7.frozen? ⟨g2, o, none⟩ = false := fun o => froz_of_heap hg2
       have vv0 : w7.cell? ⟨X, 0, none⟩ = some (.slice bk.pu bk.ps.length bk.pc) := HX7.out.cell 0
       have vv1 : w7.cell? ⟨X, 1, none⟩ = some (.slice bk.iu bk.is.length bk.ic) := HX7.out.cell 1
       have vv2 : w7.cell? ⟨X, 2, none⟩ = some (.int .i64 pt.kind) := HX7.out.cell 2
       have vv3 : w7.cell? ⟨X, 3, none⟩ = some (.int .i64 pt.a) := HX7.out.cell 3
       have vv4 : w7.cell? ⟨X, 4, none⟩ = some (.int .i64 pt.x) := HX7.out.cell 4
       have vv5 : w7.cell? ⟨X, 5, none⟩ = some (.int .i64 pt.y) := HX7.out.cell 5
       have HS9 : Hid (LSt z m0 w ((((((w7.setCell ⟨g2, b * 6, none⟩ (.slice bk.pu bk.ps.length bk.pc)).setCell ⟨g2, b * 6 + 1, none⟩ (.slice bk.iu bk.is.length bk.ic)).setCell ⟨g2, b * 6 + 2, none⟩ (.int .i64 pt.kind)).setCell ⟨g2, b * 6 + 3, none⟩ (.int .i64 pt.a)).setCell ⟨g2, b * 6 + 4, none⟩ (.int .i64 pt.x)).setCell ⟨g2, b * 6 + 5, none⟩ (.int .i64 pt.y)) #[.slice u0 d.params.length c0, .int .i64 d.ret, .slice u2 d.blocks.length c2] #[.slice pu d.params.length pc, .int .i64 d.ret, .slice bu d.blocks.length bc] #[.slice none 0 0, .int .i64 0, .slice none 0 0] pu d.params bu (bs.set b (((bk.ph ps).ins is).tm pt))) := by
        have h := hnew2 pt
        rw [List.set_set] at h
        rw [show bkC (((bk.ph ps).ins is).tm pt) = [.slice bk.pu ps.length bk.pc, .slice bk.iu is.length bk.ic, .int .i64 pt.kind, .int .i64 pt.a, .int .i64 pt.x, .int .i64 pt.y] from rfl, setCells_six, hpsl, hisl] at h
        exact h
       have HM9 : Hid ((bs.set b (((bk.ph ps).ins is).tm pt)).map BkE.d = (d.blocks.take (b + 1)).map (sbBlock (rhoT tt)) ++ d.blocks.drop (b + 1)) := mid_set BkE.d _ block0 HM.out hbl (by
        rw [HP.out]
        show (⟨ps.map (·.1), is.map (·.1), pt⟩ : BlockD) = _
        rw [HPF.out, HIF.out, ← HPT.out]
        rfl)
       clear hb3 hbu2 hg2 hgc2 hnew2 HS7 HX7 s1
       go_wp2_with fail
       go_roundw
       case rel => exact ⟨b + 1, _, by omega, by go_num, (by show _ = _; rw [List.length_set]; exact HL.out), HM9.out, HS9.out⟩
       case measure => simp [intOf]; omega
  ·have hbe : b = d.blocks.length := by omega
   have HBF : Hid (bs.map BkE.d = d.blocks.map (sbBlock (rhoT tt))) := by
    have h := HM.out
    rw [hbe, List.take_length, List.drop_length, List.append_nil] at h
    exact h
   obtain ⟨s1, s2⟩ := SP.out _ _ HS.out
   have v0 : w5.cell? ⟨z, 0, none⟩ = some (.slice pu d.params.length pc) := HS.out.s.box.cell 0
   have v1 : w5.cell? ⟨z, 1, none⟩ = some (.int .i64 d.ret) := HS.out.s.box.cell 1
   have r0 : w5.cell? ⟨w.heap.size + 1, 0, none⟩ = some (.slice none 0 0) := HS.out.s.res.cell 0
   have r1 : w5.cell? ⟨w.heap.size + 1, 1, none⟩ = some (.int .i64 0) := HS.out.s.res.cell 1
   have r2 : w5.cell? ⟨w.heap.size + 1, 2, none⟩ = some (.slice none 0 0) := HS.out.s.res.cell 2
   have rf : ∀ o, w5.frozen? ⟨w.heap.size + 1, o, none⟩ = false := fun o => froz_of_heap HS.out.s.res
   clear HM
   go_wp2_with fail
   have hr := (heap_set (o := 2) (v := .slice bu d.blocks.length bc) (heap_set (o := 1) (v := .int .i64 d.ret) (heap_set (o := 0) (v := .slice pu d.params.length pc) HS.out.s.res)))
   have BB : Below w.heap.size w (((w5.setCell ⟨w.heap.size + 1, 0, none⟩ (.slice pu d.params.length pc)).setCell ⟨w.heap.size + 1, 1, none⟩ (.int .i64 d.ret)).setCell ⟨w.heap.size + 1, 2, none⟩ (.slice bu d.blocks.length bc)) := ((((((HS.out.s.bel).setCell (by dsimp only; omega) _)).setCell (by dsimp only; omega) _)).setCell (by dsimp only; omega) _)
   have SS : Still 4 w5 (((w5.setCell ⟨w.heap.size + 1, 0, none⟩ (.slice pu d.params.length pc)).setCell ⟨w.heap.size + 1, 1, none⟩ (.int .i64 d.ret)).setCell ⟨w.heap.size + 1, 2, none⟩ (.slice bu d.blocks.length bc)) := (Still.trans (Still.set (k := 4) (o := 0) (v := .slice pu d.params.length pc) HS.out.s.res (by decide)) (Still.trans (Still.set (k := 4) (o := 1) (v := .int .i64 d.ret) (heap_set (o := 0) (v := .slice pu d.params.length pc) HS.out.s.res) (by decide)) (Still.set (k := 4) (o := 2) (v := .slice bu d.blocks.length bc) (heap_set (o := 1) (v := .int .i64 d.ret) (heap_set (o := 0) (v := .slice pu d.params.length pc) HS.out.s.res)) (by decide))))
   have hmm := HS.out.m
   have hmz : m0 ≤ z := HS.out.bk.2.2.le
   generalize (((w5.setCell ⟨w.heap.size + 1, 0, none⟩ (.slice pu d.params.length pc)).setCell ⟨w.heap.size + 1, 1, none⟩ (.int .i64 d.ret)).setCell ⟨w.heap.size + 1, 2, none⟩ (.slice bu d.blocks.length bc)) = W9 at *
   have hA := OwnBksZ.at_ (OwnBksZ.still HS.out.bk SS (by decide)) hmz
   rw [HBF.out] at hA
   have hP := (OwnI.ints (HS.out.pr.still SS (by decide))).low (lo' := w.heap.size) (by omega)
   refine bodyPost_ret (v := .agg #[.slice pu d.params.length pc, .int .i64 d.ret, .slice bu d.blocks.length bc]) ((results_cell_row Tryd.results31 _ _ (w.heap.size + 1) 27 _ (0, 0) _ rfl hr Tryd.underlying27 rfl (by kernel_rfl)).trans (by rfl)) rfl ⟨⟨pu, pc, bu, bc, ?_, hP, BlocksAt.low hA (by omega)⟩, BB⟩
   show _ = Ending.returned (.agg #[.slice pu d.params.length pc, .int .i64 d.ret, .slice bu (d.blocks.map (sbBlock (rhoT tt))).length bc])
   rw [List.length_map]
end Go.Proofs.YtenbodghkpbghaaDoor
