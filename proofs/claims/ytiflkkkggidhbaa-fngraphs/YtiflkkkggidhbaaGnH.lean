/- A function that grows: a call. -/
import Derived.Test.YtiflkkkggidhbaaGnG
import Derived.Deep.RegionHeld2
namespace Go.Proofs.Ytiflkkkggidhbaa
open Go.RowKit Go.Deep
set_option linter.unusedVariables false

theorem own_stay {w w' : World} {b : Nat} {e : TypeId} {s : Nat} {v : Value} {n : Nat} {xs : List Value} (h : w.ownsRow b e s v n xs) (k : ∀ g, v.ownBlock = some g → w'.heap[g]? = w.heap[g]?) : w'.ownsRow b e s v n xs := by
  obtain ⟨h1, h2⟩ := h
  refine ⟨h1, ?_⟩
  rcases h2 with h2 | ⟨g, cap, cur, hv, hb, hc, r⟩
  · exact .inl h2
  · subst hv
    exact .inr ⟨g, cap, cur, rfl, hb, (k g rfl).trans hc, r⟩
/-- Beside the function a block turned that is none of its own. -/
theorem Gok.beside {base g G len cap N q : Nat} {a0 : Option Addr} {M : Tmap} {S : GRec} {v v' : World} (h : Gok base g G a0 len cap M N S v) (hq : base ≤ q) (hqG : q ≠ G) (hM : M q = none) (k : v.grownBy v' (some q)) : Gok base g G a0 len cap M N S v' := by
  have hG := (Array.getElem?_eq_some_iff.1 h.cells).1
  have hk : ∀ b, (∃ p, M b = some p) → v'.heap[b]? = v.heap[b]? := fun b hb => k.block b (h.th.lt hb).2 (by
    obtain ⟨p, hb⟩ := hb
    have : b ≠ q := fun e => by rw [e, hM] at hb; cases hb
    simp; omega)
  exact ⟨rd_keep h.rd k.size fun b hb => k.block b (by have := h.rd.lt; omega) (by have := h.gb; simp; omega), h.gb, Nat.le_trans h.bv k.size, h.mG, h.nG, (k.block G hG (by simp; omega)).trans h.cells, h.th.keep (Nat.le_refl _) hk, h.p.keep hk, h.b.keep hk, h.ph.keep hk, h.i.keep hk, h.ids, h.rets, h.pars, h.bn⟩
theorem Mov.beside {g G q : Nat} {A B : Tmap} {a b c : World} (h : Mov g G A B a b) (hq : a.heap.size ≤ q) (hB : B q = none) (hl : ∀ x, (∃ p, B x = some p) → x < b.heap.size) (k : b.grownBy c (some q)) : Mov g G A B a c :=
  ⟨h.ext, fun x hx h1 h2 h3 => ⟨(k.block x (Nat.lt_of_lt_of_le hx h.size) (by simp; omega)).trans (h.out x hx h1 h2 h3).1, (h.out x hx h1 h2 h3).2⟩, fun x T m hx hT => by
    obtain ⟨e1, e2⟩ := h.hold x T m hx hT
    have hxq : x ≠ q := fun e => by rw [e, hB] at e2; cases e2
    exact ⟨(k.block x (hl x ⟨_, e2⟩) (by simp; omega)).trans e1, e2⟩, k.os.trans h.os, k.tape.trans h.tape, k.output.trans h.output, Nat.le_trans h.size k.size⟩
theorem Mov.adopt {g G q n : Nat} {T0 : TypeId} {A B : Tmap} {a b : World} (h : Mov g G A B a b) (hq : a.heap.size ≤ q) (hB : B q = none) : Mov g G A (put B q T0 n) a b :=
  ⟨h.ext.trans (put_ext (.inl hB)), fun x hx h1 h2 h3 => by
    obtain ⟨e1, e2⟩ := h.out x hx h1 h2 h3
    have hxq : x ≠ q := by omega
    exact ⟨e1, by simp [put, hxq, e2]⟩, fun x T m hx hT => by
    obtain ⟨e1, e2⟩ := h.hold x T m hx hT
    have hxq : x ≠ q := fun e => by rw [e, hB] at e2; cases e2
    exact ⟨e1, by simp [put, hxq, e2]⟩, h.os, h.tape, h.output, h.size⟩
/-- The arguments so far. -/
structure Args (base g G : Nat) (a0 : Option Addr) (len cap : Nat) (M : Tmap) (N : Nat) (S : GRec) (v : World) (k : Nat) (s : Value) (wr : World) : Prop where
  it : ∃ Mk Sk, ∃ zs : List Int, ∃ gf cf, s = .slice (some ⟨gf, 0, none⟩) k cf ∧ zs.length = k ∧ wr.ownsRow v.heap.size 2 1 s k (zs.map (Value.int .i64)) ∧ Gok base g G a0 len cap Mk (N + 2 * k) Sk wr ∧ Same S Sk ∧ Mov g G M Mk v wr ∧ Mk gf = none ∧ v.heap.size ≤ gf ∧ gf < wr.heap.size
set_option maxHeartbeats 2000000 in
set_option maxRecDepth 100000 in
theorem call_any (base g G : Nat) (a0 : Option Addr) (len cap : Nat) (M : Tmap) (N : Nat) (S : GRec) (v : World) (h : Gok base g G a0 len cap M N S v) (hN : N + 6 ≤ 10000) (hp : ParW M S v) :
    Calls Try.prog 72 #[.pointer (some ⟨G, 0, none⟩)] v fun e v' => (∃ r, e = .returned r) ∧ ∃ M' S', Gok base g G a0 len cap M' (N + 6) S' v' ∧ Same S S' ∧ Mov g G M M' v v' := by
  obtain ⟨i0, hi, hz0, hz1, hz2⟩ := info_parts infoI
  have HI : Hid (Try.prog.info? 2 = some i0) := hi
  have HZ0 : Hid (i0.zero = some (.int .i64 0)) := hz0
  have HZ1 : Hid (i0.size = 1) := hz1
  have HZ2 : Hid (i0.bytes = 8) := hz2
  clear hi hz0 hz1 hz2
  have hbn := h.bn
  have hGl := (Array.getElem?_eq_some_iff.1 h.cells).1
  have c0 : v.cell? ⟨G, 0, none⟩ = some (.pointer (some ⟨g, 0, none⟩)) := (gcell h.cells 0).1.trans rfl
  have c13 : v.cell? ⟨G, 13, none⟩ = some S.rv := (gcell h.cells 13).1.trans rfl
  obtain ⟨ur, cr, eR, _⟩ := h.rets
  rw [eR] at c13
  go_enter Try.func72, Try.ntmps72
  by_cases hn0 : S.nr = 0
  · rw [hn0] at c13
    go_wp2_with fail
    exact bodyPost_ret (results_none Try.results72 _ _ _) rfl ⟨⟨_, rfl⟩, M, S, h.mono (by omega) hN, Same.refl _, Mov.refl _ _ _ _⟩
  · obtain ⟨gs, cs, ms, e1, e2, e3⟩ := hp (by omega)
    have HD : Gok base g G a0 len cap M N S v.drew ∧ Mov g G M M v v.drew := h.below (Below.refl _ _).drew
    obtain ⟨HD, VD⟩ := HD
    have c0d : v.drew.cell? ⟨G, 0, none⟩ = some (.pointer (some ⟨g, 0, none⟩)) := c0
    have c13d : v.drew.cell? ⟨G, 13, none⟩ = some (.slice ur S.nr cr) := c13
    go_wp2_with fail
    go_region_held2 (fun w' => w'.cell? ⟨G, 0, none⟩ = some (.pointer (some ⟨g, 0, none⟩)) ∧ w'.cell? ⟨G, 13, none⟩ = some (.slice ur S.nr cr)) (first | with_reducible exact ⟨c0d, c13d⟩ | with_reducible exact ⟨x0, x13⟩) ((go_at_call 41; refine (below_any g a0 len cap _ _ (by exact HD.rd)).mono ?_; rintro e w1 ⟨n1, rfl, hn1, hn2, hr1, hg1⟩; obtain ⟨kn, rfl⟩ := Int.eq_ofNat_of_zero_le hn1; obtain ⟨H1, V1⟩ := HD.read hr1 (by exact hg1); have x0 : w1.cell? ⟨G, 0, none⟩ = some (.pointer (some ⟨g, 0, none⟩)) := (gcell H1.cells 0).1.trans rfl; have x13 : w1.cell? ⟨G, 13, none⟩ = some (.slice ur S.nr cr) := (by rw [← eR]; exact (gcell H1.cells 13).1.trans rfl)))
    have hkn : kn < S.nr := by omega
    obtain ⟨u, np, c, g1, g2, g3⟩ := e3 kn hkn
    have VV := VD.trans V1
    have hgv : g < v.heap.size := h.rd.lt
    have hbv := h.bv
    clear e3 c0d c13d c0 c13 HD VD hr1 hg1 x0 x13 hn1 hn2
    go_wp2_with fail
    go_loopw [3, 4] (fun s i wr => ∃ k : Nat, k ≤ np ∧ i = .int .i64 k ∧ Args base g G a0 len cap M N S v k s wr) (fun _ i _ => np - (intOf i).toNat)
    case atStart =>
      have B1 : Below w1.heap.size w1 (w1.alloc (.cells #[] 2)) := (Below.refl _ _).alloc (Nat.le_refl _) _
      obtain ⟨K1, L1⟩ := H1.below B1
      exact ⟨0, by omega, rfl, ⟨M, S, [], w1.heap.size, 0, rfl, rfl, lit_own (heap_alloc_last _ _) VV.size, K1, Same.refl _, VV.trans L1, H1.th.none (Nat.le_refl _), VV.size, by simp⟩⟩
    case round =>
      obtain ⟨k, hk, rfl, ⟨Mk, Sk, zs, gf, cf, rfl, hzl, hown, Hk, hSk, Vk, hMf, hgf, hgfl⟩⟩ := hrel
      obtain ⟨wo, hwo⟩ : ∃ wo, wo = wr := ⟨_, rfl⟩
      subst hwo
      have d14 : wo.cell? ⟨G, 14, none⟩ = some (.slice (some ⟨gs, 0, none⟩) S.nr cs) := (gcell Hk.cells 14).1.trans (by show some Sk.sv = _; rw [hSk.2.2.2.2.2.2.2.2.1, e1])
      have d13 : wo.cell? ⟨G, 13, none⟩ = some (.slice ur S.nr cr) := (gcell Hk.cells 13).1.trans (by show some Sk.rv = _; rw [hSk.2.2.2.2.2.2.1, eR])
      have dgs : wo.cell? ⟨gs, kn, none⟩ = some (.slice u np c) := (cell_blk (Vk.hold gs _ _ e2 (by decide)).1).trans g1
      by_cases hlt : k < np
      · obtain ⟨gp, mp, rfl, r2, r3⟩ := g3 (by omega)
        obtain ⟨x, x1, x2⟩ := r3 k hlt
        have dgp : wo.cell? ⟨gp, k, none⟩ = some (.int .i64 x) := (cell_blk (Vk.hold gp _ _ r2 (by decide)).1).trans x1
        have P := pick_any base g G a0 len cap Mk (N + 2 * k) Sk x wo Hk (by omega) x2
        go_wp2_with (first | (go_at_call 71; refine P.mono ?_; rintro e w2 ⟨y, rfl, M2, S2, H2, hS2, V2⟩; have hst := V2.out gf hgfl (by omega) (by omega) hMf; have own2 := own_stay (w' := w2) hown (fun q hq => by cases hq; exact hst.1)) | (at_builtin; refine wpList_append_lies _ rfl (.tmp 34) (.tmp 47) 24 rfl v.heap.size 2 i0 (.int .i64 0) 1 8 Try.underlying24 HI.out HZ0.out HZ1.out HZ2.out rfl (by decide) (.slice (some ⟨gf, 0, none⟩) k cf) k (zs.map (Value.int .i64)) rfl (own2.alloc _) ⟨w2.heap.size, 0, none⟩ 1 1 [.int .i64 y] rfl (by simp) (one_of (heap_alloc_last w2 _)) (by simp [Value.oneCell']) (by omega) (by unfold maxLen; omega) (by omega) (by have := V2.size; have := Vk.size; simp; omega) _ rfl ?_; intro g4 cap4 w4 hown4 hgrow4 hat4 hlt4))
        have B1 : Below w2.heap.size w2 (w2.alloc (.cells #[.int .i64 y] 2)) := (Below.refl _ _).alloc (Nat.le_refl _) _
        obtain ⟨K1, L1⟩ := H2.below B1
        have H4 := K1.beside (by omega) (by omega) hst.2 hgrow4
        have V4 := (Vk.trans (V2.trans L1)).beside hgf hst.2 (fun x hx => (K1.th.lt hx).2) hgrow4
        have m4 : M2 g4 = none ∧ v.heap.size ≤ g4 := by
          rcases hat4 with e | e
          · cases e; exact ⟨hst.2, hgf⟩
          · rw [e]; exact ⟨K1.th.none (Nat.le_refl _), (Vk.trans (V2.trans L1)).size⟩
        go_roundw
        case rel => exact ⟨k + 1, by omega, by go_num, ⟨M2, S2, zs ++ [y], g4, cap4, rfl, by simp [hzl], by simpa using hown4, H4, hSk.trans hS2, V4, m4.1, m4.2, hlt4⟩⟩
        case measure => simp [intOf]; omega
      · have hke : k = np := by omega
        subst hke
        have hcur : ∃ cur, wo.heap[gf]? = some (.cells cur 2 (0, 0)) ∧ ∀ j, j < k → ∃ z : Int, cur[j]? = some (.int .i64 z) := by
          rcases hown.2 with ⟨hbad, _⟩ | ⟨g', c', cur, hv, hb, hc, hn, hcm, hsz, htk⟩
          · cases hbad
          · cases hv
            refine ⟨cur, hc, fun j hj => ⟨zs.getD j 0, ?_⟩⟩
            have h1 : (cur.toList.take (k * 1))[j]? = some (.int .i64 (zs.getD j 0)) := by
              rw [htk, List.getElem?_map, List.getElem?_eq_getElem (by omega)]
              simp [List.getD, hzl, hj]
            rw [List.getElem?_take_of_lt (by omega)] at h1
            simpa using h1
        obtain ⟨cur, hcur, hci⟩ := hcur
        obtain ⟨HA, _, _⟩ := Hk.adopted (by omega) (by omega) hMf hcur hci
        have VA := Vk.adopt (T0 := 2) (n := k) hgf hMf
        obtain ⟨gr, cr', rs, er, hrl, _, _, _, hread⟩ := h.rets.read h.th (by omega)
        rw [er] at eR
        cases eR
        obtain ⟨_, _, ecr, hcr⟩ := h.rets
        rw [er] at ecr
        cases ecr
        obtain ⟨gr', mr, egr, hmr, _⟩ : ∃ g m, (some ⟨gr, 0, none⟩ : Option Addr) = some ⟨g, 0, none⟩ ∧ M g = some (2, m) ∧ S.nr ≤ m := by
          rcases hcr with e | e
          · omega
          · exact e
        cases egr
        have dgr : wo.cell? ⟨gr, kn, none⟩ = some (.int .i64 (rs.getD kn 0)) := by
          have := hread kn (.int .i64 (rs.getD kn 0)) (by simp [List.getD, hrl, hkn])
          rw [Addr.add_lit, Nat.zero_add] at this
          exact (cell_blk (Vk.hold gr _ _ hmr (by decide)).1).trans this
        generalize rs.getD kn 0 = z at dgr
        have P := put_any base g G a0 len cap _ (N + 2 * k) Sk 26 z 0 0 0 kn (some ⟨gf, 0, none⟩) k cf wo HA (by omega) ⟨_, cf, rfl, .inr ⟨gf, k, rfl, by simp [put], Nat.le_refl _⟩⟩ (by omega)
        clear hread hci
        go_wp2_with (go_at_call 69; refine P.mono ?_; rintro e w3 ⟨n3, rfl, M3, S3, H3, hS3, _, V3⟩)
        exact bodyPost_end (results_none Try.results72 _ _ _) rfl ⟨⟨_, rfl⟩, M3, S3, H3.mono (by omega) hN, hSk.trans hS3, VA.trans V3⟩
end Go.Proofs.Ytiflkkkggidhbaa
