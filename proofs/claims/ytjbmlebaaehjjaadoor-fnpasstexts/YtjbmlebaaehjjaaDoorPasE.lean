/- Lists of passes: DrawPassText, DrawPassesOf. -/
import Derived.Test.YtjbmlebaaehjjaaDoorPasD
import Derived.Test.YtjbmlebaaehjjaaDoorPasP
import Derived.Test.YtjbmlebaaehjjaaDoorDrw
namespace Go.Proofs.YtjbmlebaaehjjaaDoor
open Go.RowKit
set_option linter.unusedVariables false

theorem join_lenP : ∀ xs : List (List UInt8), (∀ x ∈ xs, x.length ≤ 9) → (Lib.join xs [44]).length ≤ 10 * xs.length
  | [], _ => by simp [Lib.join_nil]
  | [x], h => by rw [Lib.join_one]; have := h x (by simp); simp; omega
  | x :: y :: r, h => by
    have h1 := h x (by simp)
    have h2 := join_lenP (y :: r) (fun z hz => h z (by simp at hz ⊢; exact .inr hz))
    rw [join_more, List.length_append, List.length_cons]
    simp only [List.length_cons] at h2 ⊢
    omega
theorem word_lenP (p : Int) : (word p).data.toList.length ≤ 9 := by
  unfold word
  rcases Nat.lt_or_ge p.toNat 10 with h | h
  · have : ∀ k : Fin 10, (wordL.getD k.1 ⟨#[]⟩).data.toList.length ≤ 9 := by decide
    exact this ⟨_, h⟩
  · rw [List.getD, List.getElem?_eq_none (by exact h)]; decide
theorem text_size (l : List Int) : (textOf l).size ≤ 120 := by
  unfold textOf
  split
  · rename_i h
    unfold okL at h
    simp only [Bool.and_eq_true, decide_eq_true_eq] at h
    have := join_lenP ((l.map word).map (·.data.toList)) (fun x hx => by
      obtain ⟨y, hy, rfl⟩ := List.mem_map.1 hx
      obtain ⟨p, _, rfl⟩ := List.mem_map.1 hy
      exact word_lenP p)
    simp only [List.length_map] at this
    show (Lib.join ((l.map word).map (·.data.toList)) [44]).toArray.size ≤ 120
    rw [List.size_toArray]
    omega
  · decide
theorem DSt.start {a0 : Option Addr} {len cap : Nat} {w : World} (hl : len ≤ 1048576) (hc : Code a0 len w.heap.size w) : DSt w.heap.size a0 len cap w (w.alloc (.cells #[.slice a0 len cap, .int .i64 0] 49)) :=
  ⟨rd_open hl hc, (Below.refl _ _).alloc (Nat.le_refl _) _, Nat.le_refl _⟩
theorem textsP {w w1 : World} {g : Nat} {xs : Array Value} {n : Int} {t : TypeId} {m : Nat} (hg : g < w.heap.size) (k : (w.alloc (.cells xs t)).grownBy w1 (some g)) (h0 : 0 ≤ n) (h1 : n < m) (hm : m = xs.size)
    (hx : ∀ v ∈ xs, ∃ s : ByteArray, v = .string s ∧ s.size ≤ 9) : ∃ s : ByteArray, w1.cell? ⟨w.heap.size, n.toNat, none⟩ = some (.string s) ∧ s.size ≤ 9 := by
  have hb : w1.heap[w.heap.size]? = some (.cells xs t (0, 0)) := by
    rw [k.block w.heap.size (by simp) (by simp; omega)]
    show (w.heap.push _)[w.heap.size]? = _
    simp
  have hn : n.toNat < xs.size := by omega
  obtain ⟨s, hs, hz⟩ := hx xs[n.toNat] (Array.getElem_mem hn)
  refine ⟨s, ?_, hz⟩
  unfold World.cell?
  rw [hb]
  simp [hn, hs]
set_option maxHeartbeats 1000000 in
theorem drawPassText (a0 : Option Addr) (len cap : Nat) (w : World) (hl : len ≤ 1048576) (hc : Code a0 len w.heap.size w) :
    Calls Tryd.prog 7 #[.slice a0 len cap] w fun e w' => ∃ u c l, e = .returned (.slice u (l : List Int).length c) ∧ IntsAt w' w.heap.size u l ∧ l.length ≤ 200 ∧ Below w.heap.size w w' := by
  have D0 := DSt.start (cap := cap) hl hc
  go_enter Tryd.func7, Tryd.ntmps7
  go_wp2_with fail
  refine (open_any _ _ _ _).mono ?_
  rintro e w0 ⟨rfl, rfl⟩
  go_wp2_with fail
  generalize w.alloc (.cells #[.slice a0 len cap, .int .i64 0] 49) = V at D0 ⊢
  have PA : Calls Tryd.prog 19 #[.pointer (some ⟨w.heap.size, 0, none⟩), .int .i64 13] V _ := passes_any _ a0 len cap 13 w V D0 (by omega)
  refine PA.mono ?_
  rintro e w1 ⟨v, l, rfl, R1, hl1, D1⟩
  obtain ⟨u, c, rfl, I1⟩ := R1.ints (by omega)
  have I2 := I1.low (lo' := w.heap.size) D0.below.size
  go_wp2_with fail
  go_ret
  exact ⟨u, c, l, rfl, I2, hl1, D1.below⟩
set_option maxHeartbeats 1000000 in
theorem drawPassesOf (a0 : Option Addr) (len cap : Nat) (w : World) (hl : len ≤ 1048576) (hc : Code a0 len w.heap.size w) :
    Calls Tryd.prog 12 #[.slice a0 len cap] w fun e w' => ∃ s : ByteArray, e = .returned (.string s) ∧ s.size ≤ 200 ∧ Below w.heap.size w w' := by
  have D0 := DSt.start (cap := cap) hl hc
  go_enter Tryd.func12, Tryd.ntmps12
  go_wp2_with fail
  refine (open_any _ _ _ _).mono ?_
  rintro e w0 ⟨rfl, rfl⟩
  go_wp2_with fail
  generalize w.alloc (.cells #[.slice a0 len cap, .int .i64 0] 49) = V at D0 ⊢
  have PA : Calls Tryd.prog 19 #[.pointer (some ⟨w.heap.size, 0, none⟩), .int .i64 6] V _ := passes_any _ a0 len cap 6 w V D0 (by omega)
  refine PA.mono ?_
  rintro e w1 ⟨v, l, rfl, R1, hl1, D1⟩
  obtain ⟨u, c, rfl, I1⟩ := R1.ints (by omega)
  have hts := text_size l
  have P := passTextS _ u c l w1 I1
  generalize textOf l = T at P hts
  clear D0 R1 I1
  go_wp2_with fail
  refine P.mono ?_
  rintro e w2 ⟨rfl, b2⟩
  have D2 := D1.keep b2
  clear b2 D1 P
  go_wp2_with fail
  refine (once_any _ a0 len cap _ _ D2.rd (by omega)).mono ?_
  rintro e w3 ⟨b3, rfl, hr3, hg3⟩
  have D3 := D2.draw hr3 hg3
  clear hr3 hg3 D2
  cases b3 with
  | false =>
    go_wp2_with fail
    go_ret
    exact ⟨T, rfl, by omega, D3.below⟩
  | true =>
    go_wp2_with fail
    refine (below_any _ a0 len cap _ _ (D3.alloc _).rd).mono ?_
    rintro e w4 ⟨n4, rfl, hn0, hn1, hr4, hg4⟩
    obtain ⟨s, hs, hsz⟩ := textsP (m := 4) D3.lt hg4 hn0 (by omega) rfl (by simp; decide)
    have D4 := (D3.alloc _).draw hr4 hg4
    clear hr4 hg4 D3
    have hnn : n4 < 4 := by omega
    go_wp2_with fail
    go_ret
    exact ⟨_, rfl, by rw [ByteArray.size_append']; omega, D4.below⟩
end Go.Proofs.YtjbmlebaaehjjaaDoor
