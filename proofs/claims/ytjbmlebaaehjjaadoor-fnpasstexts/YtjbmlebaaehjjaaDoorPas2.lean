/- Lists of passes: PassText, the program's and the model's. -/
import Derived.Test.YtjbmlebaaehjjaaDoorPas
import Derived.Deep.RegionHeld2
namespace Go.Proofs.YtjbmlebaaehjjaaDoor
open Go.RowKit
set_option linter.unusedVariables false

theorem all_upto {l : List Int} {f : Int → Bool} (h : ∀ j, j < l.length → f (l.getD j 0) = true) : l.all f = true := by
  rw [List.all_eq_true]
  intro x hx
  obtain ⟨j, hj, e⟩ := List.getElem_of_mem hx
  have := h j hj
  simpa [List.getD, hj, e] using this
theorem all_fails {l : List Int} {f : Int → Bool} {k : Nat} (hk : k < l.length) (h : f (l.getD k 0) = false) : l.all f = false := by
  cases e : l.all f with
  | false => rfl
  | true =>
    rw [List.all_eq_true] at e
    have := e _ (getD_mem 0 l k hk)
    rw [h] at this
    cases this
set_option maxHeartbeats 1000000 in
theorem indexPassI (lo : Nat) (a : Option Addr) (cap : Nat) (l : List Int) (w : World) (hv : IntsAt w lo a l) :
    Calls Tryd.prog 40 #[.slice a l.length cap, .func (.func 31) #[] #[]] w fun e w' => ∃ r : Int, e = .returned (.int .i64 r) ∧ w' = w ∧ (decide (0 ≤ r) = !l.all passB) := by
  have hm := hv.1
  go_enter Tryd.func40, Tryd.ntmps40
  go_wp2_with fail
  go_loop [8] (fun i => ∃ k : Nat, k ≤ l.length ∧ i = .int .i64 k ∧ Hid (∀ j, j < k → passB (l.getD j 0) = true)) (fun i => l.length - (intOf i).toNat)
  case atStart => exact ⟨0, by omega, rfl, fun j hj => by omega⟩
  case round =>
    obtain ⟨k, hk, rfl, HD⟩ := hrel
    by_cases hlt : k < l.length
    · rcases hv.2 with rfl | ⟨b, off, rfl, hlo, hb, hcell⟩
      · simp at hlt
      have e0 := hcell k hlt
      cases hx : passB (l.getD k 0) with
      | true =>
        have HX : Hid (passB (l.getD k 0) = true) := hx
        have C := notPassI (l.getD k 0) w
        rw [hx] at C
        generalize l.getD k 0 = x at e0 C
        clear hcell hx
        go_wp2_with (go_at_call 31; refine C.mono ?_; rintro e w8 ⟨rfl, h9⟩; have h8 := h9.symm; clear h9; subst h8)
        go_round
        case rel =>
          refine ⟨k + 1, by omega, by go_num, fun j hj => ?_⟩
          by_cases hjk : j = k
          · subst hjk; exact HX.out
          · exact HD.out j (by omega)
        case measure => simp [intOf]; omega
      | false =>
        have HX : Hid (l.all passB = false) := all_fails hlt hx
        have C := notPassI (l.getD k 0) w
        rw [hx] at C
        generalize l.getD k 0 = x at e0 C
        clear hcell hx
        go_wp2_with (go_at_call 31; refine C.mono ?_; rintro e w8 ⟨rfl, h9⟩; have h8 := h9.symm; clear h9; subst h8)
        go_ret
        exact ⟨_, rfl, rfl, by rw [HX.out]; simp⟩
    · have hke : k = l.length := by omega
      have HX : Hid (l.all passB = true) := all_upto fun j hj => HD.out j (by omega)
      go_wp2_with fail
      go_ret
      exact ⟨_, rfl, rfl, by rw [HX.out]; simp⟩
theorem containsPassI (lo : Nat) (a : Option Addr) (cap : Nat) (l : List Int) (w : World) (hv : IntsAt w lo a l) :
    Calls Tryd.prog 30 #[.slice a l.length cap, .func (.func 31) #[] #[]] w fun e w' => e = .returned (.bool (!l.all passB)) ∧ w' = w := by
  go_enter Tryd.func30, Tryd.ntmps30
  go_wp2_with (go_at_call 40; refine (indexPassI lo _ _ _ _ hv).mono ?_; rintro e w8 ⟨r, rfl, h9, hr⟩; have h8 := h9.symm; clear h9; subst h8; have HR : Hid _ := hr; clear hr)
  go_ret
  exact ⟨congrArg (fun b => Ending.returned (Value.bool b)) HR.out, rfl⟩
set_option maxHeartbeats 1000000 in
theorem passesI (lo : Nat) (a : Option Addr) (cap : Nat) (l : List Int) (w : World) (hv : IntsAt w lo a l) :
    Calls Tryd.prog 20 #[.slice a l.length cap] w fun e w' => e = .returned (.bool (okL l)) ∧ w' = w := by
  have hm := hv.1
  have C := containsPassI lo a cap l w hv
  by_cases hl : l.length ≤ 12
  · have E : Hid (okL l = l.all passB) := by show _ = _; simp [okL, hl]
    generalize l.all passB = b at C E
    go_enter Tryd.func20, Tryd.ntmps20
    go_wp2_with (go_at_call 30; refine C.mono ?_; rintro e w8 ⟨rfl, h9⟩; have h8 := h9.symm; clear h9; subst h8)
    go_ret
    exact ⟨by rw [E.out]; simp, rfl⟩
  · have E : Hid (okL l = false) := by show _ = _; simp [okL, hl]
    clear C
    go_enter Tryd.func20, Tryd.ntmps20
    go_wp2_with fail
    go_ret
    exact ⟨by rw [E.out]; rfl, rfl⟩
theorem ok_at {l : List Int} (h : okL l = true) {k : Nat} (hk : k < l.length) : passB (l.getD k 0) = true := by
  simp only [okL, Bool.and_eq_true, List.all_eq_true] at h
  exact h.2 _ (getD_mem 0 l k hk)
theorem take_word {l : List Int} {k : Nat} (hk : k < l.length) : (l.take (k + 1)).map word = (l.take k).map word ++ [word (l.getD k 0)] := by
  rw [List.take_succ_eq_append_getElem hk, List.map_append]
  simp [List.getD, hk]
set_option maxHeartbeats 2000000 in
theorem passTextI (lo : Nat) (a : Option Addr) (cap : Nat) (l : List Int) (w : World) (hv : IntsAt w lo a l) (hW : WordsAt w) :
    Calls Tryd.prog 8 #[.slice a l.length cap] w fun e w' => e = .returned (.string (textOf l)) ∧ Below w.heap.size w w' := by
  have C := passesI lo a cap l w hv
  cases hok : okL l with
  | false =>
    have E : Hid (textOf l = ⟨#[]⟩) := by show _ = _; simp [textOf, hok]
    rw [hok] at C
    go_enter Tryd.func8, Tryd.ntmps8
    go_wp2_with (go_at_call 20; refine C.mono ?_; rintro e w8 ⟨rfl, h9⟩; have h8 := h9.symm; clear h9; subst h8)
    go_ret
    exact ⟨by rw [E.out]; rfl, Below.refl _ _⟩
  | true =>
    have E : Hid (textOf l = ⟨(Lib.join ((l.map word).map (·.data.toList)) [44]).toArray⟩) := by show _ = _; unfold textOf; rw [if_pos hok]
    have HOK : Hid (okL l = true) := hok
    have h12 : l.length ≤ 12 := by simp [okL] at hok; exact hok.1
    have HV : Hid (IntsAt w lo a l) := hv
    rw [hok] at C
    clear hok
    go_enter Tryd.func8, Tryd.ntmps8
    go_wp2_with (go_at_call 20; refine C.mono ?_; rintro e w8 ⟨rfl, h9⟩; have h8 := h9.symm; clear h9; subst h8)
    clear C
    go_loopw [3, 11] (fun st i wr => ∃ k : Nat, k ≤ l.length ∧ i = .int .i64 k ∧ Hid (RowS wr w.heap.size st ((l.take k).map word)) ∧ Hid (Below w.heap.size w wr)) (fun _ i _ => l.length - (intOf i).toNat)
    case atStart => exact ⟨0, by omega, rfl, World.ownsRow_nil _ _ _ _, Below.refl _ _⟩
    case round =>
      obtain ⟨k, hk, rfl, HO, HB⟩ := hrel
      obtain ⟨ta, tc, rfl⟩ := HO.out.slice
      have hz := HB.out.size
      have htl : ((l.take k).map word).length = k := by simp; omega
      by_cases hlt : k < l.length
      · rcases HV.out.2 with rfl | ⟨b, off, rfl, hlo, hb, hcell⟩
        · simp at hlt
        obtain ⟨n, hn, hn1, hn9⟩ := passB_nat (ok_at HOK.out hlt)
        have HT : Hid ((l.take (k + 1)).map word = (l.take k).map word ++ [wordL.getD n ⟨#[]⟩]) := by show _ = _; rw [take_word hlt, hn]; rfl
        have e0 : wr.cell? ⟨b, off + k, none⟩ = some (.int .i64 (n : Int)) := by rw [(cell_block (HB.out.block b hb)).trans (hcell k hlt), hn]
        have e1 : wr.cell? ⟨0, n, none⟩ = some (.string (wordL.getD n ⟨#[]⟩)) := (hW.keep HB.out).2 n (by omega)
        generalize wordL.getD n ⟨#[]⟩ = t at e1 HT
        clear hcell hn
        go_wp2_with (at_builtin; refine push_str rfl _ _ rfl w.heap.size (.slice ta ((l.take k).map word).length tc) ((l.take k).map word) rfl (HO.out.alloc _) t _ 1 rfl (by exact one_cell_at (by simp)) (by omega) (by simp; omega) ?_; intro v5 w5 ho5 hg5; have HO5 : Hid _ := ho5; have HB5 : Hid (Below w.heap.size w w5) := (HB.out.alloc hz _).grown hg5 (by simp; omega) (fun q hq => (HO.out.ge hq).1); clear ho5 hg5)
        go_roundw
        case rel => exact ⟨k + 1, by omega, by go_num, by rw [HT.out]; exact HO5.out, HB5.out⟩
        case measure => simp [intOf]; omega
      · have hke : k = l.length := by omega
        have HO2 : Hid (RowS wr w.heap.size (.slice ta ((l.take k).map word).length tc) (l.map word)) := by have h := HO.out; rw [hke, List.take_length] at h ⊢; exact h
        clear htl
        have HL : Hid (((l.take k).map word).length = (l.map word).length) := by show _ = _; rw [hke, List.take_length]
        rcases HO2.out.cells with ⟨hv0, hl0⟩ | ⟨g, c, hv0, hg, hcp, hcl⟩
        · have hl1 : l = [] := List.map_eq_nil_iff.1 hl0
          have J := Tryd.strings_Join_none ta tc ⟨#[44]⟩ wr
          have hz0 : ((l.take k).map word).length = 0 := by rw [hl1]; simp
          clear hv0 hl0
          rw [hz0]
          have HR : Hid (textOf l = ⟨#[]⟩) := by show _ = _; rw [E.out, hl1]; rfl
          have hk0 : ¬ k < l.length := hlt
          go_wp2_with (go_at_call 21; refine J.mono ?_; rintro e w8 ⟨rfl, h9⟩; have h8 := h9.symm; clear h9; subst h8)
          go_ret
          exact ⟨by rw [HR.out]; rfl, HB.out⟩
        · have J := Tryd.strings_Join g 0 c (l.map word) ⟨#[44]⟩ wr hcl hg (by simp; omega) hcp (texts_len l h12)
          have HB2 := HB.out
          clear hcl
          rw [hv0]
          generalize hN : (l.map word).length = N at J
          rw [show (⟨#[44]⟩ : ByteArray).data.toList = [44] from rfl, ← E.out] at J
          clear E
          generalize hTT : textOf l = T at J
          have HTT : Hid (textOf l = T) := hTT
          clear hTT
          go_wp2_with (go_at_call 21; refine J.mono ?_; rintro e w9 ⟨rfl, hb9⟩; have HB9 : Hid (Below w.heap.size w w9) := HB.out.trans (hb9.mono hz); clear hb9)
          go_ret
          exact ⟨by rw [HTT.out]; rfl, HB9.out⟩
end Go.Proofs.YtjbmlebaaehjjaaDoor
