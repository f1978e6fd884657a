/- Lists of passes: the model's l1Cut and PassesOf. -/
import Derived.Test.YtjbmlebaaehjjaaDoorPas5
import Derived.RegionTactic
namespace Go.Proofs.YtjbmlebaaehjjaaDoor
open Go.RowKit
set_option linter.unusedVariables false

theorem byte_at {s : ByteArray} {k : Nat} (h : k < s.size) : s.data.toList[k]? = some (s[k]'h) := by
  rw [Array.getElem?_toList]
  exact Array.getElem?_eq_getElem h
theorem byte_ne {s : ByteArray} {k : Nat} (h : k < s.size) (hn : s.data.toList[k]? ≠ some 44) : ¬ (((s[k]'h).toNat : Nat) : Int) = 44 := fun e => by
  apply hn
  rw [byte_at h]
  congr 1
  apply UInt8.toNat_inj.1
  have : (s[k]'h).toNat = 44 := by omega
  rw [this]; rfl
theorem byte_eq {s : ByteArray} {k : Nat} (h : k < s.size) (hn : s.data.toList[k]? = some 44) : (((s[k]'h).toNat : Nat) : Int) = 44 := by
  rw [byte_at h] at hn
  rw [Option.some.inj hn]
  rfl
set_option maxHeartbeats 1000000 in
theorem cutS_no (s : ByteArray) (w : World) (hs : s.size ≤ 1048576) (h : Lib.indexB s comma = -1) :
    Calls Tryd.prog 28 #[.string s, .int .u8 44] w fun e w' => e = .returned (.tuple #[.string s, .string ⟨#[]⟩, .bool false]) ∧ Below w.heap.size w w' := by
  have HN : Hid (∀ k : Nat, s.data.toList[k]? ≠ some 44) := Lib.indexByte_none ((Lib.index_one _ 44).symm.trans h)
  clear h
  go_enter Tryd.func28, Tryd.ntmps28
  go_wp2_with fail
  go_loopw [7] (fun i wr => ∃ k : Nat, k ≤ s.size ∧ i = .int .i64 k ∧ Below w.heap.size w wr) (fun i _ => s.size - (intOf i).toNat)
  case atStart => exact ⟨0, by omega, rfl, Below.refl _ _⟩
  case round =>
    obtain ⟨k, hk, rfl, hB⟩ := hrel
    by_cases hlt : k < s.size
    · have hne := byte_ne hlt (HN.out k)
      have hne2 : ((((s[k]'hlt).toNat : Nat) : Int) == 44) = false := by simpa using hne
      go_wp2_with fail
      go_roundw
      case rel => exact ⟨k + 1, by omega, by go_num, hB⟩
      case measure => simp [intOf]; omega
    · go_wp2_with fail
      refine bodyPost_ret (v := .tuple #[.string s, .string ⟨#[]⟩, .bool false]) (by simp [results, Tryd.results28]) rfl ⟨rfl, hB⟩
set_option maxHeartbeats 1000000 in
theorem cutS_yes (s : ByteArray) (i : Nat) (w : World) (hs : s.size ≤ 1048576) (h : Lib.indexB s comma = i) :
    Calls Tryd.prog 28 #[.string s, .int .u8 44] w fun e w' => e = .returned (.tuple #[.string (s.extract 0 i), .string (s.extract (i + 1) s.size), .bool true]) ∧ Below w.heap.size w w' := by
  obtain ⟨hat, hno⟩ := Lib.indexByte_some ((Lib.index_one _ 44).symm.trans h)
  have hil : i < s.size := by
    have := (List.getElem?_eq_some_iff.1 hat).1
    simpa using this
  have HN : Hid (∀ k : Nat, k < i → s.data.toList[k]? ≠ some 44) := hno
  have HA : Hid (s.data.toList[i]? = some 44) := hat
  clear h hat hno
  go_enter Tryd.func28, Tryd.ntmps28
  go_wp2_with fail
  go_loopw [7] (fun z wr => ∃ k : Nat, k ≤ i ∧ z = .int .i64 k ∧ Below w.heap.size w wr) (fun z _ => s.size - (intOf z).toNat)
  case atStart => exact ⟨0, by omega, rfl, Below.refl _ _⟩
  case round =>
    obtain ⟨k, hk, rfl, hB⟩ := hrel
    have hlt : k < s.size := by omega
    by_cases hki : k < i
    · have hne := byte_ne hlt (HN.out k hki)
      have hne2 : ((((s[k]'hlt).toNat : Nat) : Int) == 44) = false := by simpa using hne
      go_wp2_with fail
      go_roundw
      case rel => exact ⟨k + 1, by omega, by go_num, hB⟩
      case measure => simp [intOf]; omega
    · have hke : k = i := by omega
      subst hke
      have heq := byte_eq hlt HA.out
      go_wp2_with fail
      go_region
      all_goals
        go_wp2_with fail
        exact bodyPost_ret (v := .tuple #[.string (s.extract 0 k), .string (s.extract (k + 1) s.size), .bool true]) (by simp [results, Tryd.results28]) rfl ⟨rfl, hB.drew⟩
theorem lastN_range (b : ByteArray) : ∀ k, 0 ≤ lastN b k ∧ lastN b k ≤ k
  | 0 => ⟨Int.le_refl 0, Int.le_refl 0⟩
  | k + 1 => by
    have h := lastN_range b k
    rw [lastN]
    split <;> omega
theorem pass_nz {b : ByteArray} (h : passNum b ≠ 0) : passB (passNum b) = true := by
  have h9 := lastN_range b 9
  rw [last_num] at h9
  simp [passB]
  omega
theorem pass_z {b : ByteArray} (h : passNum b = 0) : passB (passNum b) = false := by rw [h]; rfl
def lenV : Value → Nat
  | .slice _ n _ => n
  | _ => 0
theorem passesD_bad {s : ByteArray} {don r : List ByteArray} {b : ByteArray} (h0 : ¬ s = ⟨#[]⟩) (h : pieces s = don ++ b :: r) (hb : passNum b = 0) : passesD s = none := by
  unfold passesD
  rw [if_neg h0, if_neg]
  rw [h]
  simp [okL, pass_z hb]
theorem passesD_long {s : ByteArray} {don r : List ByteArray} (h0 : ¬ s = ⟨#[]⟩) (h : pieces s = don ++ r) (hl : 12 < don.length) : passesD s = none := by
  unfold passesD
  rw [if_neg h0, if_neg]
  rw [h]
  simp [okL]
  omega
theorem passesD_good {s : ByteArray} {don : List ByteArray} (h0 : ¬ s = ⟨#[]⟩) (h : pieces s = don) (hl : don.length ≤ 12) (ha : ∀ x ∈ don, passNum x ≠ 0) : passesD s = some (don.map passNum) := by
  unfold passesD
  rw [if_neg h0, h, if_pos]
  simp [okL, hl]
  exact fun x hx => pass_nz (ha x hx)
/-- The words of the model, in a block of their own. -/
structure WAt (G : Nat) (w : World) : Prop where
  lt : G < w.heap.size
  at_ : ∀ j, j < 10 → w.cell? ⟨G, j, none⟩ = some (.string (wd j))
theorem WAt.grown {G : Nat} {w w' : World} {row : Option Nat} (h : WAt G w) (hg : w.grownBy w' row) (hr : row ≠ some G) : WAt G w' :=
  ⟨Nat.lt_of_lt_of_le h.lt hg.size, fun j hj => (cell_block (hg.block _ h.lt fun e => hr e.symm)).trans (h.at_ j hj)⟩
theorem WAt.alloc {G : Nat} {w : World} (h : WAt G w) (o : Obj) : WAt G (w.alloc o) :=
  ⟨by have := h.lt; simp; omega, fun j hj => (cell_block (Below.heap_alloc w o G h.lt)).trans (h.at_ j hj)⟩
theorem all_snoc {don : List ByteArray} {one : ByteArray} (h : ∀ x ∈ don, passNum x ≠ 0) (k : ¬ passNum one = 0) : ∀ x ∈ don ++ [one], passNum x ≠ 0 := fun x hx => by
  rcases List.mem_append.1 hx with h2 | h2
  · exact h x h2
  · rw [List.mem_singleton.1 h2]; exact k
theorem nb_next {a : Option Nat} {g H G : Nat} (nb : a ≠ some G) (h : a = some g ∨ g = H) (hG : G < H) : some g ≠ some G := by
  rcases h with h | h
  · rw [← h]; exact nb
  · intro e; have := Option.some.inj e; omega
theorem WAt.keep {G : Nat} {w w' : World} (h : WAt G w) (k : Below (G + 1) w w') (hz : G + 1 ≤ w.heap.size) : WAt G w' :=
  ⟨Nat.lt_of_lt_of_le h.lt k.size, fun j hj => (cell_block (k.block _ (by omega))).trans (h.at_ j hj)⟩
set_option maxHeartbeats 4000000 in
theorem passesOfS (s : ByteArray) (w : World) (hs : s.size ≤ 1048576) :
    Calls Tryd.prog 13 #[.string s] w fun e w' => PassesTold w' w.heap.size (passesD s) e ∧ Below w.heap.size w w' := by
  have R0 : Hid (Row (w.alloc (.cells #[] 2)) w.heap.size (.slice (some ⟨w.heap.size, 0, none⟩) 0 0) []) := Row.lit w _ (Nat.le_refl _)
  have B0 : Hid (Below w.heap.size w (w.alloc (.cells #[] 2))) := (Below.refl _ _).alloc (Nat.le_refl _) _
  have z0 : (w.alloc (.cells #[] 2)).heap.size = w.heap.size + 1 := by simp
  have C0 := wordsS_at (w.alloc (.cells #[] 2)) (w.heap.size + 1) z0
  by_cases h0 : s = ⟨#[]⟩
  · have E : Hid (passesD s = some []) := by show _ = _; simp [passesD, h0]
    subst h0
    go_enter Tryd.func13, Tryd.ntmps13
    go_wp2_with (go_at_call 25; refine C0.mono ?_; rintro e w1 ⟨rfl, hc1, hz1, hb1⟩; have R1 : Hid (Row w1 w.heap.size (.slice (some ⟨w.heap.size, 0, none⟩) 0 0) []) := R0.out.keep hb1; have B1 : Hid (Below w.heap.size w w1) := B0.out.trans (hb1.mono B0.out.size); clear hc1 hb1)
    go_loopw [4, 5, 7] (fun st rs mr wr => st = .slice (some ⟨w.heap.size, 0, none⟩) 0 0 ∧ mr = .bool false ∧ wr = w1) (fun _ _ _ _ => 0)
    case atStart => exact ⟨rfl, rfl, rfl⟩
    case round =>
      obtain ⟨rfl, rfl, rfl⟩ := hrel
      go_wp2_with fail
      go_ret2
      rw [E.out]
      exact ⟨⟨_, rfl, R1.out⟩, B1.out⟩
  · have H0 : Hid (¬ s = ⟨#[]⟩) := h0
    have h0' := str_some h0
    clear h0
    go_enter Tryd.func13, Tryd.ntmps13
    go_wp2_with (go_at_call 25; refine C0.mono ?_; rintro e w1 ⟨rfl, hc1, hz1, hb1⟩; have R1 : Hid (Row w1 w.heap.size (.slice (some ⟨w.heap.size, 0, none⟩) 0 0) []) := R0.out.keep hb1; have B1 : Hid (Below w.heap.size w w1) := B0.out.trans (hb1.mono B0.out.size); have W1 : Hid (WAt (w.heap.size + 1) w1) := ⟨by omega, hc1⟩; clear hc1 hb1)
    go_loopw [4, 5, 7] (fun st rs mr wr => ∃ (don : List ByteArray) (rest : ByteArray) (more : Bool), Hid (Row wr w.heap.size st (don.map passNum)) ∧ rs = .string rest ∧ mr = .bool more ∧ don.length ≤ 13 ∧ rest.size ≤ 1048576 ∧ Hid (∀ x ∈ don, passNum x ≠ 0) ∧ Hid (pieces s = don ++ (if more = true then pieces rest else [])) ∧ Hid (WAt (w.heap.size + 1) wr) ∧ Hid (st.ownBlock ≠ some (w.heap.size + 1)) ∧ Hid (Below w.heap.size w wr)) (fun st _ _ _ => 14 - lenV st)
    case atStart => exact ⟨[], s, true, R1.out, rfl, rfl, by simp, hs, fun x hx => by simp at hx, rfl, W1.out, (by show some w.heap.size ≠ some (w.heap.size + 1); simp), B1.out⟩
    case round =>
      obtain ⟨don, rest, more, HO, rfl, rfl, hdl, hrs, HA, HP, W2, NB, B2⟩ := hrel
      obtain ⟨ta, tc, rfl⟩ := HO.out.slice
      clear R0 B0 R1 B1 W1 C0
      have HL1 : Hid ((don.map passNum).length = don.length) := by show _ = _; simp
      have hsz := B2.out.size
      have hg2 := W2.out.lt
      have HLL : Hid (∃ L, don.map passNum = L) := ⟨_, rfl⟩
      obtain ⟨L, hL⟩ := HLL.out
      have HLE : Hid (don.map passNum = L) := hL
      rw [hL] at HO HL1 NB ⊢
      clear hL HLL
      cases more with
      | true =>
        by_cases h12 : don.length ≤ 12
        · have hL12 : L.length ≤ 12 := by have := HL1.out; omega
          obtain ⟨one, rest2, more2, C, hp2, hr2⟩ : ∃ (one rest2 : ByteArray) (more2 : Bool), (Calls Tryd.prog 28 #[.string rest, .int .u8 44] wr fun e w' => e = .returned (.tuple #[.string one, .string rest2, .bool more2]) ∧ Below wr.heap.size wr w') ∧ Hid (pieces rest = one :: (if more2 = true then pieces rest2 else [])) ∧ rest2.size ≤ 1048576 := by
            rcases Lib.indexB_cases rest comma with hi | ⟨i, hi, _⟩
            · exact ⟨rest, ⟨#[]⟩, false, cutS_no rest wr hrs hi, pieces_miss hi, by show 0 ≤ _; omega⟩
            · refine ⟨_, _, true, cutS_yes rest i wr hrs hi, pieces_hit hi, ?_⟩
              rw [ByteArray.size_extract]
              omega
          have HP2 : Hid (pieces s = don ++ one :: (if more2 = true then pieces rest2 else [])) := by have h := HP.out; rw [if_pos rfl, hp2.out] at h; exact h
          clear HP hp2
          go_wp2_with (go_at_call 28; refine C.mono ?_; rintro e w3 ⟨rfl, hb3⟩; have O3 : Hid (Row w3 w.heap.size (.slice ta L.length tc) L) := HO.out.keep hb3; have B3 : Hid (Below w.heap.size w w3) := B2.out.trans (hb3.mono hsz); have W3 : Hid (WAt (w.heap.size + 1) w3) := W2.out.keep (hb3.mono (by omega)) (by omega); have hz3 := hb3.size; clear hb3)
          clear C
          go_loopw [9, 10] (fun n i wq => ∃ k : Nat, k ≤ 9 ∧ i = .int .i64 ((k + 1 : Nat) : Int) ∧ n = .int .i64 (lastN one k) ∧ wq = w3) (fun _ i _ => 10 - (intOf i).toNat)
          case atStart => exact ⟨0, by omega, rfl, rfl, rfl⟩
          case round =>
            obtain ⟨k, hk, rfl, rfl, rfl⟩ := hrel
            by_cases hk9 : k < 9
            · have e1 : wr.cell? ⟨w.heap.size + 1, k + 1, none⟩ = some (.string (wd (k + 1))) := W3.out.at_ (k + 1) (by omega)
              have hk1 : ((k + 1 : Nat) : Int) < 10 := by omega
              by_cases hx : wd (k + 1) = one
              · have HE : Hid (lastN one (k + 1) = ((k + 1 : Nat) : Int)) := by show _ = _; rw [lastN, if_pos hx]
                go_wp2_with fail
                go_roundw
                case rel => exact ⟨k + 1, by omega, by go_num, by rw [HE.out], trivial⟩
                case measure => simp [intOf]; omega
              · have HE : Hid (lastN one (k + 1) = lastN one k) := by show _ = _; rw [lastN, if_neg hx]
                have hx2 := str_ne hx
                go_wp2_with fail
                go_roundw
                case rel => exact ⟨k + 1, by omega, by go_num, by rw [HE.out], trivial⟩
                case measure => simp [intOf]; omega
            · have hk10 : k = 9 := by omega
              subst hk10
              rw [last_num]
              by_cases hz : passNum one = 0
              · have E2 : Hid (passesD s = none) := passesD_bad H0.out HP2.out hz
                go_wp2_with fail
                go_ret2
                rw [E2.out]
                exact ⟨rfl, B3.out⟩
              · have HZ : Hid (¬ passNum one = 0) := hz
                have hz2 : (passNum one == 0) = false := by simpa using hz
                generalize hn : passNum one = n at hz hz2 ⊢
                have HN : Hid (passNum one = n) := hn
                clear hn
                go_wp2_with (at_builtin; refine push_at rfl _ _ rfl w.heap.size (.slice ta L.length tc) L rfl (O3.out.alloc _) n _ 1 rfl (by exact one_cell_at (by simp)) (by omega) (by simp; omega) _ rfl ?_; intro g5 c5 w5 ho5 hg5 hat5 hlt5; have HO5 : Hid _ := ho5; have HB5 : Hid (Below w.heap.size w w5) := (B3.out.alloc B3.out.size _).grown hg5 (by simp; omega) (fun q hq => (O3.out.ge hq).1); have HW5 : Hid (WAt (w.heap.size + 1) w5) := (W3.out.alloc _).grown hg5 NB.out; have HN5 : Hid (some g5 ≠ some (w.heap.size + 1)) := nb_next NB.out hat5 (by simp; omega); clear ho5 hg5 hat5)
                go_roundw
                case rel => exact ⟨don ++ [one], rest2, more2, by rw [List.map_append, HLE.out]; show Row _ _ _ (L ++ [passNum one]); rw [HN.out]; exact HO5.out, rfl, rfl, by simp; omega, hr2, all_snoc HA.out HZ.out, by rw [List.append_assoc]; exact HP2.out, HW5.out, HN5.out, HB5.out⟩
                case measure => simp [lenV]; omega
        · have hL12 : 12 < L.length := by have := HL1.out; omega
          have hL13 : L.length ≤ 13 := by have := HL1.out; omega
          have E2 : Hid (passesD s = none) := passesD_long H0.out HP.out (by omega)
          go_wp2_with fail
          go_ret2
          rw [E2.out]
          exact ⟨rfl, B2.out⟩
      | false =>
        by_cases h12 : don.length ≤ 12
        · have hL12 : L.length ≤ 12 := by have := HL1.out; omega
          have E2 : Hid (passesD s = some L) := by show _ = _; rw [← HLE.out]; exact passesD_good H0.out (by have h := HP.out; simpa using h) h12 HA.out
          go_wp2_with fail
          go_ret2
          rw [E2.out]
          exact ⟨⟨_, rfl, HO.out⟩, B2.out⟩
        · have hL12 : 12 < L.length := by have := HL1.out; omega
          have hL13 : L.length ≤ 13 := by have := HL1.out; omega
          have E2 : Hid (passesD s = none) := passesD_long H0.out HP.out (by omega)
          go_wp2_with fail
          go_ret2
          rw [E2.out]
          exact ⟨rfl, B2.out⟩
end Go.Proofs.YtjbmlebaaehjjaaDoor
