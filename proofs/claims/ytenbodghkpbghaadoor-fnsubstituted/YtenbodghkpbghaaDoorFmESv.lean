import Derived.Test.YtenbodghkpbghaaDoorFmCSv
namespace Go.Proofs.YtenbodghkpbghaaDoor
open Go.RowKit
set_option linter.unusedVariables false
theorem width0 : widthB 0 = false := by decide
theorem width8 : widthB 8 = true := by decide
theorem cells7 {w w' : World} {o0 o1 o2 o3 o4 o5 o6 : Value} {T : TypeId} (h : Below (w.alloc (.cells #[o0, o1, o2, o3, o4, o5, o6] T)).heap.size (w.alloc (.cells #[o0, o1, o2, o3, o4, o5, o6] T)) w') :
  w'.cell? ⟨w.heap.size, 0, none⟩ = some o0 ∧ w'.cell? ⟨w.heap.size, 1, none⟩ = some o1 ∧ w'.cell? ⟨w.heap.size, 2, none⟩ = some o2 ∧ w'.cell? ⟨w.heap.size, 3, none⟩ = some o3 ∧ w'.cell? ⟨w.heap.size, 4, none⟩ = some o4 ∧ w'.cell? ⟨w.heap.size, 5, none⟩ = some o5 ∧ w'.cell? ⟨w.heap.size, 6, none⟩ = some o6 ∧ Below w.heap.size w w' := by
 have hb := (h.block w.heap.size (by simp)).trans (heap_alloc_last _ _)
 exact ⟨(cell_of_heap hb).trans rfl, (cell_of_heap hb).trans rfl, (cell_of_heap hb).trans rfl, (cell_of_heap hb).trans rfl, (cell_of_heap hb).trans rfl, (cell_of_heap hb).trans rfl, (cell_of_heap hb).trans rfl, ((Below.refl _ _).alloc (Nat.le_refl _) _).trans (h.mono (by simp))⟩
set_option maxHeartbeats 2000000 in
set_option maxRecDepth 100000 in
theorem instShS_18 (iw a b c imm : Int) (u : Option Addr) (q : Nat) (ids funcs : Int) (w : World) (g0 : 0 ≤ ids) (g1 : ids ≤ 4611686018427387904) (g2 : 0 ≤ funcs) (g3 : funcs ≤ 4611686018427387904) :
  Calls Tryd.prog 49 #[.agg #[.int .i64 18, .int .i64 iw, .int .i64 a, .int .i64 b, .int .i64 c, .int .i64 imm, .slice u 0 q], .int .i64 ids, .int .i64 funcs] w fun e w' => e = .returned (.bool (instB ⟨18, iw, a, b, c, imm, []⟩ ids funcs)) ∧ Below w.heap.size w w' := by
 generalize hV : instB ⟨18, iw, a, b, c, imm, []⟩ ids funcs = V
 have E : opsD ⟨18, iw, a, b, c, imm, []⟩ = [a] := rfl
 have HI : Hid (([a]).all (fun n => belowB n ids) = true → V = (widthB iw && imm == 0 && b == 0 && c == 0)) := fun hall => by
  rw [← hV]
  unfold instB wB iB fB
  rw [E, hall]
  first | (simp; done) | (simp; ac_rfl)
 have HJ : Hid (([a]).all (fun n => belowB n ids) = false → V = false) := fun hall => by
  rw [← hV]
  unfold instB
  rw [E, hall]
  simp
 have O := fun w => operS 0 ⟨18, iw, a, b, c, imm, []⟩ u q w (by simp) ⟨by simp, .inl rfl⟩
 rw [E] at O
 dsimp only [List.length_nil, List.length_cons] at O
 clear E hV
 go_enter Tryd.func49, Tryd.ntmps49
 go_wp2_with fail
 refine (inS _ _ _ _).mono ?_
 rintro e w' ⟨rfl, rfl⟩
 go_wp2_with fail
 refine (O _).mono ?_
 rintro e w1 ⟨v, r, rfl, ho, hb1⟩
 obtain ⟨x0, x1, x2, x3, x4, x5, x6, hB⟩ := cells7 hb1
 have HO := ho.ints
 clear ho hb1 O
 go_wp2_with fail
 go_loop [8] (fun i => ∃ k : Nat, k ≤ 1 ∧ i = .int .i64 k ∧ Hid (∀ j, j < k → belowB (([a]).getD j 0) ids = true)) (fun i => 1 - (intOf i).toNat)
 case atStart => exact ⟨0, by omega, rfl, fun j hj => by omega⟩
 case round =>
  obtain ⟨k, hk9, rfl, HD⟩ := hrel
  by_cases hlt : k < 1
  ·rcases HO.2 with hn | ⟨bb, off, rfl, hlo, hb, hcell⟩
   ·cases hn
   have e0 := hcell k (by simpa using hlt)
   generalize hx : ([a]).getD k 0 = x at e0
   have HX : Hid (([a]).getD k 0 = x) := hx
   clear hcell hx HO
   cases hp : belowB x ids with
   | true =>
    have HP : Hid (belowB x ids = true) := hp
    go_wp2_with (go_at_call 30; refine (inB _ _ _).mono ?_; rintro e w' ⟨rfl, rfl⟩)
    exact ⟨⟨k + 1, by omega, by go_num, fun j hj => by
     by_cases e : j = k
     ·subst e; rw [HX.out]; exact HP.out
     ·exact HD.out j (by omega)⟩, by simp only [intOf]; omega⟩
   | false =>
    have HP : Hid (belowB x ids = false) := hp
    go_wp2_with (go_at_call 30; refine (inB _ _ _).mono ?_; rintro e w' ⟨rfl, rfl⟩)
    go_ret
    refine ⟨ret_bool ?_, hB⟩
    rw [HJ.out (all_no 0 ([a]) k (by simpa using hlt) (by rw [HX.out, HP.out]; decide))]
  ·have hall := all_yes 0 (f := fun n => belowB n ids) ([a]) (fun j hj => HD.out j (by first | omega | (simp at hj; done) | (simp at hj; omega)))
   have HK : Hid (V = (widthB iw && imm == 0 && b == 0 && c == 0)) := HI.out hall
   clear hall HI HJ HD HO
   go_wp2_with (first | (go_at_call 48; refine (widthS _ _).mono ?_; rintro e w' ⟨rfl, rfl⟩) | (go_at_call 78; refine (valueS _ _ _).mono ?_; rintro e w' ⟨rfl, rfl⟩) | (go_at_call 30; refine (inB _ _ _).mono ?_; rintro e w' ⟨rfl, rfl⟩))
   all_goals
    go_ret
    refine ⟨ret_bool ?_, hB⟩
    have hk := HK.out
    have hw0 := width0
    have hw8 := width8
    clear HK
    first | (simp_all; done) | (simp_all; omega) | (by_cases h8 : iw = 8 <;> by_cases h0 : iw = 0 <;> simp_all; done)
set_option maxHeartbeats 2000000 in
set_option maxRecDepth 100000 in
theorem instShS_19 (iw a b c imm : Int) (u : Option Addr) (q : Nat) (ids funcs : Int) (w : World) (g0 : 0 ≤ ids) (g1 : ids ≤ 4611686018427387904) (g2 : 0 ≤ funcs) (g3 : funcs ≤ 4611686018427387904) :
  Calls Tryd.prog 49 #[.agg #[.int .i64 19, .int .i64 iw, .int .i64 a, .int .i64 b, .int .i64 c, .int .i64 imm, .slice u 0 q], .int .i64 ids, .int .i64 funcs] w fun e w' => e = .returned (.bool (instB ⟨19, iw, a, b, c, imm, []⟩ ids funcs)) ∧ Below w.heap.size w w' := by
 generalize hV : instB ⟨19, iw, a, b, c, imm, []⟩ ids funcs = V
 have E : opsD ⟨19, iw, a, b, c, imm, []⟩ = [a] := rfl
 have HI : Hid (([a]).all (fun n => belowB n ids) = true → V = (widthB iw && imm == 0 && b == 0 && c == 0)) := fun hall => by
  rw [← hV]
  unfold instB wB iB fB
  rw [E, hall]
  first | (simp; done) | (simp; ac_rfl)
 have HJ : Hid (([a]).all (fun n => belowB n ids) = false → V = false) := fun hall => by
  rw [← hV]
  unfold instB
  rw [E, hall]
  simp
 have O := fun w => operS 0 ⟨19, iw, a, b, c, imm, []⟩ u q w (by simp) ⟨by simp, .inl rfl⟩
 rw [E] at O
 dsimp only [List.length_nil, List.length_cons] at O
 clear E hV
 go_enter Tryd.func49, Tryd.ntmps49
 go_wp2_with fail
 refine (inS _ _ _ _).mono ?_
 rintro e w' ⟨rfl, rfl⟩
 go_wp2_with fail
 refine (O _).mono ?_
 rintro e w1 ⟨v, r, rfl, ho, hb1⟩
 obtain ⟨x0, x1, x2, x3, x4, x5, x6, hB⟩ := cells7 hb1
 have HO := ho.ints
 clear ho hb1 O
 go_wp2_with fail
 go_loop [8] (fun i => ∃ k : Nat, k ≤ 1 ∧ i = .int .i64 k ∧ Hid (∀ j, j < k → belowB (([a]).getD j 0) ids = true)) (fun i => 1 - (intOf i).toNat)
 case atStart => exact ⟨0, by omega, rfl, fun j hj => by omega⟩
 case round =>
  obtain ⟨k, hk9, rfl, HD⟩ := hrel
  by_cases hlt : k < 1
  ·rcases HO.2 with hn | ⟨bb, off, rfl, hlo, hb, hcell⟩
   ·cases hn
   have e0 := hcell k (by simpa using hlt)
   generalize hx : ([a]).getD k 0 = x at e0
   have HX : Hid (([a]).getD k 0 = x) := hx
   clear hcell hx HO
   cases hp : belowB x ids with
   | true =>
    have HP : Hid (belowB x ids = true) := hp
    go_wp2_with (go_at_call 30; refine (inB _ _ _).mono ?_; rintro e w' ⟨rfl, rfl⟩)
    exact ⟨⟨k + 1, by omega, by go_num, fun j hj => by
     by_cases e : j = k
     ·subst e; rw [HX.out]; exact HP.out
     ·exact HD.out j (by omega)⟩, by simp only [intOf]; omega⟩
   | false =>
    have HP : Hid (belowB x ids = false) := hp
    go_wp2_with (go_at_call 30; refine (inB _ _ _).mono ?_; rintro e w' ⟨rfl, rfl⟩)
    go_ret
    refine ⟨ret_bool ?_, hB⟩
    rw [HJ.out (all_no 0 ([a]) k (by simpa using hlt) (by rw [HX.out, HP.out]; decide))]
  ·have hall := all_yes 0 (f := fun n => belowB n ids) ([a]) (fun j hj => HD.out j (by first | omega | (simp at hj; done) | (simp at hj; omega)))
   have HK : Hid (V = (widthB iw && imm == 0 && b == 0 && c == 0)) := HI.out hall
   clear hall HI HJ HD HO
   go_wp2_with (first | (go_at_call 48; refine (widthS _ _).mono ?_; rintro e w' ⟨rfl, rfl⟩) | (go_at_call 78; refine (valueS _ _ _).mono ?_; rintro e w' ⟨rfl, rfl⟩) | (go_at_call 30; refine (inB _ _ _).mono ?_; rintro e w' ⟨rfl, rfl⟩))
   all_goals
    go_ret
    refine ⟨ret_bool ?_, hB⟩
    have hk := HK.out
    have hw0 := width0
    have hw8 := width8
    clear HK
    first | (simp_all; done) | (simp_all; omega) | (by_cases h8 : iw = 8 <;> by_cases h0 : iw = 0 <;> simp_all; done)
set_option maxHeartbeats 2000000 in
set_option maxRecDepth 100000 in
theorem instShS_20 (iw a b c imm : Int) (u : Option Addr) (q : Nat) (ids funcs : Int) (w : World) (g0 : 0 ≤ ids) (g1 : ids ≤ 4611686018427387904) (g2 : 0 ≤ funcs) (g3 : funcs ≤ 4611686018427387904) :
  Calls Tryd.prog 49 #[.agg #[.int .i64 20, .int .i64 iw, .int .i64 a, .int .i64 b, .int .i64 c, .int .i64 imm, .slice u 0 q], .int .i64 ids, .int .i64 funcs] w fun e w' => e = .returned (.bool (instB ⟨20, iw, a, b, c, imm, []⟩ ids funcs)) ∧ Below w.heap.size w w' := by
 generalize hV : instB ⟨20, iw, a, b, c, imm, []⟩ ids funcs = V
 have E : opsD ⟨20, iw, a, b, c, imm, []⟩ = [a] := rfl
 have HI : Hid (([a]).all (fun n => belowB n ids) = true → V = (widthB iw && imm == 0 && b == 0 && c == 0)) := fun hall => by
  rw [← hV]
  unfold instB wB iB fB
  rw [E, hall]
  first | (simp; done) | (simp; ac_rfl)
 have HJ : Hid (([a]).all (fun n => belowB n ids) = false → V = false) := fun hall => by
  rw [← hV]
  unfold instB
  rw [E, hall]
  simp
 have O := fun w => operS 0 ⟨20, iw, a, b, c, imm, []⟩ u q w (by simp) ⟨by simp, .inl rfl⟩
 rw [E] at O
 dsimp only [List.length_nil, List.length_cons] at O
 clear E hV
 go_enter Tryd.func49, Tryd.ntmps49
 go_wp2_with fail
 refine (inS _ _ _ _).mono ?_
 rintro e w' ⟨rfl, rfl⟩
 go_wp2_with fail
 refine (O _).mono ?_
 rintro e w1 ⟨v, r, rfl, ho, hb1⟩
 obtain ⟨x0, x1, x2, x3, x4, x5, x6, hB⟩ := cells7 hb1
 have HO := ho.ints
 clear ho hb1 O
 go_wp2_with fail
 go_loop [8] (fun i => ∃ k : Nat, k ≤ 1 ∧ i = .int .i64 k ∧ Hid (∀ j, j < k → belowB (([a]).getD j 0) ids = true)) (fun i => 1 - (intOf i).toNat)
 case atStart => exact ⟨0, by omega, rfl, fun j hj => by omega⟩
 case round =>
  obtain ⟨k, hk9, rfl, HD⟩ := hrel
  by_cases hlt : k < 1
  ·rcases HO.2 with hn | ⟨bb, off, rfl, hlo, hb, hcell⟩
   ·cases hn
   have e0 := hcell k (by simpa using hlt)
   generalize hx : ([a]).getD k 0 = x at e0
   have HX : Hid (([a]).getD k 0 = x) := hx
   clear hcell hx HO
   cases hp : belowB x ids with
   | true =>
    have HP : Hid (belowB x ids = true) := hp
    go_wp2_with (go_at_call 30; refine (inB _ _ _).mono ?_; rintro e w' ⟨rfl, rfl⟩)
    exact ⟨⟨k + 1, by omega, by go_num, fun j hj => by
     by_cases e : j = k
     ·subst e; rw [HX.out]; exact HP.out
     ·exact HD.out j (by omega)⟩, by simp only [intOf]; omega⟩
   | false =>
    have HP : Hid (belowB x ids = false) := hp
    go_wp2_with (go_at_call 30; refine (inB _ _ _).mono ?_; rintro e w' ⟨rfl, rfl⟩)
    go_ret
    refine ⟨ret_bool ?_, hB⟩
    rw [HJ.out (all_no 0 ([a]) k (by simpa using hlt) (by rw [HX.out, HP.out]; decide))]
  ·have hall := all_yes 0 (f := fun n => belowB n ids) ([a]) (fun j hj => HD.out j (by first | omega | (simp at hj; done) | (simp at hj; omega)))
   have HK : Hid (V = (widthB iw && imm == 0 && b == 0 && c == 0)) := HI.out hall
   clear hall HI HJ HD HO
   go_wp2_with (first | (go_at_call 48; refine (widthS _ _).mono ?_; rintro e w' ⟨rfl, rfl⟩) | (go_at_call 78; refine (valueS _ _ _).mono ?_; rintro e w' ⟨rfl, rfl⟩) | (go_at_call 30; refine (inB _ _ _).mono ?_; rintro e w' ⟨rfl, rfl⟩))
   all_goals
    go_ret
    refine ⟨ret_bool ?_, hB⟩
    have hk := HK.out
    have hw0 := width0
    have hw8 := width8
    clear HK
    first | (simp_all; done) | (simp_all; omega) | (by_cases h8 : iw = 8 <;> by_cases h0 : iw = 0 <;> simp_all; done)
set_option maxHeartbeats 2000000 in
set_option maxRecDepth 100000 in
theorem instShS_27 (iw a b c imm : Int) (u : Option Addr) (q : Nat) (ids funcs : Int) (w : World) (g0 : 0 ≤ ids) (g1 : ids ≤ 4611686018427387904) (g2 : 0 ≤ funcs) (g3 : funcs ≤ 4611686018427387904) :
  Calls Tryd.prog 49 #[.agg #[.int .i64 27, .int .i64 iw, .int .i64 a, .int .i64 b, .int .i64 c, .int .i64 imm, .slice u 0 q], .int .i64 ids, .int .i64 funcs] w fun e w' => e = .returned (.bool (instB ⟨27, iw, a, b, c, imm, []⟩ ids funcs)) ∧ Below w.heap.size w w' := by
 generalize hV : instB ⟨27, iw, a, b, c, imm, []⟩ ids funcs = V
 have E : opsD ⟨27, iw, a, b, c, imm, []⟩ = [a] := rfl
 have HI : Hid (([a]).all (fun n => belowB n ids) = true → V = (widthB iw && imm == 0 && b == 0 && c == 0)) := fun hall => by
  rw [← hV]
  unfold instB wB iB fB
  rw [E, hall]
  first | (simp; done) | (simp; ac_rfl)
 have HJ : Hid (([a]).all (fun n => belowB n ids) = false → V = false) := fun hall => by
  rw [← hV]
  unfold instB
  rw [E, hall]
  simp
 have O := fun w => operS 0 ⟨27, iw, a, b, c, imm, []⟩ u q w (by simp) ⟨by simp, .inl rfl⟩
 rw [E] at O
 dsimp only [List.length_nil, List.length_cons] at O
 clear E hV
 go_enter Tryd.func49, Tryd.ntmps49
 go_wp2_with fail
 refine (inS _ _ _ _).mono ?_
 rintro e w' ⟨rfl, rfl⟩
 go_wp2_with fail
 refine (O _).mono ?_
 rintro e w1 ⟨v, r, rfl, ho, hb1⟩
 obtain ⟨x0, x1, x2, x3, x4, x5, x6, hB⟩ := cells7 hb1
 have HO := ho.ints
 clear ho hb1 O
 go_wp2_with fail
 go_loop [8] (fun i => ∃ k : Nat, k ≤ 1 ∧ i = .int .i64 k ∧ Hid (∀ j, j < k → belowB (([a]).getD j 0) ids = true)) (fun i => 1 - (intOf i).toNat)
 case atStart => exact ⟨0, by omega, rfl, fun j hj => by omega⟩
 case round =>
  obtain ⟨k, hk9, rfl, HD⟩ := hrel
  by_cases hlt : k < 1
  ·rcases HO.2 with hn | ⟨bb, off, rfl, hlo, hb, hcell⟩
   ·cases hn
   have e0 := hcell k (by simpa using hlt)
   generalize hx : ([a]).getD k 0 = x at e0
   have HX : Hid (([a]).getD k 0 = x) := hx
   clear hcell hx HO
   cases hp : belowB x ids with
   | true =>
    have HP : Hid (belowB x ids = true) := hp
    go_wp2_with (go_at_call 30; refine (inB _ _ _).mono ?_; rintro e w' ⟨rfl, rfl⟩)
    exact ⟨⟨k + 1, by omega, by go_num, fun j hj => by
     by_cases e : j = k
     ·subst e; rw [HX.out]; exact HP.out
     ·exact HD.out j (by omega)⟩, by simp only [intOf]; omega⟩
   | false =>
    have HP : Hid (belowB x ids = false) := hp
    go_wp2_with (go_at_call 30; refine (inB _ _ _).mono ?_; rintro e w' ⟨rfl, rfl⟩)
    go_ret
    refine ⟨ret_bool ?_, hB⟩
    rw [HJ.out (all_no 0 ([a]) k (by simpa using hlt) (by rw [HX.out, HP.out]; decide))]
  ·have hall := all_yes 0 (f := fun n => belowB n ids) ([a]) (fun j hj => HD.out j (by first | omega | (simp at hj; done) | (simp at hj; omega)))
   have HK : Hid (V = (widthB iw && imm == 0 && b == 0 && c == 0)) := HI.out hall
   clear hall HI HJ HD HO
   go_wp2_with (first | (go_at_call 48; refine (widthS _ _).mono ?_; rintro e w' ⟨rfl, rfl⟩) | (go_at_call 78; refine (valueS _ _ _).mono ?_; rintro e w' ⟨rfl, rfl⟩) | (go_at_call 30; refine (inB _ _ _).mono ?_; rintro e w' ⟨rfl, rfl⟩))
   all_goals
    go_ret
    refine ⟨ret_bool ?_, hB⟩
    have hk := HK.out
    have hw0 := width0
    have hw8 := width8
    clear HK
    first | (simp_all; done) | (simp_all; omega) | (by_cases h8 : iw = 8 <;> by_cases h0 : iw = 0 <;> simp_all; done)
end Go.Proofs.YtenbodghkpbghaaDoor
namespace Go.Proofs.YtenbodghkpbghaaDoor
open Go.RowKit
set_option linter.unusedVariables false
set_option maxHeartbeats 2000000 in
set_option maxRecDepth 100000 in
theorem instShS_21 (iw a b c imm : Int) (u : Option Addr) (q : Nat) (ids funcs : Int) (w : World) (g0 : 0 ≤ ids) (g1 : ids ≤ 4611686018427387904) (g2 : 0 ≤ funcs) (g3 : funcs ≤ 4611686018427387904) :
  Calls Tryd.prog 49 #[.agg #[.int .i64 21, .int .i64 iw, .int .i64 a, .int .i64 b, .int .i64 c, .int .i64 imm, .slice u 0 q], .int .i64 ids, .int .i64 funcs] w fun e w' => e = .returned (.bool (instB ⟨21, iw, a, b, c, imm, []⟩ ids funcs)) ∧ Below w.heap.size w w' := by
 generalize hV : instB ⟨21, iw, a, b, c, imm, []⟩ ids funcs = V
 have E : opsD ⟨21, iw, a, b, c, imm, []⟩ = [] := rfl
 have HI : Hid (([]).all (fun n => belowB n ids) = true → V = (widthB iw && valueB iw imm && a == 0 && b == 0 && c == 0)) := fun hall => by
  rw [← hV]
  unfold instB wB iB fB
  rw [E, hall]
  first | (simp; done) | (simp; ac_rfl)
 have HJ : Hid (([]).all (fun n => belowB n ids) = false → V = false) := fun hall => by
  rw [← hV]
  unfold instB
  rw [E, hall]
  simp
 have O := fun w => operS 0 ⟨21, iw, a, b, c, imm, []⟩ u q w (by simp) ⟨by simp, .inl rfl⟩
 rw [E] at O
 dsimp only [List.length_nil, List.length_cons] at O
 clear E hV
 go_enter Tryd.func49, Tryd.ntmps49
 go_wp2_with fail
 refine (inS _ _ _ _).mono ?_
 rintro e w' ⟨rfl, rfl⟩
 go_wp2_with fail
 refine (O _).mono ?_
 rintro e w1 ⟨v, r, rfl, ho, hb1⟩
 obtain ⟨x0, x1, x2, x3, x4, x5, x6, hB⟩ := cells7 hb1
 have HO := ho.ints
 clear ho hb1 O
 go_wp2_with fail
 go_loop [8] (fun i => ∃ k : Nat, k ≤ 0 ∧ i = .int .i64 k ∧ Hid (∀ j, j < k → belowB (([]).getD j 0) ids = true)) (fun i => 0 - (intOf i).toNat)
 case atStart => exact ⟨0, by omega, rfl, fun j hj => by omega⟩
 case round =>
  obtain ⟨k, hk9, rfl, HD⟩ := hrel
  by_cases hlt : k < 0
  ·exact absurd hlt (by omega)
  ·have hall := all_yes 0 (f := fun n => belowB n ids) ([]) (fun j hj => HD.out j (by first | omega | (simp at hj; done) | (simp at hj; omega)))
   have HK : Hid (V = (widthB iw && valueB iw imm && a == 0 && b == 0 && c == 0)) := HI.out hall
   clear hall HI HJ HD HO
   go_wp2_with (first | (go_at_call 48; refine (widthS _ _).mono ?_; rintro e w' ⟨rfl, rfl⟩) | (go_at_call 78; refine (valueS _ _ _).mono ?_; rintro e w' ⟨rfl, rfl⟩) | (go_at_call 30; refine (inB _ _ _).mono ?_; rintro e w' ⟨rfl, rfl⟩))
   all_goals
    go_ret
    refine ⟨ret_bool ?_, hB⟩
    have hk := HK.out
    have hw0 := width0
    have hw8 := width8
    clear HK
    first | (simp_all; done) | (simp_all; omega) | (by_cases h8 : iw = 8 <;> by_cases h0 : iw = 0 <;> simp_all; done)
set_option maxHeartbeats 2000000 in
set_option maxRecDepth 100000 in
theorem instShS_22 (iw a b c imm : Int) (u : Option Addr) (q : Nat) (ids funcs : Int) (w : World) (g0 : 0 ≤ ids) (g1 : ids ≤ 4611686018427387904) (g2 : 0 ≤ funcs) (g3 : funcs ≤ 4611686018427387904) :
  Calls Tryd.prog 49 #[.agg #[.int .i64 22, .int .i64 iw, .int .i64 a, .int .i64 b, .int .i64 c, .int .i64 imm, .slice u 0 q], .int .i64 ids, .int .i64 funcs] w fun e w' => e = .returned (.bool (instB ⟨22, iw, a, b, c, imm, []⟩ ids funcs)) ∧ Below w.heap.size w w' := by
 generalize hV : instB ⟨22, iw, a, b, c, imm, []⟩ ids funcs = V
 have E : opsD ⟨22, iw, a, b, c, imm, []⟩ = [a, b, c] := rfl
 have HI : Hid (([a, b, c]).all (fun n => belowB n ids) = true → V = (widthB iw && imm == 0)) := fun hall => by
  rw [← hV]
  unfold instB wB iB fB
  rw [E, hall]
  first | (simp; done) | (simp; ac_rfl)
 have HJ : Hid (([a, b, c]).all (fun n => belowB n ids) = false → V = false) := fun hall => by
  rw [← hV]
  unfold instB
  rw [E, hall]
  simp
 have O := fun w => operS 0 ⟨22, iw, a, b, c, imm, []⟩ u q w (by simp) ⟨by simp, .inl rfl⟩
 rw [E] at O
 dsimp only [List.length_nil, List.length_cons] at O
 clear E hV
 go_enter Tryd.func49, Tryd.ntmps49
 go_wp2_with fail
 refine (inS _ _ _ _).mono ?_
 rintro e w' ⟨rfl, rfl⟩
 go_wp2_with fail
 refine (O _).mono ?_
 rintro e w1 ⟨v, r, rfl, ho, hb1⟩
 obtain ⟨x0, x1, x2, x3, x4, x5, x6, hB⟩ := cells7 hb1
 have HO := ho.ints
 clear ho hb1 O
 go_wp2_with fail
 go_loop [8] (fun i => ∃ k : Nat, k ≤ 3 ∧ i = .int .i64 k ∧ Hid (∀ j, j < k → belowB (([a, b, c]).getD j 0) ids = true)) (fun i => 3 - (intOf i).toNat)
 case atStart => exact ⟨0, by omega, rfl, fun j hj => by omega⟩
 case round =>
  obtain ⟨k, hk9, rfl, HD⟩ := hrel
  by_cases hlt : k < 3
  ·rcases HO.2 with hn | ⟨bb, off, rfl, hlo, hb, hcell⟩
   ·cases hn
   have e0 := hcell k (by simpa using hlt)
   generalize hx : ([a, b, c]).getD k 0 = x at e0
   have HX : Hid (([a, b, c]).getD k 0 = x) := hx
   clear hcell hx HO
   cases hp : belowB x ids with
   | true =>
    have HP : Hid (belowB x ids = true) := hp
    go_wp2_with (go_at_call 30; refine (inB _ _ _).mono ?_; rintro e w' ⟨rfl, rfl⟩)
    exact ⟨⟨k + 1, by omega, by go_num, fun j hj => by
     by_cases e : j = k
     ·subst e; rw [HX.out]; exact HP.out
     ·exact HD.out j (by omega)⟩, by simp only [intOf]; omega⟩
   | false =>
    have HP : Hid (belowB x ids = false) := hp
    go_wp2_with (go_at_call 30; refine (inB _ _ _).mono ?_; rintro e w' ⟨rfl, rfl⟩)
    go_ret
    refine ⟨ret_bool ?_, hB⟩
    rw [HJ.out (all_no 0 ([a, b, c]) k (by simpa using hlt) (by rw [HX.out, HP.out]; decide))]
  ·have hall := all_yes 0 (f := fun n => belowB n ids) ([a, b, c]) (fun j hj => HD.out j (by first | omega | (simp at hj; done) | (simp at hj; omega)))
   have HK : Hid (V = (widthB iw && imm == 0)) := HI.out hall
   clear hall HI HJ HD HO
   go_wp2_with (first | (go_at_call 48; refine (widthS _ _).mono ?_; rintro e w' ⟨rfl, rfl⟩) | (go_at_call 78; refine (valueS _ _ _).mono ?_; rintro e w' ⟨rfl, rfl⟩) | (go_at_call 30; refine (inB _ _ _).mono ?_; rintro e w' ⟨rfl, rfl⟩))
   all_goals
    go_ret
    refine ⟨ret_bool ?_, hB⟩
    have hk := HK.out
    have hw0 := width0
    have hw8 := width8
    clear HK
    first | (simp_all; done) | (simp_all; omega) | (by_cases h8 : iw = 8 <;> by_cases h0 : iw = 0 <;> simp_all; done)
set_option maxHeartbeats 2000000 in
set_option maxRecDepth 100000 in
theorem instShS_23 (iw a b c imm : Int) (u : Option Addr) (q : Nat) (ids funcs : Int) (w : World) (g0 : 0 ≤ ids) (g1 : ids ≤ 4611686018427387904) (g2 : 0 ≤ funcs) (g3 : funcs ≤ 4611686018427387904) :
  Calls Tryd.prog 49 #[.agg #[.int .i64 23, .int .i64 iw, .int .i64 a, .int .i64 b, .int .i64 c, .int .i64 imm, .slice u 0 q], .int .i64 ids, .int .i64 funcs] w fun e w' => e = .returned (.bool (instB ⟨23, iw, a, b, c, imm, []⟩ ids funcs)) ∧ Below w.heap.size w w' := by
 generalize hV : instB ⟨23, iw, a, b, c, imm, []⟩ ids funcs = V
 have E : opsD ⟨23, iw, a, b, c, imm, []⟩ = [a] := rfl
 have HI : Hid (([a]).all (fun n => belowB n ids) = true → V = (iw == 8 && imm == 0 && b == 0 && c == 0)) := fun hall => by
  rw [← hV]
  unfold instB wB iB fB
  rw [E, hall]
  first | (simp; done) | (simp; ac_rfl)
 have HJ : Hid (([a]).all (fun n => belowB n ids) = false → V = false) := fun hall => by
  rw [← hV]
  unfold instB
  rw [E, hall]
  simp
 have O := fun w => operS 0 ⟨23, iw, a, b, c, imm, []⟩ u q w (by simp) ⟨by simp, .inl rfl⟩
 rw [E] at O
 dsimp only [List.length_nil, List.length_cons] at O
 clear E hV
 go_enter Tryd.func49, Tryd.ntmps49
 go_wp2_with fail
 refine (inS _ _ _ _).mono ?_
 rintro e w' ⟨rfl, rfl⟩
 go_wp2_with fail
 refine (O _).mono ?_
 rintro e w1 ⟨v, r, rfl, ho, hb1⟩
 obtain ⟨x0, x1, x2, x3, x4, x5, x6, hB⟩ := cells7 hb1
 have HO := ho.ints
 clear ho hb1 O
 go_wp2_with fail
 go_loop [8] (fun i => ∃ k : Nat, k ≤ 1 ∧ i = .int .i64 k ∧ Hid (∀ j, j < k → belowB (([a]).getD j 0) ids = true)) (fun i => 1 - (intOf i).toNat)
 case atStart => exact ⟨0, by omega, rfl, fun j hj => by omega⟩
 case round =>
  obtain ⟨k, hk9, rfl, HD⟩ := hrel
  by_cases hlt : k < 1
  ·rcases HO.2 with hn | ⟨bb, off, rfl, hlo, hb, hcell⟩
   ·cases hn
   have e0 := hcell k (by simpa using hlt)
   generalize hx : ([a]).getD k 0 = x at e0
   have HX : Hid (([a]).getD k 0 = x) := hx
   clear hcell hx HO
   cases hp : belowB x ids with
   | true =>
    have HP : Hid (belowB x ids = true) := hp
    go_wp2_with (go_at_call 30; refine (inB _ _ _).mono ?_; rintro e w' ⟨rfl, rfl⟩)
    exact ⟨⟨k + 1, by omega, by go_num, fun j hj => by
     by_cases e : j = k
     ·subst e; rw [HX.out]; exact HP.out
     ·exact HD.out j (by omega)⟩, by simp only [intOf]; omega⟩
   | false =>
    have HP : Hid (belowB x ids = false) := hp
    go_wp2_with (go_at_call 30; refine (inB _ _ _).mono ?_; rintro e w' ⟨rfl, rfl⟩)
    go_ret
    refine ⟨ret_bool ?_, hB⟩
    rw [HJ.out (all_no 0 ([a]) k (by simpa using hlt) (by rw [HX.out, HP.out]; decide))]
  ·have hall := all_yes 0 (f := fun n => belowB n ids) ([a]) (fun j hj => HD.out j (by first | omega | (simp at hj; done) | (simp at hj; omega)))
   have HK : Hid (V = (iw == 8 && imm == 0 && b == 0 && c == 0)) := HI.out hall
   clear hall HI HJ HD HO
   go_wp2_with (first | (go_at_call 48; refine (widthS _ _).mono ?_; rintro e w' ⟨rfl, rfl⟩) | (go_at_call 78; refine (valueS _ _ _).mono ?_; rintro e w' ⟨rfl, rfl⟩) | (go_at_call 30; refine (inB _ _ _).mono ?_; rintro e w' ⟨rfl, rfl⟩))
   all_goals
    go_ret
    refine ⟨ret_bool ?_, hB⟩
    have hk := HK.out
    have hw0 := width0
    have hw8 := width8
    clear HK
    first | (simp_all; done) | (simp_all; omega) | (by_cases h8 : iw = 8 <;> by_cases h0 : iw = 0 <;> simp_all; done)
end Go.Proofs.YtenbodghkpbghaaDoor
namespace Go.Proofs.YtenbodghkpbghaaDoor
open Go.RowKit
set_option linter.unusedVariables false
set_option maxHeartbeats 2000000 in
set_option maxRecDepth 100000 in
theorem instShS_24 (iw a b c imm : Int) (u : Option Addr) (q : Nat) (ids funcs : Int) (w : World) (g0 : 0 ≤ ids) (g1 : ids ≤ 4611686018427387904) (g2 : 0 ≤ funcs) (g3 : funcs ≤ 4611686018427387904) :
  Calls Tryd.prog 49 #[.agg #[.int .i64 24, .int .i64 iw, .int .i64 a, .int .i64 b, .int .i64 c, .int .i64 imm, .slice u 0 q], .int .i64 ids, .int .i64 funcs] w fun e w' => e = .returned (.bool (instB ⟨24, iw, a, b, c, imm, []⟩ ids funcs)) ∧ Below w.heap.size w w' := by
 generalize hV : instB ⟨24, iw, a, b, c, imm, []⟩ ids funcs = V
 have E : opsD ⟨24, iw, a, b, c, imm, []⟩ = [a, b] := rfl
 have HI : Hid (([a, b]).all (fun n => belowB n ids) = true → V = (iw == 0 && imm == 0 && c == 0)) := fun hall => by
  rw [← hV]
  unfold instB wB iB fB
  rw [E, hall]
  first | (simp; done) | (simp; ac_rfl)
 have HJ : Hid (([a, b]).all (fun n => belowB n ids) = false → V = false) := fun hall => by
  rw [← hV]
  unfold instB
  rw [E, hall]
  simp
 have O := fun w => operS 0 ⟨24, iw, a, b, c, imm, []⟩ u q w (by simp) ⟨by simp, .inl rfl⟩
 rw [E] at O
 dsimp only [List.length_nil, List.length_cons] at O
 clear E hV
 go_enter Tryd.func49, Tryd.ntmps49
 go_wp2_with fail
 refine (inS _ _ _ _).mono ?_
 rintro e w' ⟨rfl, rfl⟩
 go_wp2_with fail
 refine (O _).mono ?_
 rintro e w1 ⟨v, r, rfl, ho, hb1⟩
 obtain ⟨x0, x1, x2, x3, x4, x5, x6, hB⟩ := cells7 hb1
 have HO := ho.ints
 clear ho hb1 O
 go_wp2_with fail
 go_loop [8] (fun i => ∃ k : Nat, k ≤ 2 ∧ i = .int .i64 k ∧ Hid (∀ j, j < k → belowB (([a, b]).getD j 0) ids = true)) (fun i => 2 - (intOf i).toNat)
 case atStart => exact ⟨0, by omega, rfl, fun j hj => by omega⟩
 case round =>
  obtain ⟨k, hk9, rfl, HD⟩ := hrel
  by_cases hlt : k < 2
  ·rcases HO.2 with hn | ⟨bb, off, rfl, hlo, hb, hcell⟩
   ·cases hn
   have e0 := hcell k (by simpa using hlt)
   generalize hx : ([a, b]).getD k 0 = x at e0
   have HX : Hid (([a, b]).getD k 0 = x) := hx
   clear hcell hx HO
   cases hp : belowB x ids with
   | true =>
    have HP : Hid (belowB x ids = true) := hp
    go_wp2_with (go_at_call 30; refine (inB _ _ _).mono ?_; rintro e w' ⟨rfl, rfl⟩)
    exact ⟨⟨k + 1, by omega, by go_num, fun j hj => by
     by_cases e : j = k
     ·subst e; rw [HX.out]; exact HP.out
     ·exact HD.out j (by omega)⟩, by simp only [intOf]; omega⟩
   | false =>
    have HP : Hid (belowB x ids = false) := hp
    go_wp2_with (go_at_call 30; refine (inB _ _ _).mono ?_; rintro e w' ⟨rfl, rfl⟩)
    go_ret
    refine ⟨ret_bool ?_, hB⟩
    rw [HJ.out (all_no 0 ([a, b]) k (by simpa using hlt) (by rw [HX.out, HP.out]; decide))]
  ·have hall := all_yes 0 (f := fun n => belowB n ids) ([a, b]) (fun j hj => HD.out j (by first | omega | (simp at hj; done) | (simp at hj; omega)))
   have HK : Hid (V = (iw == 0 && imm == 0 && c == 0)) := HI.out hall
   clear hall HI HJ HD HO
   go_wp2_with (first | (go_at_call 48; refine (widthS _ _).mono ?_; rintro e w' ⟨rfl, rfl⟩) | (go_at_call 78; refine (valueS _ _ _).mono ?_; rintro e w' ⟨rfl, rfl⟩) | (go_at_call 30; refine (inB _ _ _).mono ?_; rintro e w' ⟨rfl, rfl⟩))
   all_goals
    go_ret
    refine ⟨ret_bool ?_, hB⟩
    have hk := HK.out
    have hw0 := width0
    have hw8 := width8
    clear HK
    first | (simp_all; done) | (simp_all; omega) | (by_cases h8 : iw = 8 <;> by_cases h0 : iw = 0 <;> simp_all; done)
set_option maxHeartbeats 2000000 in
set_option maxRecDepth 100000 in
theorem instShS_25 (iw a b c imm : Int) (u : Option Addr) (q : Nat) (ids funcs : Int) (w : World) (g0 : 0 ≤ ids) (g1 : ids ≤ 4611686018427387904) (g2 : 0 ≤ funcs) (g3 : funcs ≤ 4611686018427387904) :
  Calls Tryd.prog 49 #[.agg #[.int .i64 25, .int .i64 iw, .int .i64 a, .int .i64 b, .int .i64 c, .int .i64 imm, .slice u 0 q], .int .i64 ids, .int .i64 funcs] w fun e w' => e = .returned (.bool (instB ⟨25, iw, a, b, c, imm, []⟩ ids funcs)) ∧ Below w.heap.size w w' := by
 generalize hV : instB ⟨25, iw, a, b, c, imm, []⟩ ids funcs = V
 have E : opsD ⟨25, iw, a, b, c, imm, []⟩ = [a] := rfl
 have HI : Hid (([a]).all (fun n => belowB n ids) = true → V = (iw == 0 && imm == 0 && b == 0 && c == 0)) := fun hall => by
  rw [← hV]
  unfold instB wB iB fB
  rw [E, hall]
  first | (simp; done) | (simp; ac_rfl)
 have HJ : Hid (([a]).all (fun n => belowB n ids) = false → V = false) := fun hall => by
  rw [← hV]
  unfold instB
  rw [E, hall]
  simp
 have O := fun w => operS 0 ⟨25, iw, a, b, c, imm, []⟩ u q w (by simp) ⟨by simp, .inl rfl⟩
 rw [E] at O
 dsimp only [List.length_nil, List.length_cons] at O
 clear E hV
 go_enter Tryd.func49, Tryd.ntmps49
 go_wp2_with fail
 refine (inS _ _ _ _).mono ?_
 rintro e w' ⟨rfl, rfl⟩
 go_wp2_with fail
 refine (O _).mono ?_
 rintro e w1 ⟨v, r, rfl, ho, hb1⟩
 obtain ⟨x0, x1, x2, x3, x4, x5, x6, hB⟩ := cells7 hb1
 have HO := ho.ints
 clear ho hb1 O
 go_wp2_with fail
 go_loop [8] (fun i => ∃ k : Nat, k ≤ 1 ∧ i = .int .i64 k ∧ Hid (∀ j, j < k → belowB (([a]).getD j 0) ids = true)) (fun i => 1 - (intOf i).toNat)
 case atStart => exact ⟨0, by omega, rfl, fun j hj => by omega⟩
 case round =>
  obtain ⟨k, hk9, rfl, HD⟩ := hrel
  by_cases hlt : k < 1
  ·rcases HO.2 with hn | ⟨bb, off, rfl, hlo, hb, hcell⟩
   ·cases hn
   have e0 := hcell k (by simpa using hlt)
   generalize hx : ([a]).getD k 0 = x at e0
   have HX : Hid (([a]).getD k 0 = x) := hx
   clear hcell hx HO
   cases hp : belowB x ids with
   | true =>
    have HP : Hid (belowB x ids = true) := hp
    go_wp2_with (go_at_call 30; refine (inB _ _ _).mono ?_; rintro e w' ⟨rfl, rfl⟩)
    exact ⟨⟨k + 1, by omega, by go_num, fun j hj => by
     by_cases e : j = k
     ·subst e; rw [HX.out]; exact HP.out
     ·exact HD.out j (by omega)⟩, by simp only [intOf]; omega⟩
   | false =>
    have HP : Hid (belowB x ids = false) := hp
    go_wp2_with (go_at_call 30; refine (inB _ _ _).mono ?_; rintro e w' ⟨rfl, rfl⟩)
    go_ret
    refine ⟨ret_bool ?_, hB⟩
    rw [HJ.out (all_no 0 ([a]) k (by simpa using hlt) (by rw [HX.out, HP.out]; decide))]
  ·have hall := all_yes 0 (f := fun n => belowB n ids) ([a]) (fun j hj => HD.out j (by first | omega | (simp at hj; done) | (simp at hj; omega)))
   have HK : Hid (V = (iw == 0 && imm == 0 && b == 0 && c == 0)) := HI.out hall
   clear hall HI HJ HD HO
   go_wp2_with (first | (go_at_call 48; refine (widthS _ _).mono ?_; rintro e w' ⟨rfl, rfl⟩) | (go_at_call 78; refine (valueS _ _ _).mono ?_; rintro e w' ⟨rfl, rfl⟩) | (go_at_call 30; refine (inB _ _ _).mono ?_; rintro e w' ⟨rfl, rfl⟩))
   all_goals
    go_ret
    refine ⟨ret_bool ?_, hB⟩
    have hk := HK.out
    have hw0 := width0
    have hw8 := width8
    clear HK
    first | (simp_all; done) | (simp_all; omega) | (by_cases h8 : iw = 8 <;> by_cases h0 : iw = 0 <;> simp_all; done)
set_option maxHeartbeats 2000000 in
set_option maxRecDepth 100000 in
theorem instShS_26 (lo : Nat) (iw a b c imm : Int) (args : List Int) (u : Option Addr) (q : Nat) (ids funcs : Int) (w : World) (g0 : 0 ≤ ids) (g1 : ids ≤ 4611686018427387904) (g2 : 0 ≤ funcs) (g3 : funcs ≤ 4611686018427387904) (hs : args.length ≤ 1048576) (hk : IntsAt w lo u args) :
  Calls Tryd.prog 49 #[.agg #[.int .i64 26, .int .i64 iw, .int .i64 a, .int .i64 b, .int .i64 c, .int .i64 imm, .slice u args.length q], .int .i64 ids, .int .i64 funcs] w fun e w' => e = .returned (.bool (instB ⟨26, iw, a, b, c, imm, args⟩ ids funcs)) ∧ Below w.heap.size w w' := by
 generalize hV : instB ⟨26, iw, a, b, c, imm, args⟩ ids funcs = V
 have E : opsD ⟨26, iw, a, b, c, imm, args⟩ = args := rfl
 have HI : Hid ((args).all (fun n => belowB n ids) = true → V = (widthB iw && belowB imm funcs && decide (args.length ≤ 4) && a == 0 && b == 0 && c == 0)) := fun hall => by
  rw [← hV]
  unfold instB wB iB fB
  rw [E, hall]
  first | (simp; done) | (simp; ac_rfl)
 have HJ : Hid ((args).all (fun n => belowB n ids) = false → V = false) := fun hall => by
  rw [← hV]
  unfold instB
  rw [E, hall]
  simp
 have O := fun w => operS lo ⟨26, iw, a, b, c, imm, args⟩ u q w hs
 rw [E] at O
 dsimp only [List.length_nil, List.length_cons] at O
 clear E hV
 go_enter Tryd.func49, Tryd.ntmps49
 go_wp2_with fail
 refine (inS _ _ _ _).mono ?_
 rintro e w' ⟨rfl, rfl⟩
 go_wp2_with fail
 refine (O _ (hk.keep (agree_alloc _ _ _))).mono ?_
 rintro e w1 ⟨v, r, rfl, ho, hb1⟩
 obtain ⟨x0, x1, x2, x3, x4, x5, x6, hB⟩ := cells7 hb1
 have HO := ho.ints
 clear ho hb1 O
 go_wp2_with fail
 go_loop [8] (fun i => ∃ k : Nat, k ≤ args.length ∧ i = .int .i64 k ∧ Hid (∀ j, j < k → belowB ((args).getD j 0) ids = true)) (fun i => args.length - (intOf i).toNat)
 case atStart => exact ⟨0, by omega, rfl, fun j hj => by omega⟩
 case round =>
  obtain ⟨k, hk9, rfl, HD⟩ := hrel
  by_cases hlt : k < args.length
  ·rcases HO.2 with hn | ⟨bb, off, rfl, hlo, hb, hcell⟩
   ·simp [hn] at hlt
   have e0 := hcell k (by simpa using hlt)
   generalize hx : (args).getD k 0 = x at e0
   have HX : Hid ((args).getD k 0 = x) := hx
   clear hcell hx HO
   cases hp : belowB x ids with
   | true =>
    have HP : Hid (belowB x ids = true) := hp
    go_wp2_with (go_at_call 30; refine (inB _ _ _).mono ?_; rintro e w' ⟨rfl, rfl⟩)
    exact ⟨⟨k + 1, by omega, by go_num, fun j hj => by
     by_cases e : j = k
     ·subst e; rw [HX.out]; exact HP.out
     ·exact HD.out j (by omega)⟩, by simp only [intOf]; omega⟩
   | false =>
    have HP : Hid (belowB x ids = false) := hp
    go_wp2_with (go_at_call 30; refine (inB _ _ _).mono ?_; rintro e w' ⟨rfl, rfl⟩)
    go_ret
    refine ⟨ret_bool ?_, hB⟩
    rw [HJ.out (all_no 0 (args) k (by simpa using hlt) (by rw [HX.out, HP.out]; decide))]
  ·have hall := all_yes 0 (f := fun n => belowB n ids) (args) (fun j hj => HD.out j (by first | omega | (simp at hj; done) | (simp at hj; omega)))
   have HK : Hid (V = (widthB iw && belowB imm funcs && decide (args.length ≤ 4) && a == 0 && b == 0 && c == 0)) := HI.out hall
   clear hall HI HJ HD HO
   go_wp2_with (first | (go_at_call 48; refine (widthS _ _).mono ?_; rintro e w' ⟨rfl, rfl⟩) | (go_at_call 78; refine (valueS _ _ _).mono ?_; rintro e w' ⟨rfl, rfl⟩) | (go_at_call 30; refine (inB _ _ _).mono ?_; rintro e w' ⟨rfl, rfl⟩))
   all_goals
    go_ret
    refine ⟨ret_bool ?_, hB⟩
    have hk := HK.out
    have hw0 := width0
    have hw8 := width8
    clear HK
    first | (simp_all; done) | (simp_all; omega) | (by_cases h8 : iw = 8 <;> by_cases h0 : iw = 0 <;> simp_all; done)
end Go.Proofs.YtenbodghkpbghaaDoor
namespace Go.Proofs.YtenbodghkpbghaaDoor
open Go.RowKit
set_option linter.unusedVariables false
set_option maxHeartbeats 2000000 in
set_option maxRecDepth 100000 in
theorem instShS_bin (op iw a b c imm : Int) (u : Option Addr) (q : Nat) (ids funcs : Int) (w : World) (g0 : 0 ≤ ids) (g1 : ids ≤ 4611686018427387904) (g2 : 0 ≤ funcs) (g3 : funcs ≤ 4611686018427387904) (h : opB op = true) :
  Calls Tryd.prog 49 #[.agg #[.int .i64 op, .int .i64 iw, .int .i64 a, .int .i64 b, .int .i64 c, .int .i64 imm, .slice u 0 q], .int .i64 ids, .int .i64 funcs] w fun e w' => e = .returned (.bool (instB ⟨op, iw, a, b, c, imm, []⟩ ids funcs)) ∧ Below w.heap.size w w' := by
 generalize hV : instB ⟨op, iw, a, b, c, imm, []⟩ ids funcs = V
 have e1 : 1 ≤ op ∧ op ≤ 17 := by simpa [opB] using h
 have E : opsD ⟨op, iw, a, b, c, imm, []⟩ = [a, b] := by simp [opsD, h]
 have HI : Hid (([a, b]).all (fun n => belowB n ids) = true → V = (widthB iw && imm == 0 && c == 0)) := fun hall => by
  rw [← hV]
  have f1 : ¬ (op < 1 ∨ 27 < op) := by omega
  have f2 : ¬ (op = 24 ∨ op = 25) := by omega
  have f3 : ¬ op = 23 := by omega
  have f4 : ¬ op = 21 := by omega
  have f5 : ¬ op = 26 := by omega
  unfold instB wB iB fB
  rw [E, hall]
  simp [f1, f2, f3, f4, f5]
  try ac_rfl
 have HJ : Hid (([a, b]).all (fun n => belowB n ids) = false → V = false) := fun hall => by
  rw [← hV]
  unfold instB
  rw [E, hall]
  simp
 have d1 : (decide (1 ≤ op) && decide (op ≤ 27)) = true := by simp; omega
 have n1 : ¬ op = 24 := by omega
 have n2 : ¬ op = 25 := by omega
 have n3 : ¬ op = 26 := by omega
 have n4 : ¬ op = 21 := by omega
 have n5 : ¬ op = 23 := by omega
 have b24 : (op == 24) = false := by simpa using n1
 have b25 : (op == 25) = false := by simpa using n2
 have O := fun w => operS 0 ⟨op, iw, a, b, c, imm, []⟩ u q w (by simp) ⟨by simp, .inl rfl⟩
 rw [E] at O
 dsimp only [List.length_nil, List.length_cons] at O
 clear E hV
 go_enter Tryd.func49, Tryd.ntmps49
 go_wp2_with fail
 refine (inS _ _ _ _).mono ?_
 rintro e w' ⟨rfl, rfl⟩
 rw [d1]
 go_wp2_with fail
 refine (O _).mono ?_
 rintro e w1 ⟨v, r, rfl, ho, hb1⟩
 obtain ⟨x0, x1, x2, x3, x4, x5, x6, hB⟩ := cells7 hb1
 have HO := ho.ints
 clear ho hb1 O
 go_wp2_with fail
 go_loop [8] (fun i => ∃ k : Nat, k ≤ 2 ∧ i = .int .i64 k ∧ Hid (∀ j, j < k → belowB (([a, b]).getD j 0) ids = true)) (fun i => 2 - (intOf i).toNat)
 case atStart => exact ⟨0, by omega, rfl, fun j hj => by omega⟩
 case round =>
  obtain ⟨k, hk9, rfl, HD⟩ := hrel
  by_cases hlt : k < 2
  ·rcases HO.2 with hn | ⟨bb, off, rfl, hlo, hb, hcell⟩
   ·cases hn
   have e0 := hcell k (by simpa using hlt)
   generalize hx : ([a, b]).getD k 0 = x at e0
   have HX : Hid (([a, b]).getD k 0 = x) := hx
   clear hcell hx HO
   cases hp : belowB x ids with
   | true =>
    have HP : Hid (belowB x ids = true) := hp
    go_wp2_with (go_at_call 30; refine (inB _ _ _).mono ?_; rintro e w' ⟨rfl, rfl⟩)
    exact ⟨⟨k + 1, by omega, by go_num, fun j hj => by
     by_cases e : j = k
     ·subst e; rw [HX.out]; exact HP.out
     ·exact HD.out j (by omega)⟩, by simp only [intOf]; omega⟩
   | false =>
    have HP : Hid (belowB x ids = false) := hp
    go_wp2_with (go_at_call 30; refine (inB _ _ _).mono ?_; rintro e w' ⟨rfl, rfl⟩)
    go_ret
    refine ⟨ret_bool ?_, hB⟩
    rw [HJ.out (all_no 0 ([a, b]) k (by simpa using hlt) (by rw [HX.out, HP.out]; decide))]
  ·have hall := all_yes 0 (f := fun n => belowB n ids) ([a, b]) (fun j hj => HD.out j (by first | omega | (simp at hj; done) | (simp at hj; omega)))
   have HK : Hid (V = (widthB iw && imm == 0 && c == 0)) := HI.out hall
   clear hall HI HJ HD HO
   go_wp2_with (first | (go_at_call 48; refine (widthS _ _).mono ?_; rintro e w' ⟨rfl, rfl⟩) | (go_at_call 78; refine (valueS _ _ _).mono ?_; rintro e w' ⟨rfl, rfl⟩) | (go_at_call 30; refine (inB _ _ _).mono ?_; rintro e w' ⟨rfl, rfl⟩))
   all_goals
    go_ret
    refine ⟨ret_bool ?_, hB⟩
    have hk := HK.out
    have hw0 := width0
    have hw8 := width8
    clear HK
    first | (simp_all; done) | (simp_all; omega) | (by_cases h8 : iw = 8 <;> by_cases h0 : iw = 0 <;> simp_all; done)
end Go.Proofs.YtenbodghkpbghaaDoor
namespace Go.Proofs.YtenbodghkpbghaaDoor
open Go.RowKit
set_option linter.unusedVariables false
set_option maxHeartbeats 1000000 in
theorem instShS_no (d : InstD) (u : Option Addr) (q : Nat) (ids funcs : Int) (w : World) (h : d.op < 1 ∨ 27 < d.op) :
  Calls Tryd.prog 49 #[.agg #[.int .i64 d.op, .int .i64 d.w, .int .i64 d.a, .int .i64 d.b, .int .i64 d.c, .int .i64 d.imm, .slice u d.args.length q], .int .i64 ids, .int .i64 funcs] w fun e w' => e = .returned (.bool (instB d ids funcs)) ∧ Below w.heap.size w w' := by
 have HR : Hid (false = instB d ids funcs) := by show _ = _; simp [instB, wB, h]
 have d1 : (decide (1 ≤ d.op) && decide (d.op ≤ 27)) = false := by simp; omega
 clear h
 go_enter Tryd.func49, Tryd.ntmps49
 go_wp2_with fail
 refine (inS _ _ _ _).mono ?_
 rintro e w' ⟨rfl, rfl⟩
 rw [d1]
 go_wp2_with fail
 go_ret
 exact ⟨ret_bool HR.out, (Below.refl _ _).alloc (Nat.le_refl _) _⟩
set_option maxHeartbeats 1000000 in
theorem instShS_full (d : InstD) (u : Option Addr) (q : Nat) (ids funcs : Int) (w : World) (h : ¬ (d.op < 1 ∨ 27 < d.op)) (h6 : ¬ d.op = 26) (hz : ¬ d.args.length = 0) (hm : d.args.length ≤ 1048576) :
  Calls Tryd.prog 49 #[.agg #[.int .i64 d.op, .int .i64 d.w, .int .i64 d.a, .int .i64 d.b, .int .i64 d.c, .int .i64 d.imm, .slice u d.args.length q], .int .i64 ids, .int .i64 funcs] w fun e w' => e = .returned (.bool (instB d ids funcs)) ∧ Below w.heap.size w w' := by
 have HR : Hid (false = instB d ids funcs) := by show _ = _; simp [instB, fB, h6, hz]
 have d1 : (decide (1 ≤ d.op) && decide (d.op ≤ 27)) = true := by simp; omega
 have z1 : (0 : Int) < d.args.length := by omega
 have b26 : (d.op == 26) = false := by simpa using h6
 have c26 : (d.op != 26) = true := by simpa using h6
 have z2 : decide ((0 : Int) < d.args.length) = true := by simpa using z1
 clear h
 go_enter Tryd.func49, Tryd.ntmps49
 go_wp2_with fail
 refine (inS _ _ _ _).mono ?_
 rintro e w' ⟨rfl, rfl⟩
 rw [d1]
 go_wp2_with fail
 go_ret
 exact ⟨ret_bool HR.out, (Below.refl _ _).alloc (Nat.le_refl _) _⟩
theorem instShS (lo : Nat) (d : InstD) (u : Option Addr) (q : Nat) (ids funcs : Int) (w : World) (g0 : 0 ≤ ids) (g1 : ids ≤ 4611686018427387904) (g2 : 0 ≤ funcs) (g3 : funcs ≤ 4611686018427387904) (hm : d.args.length ≤ 1048576) (hk : IntsAt w lo u d.args) :
  Calls Tryd.prog 49 #[.agg #[.int .i64 d.op, .int .i64 d.w, .int .i64 d.a, .int .i64 d.b, .int .i64 d.c, .int .i64 d.imm, .slice u d.args.length q], .int .i64 ids, .int .i64 funcs] w fun e w' => e = .returned (.bool (instB d ids funcs)) ∧ Below w.heap.size w w' := by
 by_cases h : d.op < 1 ∨ 27 < d.op
 ·exact instShS_no d u q ids funcs w h
 by_cases h6 : d.op = 26
 ·obtain ⟨op, iw, a, b, c, imm, args⟩ := d
  dsimp only at h6 hm hk
  subst h6
  exact instShS_26 lo iw a b c imm args u q ids funcs w g0 g1 g2 g3 hm hk
 by_cases hz : d.args.length = 0
 ·obtain ⟨op, iw, a, b, c, imm, args⟩ := d
  dsimp only at h h6 hz
  have e := List.length_eq_zero_iff.1 hz
  subst e
  rcases op_split op with o | o | o | o | o | o | o | o | o | o | o | ⟨_, o⟩
  ·exact instShS_bin op iw a b c imm u q ids funcs w g0 g1 g2 g3 o
  ·subst o; exact instShS_18 iw a b c imm u q ids funcs w g0 g1 g2 g3
  ·subst o; exact instShS_19 iw a b c imm u q ids funcs w g0 g1 g2 g3
  ·subst o; exact instShS_20 iw a b c imm u q ids funcs w g0 g1 g2 g3
  ·subst o; exact instShS_21 iw a b c imm u q ids funcs w g0 g1 g2 g3
  ·subst o; exact instShS_22 iw a b c imm u q ids funcs w g0 g1 g2 g3
  ·subst o; exact instShS_23 iw a b c imm u q ids funcs w g0 g1 g2 g3
  ·subst o; exact instShS_24 iw a b c imm u q ids funcs w g0 g1 g2 g3
  ·subst o; exact instShS_25 iw a b c imm u q ids funcs w g0 g1 g2 g3
  ·exact absurd o h6
  ·subst o; exact instShS_27 iw a b c imm u q ids funcs w g0 g1 g2 g3
  ·exact absurd o h
 exact instShS_full d u q ids funcs w h h6 hz hm
end Go.Proofs.YtenbodghkpbghaaDoor
