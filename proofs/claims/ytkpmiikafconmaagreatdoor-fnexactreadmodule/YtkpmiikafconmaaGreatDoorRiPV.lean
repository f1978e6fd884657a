import Derived.Test.YtkpmiikafconmaaGreatDoorRiAV
import Derived.Test.YtkpmiikafconmaaGreatDoorFmE3V
import Derived.Lib.ParseIntB
import Derived.Test.YtkpmiikafconmaaGreatDoorCntV
import Derived.Lib.AtoiErrMem
import Derived.Lib.ParseIntBTie
namespace Go.Proofs.YtkpmiikafconmaaGreatDoor
open Go.RowKit
set_option linter.unusedVariables false
set_option linter.unusedSimpArgs false
def DecIs (b : ByteArray) (n : Int) : Prop := ∃ k : Nat, n = k ∧ k ≤ 9223372036854775807 ∧ b = bs (Lib.decDigits k)
theorem digit_nat {u : Nat} (h : u < 10) : (UInt8.ofNat (48 + u)).toNat = 48 + u := by simp [UInt8.toNat_ofNat']; omega
theorem parse_digits : ∀ (u : Nat) (r : List UInt8), u ≤ 9223372036854775807 → Lib.parseUintM 18446744073709551615 0 (Lib.decDigits u ++ r) = Lib.parseUintM 18446744073709551615 u r := by
 intro u
 induction u using Nat.strongRecOn with
 | ind u ih =>
  intro r hu
  rw [Lib.decDigits]
  by_cases h : u < 10
  ·rw [dif_pos h]
   show Lib.parseUintM _ 0 (UInt8.ofNat (48 + u) :: r) = _
   rw [Lib.parseUintM, digit_nat h, if_pos (by omega), if_neg (by omega), if_neg (by omega)]
   congr 1
   omega
  ·rw [dif_neg h, List.append_assoc, ih (u / 10) (by omega) _ (by omega)]
   have hd : u % 10 < 10 := by omega
   show Lib.parseUintM _ (u / 10) (UInt8.ofNat (48 + u % 10) :: r) = _
   rw [Lib.parseUintM, digit_nat hd, if_pos (by omega), if_neg (by omega), if_neg (by omega)]
   congr 1
   omega
theorem digits_cons (u : Nat) : ∃ c r, Lib.decDigits u = c :: r ∧ 48 ≤ c.toNat ∧ c.toNat ≤ 57 := by
 induction u using Nat.strongRecOn with
 | ind u ih =>
  rw [Lib.decDigits]
  by_cases h : u < 10
  ·rw [dif_pos h]
   exact ⟨_, _, rfl, by rw [digit_nat h]; omega, by rw [digit_nat h]; omega⟩
  ·rw [dif_neg h]
   obtain ⟨c, r, e, h1, h2⟩ := ih (u / 10) (by omega)
   rw [e]
   exact ⟨c, r ++ _, rfl, h1, h2⟩
theorem digits_all : ∀ (u : Nat), ∀ c ∈ Lib.decDigits u, 48 ≤ c.toNat ∧ c.toNat ≤ 57 := by
 intro u
 induction u using Nat.strongRecOn with
 | ind u ih =>
  rw [Lib.decDigits]
  intro c hc
  by_cases h : u < 10
  ·rw [dif_pos h] at hc
   rw [List.mem_singleton.1 hc, digit_nat h]; omega
  ·rw [dif_neg h] at hc
   rcases List.mem_append.1 hc with hc | hc
   ·exact ih (u / 10) (by omega) c hc
   ·rw [List.mem_singleton.1 hc, digit_nat (by omega : u % 10 < 10)]; omega
theorem digits_blank (u : Nat) : (32 : UInt8) ∉ Lib.decDigits u := fun h => by
 have := digits_all u 32 h
 have e : (32 : UInt8).toNat = 32 := rfl
 omega
theorem dec_parse {b : ByteArray} {n : Int} (h : DecIs b n) : Lib.parseIntB 64 b.data.toList = .ok n := by
 obtain ⟨k, rfl, hk, rfl⟩ := h
 show Lib.parseIntB 64 (Lib.decDigits k) = .ok (k : Int)
 have hp := parse_digits k [] hk
 rw [List.append_nil] at hp
 obtain ⟨c, r, e, h1, h2⟩ := digits_cons k
 rw [e] at hp ⊢
 have hm : ¬ (c.toNat = 43 ∨ c.toNat = 45) := by omega
 have hn : ¬ c.toNat = 45 := by omega
 unfold Lib.parseIntB
 simp only [if_neg hm]
 have hu : Lib.parseUintB 64 (c :: r) = .ok k := by
  unfold Lib.parseUintB
  rw [if_neg (by simp)]
  exact hp
 rw [hu]
 simp only [hn, not_false_eq_true, true_and, false_and, if_false]
 rw [if_neg (by omega)]
theorem dec_one {b : ByteArray} {n m : Int} (h : DecIs b n) (k : DecIs b m) : n = m := by
 have h1 := dec_parse h
 rw [dec_parse k] at h1
 cases h1
 rfl
def NumsIs (ws : List ByteArray) (l : List Int) : Prop := ws.length = l.length ∧ ∀ j, j < l.length → DecIs (ws.getD j ⟨#[]⟩) (l.getD j 0)
theorem NumsIs.one {ws : List ByteArray} {l m : List Int} (h : NumsIs ws l) (k : NumsIs ws m) : l = m := by
 have hl : l.length = m.length := h.1.symm.trans k.1
 refine List.ext_getElem hl fun j h1 h2 => ?_
 have := dec_one (h.2 j h1) (k.2 j h2)
 simpa [List.getD, h1, h2] using this
theorem NumsIs.map {ws : List ByteArray} {l : List Int} (h : NumsIs ws l) : ws = l.map fun n => bs (Lib.itoa n) := by
 refine List.ext_getElem (by simpa using h.1) fun j h1 h2 => ?_
 have hj : j < l.length := by simpa using h2
 obtain ⟨k, e1, _, e2⟩ := h.2 j hj
 have e3 : ws.getD j ⟨#[]⟩ = ws[j] := by simp [List.getD, h1]
 have e4 : l.getD j 0 = l[j] := by simp [List.getD, hj]
 rw [e3] at e2
 rw [e4] at e1
 rw [List.getElem_map, e2, e1, itoa_nat]
theorem nums_is {l : List Int} (h : SmN l) : NumsIs (l.map fun n => bs (Lib.itoa n)) l := by
 refine ⟨by simp, fun j hj => ?_⟩
 have e : (l.map fun n => bs (Lib.itoa n)).getD j ⟨#[]⟩ = bs (Lib.itoa (l.getD j 0)) := by simp [List.getD, hj]
 rw [e]
 obtain ⟨k, e1, e2⟩ := h _ (getD_mem 0 l j hj)
 exact ⟨k, e1, by omega, by rw [e1, itoa_nat]⟩
theorem nums_join (w : List UInt8) : ∀ l : List Int, Lib.join (w :: l.map Lib.itoa) [32] = w ++ numsL l
 | [] => by simp [Lib.join, numsL]
 | n :: l => by
  rw [List.map_cons, join_more, nums_join (Lib.itoa n) l]
  simp [numsL]
def ReadOk (s : ByteArray) (i : InstD) : Prop := instB i 60 3 = true ∧ s = instTx i
theorem tx_data (i : InstD) : (instTx i).data.toList = Lib.join (opWL.getD i.op.toNat [] :: (instN i).map Lib.itoa) [32] := by
 rw [nums_join]
 unfold instTx opW
 rw [bs_append]
 rfl
theorem opWL_blank (k : Nat) : (32 : UInt8) ∉ opWL.getD k [] := by
 rcases Nat.lt_or_ge k 28 with h | h
 ·have : ∀ k : Fin 28, (32 : UInt8) ∉ opWL.getD k.1 [] := by decide
  exact this ⟨k, h⟩
 ·rw [List.getD, List.getElem?_eq_none (by simpa [opWL] using h)]
  decide
theorem read_pieces {s : ByteArray} {i : InstD} (h : ReadOk s i) : pieces s = opW i.op.toNat :: (instN i).map fun n => bs (Lib.itoa n) := by
 have hF := instB_inF h.1
 refine pieces_join _ (by simp) (fun x hx => ?_) s ?_
 ·rcases List.mem_cons.1 hx with rfl | hx
  ·exact opWL_blank _
  ·obtain ⟨n, hn, rfl⟩ := List.mem_map.1 hx
   obtain ⟨k, e, _⟩ := instN_sm hF n hn
   rw [e, itoa_nat]
   exact digits_blank k
 ·rw [h.2, tx_data, List.map_cons, List.map_map]
  rfl
theorem read_nums {s : ByteArray} {i : InstD} {w0 : ByteArray} {ws : List ByteArray} (h : ReadOk s i) (hp : pieces s = w0 :: ws) : w0 = opW i.op.toNat ∧ NumsIs ws (instN i) := by
 have e := read_pieces h
 rw [hp] at e
 obtain ⟨e1, e2⟩ := List.cons.inj e
 exact ⟨e1, by rw [e2]; exact nums_is (instN_sm (instB_inF h.1))⟩
theorem read_back {s : ByteArray} {i : InstD} {w0 : ByteArray} {ws : List ByteArray} (hp : pieces s = w0 :: ws) (h0 : w0 = opW i.op.toNat) (hn : NumsIs ws (instN i)) (hB : instB i 60 3 = true) : ReadOk s i := by
 refine ⟨hB, ba_ext ?_⟩
 rw [tx_data, ← join_pieces s.size s (Nat.le_refl _), hp, h0, hn.map, List.map_cons, List.map_map]
 rfl
def opNumL (b : ByteArray) : List (List UInt8) → Nat → Int
 | [], _ => 0
 | x :: r, k => if bs x = b then (k : Int) else opNumL b r (k + 1)
def opNum (b : ByteArray) : Int := opNumL b opWL 0
theorem opNum_hit {b : ByteArray} {k : Nat} (hk : k < 28) (h : opW k = b) : opNumL b (opWL.drop k) k = k := by
 rw [List.drop_eq_getElem_cons (show k < opWL.length from hk), opNumL, if_pos]
 have : opWL.getD k [] = opWL[k]'(show k < opWL.length from hk) := by rw [List.getD, List.getElem?_eq_getElem (show k < opWL.length from hk)]; rfl
 rw [← this]; exact h
theorem opNum_miss {b : ByteArray} {k : Nat} (hk : k < 28) (h : ¬ opW k = b) : opNumL b (opWL.drop k) k = opNumL b (opWL.drop (k + 1)) (k + 1) := by
 rw [List.drop_eq_getElem_cons (show k < opWL.length from hk), opNumL, if_neg]
 have : opWL.getD k [] = opWL[k]'(show k < opWL.length from hk) := by rw [List.getD, List.getElem?_eq_getElem (show k < opWL.length from hk)]; rfl
 rw [← this]; exact h
theorem opNum_word {k : Nat} (h1 : 1 ≤ k) (h2 : k ≤ 27) : opNum (opW k) = k := by
 have : ∀ k : Fin 28, opNum (opW k.1) = (k.1 : Int) := by decide
 exact this ⟨k, by omega⟩
theorem opNumL_some (b : ByteArray) : ∀ (n k : Nat), k + n = 28 → opNumL b (opWL.drop k) k = 0 ∨ ∃ j : Nat, j < 28 ∧ opNumL b (opWL.drop k) k = j ∧ opW j = b
 | 0, k, h => by
  have : k = 28 := by omega
  subst this
  exact .inl rfl
 | n + 1, k, h => by
  by_cases hw : opW k = b
  ·exact .inr ⟨k, by omega, opNum_hit (by omega) hw, hw⟩
  ·rw [opNum_miss (by omega) hw]
   exact opNumL_some b n (k + 1) (by omega)
theorem opNum_some (b : ByteArray) : opNum b = 0 ∨ ∃ j : Nat, j < 28 ∧ opNum b = j ∧ opW j = b := opNumL_some b 28 0 rfl
end Go.Proofs.YtkpmiikafconmaaGreatDoor
namespace Go.Proofs.YtkpmiikafconmaaGreatDoor
open Go.RowKit
set_option linter.unusedVariables false
theorem infoSr : (Tryz.prog.info? 9).map (fun i => (i.zero, i.size, i.bytes)) = some (some (.string ⟨#[]⟩), 1, 16) := by kernel_rfl
theorem run_loadVar_part {P : Program} (w : World) (g off : Nat) (ty : TypeId) (cs : Array Value) (d : TypeDesc) (hc : ∀ j v, cs[j]? = some v → w.cell? ⟨g, off + j, none⟩ = some v)
  (hu : P.underlying ty = some d) (hd : (match d with | .struct _ | .array _ _ => true | _ => false) = true) (hi : (P.info? ty).map (·.size) = some cs.size) :
  (loadVar ty ⟨g, off, none⟩).run P w = .ok (.agg cs) w := by
 have hl : (loadCells ⟨g, off, none⟩ cs.toList.length).run P w = .ok cs.toList.toArray w :=
  run_loadCells_list (P := P) w ⟨g, off, none⟩ cs.toList (fun j v hv => by
   have hadd : (⟨g, off, none⟩ : Addr).add j = ⟨g, off + j, none⟩ := by unfold Addr.add; split <;> simp_all
   rw [hadd]
   exact hc j v (by simpa using hv))
 cases hq : P.info? ty with
 | none => simp [hq] at hi
 | some i =>
  have hs : i.size = cs.size := by simpa [hq] using hi
  have hagg : (isAgg ty).run P w = .ok true w := by
   unfold isAgg
   rw [Sem.run_bind, run_underlying hu w]
   cases d <;> simp_all
  simp only [Array.length_toList, Array.toArray_toList] at hl
  simp [loadVar, Sem.run_bind, hagg, sizeOf, typeInfo, hq, hs, hl]
theorem wpList_load_part {P : Program} {ops : Array Oper} {rest : List Oper} {o : Oper} {a : Act} {w : World} {Q : Exit → Act → World → Prop} (hgd : o.guard = none) (ty : TypeId) (x : Operand) (ho : o.op = .load ty x)
  (g off : Nat) (hx : a.eval x = .pointer (some ⟨g, off, none⟩)) (cs : Array Value) (d : TypeDesc) (hc : ∀ j v, cs[j]? = some v → w.cell? ⟨g, off + j, none⟩ = some v)
  (hu : P.underlying ty = some d) (hd : (match d with | .struct _ | .array _ _ => true | _ => false) = true) (hi : (P.info? ty).map (·.size) = some cs.size)
  (h : wpList P ops Q rest (a.put o.dst (.agg cs)) w) : wpList P ops Q (o :: rest) a w :=
 wpList_plain hgd fun _ hK => by
  unfold Oper.wp execOp
  simp only [ho, hx, Instr.loadAt, Instr.sureAddr, Sem.run_bind, Sem.run_pure, Result.andThen_ok, run_loadVar_part w g off ty cs d hc hu hd hi]
  exact hK _ _ h
def opArr : Array Value := ((List.range 28).map fun k => Value.string (opW k)).toArray
theorem ow_arr (k : Nat) (hk : k < 28) : opArr[k]? = some (.string (opW k)) := by simp [opArr, hk]
theorem ow_cells {w : World} (h : OpsAt w) : ∀ j v, opArr[j]? = some v → w.cell? ⟨2, 0 + j, none⟩ = some v := fun j v hj => by
 have hlt : j < 28 := by have := (Array.getElem?_eq_some_iff.1 hj).1; simpa [opArr] using this
 rw [ow_arr j hlt] at hj
 rw [Nat.zero_add, h.2 j hlt, hj]
theorem infoOw : (Tryz.prog.info? 150).map (·.size) = some opArr.size := by kernel_rfl
theorem idxR (arr : Array Value) (k : Nat) (v : ByteArray) (hk : k < 28) (hv : arr[k]? = some (.string v)) (W : World) : (Instr.index 150 (.agg arr) (.int .i64 (k : Int))).run Tryz.prog W = .ok (.string v) W := by
 obtain ⟨i, hi, _, hs, _⟩ := info_parts infoSr
 simp [Instr.index, asIntOf, run_underlying Tryz.underlying150, part, isAgg, run_underlying Tryz.underlying9, sizeOf, typeInfo, hi, hs, hv]
 intro h; omega
set_option maxHeartbeats 4000000 in
set_option maxRecDepth 100000 in
theorem opOfI (b : ByteArray) (w : World) (hW : OpsAt w) : Calls Tryz.prog 123 #[.string b] w fun e w' => e = .returned (.int .i64 (opNum b)) ∧ w' = w := by
 have HX : Hid (∀ k : Nat, k < 28 → (Instr.index 150 (.agg opArr) (.int .i64 (k : Int))).run Tryz.prog w = .ok (.string (opW k)) w) := fun k hk => idxR _ k _ hk (ow_arr k hk) w
 have HC : Hid (∀ j v, opArr[j]? = some v → w.cell? ⟨2, 0 + j, none⟩ = some v) := ow_cells hW
 go_enter Tryz.func123, Tryz.ntmps123
 go_wp2_with (refine wpList_load_part rfl 150 _ rfl 2 0 rfl opArr _ HC.out Tryz.underlying150 rfl infoOw ?_)
 go_loop [6] (fun i => ∃ k : Nat, k ≤ 28 ∧ i = .int .i64 k ∧ Hid (opNumL b (opWL.drop k) k = opNum b)) (fun i => 28 - (intOf i).toNat)
 case atStart => exact ⟨0, by omega, rfl, rfl⟩
 case round =>
  obtain ⟨k, hk, rfl, HN⟩ := hrel
  clear hW HC
  by_cases hlt : k < 28
  ·have hi := HX.out k hlt
   by_cases hx : opW k = b
   ·have HE : Hid (opNum b = k) := by show _ = _; rw [← HN.out, opNum_hit hlt hx]
    clear HN
    go_wp2_with fail
    go_ret
    exact ⟨by rw [HE.out]; rfl, rfl⟩
   ·have HE : Hid (opNumL b (opWL.drop (k + 1)) (k + 1) = opNum b) := by show _ = _; rw [← HN.out, opNum_miss hlt hx]
    have hx2 := str_ne hx
    clear HN
    go_wp2_with fail
    go_round
    case rel => exact ⟨k + 1, by omega, by go_num, HE.out⟩
    case measure => simp [intOf]; omega
  ·have hke : k = 28 := by omega
   subst hke
   go_wp2_with fail
   go_ret
   exact ⟨by rw [← HN.out]; rfl, rfl⟩
theorem immN (a : Addr) (R : Nat) (op : Int) (w : World) (ho : immB op = true) (h : RwAt w R []) (hv : Gv w 1 (errV a)) :
  Calls Tryz.prog 154 #[.int .i64 op, .pointer (some ⟨R, 0, none⟩)] w fun e w' => e = .panicked [{ v := errV a, recovered := false }] ∧ w' = w := by
 have W := nextN a R w h hv
 have H := hasImmI op w
 rw [ho] at H
 clear ho
 go_enter Tryz.func154, Tryz.ntmps154
 go_wp2_with fail
 refine H.mono ?_
 rintro e w1 ⟨rfl, h9⟩
 have h8 := h9.symm
 clear h9
 subst h8
 go_wp2_with fail
 refine W.mono ?_
 rintro e w1 ⟨rfl, h9⟩
 have h8 := h9.symm
 clear h9
 subst h8
 go_wp2_with fail
 exact ⟨rfl, rfl, rfl⟩
theorem immY (R : Nat) (op x : Int) (l : List Int) (w : World) (ho : immB op = true) (h : RwAt w R (x :: l)) (hl : l.length < 1048576) :
  Calls Tryz.prog 154 #[.int .i64 op, .pointer (some ⟨R, 0, none⟩)] w fun e w' => e = .returned (.int .i64 x) ∧ RwAt w' R l ∧ OnlyR R w w' := by
 have W := nextY R x l w h hl
 have H := hasImmI op w
 rw [ho] at H
 clear ho
 go_enter Tryz.func154, Tryz.ntmps154
 go_wp2_with fail
 refine H.mono ?_
 rintro e w1 ⟨rfl, h9⟩
 have h8 := h9.symm
 clear h9
 subst h8
 go_wp2_with fail
 refine W.mono ?_
 rintro e w1 ⟨rfl, h1, h2⟩
 go_wp2_with fail
 go_ret
 exact ⟨rfl, h1, h2⟩
theorem immZ (R : Nat) (op : Int) (w : World) (ho : immB op = false) :
  Calls Tryz.prog 154 #[.int .i64 op, .pointer (some ⟨R, 0, none⟩)] w fun e w' => e = .returned (.int .i64 0) ∧ w' = w := by
 have H := hasImmI op w
 rw [ho] at H
 clear ho
 go_enter Tryz.func154, Tryz.ntmps154
 go_wp2_with fail
 refine H.mono ?_
 rintro e w1 ⟨rfl, h9⟩
 have h8 := h9.symm
 clear h9
 subst h8
 go_wp2_with fail
 go_ret
 exact ⟨rfl, rfl⟩
structure ErrsAt (w : World) : Prop where
 s : ∃ ev, Gv w 9 ev ∧ (ev = .nilIface ∨ ∃ te pe, ev = .iface te pe)
 r : ∃ ev, Gv w 10 ev ∧ (ev = .nilIface ∨ ∃ te pe, ev = .iface te pe)
theorem ErrsAt.keep {w w' : World} (h : ErrsAt w) (k : Below w.heap.size w w') : ErrsAt w' := by
 obtain ⟨⟨e1, g1, h1⟩, ⟨e2, g2, h2⟩⟩ := h
 exact ⟨⟨e1, g1.keep k, h1⟩, ⟨e2, g2.keep k, h2⟩⟩
def DecTold (b : ByteArray) (e : Ending) : Prop := (∃ n, DecIs b n ∧ e = .returned (.tuple #[.int .i64 n, .bool true])) ∨ ((¬ ∃ n, DecIs b n) ∧ e = .returned (.tuple #[.int .i64 0, .bool false]))
set_option maxHeartbeats 4000000 in
theorem decimalI (b : ByteArray) (w : World) (hb : b.size ≤ 1048576) (hE : ErrsAt w) (hP : PowAt w) :
  Calls Tryz.prog 80 #[.string b] w fun e w' => DecTold b e ∧ Below w.heap.size w w' := by
 have HP : Hid (PowAt w) := hP
 cases hp : Lib.parseIntB 64 b.data.toList with
 | ok v =>
  have C2 : Calls Tryz.prog 121 #[.string b, .int .i64 10, .int .i64 64] w fun e w' => e = .returned (.tuple #[.int .i64 v, .nilIface]) ∧ Below w.heap.size w w' := (Tryz.strconv_ParseInt_10_at64_ok b (by omega) v hp w).mono fun e w' ⟨h1, h2⟩ => ⟨h1, by
   rcases h2 with rfl | ⟨t, rfl⟩
   ·exact Below.refl _ _
   ·exact Lib.bytesWorld_below _ _ _⟩
  by_cases hv : v < 0
  ·have HN : Hid (¬ ∃ n, DecIs b n) := fun ⟨n, h⟩ => by
    have := dec_parse h
    rw [hp] at this
    cases this
    obtain ⟨k, e, _⟩ := h
    omega
   clear hp hP hE
   go_enter Tryz.func80, Tryz.ntmps80
   go_wp2_with fail
   refine C2.mono ?_
   rintro e w1 ⟨rfl, b1⟩
   go_wp2_with fail
   go_ret2
   exact ⟨.inr ⟨HN.out, rfl⟩, b1⟩
  ·obtain ⟨k, hk⟩ : ∃ k : Nat, v = k := ⟨v.toNat, by omega⟩
   subst hk
   have hm : k ≤ 9223372036854775807 := by
    have := (Lib.parseIntB_bounds hp).2
    simp at this
    omega
   have F : ∀ W, Below w.heap.size w W → Calls Tryz.prog 42 #[.int .i64 (k : Int), .int .i64 10] W fun e w' => e = .returned (.string (bs (Lib.decDigits k))) ∧ Below W.heap.size W w' := fun W hW => (Tryz.strconv_FormatInt_10 k (by omega) (by omega) W (HP.out.keep hW)).mono fun e w' ⟨h1, n, os, h2⟩ => ⟨by rw [h1, itoa_nat]; rfl, by rw [h2]; exact Lib.below_grow _ _ (Nat.le_refl _) _ _⟩
   by_cases he : bs (Lib.decDigits k) = b
   ·have HD : Hid (DecIs b k) := ⟨k, rfl, hm, he.symm⟩
    rw [he] at F
    clear hp hP hE he
    go_enter Tryz.func80, Tryz.ntmps80
    go_wp2_with fail
    refine C2.mono ?_
    rintro e w1 ⟨rfl, b1⟩
    go_wp2_with fail
    refine (F _ b1).mono ?_
    rintro e w2 ⟨rfl, b2⟩
    go_wp2_with fail
    go_ret2
    exact ⟨.inl ⟨k, HD.out, rfl⟩, b1.trans (b2.mono b1.size)⟩
   ·have HN : Hid (¬ ∃ n, DecIs b n) := fun ⟨n, h⟩ => by
     have h1 := dec_parse h
     rw [hp] at h1
     cases h1
     obtain ⟨j, e, _, h2⟩ := h
     have : j = k := by omega
     subst this
     exact he h2.symm
    have hx := str_ne he
    generalize bs (Lib.decDigits k) = fb at F hx
    clear hp hP hE he
    go_enter Tryz.func80, Tryz.ntmps80
    go_wp2_with fail
    refine C2.mono ?_
    rintro e w1 ⟨rfl, b1⟩
    go_wp2_with fail
    refine (F _ b1).mono ?_
    rintro e w2 ⟨rfl, b2⟩
    go_wp2_with fail
    go_ret2
    exact ⟨.inr ⟨HN.out, rfl⟩, b1.trans (b2.mono b1.size)⟩
 | «syntax» =>
  obtain ⟨ev, gv, hev⟩ := hE.s
  have C2 : Calls Tryz.prog 121 #[.string b, .int .i64 10, .int .i64 64] w fun e w' => ∃ N, e = .returned (.tuple #[.int .i64 0, .iface 216 (.pointer (some ⟨N, 0, none⟩))]) ∧ Below w.heap.size w w' := (Tryz.strconv_ParseInt_10_at64_syntax b (by omega) hp ev w gv.cell hev).mono fun e w' ⟨N, h1, _, _, h2⟩ => ⟨N, h1, h2⟩
  have HN : Hid (¬ ∃ n, DecIs b n) := fun ⟨n, h⟩ => by
   have := dec_parse h
   rw [hp] at this
   cases this
  clear hp hP hE
  go_enter Tryz.func80, Tryz.ntmps80
  go_wp2_with fail
  refine C2.mono ?_
  rintro e w1 ⟨N, rfl, b1⟩
  go_wp2_with fail
  go_ret2
  exact ⟨.inr ⟨HN.out, rfl⟩, b1⟩
 | range =>
  obtain ⟨ev, gv, hev⟩ := hE.r
  obtain ⟨q, hq⟩ : ∃ q, Lib.intSat 64 b.data.toList = q := ⟨_, rfl⟩
  have C2 : Calls Tryz.prog 121 #[.string b, .int .i64 10, .int .i64 64] w fun e w' => ∃ N, e = .returned (.tuple #[.int .i64 q, .iface 216 (.pointer (some ⟨N, 0, none⟩))]) ∧ Below w.heap.size w w' := (Tryz.strconv_ParseInt_10_at64_range b (by omega) hp ev w gv.cell hev).mono fun e w' ⟨N, h1, _, _, h2⟩ => ⟨N, by rw [← hq]; exact h1, h2⟩
  have HN : Hid (¬ ∃ n, DecIs b n) := fun ⟨n, h⟩ => by
   have := dec_parse h
   rw [hp] at this
   cases this
  clear hp hP hE hq
  go_enter Tryz.func80, Tryz.ntmps80
  go_wp2_with fail
  refine C2.mono ?_
  rintro e w1 ⟨N, rfl, b1⟩
  go_wp2_with fail
  go_ret2
  exact ⟨.inr ⟨HN.out, rfl⟩, b1⟩
end Go.Proofs.YtkpmiikafconmaaGreatDoor
