/- Reading: the program's instruction of a text. -/
import Derived.Test.YtclagbdomfgodaaGreatDoorRiEQ
import Derived.Test.YtclagbdomfgodaaGreatDoorTxIQ
import Derived.Defers
import Derived.Recover
import Derived.Laws.Pointers
namespace Go.Proofs.YtclagbdomfgodaaGreatDoor
open Go.RowKit
set_option linter.unusedVariables false
set_option linter.unusedSimpArgs false

/-- What is told of a text that is read. -/
def TextTold (s : ByteArray) (a : Addr) (base : Nat) (w : World) (e : Ending) : Prop := (∃ i, ReadOk s i ∧ InstNew w base i e) ∨ ((¬ ∃ i, ReadOk s i) ∧ e = .panicked [{ v := errV a, recovered := false }])
theorem fin_args {op x m : Int} {l : List Int} {i : InstD} (h : finN op x m l = some i) : i.args.length ≤ l.length := by
  unfold finN at h
  split at h
  · cases h
    unfold mkD
    split
    · exact Nat.le_refl _
    · exact Nat.zero_le _
  · cases h
theorem of_args {op : Int} {nums : List Int} {i : InstD} (h : ofNums op nums = some i) : i.args.length ≤ nums.length := by
  cases nums with
  | nil => cases h
  | cons x r =>
    cases hb : immB op with
    | true =>
      cases r with
      | nil => simp [ofNums, hb] at h
      | cons m r2 =>
        simp only [ofNums, hb, if_true] at h
        have := fin_args h
        simp only [List.length_cons]
        omega
    | false =>
      simp only [ofNums, hb, Bool.false_eq_true, if_false] at h
      have := fin_args h
      simp only [List.length_cons]
      omega
theorem intsOf {w : World} {lo : Nat} {u : Option Addr} {n q : Nat} {l : List Int} (h : Row w lo (.slice u n q) l) (hl : l.length ≤ 1048576) : IntsAt w lo u l := by
  obtain ⟨u', c', e, k⟩ := Row.ints (by omega) h
  cases e
  exact k
structure Tst (i : InstD) (u : Option Addr) (q : Nat) (w W : World) (B : Nat) : Prop where
  hB : w.heap.size < B
  r : At W w.heap.size #[.int .i64 0, .int .i64 0, .int .i64 0, .int .i64 0, .int .i64 0, .int .i64 0, .slice none 0 0] 33
  b : At W B #[.int .i64 i.op, .int .i64 i.w, .int .i64 i.a, .int .i64 i.b, .int .i64 i.c, .int .i64 i.imm, .slice u i.args.length q] 33
  row : Row W (w.heap.size + 1) (.slice u i.args.length q) i.args
  below : Below w.heap.size w W
theorem Tst.keep {i : InstD} {u : Option Addr} {q : Nat} {w W W2 : World} {B : Nat} (h : Tst i u q w W B) (k : Below W.heap.size W W2) : Tst i u q w W2 B :=
  ⟨h.hB, h.r.below k, h.b.below k, h.row.keep k, h.below.trans (k.mono h.below.size)⟩
theorem Tst.cells {i : InstD} {u : Option Addr} {q : Nat} {w W : World} {B : Nat} (h : Tst i u q w W B) : W.cell? ⟨B, 0, none⟩ = some (.int .i64 i.op) ∧ W.cell? ⟨B, 1, none⟩ = some (.int .i64 i.w) ∧ W.cell? ⟨B, 2, none⟩ = some (.int .i64 i.a) ∧ W.cell? ⟨B, 3, none⟩ = some (.int .i64 i.b) ∧ W.cell? ⟨B, 4, none⟩ = some (.int .i64 i.c) ∧ W.cell? ⟨B, 5, none⟩ = some (.int .i64 i.imm) ∧ W.cell? ⟨B, 6, none⟩ = some (.slice u i.args.length q) :=
  ⟨h.b.cell 0, h.b.cell 1, h.b.cell 2, h.b.cell 3, h.b.cell 4, h.b.cell 5, h.b.cell 6⟩
set_option maxHeartbeats 8000000 in
set_option maxRecDepth 100000 in
theorem instOfTextI (a : Addr) (s : ByteArray) (w : World) (hs : s.size ≤ 1048576) (hv : Gv w 1 (errV a)) (hE : ErrsAt w) (hP : PowAt w) (hO : OpsAt w) :
    Calls Tryz.prog 19 #[.string s] w fun e w' => TextTold s a w.heap.size w' e ∧ Below w.heap.size w w' := by
  have B1 : Below w.heap.size w (w.alloc (.cells #[.int .i64 0, .int .i64 0, .int .i64 0, .int .i64 0, .int .i64 0, .int .i64 0, .slice none 0 0] 33)) := (Below.refl _ _).alloc (Nat.le_refl _) _
  have A1 := At.new w #[.int .i64 0, .int .i64 0, .int .i64 0, .int .i64 0, .int .i64 0, .int .i64 0, .slice none 0 0] 33
  have e1 : (w.alloc (.cells #[.int .i64 0, .int .i64 0, .int .i64 0, .int .i64 0, .int .i64 0, .int .i64 0, .slice none 0 0] 33)).heap.size = w.heap.size + 1 := by simp
  have LI := lineI2 a s (w.alloc (.cells #[.int .i64 0, .int .i64 0, .int .i64 0, .int .i64 0, .int .i64 0, .int .i64 0, .slice none 0 0] 33)) hs (hv.keep B1) (hE.keep B1) (hP.keep B1)
  have HB1 : Hid (Below w.heap.size w _) := B1
  have HA1 : Hid (At _ w.heap.size #[.int .i64 0, .int .i64 0, .int .i64 0, .int .i64 0, .int .i64 0, .int .i64 0, .slice none 0 0] 33) := A1
  have HV : Hid (Gv w 1 (errV a)) := hv
  have HO : Hid (OpsAt w) := hO
  have he1 : Hid ((w.alloc (.cells #[.int .i64 0, .int .i64 0, .int .i64 0, .int .i64 0, .int .i64 0, .int .i64 0, .slice none 0 0] 33)).heap.size = w.heap.size + 1) := e1
  clear B1 A1 e1 hv hO hE hP
  go_enter Tryz.func19, Tryz.ntmps19
  go_wp2_with fail
  generalize (w.alloc (.cells #[.int .i64 0, .int .i64 0, .int .i64 0, .int .i64 0, .int .i64 0, .int .i64 0, .slice none 0 0] 33)) = W1 at HB1 HA1 LI he1 ⊢
  refine LI.mono ?_
  rintro e w1 ⟨hc, b1⟩
  have HB2 : Hid (Below w.heap.size w w1) := HB1.out.trans (b1.mono HB1.out.size)
  have HA2 : Hid (At w1 w.heap.size #[.int .i64 0, .int .i64 0, .int .i64 0, .int .i64 0, .int .i64 0, .int .i64 0, .slice none 0 0] 33) := HA1.out.below b1
  have he2 : Hid (w.heap.size + 1 ≤ w1.heap.size) := by show _ ≤ _; rw [← he1.out]; exact b1.size
  clear LI b1 HB1 HA1
  rcases hc with ⟨w0, ws, nums, v, hp, hn, rfl, hR⟩ | ⟨hno, rfl⟩
  rotate_left
  · have HNo : Hid (¬ ∃ i, ReadOk s i) := read_none hno
    clear hno
    go_wp2_with fail
    exact ⟨rfl, .inr ⟨HNo.out, rfl⟩, HB2.out⟩
  have hlen : nums.length ≤ 1048576 := by
    have h1 := pieces_len s
    have h2 := count_size s
    have h3 := hn.1
    rw [hp] at h1
    simp at h1
    omega
  rw [he1.out] at hR
  obtain ⟨u0, c0, rfl⟩ := hR.slice
  have P := instOfLineI a (w.heap.size + 1) w0 u0 c0 nums w1 hR hlen (HO.out.keep HB2.out) (HV.out.keep HB2.out)
  have HRI : Hid (∀ i, ReadOk s i ↔ (ofNums (opNum w0) nums = some i ∧ instB i 60 3 = true)) := read_iff hp hn
  have Hlen : Hid (nums.length ≤ 1048576) := hlen
  clear hlen hp hn hR he1
  go_wp2_with fail
  refine P.mono ?_
  rintro e w2 ⟨hc, b2⟩
  have HB3 : Hid (Below w.heap.size w w2) := HB2.out.trans (b2.mono HB2.out.size)
  have HA3 : Hid (At w2 w.heap.size #[.int .i64 0, .int .i64 0, .int .i64 0, .int .i64 0, .int .i64 0, .int .i64 0, .slice none 0 0] 33) := HA2.out.below b2
  have he3 : Hid (w.heap.size + 1 ≤ w2.heap.size) := Nat.le_trans he2.out b2.size
  clear P b2 HB2 HA2
  rcases hc with ⟨i, hi, hN⟩ | ⟨hno, rfl⟩
  rotate_left
  · have HNo : Hid (¬ ∃ i, ReadOk s i) := by
      rintro ⟨i, hi⟩
      have := ((HRI.out i).1 hi).1
      rw [hno] at this
      cases this
    clear hno
    go_wp2_with fail
    exact ⟨rfl, .inr ⟨HNo.out, rfl⟩, HB3.out⟩
  obtain ⟨u, q, rfl, hR⟩ := hN
  have hRd : Hid (instB i 60 3 = true → ReadOk s i) := fun k => (HRI.out i).2 ⟨hi, k⟩
  have hRn : Hid (instB i 60 3 = false → ¬ ∃ i, ReadOk s i) := by
    rintro k ⟨j, hj⟩
    obtain ⟨j1, j2⟩ := (HRI.out j).1 hj
    rw [hi] at j1
    cases j1
    rw [k] at j2
    cases j2
  have hal : i.args.length ≤ 1048576 := Nat.le_trans (of_args hi) Hlen.out
  have Hal : Hid (i.args.length ≤ 1048576) := hal
  have hlt := he3.out
  have hT : Hid (Tst i u q w (w2.alloc (.cells #[.int .i64 i.op, .int .i64 i.w, .int .i64 i.a, .int .i64 i.b, .int .i64 i.c, .int .i64 i.imm, .slice u i.args.length q] 33)) w2.heap.size) := ⟨he3.out, HA3.out.below ((Below.refl _ _).alloc (Nat.le_refl _) _), At.new _ _ _, Row.alloc (hR.low he2.out) _, HB3.out.alloc HB3.out.size _⟩
  obtain ⟨B, hBe⟩ : ∃ B, w2.heap.size = B := ⟨_, rfl⟩
  have heB : Hid (w2.heap.size = B) := hBe
  clear hi hR HRI hal HB3 HA3 he3 he2 hBe
  go_wp2_with fail
  rw [heB.out] at hT hlt ⊢
  generalize (w2.alloc (.cells #[.int .i64 i.op, .int .i64 i.w, .int .i64 i.a, .int .i64 i.b, .int .i64 i.c, .int .i64 i.imm, .slice u i.args.length q] 33)) = W3 at hT ⊢
  have T0 := hT.out.keep (W2 := W3.drew) ((Below.refl _ _).drew)
  have s0 := T0.cells
  clear heB
  cases hok : instB i 60 3 with
  | false =>
    refine wp_region_held_drew (S := fun w' => Below W3.heap.size W3 w') (by kernel_rfl) ((Below.refl _ _).drew) (fun hHeld => ?_)
    refine wpAnyH_take (i := 0) (v := ?_) rfl (by kernel_rfl) (by kernel_rfl) (by kernel_rfl) (fun _ _ _ h => h) (Or.inl ⟨by rfl, ?_⟩) hHeld ?_
    rotate_left
    · intro w9 hS9
      have g0 := (hT.out.keep hS9).b.cell 0
      have g1 := (hT.out.keep hS9).b.cell 1
      have g2 := (hT.out.keep hS9).b.cell 2
      have g3 := (hT.out.keep hS9).b.cell 3
      have g4 := (hT.out.keep hS9).b.cell 4
      have g5 := (hT.out.keep hS9).b.cell 5
      have g6 := (hT.out.keep hS9).b.cell 6
      go_simp
      try with_reducible rfl
    show wpAnyH _ _ _ _ _ _ _ (Act.put _ (some _) _) _
    simp only [Act.put, List.setIfInBounds_toArray, List.set_cons_zero, List.set_cons_succ]
    refine wpAnyH_ready (rs := [1]) (by kernel_rfl) (by simp) ?_
    refine AllReadyH.cons rfl (fun K hK => ?_) AllReadyH.nil
    go_simp
    go_wp2_with (go_at_call 25; refine (roomI _).mono ?_; rintro e w4 ⟨rfl, bb⟩; have bc := hHeld.trans (bb.mono hHeld.size))
    refine hK.out _ _ ?_ (fun hHeld2 => ?_)
    · exact bc
    clear hK K
    have hPrev := hHeld
    clear hHeld
    have hHeld := hHeld2
    clear hHeld2 bc
    try simp only [Act.put, List.setIfInBounds_toArray, List.set_cons_zero, List.set_cons_succ]
    have T1 := hT.out.keep hHeld
    refine wpAnyH_ready (rs := [2]) (by kernel_rfl) (by simp) ?_
    refine AllReadyH.cons rfl (fun K hK => ?_) AllReadyH.nil
    go_simp
    go_wp2_with (go_at_call 24; refine (instShI _ i u q 60 10 3 _ Hal.out (intsOf T1.row Hal.out)).mono ?_; rintro e w5 ⟨rfl, bb⟩; have bc := hHeld.trans (bb.mono hHeld.size))
    refine hK.out _ _ ?_ (fun hHeld2 => ?_)
    · exact bc
    clear hK K
    have hPrev := hHeld
    clear hHeld
    have hHeld := hHeld2
    clear hHeld2 bc
    try simp only [Act.put, List.setIfInBounds_toArray, List.set_cons_zero, List.set_cons_succ]
    have T2 := hT.out.keep hHeld
    refine wpAnyH_ready (rs := [3]) (by kernel_rfl) (by simp) ?_
    refine AllReadyH.cons rfl (fun K hK => ?_) AllReadyH.nil
    go_simp
    go_wp2_with (go_at_call 40; refine (wantN a _ (HV.out.keep T2.below)).mono ?_; rintro e w6 ⟨rfl, h9⟩; have h8 := h9.symm; clear h9; subst h8)
    exact ⟨rfl, .inr ⟨hRn.out hok, rfl⟩, T2.below⟩
  | true =>
    go_region_held2 (fun w' => w'.cell? ⟨B, 0, none⟩ = some (.int .i64 i.op) ∧ w'.cell? ⟨B, 1, none⟩ = some (.int .i64 i.w) ∧ w'.cell? ⟨B, 2, none⟩ = some (.int .i64 i.a) ∧ w'.cell? ⟨B, 3, none⟩ = some (.int .i64 i.b) ∧ w'.cell? ⟨B, 4, none⟩ = some (.int .i64 i.c) ∧ w'.cell? ⟨B, 5, none⟩ = some (.int .i64 i.imm) ∧ w'.cell? ⟨B, 6, none⟩ = some (.slice u i.args.length q)) (first | with_reducible exact s0 | with_reducible exact s1 | with_reducible exact s2) (first | (go_at_call 25; refine (roomI _).mono ?_; rintro e w4 ⟨rfl, b4⟩; have b4 := drop_drewT b4; have T1 := hT.out.keep b4; have s1 := T1.cells) | (go_at_call 24; refine (instShI _ i u q 60 10 3 _ Hal.out (intsOf T1.row Hal.out)).mono ?_; rintro e w5 ⟨rfl, b5⟩; have T2 := T1.keep b5; have s2 := T2.cells; rw [hok]) | (go_at_call 40; refine (wantY _).mono ?_; rintro e w6 ⟨rfl, h9⟩; have h8 := h9.symm; clear h9; subst h8) | fail)
    all_goals
      obtain ⟨y0, y1, y2, y3, y4, y5, y6⟩ := s2
      have HT2 : Hid (Tst i u q w w5 B) := T2
      have HRd := hRd.out hok
      have z0 : w5.cell? ⟨w.heap.size, 0, none⟩ = some (.int .i64 0) := T2.r.cell 0
      have z1 : w5.cell? ⟨w.heap.size, 1, none⟩ = some (.int .i64 0) := T2.r.cell 1
      have z2 : w5.cell? ⟨w.heap.size, 2, none⟩ = some (.int .i64 0) := T2.r.cell 2
      have z3 : w5.cell? ⟨w.heap.size, 3, none⟩ = some (.int .i64 0) := T2.r.cell 3
      have z4 : w5.cell? ⟨w.heap.size, 4, none⟩ = some (.int .i64 0) := T2.r.cell 4
      have z5 : w5.cell? ⟨w.heap.size, 5, none⟩ = some (.int .i64 0) := T2.r.cell 5
      have z6 : w5.cell? ⟨w.heap.size, 6, none⟩ = some (.slice none 0 0) := T2.r.cell 6
      have zf : ∀ o, w5.frozen? ⟨w.heap.size, o, none⟩ = false := fun o => froz_of_heap T2.r
      have HRd2 : Hid (ReadOk s i) := HRd
      clear s0 s1 T1 T0 b4 b5 T2 hok HRd hRd hRn
      go_wp2_with fail
      have hrr := (heap_set (o := 6) (v := .slice u i.args.length q) (heap_set (o := 5) (v := .int .i64 i.imm) (heap_set (o := 4) (v := .int .i64 i.c) (heap_set (o := 3) (v := .int .i64 i.b) (heap_set (o := 2) (v := .int .i64 i.a) (heap_set (o := 1) (v := .int .i64 i.w) (heap_set (o := 0) (v := .int .i64 i.op) HT2.out.r)))))))
      refine bodyPost_ret (v := .agg #[.int .i64 i.op, .int .i64 i.w, .int .i64 i.a, .int .i64 i.b, .int .i64 i.c, .int .i64 i.imm, .slice u i.args.length q]) ((results_cell_row Tryz.results19 _ _ w.heap.size 33 _ (0, 0) _ rfl hrr Tryz.underlying33 rfl (by kernel_rfl)).trans (by rfl)) rfl ⟨.inl ⟨i, HRd2.out, u, q, rfl, (row_set7 HT2.out.row (by omega)).low (by omega)⟩, ?_⟩
      exact (by repeat (first | refine Below.setCell ?_ (by dsimp only; omega) _ | exact HT2.out.below))
end Go.Proofs.YtclagbdomfgodaaGreatDoor
namespace Go.Proofs.YtclagbdomfgodaaGreatDoor
open Go.RowKit
set_option linter.unusedVariables false
set_option linter.unusedSimpArgs false

set_option maxHeartbeats 8000000 in
set_option maxRecDepth 100000 in
theorem read1I (a : Addr) (g : Nat) (s : ByteArray) (w : World) (hg : Gv w g (.string s)) (hs : s.size ≤ 1048576) (hv : Gv w 1 (errV a)) (hE : ErrsAt w) (hP : PowAt w) (hO : OpsAt w) :
    Calls Tryz.prog 18 #[.pointer (some ⟨g, 0, none⟩)] w fun e w' => TextTold s a w.heap.size w' e ∧ Below w.heap.size w w' := by
  have B1 : Below w.heap.size w (w.alloc (.cells #[.int .i64 0, .int .i64 0, .int .i64 0, .int .i64 0, .int .i64 0, .int .i64 0, .slice none 0 0] 33)) := (Below.refl _ _).alloc (Nat.le_refl _) _
  have A1 := At.new w #[.int .i64 0, .int .i64 0, .int .i64 0, .int .i64 0, .int .i64 0, .int .i64 0, .slice none 0 0] 33
  have e1 : (w.alloc (.cells #[.int .i64 0, .int .i64 0, .int .i64 0, .int .i64 0, .int .i64 0, .int .i64 0, .slice none 0 0] 33)).heap.size = w.heap.size + 1 := by simp
  have P := instOfTextI a s (w.alloc (.cells #[.int .i64 0, .int .i64 0, .int .i64 0, .int .i64 0, .int .i64 0, .int .i64 0, .slice none 0 0] 33)) hs (hv.keep B1) (hE.keep B1) (hP.keep B1) (hO.keep B1)
  rw [e1] at P
  have c := (hg.keep B1).cell
  have HB1 : Hid (Below w.heap.size w _) := B1
  have HA1 : Hid (At _ w.heap.size #[.int .i64 0, .int .i64 0, .int .i64 0, .int .i64 0, .int .i64 0, .int .i64 0, .slice none 0 0] 33) := A1
  have he1 : Hid ((w.alloc (.cells #[.int .i64 0, .int .i64 0, .int .i64 0, .int .i64 0, .int .i64 0, .int .i64 0, .slice none 0 0] 33)).heap.size = w.heap.size + 1) := e1
  clear B1 A1 hv hO hE hP hg e1
  go_enter Tryz.func18, Tryz.ntmps18
  go_wp2_with fail
  generalize (w.alloc (.cells #[.int .i64 0, .int .i64 0, .int .i64 0, .int .i64 0, .int .i64 0, .int .i64 0, .slice none 0 0] 33)) = W1 at HB1 HA1 P c he1 ⊢
  refine P.mono ?_
  rintro e w2 ⟨hc, b2⟩
  rw [← he1.out] at b2
  have HB2 : Hid (Below w.heap.size w w2) := HB1.out.trans (b2.mono HB1.out.size)
  have HA2 : Hid (At w2 w.heap.size #[.int .i64 0, .int .i64 0, .int .i64 0, .int .i64 0, .int .i64 0, .int .i64 0, .slice none 0 0] 33) := HA1.out.below b2
  clear P c b2 HB1 HA1
  rcases hc with ⟨i, hi, u, q, rfl, hR⟩ | ⟨hno, rfl⟩
  · have HR : Hid (Row w2 (w.heap.size + 1) (.slice u i.args.length q) i.args) := hR
    have HRd : Hid (ReadOk s i) := hi
    clear hi hR he1
    have z0 : w2.cell? ⟨w.heap.size, 0, none⟩ = some (.int .i64 0) := HA2.out.cell 0
    have z1 : w2.cell? ⟨w.heap.size, 1, none⟩ = some (.int .i64 0) := HA2.out.cell 1
    have z2 : w2.cell? ⟨w.heap.size, 2, none⟩ = some (.int .i64 0) := HA2.out.cell 2
    have z3 : w2.cell? ⟨w.heap.size, 3, none⟩ = some (.int .i64 0) := HA2.out.cell 3
    have z4 : w2.cell? ⟨w.heap.size, 4, none⟩ = some (.int .i64 0) := HA2.out.cell 4
    have z5 : w2.cell? ⟨w.heap.size, 5, none⟩ = some (.int .i64 0) := HA2.out.cell 5
    have z6 : w2.cell? ⟨w.heap.size, 6, none⟩ = some (.slice none 0 0) := HA2.out.cell 6
    have zf : ∀ o, w2.frozen? ⟨w.heap.size, o, none⟩ = false := fun o => froz_of_heap HA2.out
    go_wp2_with fail
    have hrr := (heap_set (o := 6) (v := .slice u i.args.length q) (heap_set (o := 5) (v := .int .i64 i.imm) (heap_set (o := 4) (v := .int .i64 i.c) (heap_set (o := 3) (v := .int .i64 i.b) (heap_set (o := 2) (v := .int .i64 i.a) (heap_set (o := 1) (v := .int .i64 i.w) (heap_set (o := 0) (v := .int .i64 i.op) HA2.out)))))))
    refine bodyPost_ret (v := .agg #[.int .i64 i.op, .int .i64 i.w, .int .i64 i.a, .int .i64 i.b, .int .i64 i.c, .int .i64 i.imm, .slice u i.args.length q]) ((results_cell_row Tryz.results18 _ _ w.heap.size 33 _ (0, 0) _ rfl hrr Tryz.underlying33 rfl (by kernel_rfl)).trans (by rfl)) rfl ⟨.inl ⟨i, HRd.out, u, q, rfl, (row_set7 HR.out (by omega)).low (by omega)⟩, ?_⟩
    exact (by repeat (first | refine Below.setCell ?_ (by dsimp only; omega) _ | exact HB2.out))
  · have HNo : Hid (¬ ∃ i, ReadOk s i) := hno
    clear hno
    go_wp2_with fail
    exact ⟨rfl, .inr ⟨HNo.out, rfl⟩, HB2.out⟩
set_option maxHeartbeats 8000000 in
set_option maxRecDepth 100000 in
theorem catchY (p r : Nat) (u : TypeId) (pv : Value) (older : List PanicEntry) (w : World) (b : Bool) (hpr : p < r) (hp : At w p #[.int .i64 0, .int .i64 0, .int .i64 0, .int .i64 0, .int .i64 0, .int .i64 0, .slice none 0 0] 33) (hr : At w r #[.bool b] 4) :
    CallsD Tryz.prog 37 #[.pointer (some ⟨p, 0, none⟩), .pointer (some ⟨r, 0, none⟩)] (.panicking ({ v := .iface u pv, recovered := false } :: older)) w fun e u' w' =>
      e = .returned (.tuple #[]) ∧ u' = .panicking ({ v := .iface u pv, recovered := true } :: older) ∧ At w' p #[.int .i64 0, .int .i64 0, .int .i64 0, .int .i64 0, .int .i64 0, .int .i64 0, .slice none 0 0] 33 ∧ At w' r #[.bool false] 4 ∧ Below p w w' := by
  have hlp : p < w.heap.size := hp.lt
  have hlr : r < w.heap.size := hr.lt
  have B1 : Below w.heap.size w (w.alloc (.cells #[.int .i64 0, .int .i64 0, .int .i64 0, .int .i64 0, .int .i64 0, .int .i64 0, .slice none 0 0] 33)) := (Below.refl _ _).alloc (Nat.le_refl _) _
  have HP : Hid (At (w.alloc (.cells #[.int .i64 0, .int .i64 0, .int .i64 0, .int .i64 0, .int .i64 0, .int .i64 0, .slice none 0 0] 33)) p #[.int .i64 0, .int .i64 0, .int .i64 0, .int .i64 0, .int .i64 0, .int .i64 0, .slice none 0 0] 33) := hp.below B1
  have HR : Hid (At (w.alloc (.cells #[.int .i64 0, .int .i64 0, .int .i64 0, .int .i64 0, .int .i64 0, .int .i64 0, .slice none 0 0] 33)) r #[.bool b] 4) := hr.below B1
  have HN : Hid (At (w.alloc (.cells #[.int .i64 0, .int .i64 0, .int .i64 0, .int .i64 0, .int .i64 0, .int .i64 0, .slice none 0 0] 33)) w.heap.size #[.int .i64 0, .int .i64 0, .int .i64 0, .int .i64 0, .int .i64 0, .int .i64 0, .slice none 0 0] 33) := At.new _ _ _
  have HB : Hid (Below p w (w.alloc (.cells #[.int .i64 0, .int .i64 0, .int .i64 0, .int .i64 0, .int .i64 0, .int .i64 0, .slice none 0 0] 33))) := B1.mono (by omega)
  clear B1 hp hr
  refine callsD_of_wpS Tryz.func37 rfl fun c₀ cs hu => ?_
  apply wpS_seq
  apply wpS_region
  simp [wpOpsS, go_sem, recoverD, hu, Tryz.ntmps37, Exit.thenS]
  refine wpS_cond (t := true) (by simp [Act.eval, Array.replicate]) ?_
  simp only [if_true]
  refine wpS_of_wp ?_
  simp only [Array.replicate, List.replicate, List.setIfInBounds_toArray, List.set_cons_zero, List.set_cons_succ, List.append_toArray, List.cons_append, List.nil_append]
  obtain ⟨W, hW⟩ : ∃ W, (w.alloc (.cells #[.int .i64 0, .int .i64 0, .int .i64 0, .int .i64 0, .int .i64 0, .int .i64 0, .slice none 0 0] 33)) = W := ⟨_, rfl⟩
  rw [hW] at HP HR HN HB
  have z0 : W.cell? ⟨p, 0, none⟩ = some (.int .i64 0) := HP.out.cell 0
  have z1 : W.cell? ⟨p, 1, none⟩ = some (.int .i64 0) := HP.out.cell 1
  have z2 : W.cell? ⟨p, 2, none⟩ = some (.int .i64 0) := HP.out.cell 2
  have z3 : W.cell? ⟨p, 3, none⟩ = some (.int .i64 0) := HP.out.cell 3
  have z4 : W.cell? ⟨p, 4, none⟩ = some (.int .i64 0) := HP.out.cell 4
  have z5 : W.cell? ⟨p, 5, none⟩ = some (.int .i64 0) := HP.out.cell 5
  have z6 : W.cell? ⟨p, 6, none⟩ = some (.slice none 0 0) := HP.out.cell 6
  have y0 : W.cell? ⟨w.heap.size, 0, none⟩ = some (.int .i64 0) := HN.out.cell 0
  have y1 : W.cell? ⟨w.heap.size, 1, none⟩ = some (.int .i64 0) := HN.out.cell 1
  have y2 : W.cell? ⟨w.heap.size, 2, none⟩ = some (.int .i64 0) := HN.out.cell 2
  have y3 : W.cell? ⟨w.heap.size, 3, none⟩ = some (.int .i64 0) := HN.out.cell 3
  have y4 : W.cell? ⟨w.heap.size, 4, none⟩ = some (.int .i64 0) := HN.out.cell 4
  have y5 : W.cell? ⟨w.heap.size, 5, none⟩ = some (.int .i64 0) := HN.out.cell 5
  have y6 : W.cell? ⟨w.heap.size, 6, none⟩ = some (.slice none 0 0) := HN.out.cell 6
  have zf : ∀ o, W.frozen? ⟨p, o, none⟩ = false := fun o => froz_of_heap HP.out
  have x0 : W.cell? ⟨r, 0, none⟩ = some (.bool b) := HR.out.cell 0
  have xf : W.frozen? ⟨r, 0, none⟩ = false := froz_of_heap HR.out
  have npr : p ≠ r := by omega
  have nrp : r ≠ p := by omega
  go_wp2_with fail
  have h0 : At (((((((W.setCell ⟨p, 0, none⟩ (.int .i64 0)).setCell ⟨p, 1, none⟩ (.int .i64 0)).setCell ⟨p, 2, none⟩ (.int .i64 0)).setCell ⟨p, 3, none⟩ (.int .i64 0)).setCell ⟨p, 4, none⟩ (.int .i64 0)).setCell ⟨p, 5, none⟩ (.int .i64 0)).setCell ⟨p, 6, none⟩ (.slice none 0 0)) p #[.int .i64 0, .int .i64 0, .int .i64 0, .int .i64 0, .int .i64 0, .int .i64 0, .slice none 0 0] 33 := (heap_set (o := 6) (v := .slice none 0 0) (heap_set (o := 5) (v := .int .i64 0) (heap_set (o := 4) (v := .int .i64 0) (heap_set (o := 3) (v := .int .i64 0) (heap_set (o := 2) (v := .int .i64 0) (heap_set (o := 1) (v := .int .i64 0) (heap_set (o := 0) (v := .int .i64 0) HP.out)))))))
  have h1 := h0.setOther (gi := r) (o := 0) (v := .bool false) npr
  clear h0
  have h2 := heap_set (o := 0) (v := .bool false) ((((((((HR.out.setOther (gi := p) (o := 0) (v := .int .i64 0) nrp).setOther (gi := p) (o := 1) (v := .int .i64 0) nrp).setOther (gi := p) (o := 2) (v := .int .i64 0) nrp).setOther (gi := p) (o := 3) (v := .int .i64 0) nrp).setOther (gi := p) (o := 4) (v := .int .i64 0) nrp).setOther (gi := p) (o := 5) (v := .int .i64 0) nrp).setOther (gi := p) (o := 6) (v := .slice none 0 0) nrp))
  have h3 : Below p w ((((((((W.setCell ⟨p, 0, none⟩ (.int .i64 0)).setCell ⟨p, 1, none⟩ (.int .i64 0)).setCell ⟨p, 2, none⟩ (.int .i64 0)).setCell ⟨p, 3, none⟩ (.int .i64 0)).setCell ⟨p, 4, none⟩ (.int .i64 0)).setCell ⟨p, 5, none⟩ (.int .i64 0)).setCell ⟨p, 6, none⟩ (.slice none 0 0)).setCell ⟨r, 0, none⟩ (.bool false)) := by repeat (first | refine Below.setCell ?_ (by dsimp only; omega) _ | exact HB.out)
  clear HP HR HN HB z0 z1 z2 z3 z4 z5 z6 y0 y1 y2 y3 y4 y5 y6 zf x0 xf hW
  generalize ((((((((W.setCell ⟨p, 0, none⟩ (.int .i64 0)).setCell ⟨p, 1, none⟩ (.int .i64 0)).setCell ⟨p, 2, none⟩ (.int .i64 0)).setCell ⟨p, 3, none⟩ (.int .i64 0)).setCell ⟨p, 4, none⟩ (.int .i64 0)).setCell ⟨p, 5, none⟩ (.int .i64 0)).setCell ⟨p, 6, none⟩ (.slice none 0 0)).setCell ⟨r, 0, none⟩ (.bool false)) = W9 at h1 h2 h3 ⊢
  simp [bodyPostS, results, Tryz.results37]
  exact ⟨h1, h2, h3⟩
theorem catchN (p r : Nat) (w : World) :
    CallsD Tryz.prog 37 #[.pointer (some ⟨p, 0, none⟩), .pointer (some ⟨r, 0, none⟩)] .returning w fun e u' w' => e = .returned (.tuple #[]) ∧ u' = .returning ∧ w' = w := by
  refine callsD_of_wpS Tryz.func37 rfl fun c₀ cs hu => ?_
  apply wpS_seq
  apply wpS_region
  simp [wpOpsS, go_sem, recoverD, hu, Tryz.ntmps37, Exit.thenS]
  refine wpS_cond (t := false) (by simp [Act.eval, Array.replicate]) ?_
  simp only [Bool.false_eq_true, if_false]
  refine wpS_of_wp (wp_skip ?_)
  cases c₀
  simp_all [bodyPostS, results, Tryz.results37]
theorem results_two {P : Program} {fn : Func} {p r : Tmp} {ty tb : TypeId} (h : fn.results = #[.cell p ty, .cell r tb]) (tmps : Array Value) (w : World) (g k : Nat) (v1 v2 : Value)
    (hp : tmps.getD p undef = .pointer (some ⟨g, 0, none⟩)) (hr : tmps.getD r undef = .pointer (some ⟨k, 0, none⟩)) (h1 : (loadVar ty ⟨g, 0, none⟩).run P w = .ok v1 w) (h2 : (loadVar tb ⟨k, 0, none⟩).run P w = .ok v2 w) :
    (results fn tmps).run P w = .ok (.tuple #[v1, v2]) w := by
  have hp' : tmps[p]?.getD undef = .pointer (some ⟨g, 0, none⟩) := by simpa using hp
  have hr' : tmps[r]?.getD undef = .pointer (some ⟨k, 0, none⟩) := by simpa using hr
  simp [results, h, hp', hr', asAddr, h1, h2, Result.andThen]
theorem load_bool {w : World} {k : Nat} {b : Bool} (h : At w k #[.bool b] 4) : (loadVar 4 ⟨k, 0, none⟩).run Tryz.prog w = .ok (.bool b) w := by
  have c : w.cell? ⟨k, 0, none⟩ = some (.bool b) := h.cell 0
  simp [go_sem, c]
/-- What reading tells. -/
def ReadTold (s : ByteArray) (base : Nat) (w : World) (e : Ending) : Prop :=
  (∃ i u q, ReadOk s i ∧ e = .returned (.tuple #[.agg #[.int .i64 i.op, .int .i64 i.w, .int .i64 i.a, .int .i64 i.b, .int .i64 i.c, .int .i64 i.imm, .slice u i.args.length q], .bool true]) ∧ Row w base (.slice u i.args.length q) i.args) ∨ ((¬ ∃ i, ReadOk s i) ∧ e = .returned (.tuple #[.agg #[.int .i64 0, .int .i64 0, .int .i64 0, .int .i64 0, .int .i64 0, .int .i64 0, .slice none 0 0], .bool false]))
set_option maxHeartbeats 8000000 in
set_option maxRecDepth 100000 in
theorem readingI (a : Addr) (g : Nat) (s : ByteArray) (w : World) (hg : Gv w g (.string s)) (hs : s.size ≤ 1048576) (hv : Gv w 1 (errV a)) (hE : ErrsAt w) (hP : PowAt w) (hO : OpsAt w) :
    Calls Tryz.prog 17 #[.func (.func 18) #[] #[.pointer (some ⟨g, 0, none⟩)]] w fun e w' => ReadTold s w.heap.size w' e ∧ Below w.heap.size w w' := by
  have hmf : ∀ (fn : Fn) (first cap : Array Value) (w : World), (Instr.makeFunc fn first cap).run Tryz.prog w = .ok (.func fn first cap) w := fun _ _ _ _ => rfl
  have B1 : Below w.heap.size w ((w.alloc (.cells #[.int .i64 0, .int .i64 0, .int .i64 0, .int .i64 0, .int .i64 0, .int .i64 0, .slice none 0 0] 33)).alloc (.cells #[.bool false] 4)) := ((Below.refl _ _).alloc (Nat.le_refl _) _).alloc (by simp) _
  have e1 : ((w.alloc (.cells #[.int .i64 0, .int .i64 0, .int .i64 0, .int .i64 0, .int .i64 0, .int .i64 0, .slice none 0 0] 33)).alloc (.cells #[.bool false] 4)).heap.size = w.heap.size + 2 := by simp
  have A0 : At ((w.alloc (.cells #[.int .i64 0, .int .i64 0, .int .i64 0, .int .i64 0, .int .i64 0, .int .i64 0, .slice none 0 0] 33)).alloc (.cells #[.bool false] 4)) w.heap.size #[.int .i64 0, .int .i64 0, .int .i64 0, .int .i64 0, .int .i64 0, .int .i64 0, .slice none 0 0] 33 := (At.new _ _ _).below ((Below.refl _ _).alloc (Nat.le_refl _) _)
  have A1 : At ((w.alloc (.cells #[.int .i64 0, .int .i64 0, .int .i64 0, .int .i64 0, .int .i64 0, .int .i64 0, .slice none 0 0] 33)).alloc (.cells #[.bool false] 4)) (w.heap.size + 1) #[.bool false] 4 := by
    have h := At.new (w.alloc (.cells #[.int .i64 0, .int .i64 0, .int .i64 0, .int .i64 0, .int .i64 0, .int .i64 0, .slice none 0 0] 33)) #[.bool false] 4
    have e : (w.alloc (.cells #[.int .i64 0, .int .i64 0, .int .i64 0, .int .i64 0, .int .i64 0, .int .i64 0, .slice none 0 0] 33)).heap.size = w.heap.size + 1 := by simp
    rw [e] at h
    exact h
  have P := read1I a g s _ (hg.keep B1) hs (hv.keep B1) (hE.keep B1) (hP.keep B1) (hO.keep B1)
  rw [e1] at P
  have HB1 : Hid (Below w.heap.size w _) := B1
  have HA0 : Hid (At _ w.heap.size #[.int .i64 0, .int .i64 0, .int .i64 0, .int .i64 0, .int .i64 0, .int .i64 0, .slice none 0 0] 33) := A0
  have HA1 : Hid (At _ (w.heap.size + 1) #[.bool false] 4) := A1
  have he1 : Hid (_ = w.heap.size + 2) := e1
  clear B1 A0 A1 e1 hg hv hE hP hO hs
  go_enter_defers Tryz.func17, Tryz.ntmps17
  go_wp2_with fail
  generalize ((w.alloc (.cells #[.int .i64 0, .int .i64 0, .int .i64 0, .int .i64 0, .int .i64 0, .int .i64 0, .slice none 0 0] 33)).alloc (.cells #[.bool false] 4)) = W1 at HB1 HA0 HA1 he1 P ⊢
  refine P.mono ?_
  rintro e w2 ⟨hc, b2⟩
  rw [← he1.out] at b2
  have HB2 : Hid (Below w.heap.size w w2) := HB1.out.trans (b2.mono HB1.out.size)
  have HA2 : Hid (At w2 w.heap.size #[.int .i64 0, .int .i64 0, .int .i64 0, .int .i64 0, .int .i64 0, .int .i64 0, .slice none 0 0] 33) := HA0.out.below b2
  have HA3 : Hid (At w2 (w.heap.size + 1) #[.bool false] 4) := HA1.out.below b2
  clear P b2 HB1 HA0 HA1
  rcases hc with ⟨i, hi, u, q, rfl, hR⟩ | ⟨hno, rfl⟩
  · have HR : Hid (Row w2 (w.heap.size + 2) (.slice u i.args.length q) i.args) := hR
    have HRd : Hid (ReadOk s i) := hi
    clear hi hR he1
    have z0 : w2.cell? ⟨w.heap.size, 0, none⟩ = some (.int .i64 0) := HA2.out.cell 0
    have z1 : w2.cell? ⟨w.heap.size, 1, none⟩ = some (.int .i64 0) := HA2.out.cell 1
    have z2 : w2.cell? ⟨w.heap.size, 2, none⟩ = some (.int .i64 0) := HA2.out.cell 2
    have z3 : w2.cell? ⟨w.heap.size, 3, none⟩ = some (.int .i64 0) := HA2.out.cell 3
    have z4 : w2.cell? ⟨w.heap.size, 4, none⟩ = some (.int .i64 0) := HA2.out.cell 4
    have z5 : w2.cell? ⟨w.heap.size, 5, none⟩ = some (.int .i64 0) := HA2.out.cell 5
    have z6 : w2.cell? ⟨w.heap.size, 6, none⟩ = some (.slice none 0 0) := HA2.out.cell 6
    have zf : ∀ o, w2.frozen? ⟨w.heap.size, o, none⟩ = false := fun o => froz_of_heap HA2.out
    have x0 : w2.cell? ⟨w.heap.size + 1, 0, none⟩ = some (.bool false) := HA3.out.cell 0
    have xf : w2.frozen? ⟨w.heap.size + 1, 0, none⟩ = false := froz_of_heap HA3.out
    go_wp2_with fail
    have h0 : At (((((((w2.setCell ⟨w.heap.size, 0, none⟩ (.int .i64 i.op)).setCell ⟨w.heap.size, 1, none⟩ (.int .i64 i.w)).setCell ⟨w.heap.size, 2, none⟩ (.int .i64 i.a)).setCell ⟨w.heap.size, 3, none⟩ (.int .i64 i.b)).setCell ⟨w.heap.size, 4, none⟩ (.int .i64 i.c)).setCell ⟨w.heap.size, 5, none⟩ (.int .i64 i.imm)).setCell ⟨w.heap.size, 6, none⟩ (.slice u i.args.length q)) w.heap.size #[.int .i64 i.op, .int .i64 i.w, .int .i64 i.a, .int .i64 i.b, .int .i64 i.c, .int .i64 i.imm, .slice u i.args.length q] 33 := (heap_set (o := 6) (v := .slice u i.args.length q) (heap_set (o := 5) (v := .int .i64 i.imm) (heap_set (o := 4) (v := .int .i64 i.c) (heap_set (o := 3) (v := .int .i64 i.b) (heap_set (o := 2) (v := .int .i64 i.a) (heap_set (o := 1) (v := .int .i64 i.w) (heap_set (o := 0) (v := .int .i64 i.op) HA2.out)))))))
    have h1 := h0.setOther (gi := w.heap.size + 1) (o := 0) (v := .bool true) (by omega)
    have h2 := heap_set (o := 0) (v := .bool true) ((((((((HA3.out.setOther (gi := w.heap.size) (o := 0) (v := .int .i64 i.op) (by omega)).setOther (gi := w.heap.size) (o := 1) (v := .int .i64 i.w) (by omega)).setOther (gi := w.heap.size) (o := 2) (v := .int .i64 i.a) (by omega)).setOther (gi := w.heap.size) (o := 3) (v := .int .i64 i.b) (by omega)).setOther (gi := w.heap.size) (o := 4) (v := .int .i64 i.c) (by omega)).setOther (gi := w.heap.size) (o := 5) (v := .int .i64 i.imm) (by omega)).setOther (gi := w.heap.size) (o := 6) (v := .slice u i.args.length q) (by omega)))
    have h3 : Below w.heap.size w ((((((((w2.setCell ⟨w.heap.size, 0, none⟩ (.int .i64 i.op)).setCell ⟨w.heap.size, 1, none⟩ (.int .i64 i.w)).setCell ⟨w.heap.size, 2, none⟩ (.int .i64 i.a)).setCell ⟨w.heap.size, 3, none⟩ (.int .i64 i.b)).setCell ⟨w.heap.size, 4, none⟩ (.int .i64 i.c)).setCell ⟨w.heap.size, 5, none⟩ (.int .i64 i.imm)).setCell ⟨w.heap.size, 6, none⟩ (.slice u i.args.length q)).setCell ⟨w.heap.size + 1, 0, none⟩ (.bool true)) := by repeat (first | refine Below.setCell ?_ (by dsimp only; omega) _ | exact HB2.out)
    have h4 : Row ((((((((w2.setCell ⟨w.heap.size, 0, none⟩ (.int .i64 i.op)).setCell ⟨w.heap.size, 1, none⟩ (.int .i64 i.w)).setCell ⟨w.heap.size, 2, none⟩ (.int .i64 i.a)).setCell ⟨w.heap.size, 3, none⟩ (.int .i64 i.b)).setCell ⟨w.heap.size, 4, none⟩ (.int .i64 i.c)).setCell ⟨w.heap.size, 5, none⟩ (.int .i64 i.imm)).setCell ⟨w.heap.size, 6, none⟩ (.slice u i.args.length q)).setCell ⟨w.heap.size + 1, 0, none⟩ (.bool true)) (w.heap.size + 2) (.slice u i.args.length q) i.args := row_setX (row_set7 HR.out (by omega)) (by omega)
    clear HA2 HA3 HR z0 z1 z2 z3 z4 z5 z6 zf x0 xf h0 HB2
    generalize ((((((((w2.setCell ⟨w.heap.size, 0, none⟩ (.int .i64 i.op)).setCell ⟨w.heap.size, 1, none⟩ (.int .i64 i.w)).setCell ⟨w.heap.size, 2, none⟩ (.int .i64 i.a)).setCell ⟨w.heap.size, 3, none⟩ (.int .i64 i.b)).setCell ⟨w.heap.size, 4, none⟩ (.int .i64 i.c)).setCell ⟨w.heap.size, 5, none⟩ (.int .i64 i.imm)).setCell ⟨w.heap.size, 6, none⟩ (.slice u i.args.length q)).setCell ⟨w.heap.size + 1, 0, none⟩ (.bool true)) = W9 at h1 h2 h3 h4 ⊢
    refine leaves_cons (f := 37) (args := #[.pointer (some ⟨w.heap.size, 0, none⟩), .pointer (some ⟨w.heap.size + 1, 0, none⟩)]) (by simp) (by simp [go_sem]) ?_
    refine (catchN w.heap.size (w.heap.size + 1) _).mono ?_
    rintro e u' w'' ⟨rfl, rfl, h9⟩
    have h8 := h9.symm
    clear h9
    subst h8
    simp [Leaves, settle]
    refine ⟨.tuple #[.agg #[.int .i64 i.op, .int .i64 i.w, .int .i64 i.a, .int .i64 i.b, .int .i64 i.c, .int .i64 i.imm, .slice u i.args.length q], .bool true], ?_, .inl ⟨i, u, q, HRd.out, rfl, h4.low (by omega)⟩, h3⟩
    exact results_two Tryz.results17 _ _ w.heap.size (w.heap.size + 1) _ _ rfl rfl (run_loadVar_row _ _ 33 _ _ (0, 0) _ h1 Tryz.underlying33 rfl (by kernel_rfl)) (load_bool h2)
  · have HNo : Hid (¬ ∃ i, ReadOk s i) := hno
    clear hno he1
    go_wp2_with fail
    refine leaves_cons (f := 37) (args := #[.pointer (some ⟨w.heap.size, 0, none⟩), .pointer (some ⟨w.heap.size + 1, 0, none⟩)]) (by simp) (by simp [go_sem]) ?_
    unfold errV
    refine (catchY w.heap.size (w.heap.size + 1) _ _ [] w2 false (by omega) HA2.out HA3.out).mono ?_
    rintro e u' w9 ⟨rfl, rfl, h1, h2, b9⟩
    have h3 : Below w.heap.size w w9 := HB2.out.trans b9
    clear HA2 HA3 HB2 b9
    simp [Leaves, settle]
    refine ⟨.tuple #[.agg #[.int .i64 0, .int .i64 0, .int .i64 0, .int .i64 0, .int .i64 0, .int .i64 0, .slice none 0 0], .bool false], ?_, .inr ⟨HNo.out, rfl⟩, h3⟩
    exact results_two Tryz.results17 _ _ w.heap.size (w.heap.size + 1) _ _ rfl rfl (run_loadVar_row _ _ 33 _ _ (0, 0) _ h1 Tryz.underlying33 rfl (by kernel_rfl)) (load_bool h2)
theorem results_row_tmp {P : Program} {fn : Func} {p u : Tmp} {ty : TypeId} (h : fn.results = #[.cell p ty, .tmp u]) (tmps : Array Value) (w : World) (g : Nat) (cs : Array Value)
    (hp : tmps.getD p undef = .pointer (some ⟨g, 0, none⟩)) (hl : (loadVar ty ⟨g, 0, none⟩).run P w = .ok (.agg cs) w) :
    (results fn tmps).run P w = .ok (.tuple #[.agg cs, tmps.getD u undef]) w := by
  have hp' : tmps[p]?.getD undef = .pointer (some ⟨g, 0, none⟩) := by simpa using hp
  rw [results_cell_tmp h]
  simp [hp', asAddr, hl, Result.andThen]
set_option maxHeartbeats 8000000 in
set_option maxRecDepth 100000 in
theorem readI (a : Addr) (s : ByteArray) (w : World) (hs : s.size ≤ 1048576) (hv : Gv w 1 (errV a)) (hE : ErrsAt w) (hP : PowAt w) (hO : OpsAt w) :
    Calls Tryz.prog 8 #[.string s] w fun e w' => ReadTold s w.heap.size w' e ∧ Below w.heap.size w w' := by
  have hmf : ∀ (fn : Fn) (first cap : Array Value) (w : World), (Instr.makeFunc fn first cap).run Tryz.prog w = .ok (.func fn first cap) w := fun _ _ _ _ => rfl
  have B1 : Below w.heap.size w ((w.alloc (.cells #[.string s] 9)).alloc (.cells #[.int .i64 0, .int .i64 0, .int .i64 0, .int .i64 0, .int .i64 0, .int .i64 0, .slice none 0 0] 33)) := ((Below.refl _ _).alloc (Nat.le_refl _) _).alloc (by simp) _
  have e1 : ((w.alloc (.cells #[.string s] 9)).alloc (.cells #[.int .i64 0, .int .i64 0, .int .i64 0, .int .i64 0, .int .i64 0, .int .i64 0, .slice none 0 0] 33)).heap.size = w.heap.size + 2 := by simp
  have A0 : At ((w.alloc (.cells #[.string s] 9)).alloc (.cells #[.int .i64 0, .int .i64 0, .int .i64 0, .int .i64 0, .int .i64 0, .int .i64 0, .slice none 0 0] 33)) w.heap.size #[.string s] 9 := (At.new _ _ _).below ((Below.refl _ _).alloc (Nat.le_refl _) _)
  have A1 : At ((w.alloc (.cells #[.string s] 9)).alloc (.cells #[.int .i64 0, .int .i64 0, .int .i64 0, .int .i64 0, .int .i64 0, .int .i64 0, .slice none 0 0] 33)) (w.heap.size + 1) #[.int .i64 0, .int .i64 0, .int .i64 0, .int .i64 0, .int .i64 0, .int .i64 0, .slice none 0 0] 33 := by
    have h := At.new (w.alloc (.cells #[.string s] 9)) #[.int .i64 0, .int .i64 0, .int .i64 0, .int .i64 0, .int .i64 0, .int .i64 0, .slice none 0 0] 33
    have e : (w.alloc (.cells #[.string s] 9)).heap.size = w.heap.size + 1 := by simp
    rw [e] at h
    exact h
  have P := readingI a w.heap.size s _ ⟨A0.cell 0, A0.lt⟩ hs (hv.keep B1) (hE.keep B1) (hP.keep B1) (hO.keep B1)
  rw [e1] at P
  have HB1 : Hid (Below w.heap.size w _) := B1
  have HA1 : Hid (At _ (w.heap.size + 1) #[.int .i64 0, .int .i64 0, .int .i64 0, .int .i64 0, .int .i64 0, .int .i64 0, .slice none 0 0] 33) := A1
  have he1 : Hid (_ = w.heap.size + 2) := e1
  clear B1 A0 A1 e1 hv hE hP hO hs
  go_enter Tryz.func8, Tryz.ntmps8
  go_wp2_with fail
  generalize ((w.alloc (.cells #[.string s] 9)).alloc (.cells #[.int .i64 0, .int .i64 0, .int .i64 0, .int .i64 0, .int .i64 0, .int .i64 0, .slice none 0 0] 33)) = W1 at HB1 HA1 he1 P ⊢
  refine P.mono ?_
  rintro e w2 ⟨hc, b2⟩
  rw [← he1.out] at b2
  have HB2 : Hid (Below w.heap.size w w2) := HB1.out.trans (b2.mono HB1.out.size)
  have HA2 : Hid (At w2 (w.heap.size + 1) #[.int .i64 0, .int .i64 0, .int .i64 0, .int .i64 0, .int .i64 0, .int .i64 0, .slice none 0 0] 33) := HA1.out.below b2
  have z0 : w2.cell? ⟨w.heap.size + 1, 0, none⟩ = some (.int .i64 0) := HA2.out.cell 0
  have z1 : w2.cell? ⟨w.heap.size + 1, 1, none⟩ = some (.int .i64 0) := HA2.out.cell 1
  have z2 : w2.cell? ⟨w.heap.size + 1, 2, none⟩ = some (.int .i64 0) := HA2.out.cell 2
  have z3 : w2.cell? ⟨w.heap.size + 1, 3, none⟩ = some (.int .i64 0) := HA2.out.cell 3
  have z4 : w2.cell? ⟨w.heap.size + 1, 4, none⟩ = some (.int .i64 0) := HA2.out.cell 4
  have z5 : w2.cell? ⟨w.heap.size + 1, 5, none⟩ = some (.int .i64 0) := HA2.out.cell 5
  have z6 : w2.cell? ⟨w.heap.size + 1, 6, none⟩ = some (.slice none 0 0) := HA2.out.cell 6
  have zf : ∀ o, w2.frozen? ⟨w.heap.size + 1, o, none⟩ = false := fun o => froz_of_heap HA2.out
  clear P b2 HB1 HA1 he1 hmf
  rcases hc with ⟨i, u, q, hi, rfl, hR⟩ | ⟨hno, rfl⟩
  · have HR : Hid (Row w2 (w.heap.size + 2) (.slice u i.args.length q) i.args) := hR
    have HRd : Hid (ReadOk s i) := hi
    clear hi hR
    go_wp2_with fail
    have hrr := (heap_set (o := 6) (v := .slice u i.args.length q) (heap_set (o := 5) (v := .int .i64 i.imm) (heap_set (o := 4) (v := .int .i64 i.c) (heap_set (o := 3) (v := .int .i64 i.b) (heap_set (o := 2) (v := .int .i64 i.a) (heap_set (o := 1) (v := .int .i64 i.w) (heap_set (o := 0) (v := .int .i64 i.op) HA2.out)))))))
    refine bodyPost_ret (v := .tuple #[.agg #[.int .i64 i.op, .int .i64 i.w, .int .i64 i.a, .int .i64 i.b, .int .i64 i.c, .int .i64 i.imm, .slice u i.args.length q], .bool true]) ((results_row_tmp Tryz.results8 _ _ (w.heap.size + 1) _ rfl (run_loadVar_row _ _ 33 _ _ (0, 0) _ hrr Tryz.underlying33 rfl (by kernel_rfl))).trans (by rfl)) rfl ⟨.inl ⟨i, u, q, HRd.out, rfl, (row_set7 HR.out (by omega)).low (by omega)⟩, ?_⟩
    exact (by repeat (first | refine Below.setCell ?_ (by dsimp only; omega) _ | exact HB2.out))
  · have HNo : Hid (¬ ∃ i, ReadOk s i) := hno
    clear hno
    go_wp2_with fail
    have hrr := (heap_set (o := 6) (v := .slice none 0 0) (heap_set (o := 5) (v := .int .i64 0) (heap_set (o := 4) (v := .int .i64 0) (heap_set (o := 3) (v := .int .i64 0) (heap_set (o := 2) (v := .int .i64 0) (heap_set (o := 1) (v := .int .i64 0) (heap_set (o := 0) (v := .int .i64 0) HA2.out)))))))
    refine bodyPost_ret (v := .tuple #[.agg #[.int .i64 0, .int .i64 0, .int .i64 0, .int .i64 0, .int .i64 0, .int .i64 0, .slice none 0 0], .bool false]) ((results_row_tmp Tryz.results8 _ _ (w.heap.size + 1) _ rfl (run_loadVar_row _ _ 33 _ _ (0, 0) _ hrr Tryz.underlying33 rfl (by kernel_rfl))).trans (by rfl)) rfl ⟨.inr ⟨HNo.out, rfl⟩, ?_⟩
    exact (by repeat (first | refine Below.setCell ?_ (by dsimp only; omega) _ | exact HB2.out))
end Go.Proofs.YtclagbdomfgodaaGreatDoor
