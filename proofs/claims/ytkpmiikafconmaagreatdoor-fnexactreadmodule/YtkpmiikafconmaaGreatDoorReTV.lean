import Derived.Test.YtkpmiikafconmaaGreatDoorReRV
import Derived.Test.YtkpmiikafconmaaGreatDoorFmKV
import Derived.Test.YtkpmiikafconmaaGreatDoorReKV
import Derived.Test.YtkpmiikafconmaaGreatDoorRows
import Derived.RowKitTokens
import Derived.LaidLaws
import Derived.LaidHandle
import Derived.LaidMore
import Derived.Stop.LaidErr
import Derived.Stop.ErrReads
import Derived.Stop.Joined
import Derived.Lay
import Derived.ProofKit
import Derived.OpenShut
namespace Go.Proofs.YtkpmiikafconmaaGreatDoor
open Go.RowKit
set_option linter.unusedVariables false
set_option linter.unusedSimpArgs false
structure CsM (w w1 W : World) (l : List FuncD) (us : Option Addr) (cs : Nat) : Prop where
 p_ : At W w1.heap.size #[.slice us l.length cs] 26
 ag : Agree w.heap.size w1 W
 below : Below w.heap.size w W
theorem CsM.keep {w w1 W W2 : World} {l : List FuncD} {us : Option Addr} {cs : Nat} (h : CsM w w1 W l us cs) (k : Below W.heap.size W W2) : CsM w w1 W2 l us cs := ⟨h.p_.below k, agree_below h.ag k, h.below.trans (k.mono h.below.size)⟩
set_option maxHeartbeats 8000000 in
set_option maxRecDepth 100000 in
theorem fnExactReadModule_core (a : Addr) (s : ByteArray) (w : World) (hv : Tabs w a) :
  Calls Tryz.prog 4 #[.string s] w fun e w' => e = .returned (.bool true) ∧ Below w.heap.size w w' := by
 by_cases hs : 1048576 < s.size
 ·have q : (1048576 : Int) < s.size := by omega
  go_enter Tryz.func4, Tryz.ntmps4
  go_wp2_with fail
  go_ret
  exact ⟨rfl, Below.refl _ _⟩
 have q : ¬ (1048576 : Int) < s.size := by omega
 have hs2 : s.size ≤ 1048576 := by omega
 obtain ⟨l, ok, hgl, US, UI⟩ := uniM s
 have Hgl : Hid (l.length ≤ 3 ∧ ∀ d ∈ l, FitFT d) := hgl
 have HUI : Hid (∀ base w e, base ≤ w.heap.size → MtGot s base e w → MOwn w base l ok e) := UI
 have hRI : Hid (∀ W, Below w.heap.size w W → Calls Tryz.prog 8 #[.string s] W fun e w' => MtGot s W.heap.size e w' ∧ Below W.heap.size W w') := fun W k => readMI a s W (hv.keep k) hs2
 have hRS := readMS s w hs2
 clear hv UI hs hs2 hgl
 go_enter Tryz.func4, Tryz.ntmps4
 go_wp2_with fail
 refine hRS.mono ?_
 rintro e w1 ⟨hc, b1⟩
 obtain ⟨us, cs, rfl, i1⟩ := US _ _ _ hc
 have k1 : Below w1.heap.size w1 (w1.alloc (.cells #[.slice us l.length cs] 26)) := (Below.refl _ _).alloc (Nat.le_refl _) _
 have C1 : Hid (CsM w w1 (w1.alloc (.cells #[.slice us l.length cs] 26)) l us cs) := ⟨At.new _ _ _, agree_of_below k1 _, b1.trans (k1.mono b1.size)⟩
 have HI1 : Hid (FuncsAt w1 w.heap.size us l) := i1
 have z2 : w1.heap.size + 1 = (w1.alloc (.cells #[.slice us l.length cs] 26)).heap.size := by simp
 have z1 : w.heap.size ≤ w1.heap.size := b1.size
 clear hRS US hc i1 b1 k1
 obtain ⟨W2, hW2⟩ : ∃ W, (w1.alloc (.cells #[.slice us l.length cs] 26)) = W := ⟨_, rfl⟩
 rw [hW2] at C1 z2
 go_wp2_with fail
 clear hW2
 refine (hRI.out W2 C1.out.below).mono ?_
 rintro e w3 ⟨hc, b3⟩
 obtain ⟨fs, u, c, hfl, rfl, hO⟩ := HUI.out _ _ _ b3.size hc
 have hn : fs.length = l.length := by rw [← hfl, List.length_map]
 have z3 : W2.heap.size ≤ w3.heap.size := b3.size
 obtain ⟨a1, a2⟩ := hO.inA
 obtain ⟨K, hK⟩ : ∃ K, strF u (fs.map FnE.h) = K := ⟨_, rfl⟩
 have hlK : K.length ≤ 40000 := by
  rw [← hK]
  exact marksT_few u (by rw [hn]; exact Hgl.out.1) (fun f hf => Hgl.out.2 f.d (by rw [← hfl]; exact List.mem_map.2 ⟨f, hf, rfl⟩))
 have hF : FusR K w3 u (fs.map FnE.h) := hO.fusR (by rw [← hK]; exact a1.ki)
 have hat : FuncsAt w3 W2.heap.size u l := by rw [← hfl]; exact hO.at_
 rw [hK] at a1 a2
 have HIA : Hid (InA w3 W2.heap.size w3.heap.size 5 K) := a1
 have HND : Hid K.Nodup := a2
 have k3 : Below w3.heap.size w3 (w3.alloc (.cells #[.slice u l.length c] 26)) := (Below.refl _ _).alloc (Nat.le_refl _) _
 have C4 : Hid (CsM w w1 (w3.alloc (.cells #[.slice u l.length c] 26)) l us cs) := (C1.out.keep b3).keep k3
 have Q4 : Hid (At (w3.alloc (.cells #[.slice u l.length c] 26)) w3.heap.size #[.slice u l.length c] 26) := At.new _ _ _
 have F4 : Hid (FusR K (w3.alloc (.cells #[.slice u l.length c] 26)) u (fs.map FnE.h)) := hF.kp k3
 have G4 : Hid (FuncsAt (w3.alloc (.cells #[.slice u l.length c] 26)) W2.heap.size u l) := hat.keep (agree_of_below k3 _)
 have I4 : Hid (∀ a ∈ K, ∃ v, (w3.alloc (.cells #[.slice u l.length c] 26)).cell? a = some v) := fun a ha => by
  obtain ⟨_, _, _, z, hz⟩ := HIA.out a ha
  exact ⟨_, (cell_kp k3 hz).1⟩
 have HKB : Hid (∀ a ∈ K, W2.heap.size ≤ a.block ∧ a.block < w3.heap.size) := fun a ha => ⟨(HIA.out a ha).1, (HIA.out a ha).2.1⟩
 have hln : (fs.map FnE.h).length = l.length := by rw [List.length_map, hn]
 have HLN : Hid ((fs.map FnE.h).length = l.length) := hln
 have HKK : Hid (strF u (fs.map FnE.h) = K) := hK
 rw [hn]
 clear C1 hc hO b3 k3 a1 a2 hF hat HIA hln hK hfl hn
 obtain ⟨hs, hhs⟩ : ∃ hs, fs.map FnE.h = hs := ⟨_, rfl⟩
 rw [hhs] at F4 HLN HKK
 clear hhs
 obtain ⟨W4, hW4⟩ : ∃ W, (w3.alloc (.cells #[.slice u l.length c] 26)) = W := ⟨_, rfl⟩
 rw [hW4] at C4 Q4 F4 G4 I4
 have x0 : W4.cell? ⟨w1.heap.size, 0, none⟩ = some (.slice us l.length cs) := C4.out.p_.cell 0
 have y0 : W4.cell? ⟨w3.heap.size, 0, none⟩ = some (.slice u l.length c) := Q4.out.cell 0
 go_wp2_with fail
 clear hW4 x0 y0
 refine (eqModule_any _ _ l u c us cs W4 G4.out (HI1.out.keep C4.out.ag)).mono ?_
 rintro e w5 ⟨rfl, b5⟩
 have C5 : Hid (CsM w w1 w5 l us cs) := C4.out.keep b5
 have Q5 : Hid (At w5 w3.heap.size #[.slice u l.length c] 26) := Q4.out.below b5
 have k6 : Below w5.heap.size w5 (w5.alloc (.cells #[.slice u l.length c] 26)) := (Below.refl _ _).alloc (Nat.le_refl _) _
 have F6 : FusR K (w5.alloc (.cells #[.slice u l.length c] 26)) u hs := (F4.out.kp b5).kp k6
 have I6 : ∀ a ∈ K, ∃ v, (w5.alloc (.cells #[.slice u l.length c] 26)).cell? a = some v := fun a ha => by
  obtain ⟨v, hv⟩ := I4.out a ha
  exact ⟨v, (cell_kp k6 (cell_kp b5 hv).1).1⟩
 have z5 : w3.heap.size < w5.heap.size := Q5.out.lt
 have M := markMod K u c hs 1 w5 (by rw [HLN.out]; exact F6) (by rw [HKK.out]; exact fun a h => h) (by omega) (by rw [HKK.out]; omega)
 rw [HKK.out, HLN.out] at M
 have HF6 : Hid (FusR K (mkw (w5.alloc (.cells #[.slice u l.length c] 26)) K 1) u hs) := F6.mk (fun a h => h) 1
 have HH6 : Hid (Hlds (mkw (w5.alloc (.cells #[.slice u l.length c] 26)) K 1) K 1) := hlds_mkw HND.out I6
 have same : ∀ b, (b < W2.heap.size ∨ w3.heap.size ≤ b) → (mkw (w5.alloc (.cells #[.slice u l.length c] 26)) K 1).heap[b]? = (w5.alloc (.cells #[.slice u l.length c] 26)).heap[b]? := fun b hb => mkw_other K 1 _ b (fun a ha e => by have := HKB.out a ha; omega)
 have C5' := C5.out.keep k6
 have zm : (mkw (w5.alloc (.cells #[.slice u l.length c] 26)) K 1).heap.size = (w5.alloc (.cells #[.slice u l.length c] 26)).heap.size := mkw_size _ _ _
 have z6 : w5.heap.size ≤ (mkw (w5.alloc (.cells #[.slice u l.length c] 26)) K 1).heap.size := by rw [zm]; exact k6.size
 have HB6 : Hid (Below w.heap.size w (mkw (w5.alloc (.cells #[.slice u l.length c] 26)) K 1)) := mkw_below K 1 w _ (fun a ha => by have := (HKB.out a ha).1; omega) C5'.below
 have HP6 : Hid (At (mkw (w5.alloc (.cells #[.slice u l.length c] 26)) K 1) w1.heap.size #[.slice us l.length cs] 26) := (same _ (.inl (by omega))).trans C5'.p_
 have HQ6 : Hid (At (mkw (w5.alloc (.cells #[.slice u l.length c] 26)) K 1) w3.heap.size #[.slice u l.length c] 26) := (same _ (.inr (Nat.le_refl _))).trans (Q5.out.below k6)
 have HC6 : Hid (CsM w w1 (mkw (w5.alloc (.cells #[.slice u l.length c] 26)) K 1) l us cs) := ⟨HP6.out, ⟨Nat.le_trans C5'.ag.1 (by rw [zm]; exact Nat.le_refl _), fun b h1 h2 => (same b (.inl (by omega))).trans (C5'.ag.2 b h1 h2)⟩, HB6.out⟩
 have y0 : w5.cell? ⟨w3.heap.size, 0, none⟩ = some (.slice u l.length c) := Q5.out.cell 0
 clear C4 Q4 F4 G4 I4 b5 C5 k6 F6 I6 same C5' zm HB6 HP6
 go_wp2_with fail
 refine M.mono ?_
 rintro e w6 ⟨rfl, hw6⟩
 rw [← hw6] at HF6 HH6 z6 HQ6 HC6
 clear hw6 M y0 Q5
 have k7 : Below w6.heap.size w6 (w6.alloc (.cells #[.slice u l.length c] 26)) := (Below.refl _ _).alloc (Nat.le_refl _) _
 have HF7 : Hid (FusR K (w6.alloc (.cells #[.slice u l.length c] 26)) u hs) := HF6.out.kp k7
 have HH7 : Hid (Hlds (w6.alloc (.cells #[.slice u l.length c] 26)) K 1) := HH6.out.kp k7
 have HC7 : Hid (CsM w w1 (w6.alloc (.cells #[.slice u l.length c] 26)) l us cs) := HC6.out.keep k7
 have HQ7 : Hid (At (w6.alloc (.cells #[.slice u l.length c] 26)) w3.heap.size #[.slice u l.length c] 26) := HQ6.out.below k7
 have N := heldMod K u c hs 1 w6 (by rw [HLN.out]; exact HF7.out) (by rw [HLN.out, HKK.out]; exact HH7.out) (by omega) (by rw [HKK.out]; omega)
 rw [HKK.out, HLN.out] at N
 have y0 : w6.cell? ⟨w3.heap.size, 0, none⟩ = some (.slice u l.length c) := HQ6.out.cell 0
 have hnn : ¬ (1 : Int) + (K.length : Int) < 0 := by omega
 clear k7 HF6 HH6 HC6 HQ6
 go_wp2_with fail
 refine N.mono ?_
 rintro e w7 ⟨rfl, hw7⟩
 rw [← hw7] at HF7 HH7 HC7 HQ7
 clear hw7 N y0
 go_wp2_with fail
 refine (hRI.out w7 HC7.out.below).mono ?_
 rintro e w8 ⟨hc, b8⟩
 obtain ⟨fs8, u8, c8, hfl8, rfl, hO8⟩ := HUI.out _ _ _ b8.size hc
 have hn8 : fs8.length = l.length := by rw [← hfl8, List.length_map]
 have hat : FuncsAt w8 w7.heap.size u8 l := by rw [← hfl8]; exact hO8.at_
 have k8 : Below w8.heap.size w8 (w8.alloc (.cells #[.slice u8 l.length c8] 26)) := (Below.refl _ _).alloc (Nat.le_refl _) _
 have C9 : Hid (CsM w w1 (w8.alloc (.cells #[.slice u8 l.length c8] 26)) l us cs) := (HC7.out.keep b8).keep k8
 have Q9 : Hid (At (w8.alloc (.cells #[.slice u8 l.length c8] 26)) w3.heap.size #[.slice u l.length c] 26) := (HQ7.out.below b8).below k8
 have R9 : Hid (At (w8.alloc (.cells #[.slice u8 l.length c8] 26)) w8.heap.size #[.slice u8 l.length c8] 26) := At.new _ _ _
 have F9 : Hid (FusR K (w8.alloc (.cells #[.slice u8 l.length c8] 26)) u hs) := (HF7.out.kp b8).kp k8
 have H9 : Hid (Hlds (w8.alloc (.cells #[.slice u8 l.length c8] 26)) K 1) := (HH7.out.kp b8).kp k8
 have G9 : Hid (FuncsAt (w8.alloc (.cells #[.slice u8 l.length c8] 26)) w7.heap.size u8 l) := hat.keep (agree_of_below k8 _)
 rw [hn8]
 clear hc hO8 b8 k8 hat hfl8 hn8 HF7 HH7 HC7 HQ7
 obtain ⟨W9, hW9⟩ : ∃ W, (w8.alloc (.cells #[.slice u8 l.length c8] 26)) = W := ⟨_, rfl⟩
 rw [hW9] at C9 Q9 R9 F9 H9 G9
 have x0 : W9.cell? ⟨w1.heap.size, 0, none⟩ = some (.slice us l.length cs) := C9.out.p_.cell 0
 have y0 : W9.cell? ⟨w8.heap.size, 0, none⟩ = some (.slice u8 l.length c8) := R9.out.cell 0
 go_wp2_with fail
 clear hW9 x0 y0
 refine (eqModule_any _ _ l u8 c8 us cs W9 G9.out (HI1.out.keep C9.out.ag)).mono ?_
 rintro e w10 ⟨rfl, b10⟩
 have C10 : Hid (CsM w w1 w10 l us cs) := C9.out.keep b10
 have Q10 : Hid (At w10 w3.heap.size #[.slice u l.length c] 26) := Q9.out.below b10
 have k11 : Below w10.heap.size w10 (w10.alloc (.cells #[.slice u l.length c] 26)) := (Below.refl _ _).alloc (Nat.le_refl _) _
 have N := heldMod K u c hs 1 w10 (by rw [HLN.out]; exact (F9.out.kp b10).kp k11) (by rw [HLN.out, HKK.out]; exact (H9.out.kp b10).kp k11) (by omega) (by rw [HKK.out]; omega)
 rw [HKK.out, HLN.out] at N
 have C11 : Hid (Below w.heap.size w (w10.alloc (.cells #[.slice u l.length c] 26))) := (C10.out.keep k11).below
 have y0 : w10.cell? ⟨w3.heap.size, 0, none⟩ = some (.slice u l.length c) := Q10.out.cell 0
 clear C9 Q9 R9 F9 H9 G9 b10 C10 k11
 go_wp2_with fail
 refine N.mono ?_
 rintro e w11 ⟨rfl, hw11⟩
 rw [← hw11] at C11
 clear hw11 N y0 Q10
 go_wp2_with fail
 go_ret
 exact ⟨rfl, C11.out⟩
end Go.Proofs.YtkpmiikafconmaaGreatDoor
namespace Go.Proofs.YtkpmiikafconmaaGreatDoor
open Go.ChangeShapes Go.WideShapes Go.RowKit
set_option linter.unusedVariables false
theorem gC : Tryz.prog.globalNamed "loop.example/g00457/impl.errUnread" = some 1 := by kernel_rfl
theorem tC : (Tryz.prog.globals[1]?).map (·.type) = some 45 := by kernel_rfl
theorem gSy : Tryz.prog.globalNamed "strconv.ErrSyntax" = some 9 := by kernel_rfl
theorem tSy : (Tryz.prog.globals[9]?).map (·.type) = some 45 := by kernel_rfl
theorem gRg : Tryz.prog.globalNamed "strconv.ErrRange" = some 10 := by kernel_rfl
theorem tRg : (Tryz.prog.globals[10]?).map (·.type) = some 45 := by kernel_rfl
theorem lcES : Tryz.prog.cellsOf 234 = 1 := by kernel_rfl
theorem lcS : Tryz.prog.cellsOf 9 = 1 := by kernel_rfl
theorem lstar : "*" ++ "errors.errorString" = "*errors.errorString" := by decide
theorem lrow (u : TypeId) (h : Tryz.prog.typeName? 3 u = some "*errors.errorString") : u = 232 :=
 typeName_ptr_named (nm := "errors.errorString") (by rw [lstar]; kernel_rfl) (by kernel_rfl) (by decide) u (by rw [lstar]; exact h)
theorem gOps : Tryz.prog.globalNamed "loop.example/g00457/impl.opWords" = some 2 := by kernel_rfl
theorem tOps : (Tryz.prog.globals[2]?).map (·.type) = some 150 := by kernel_rfl
theorem tPow : (Tryz.prog.globals[3]?).map (·.type) = some 181 := by kernel_rfl
theorem gTms : Tryz.prog.globalNamed "loop.example/g00457/impl.termWords" = some 0 := by kernel_rfl
theorem tTms : (Tryz.prog.globals[0]?).map (·.type) = some 120 := by kernel_rfl
theorem tmsDt : (Rows.laid_loop_example_g00457_impl_termWords : DataW Unit) = .agg (tmWL.map fun b => .lit (.string b)) := by rfl
theorem opsDt : (Rows.laid_loop_example_g00457_impl_opWords : DataW Unit) = .agg (opWL.map fun b => .lit (.string b)) := by rfl
theorem powDt : (Rows.laid_internal_strconv_uint64pow10 : DataW Unit) = Lib.tabData .u64 Lib.pow10Tab := by rfl
theorem var_below {W W' : World} {n : String} {g : Nat} {cs : Array Value} (hg : Tryz.prog.globalNamed n = some g) (h : W.var? Tryz.prog n = some cs) (k : Below W.heap.size W W') : W'.var? Tryz.prog n = some cs := by
 unfold World.var? at h ⊢
 simp only [hg, Option.bind_some] at h ⊢
 have hlt : g < W.heap.size := by
  rcases Nat.lt_or_ge g W.heap.size with h' | h'
  ·exact h'
  ·simp [Array.getElem?_eq_none h'] at h
 rw [k.block g hlt]
 exact h
theorem vars_cons {H : Type} (enc : TypeId × Value → H) {W : World} {n : String} {g : Nat} {x : Value} {ns : List String} {ds : List (DataW H)} {qs : List MemPlace} {sp : Nat → Bool}
  (hg : Tryz.prog.globalNamed n = some g) (ht : (Tryz.prog.globals[g]?).map (·.type) = some 45) (h : W.var? Tryz.prog n = some #[x]) (ix : IsIface x) (r : DataW.TrodVars enc Tryz.prog W sp ns ds qs) :
  DataW.TrodVars enc Tryz.prog W sp (n :: ns) (tok enc x :: ds) (.cell g 0 :: qs) :=
 ⟨g, 45, #[x], 1, [], qs, hg, ht, h, trod_held Tryz.underlying45 ix 0, r, rfl⟩
theorem ops_of_var {W : World} {cs : Array Value} {fuel : Nat} {p : List MemPlace} (hv : W.var? Tryz.prog "loop.example/g00457/impl.opWords" = some cs)
  (hd : DataW.trod (fun _ => ()) Tryz.prog W 0 (fun _ => true) false fuel 150 cs.toList = some (Rows.laid_loop_example_g00457_impl_opWords, p)) : OpsAt W := by
 have hcell : ∀ r, r < 28 → W.cell? ⟨2, r, none⟩ = some (.string (opW r)) := by
  intro r hr
  obtain ⟨xs, m, _, ex, _, hl, hel⟩ := DataW.trod_array Tryz.underlying150 hd
  have c5 : Tryz.prog.cellsOf 9 = 1 := by kernel_rfl
  have hE := hel r hr
  rw [c5, Nat.mul_one, List.getElem?_eq_getElem (by omega)] at hE
  obtain ⟨s, e1, e2, _⟩ := DataW.trod_string Tryz.underlying9 hE
  have hlen : opWL.length = 28 := rfl
  rw [opsDt] at ex
  have e3 : (xs.map (·.1)) = opWL.map fun b => .lit (.string b) := (DataW.agg.inj (Prod.mk.inj ex).1).symm
  have e4 : (xs.map (·.1))[r]? = (opWL.map fun b => (DataW.lit (.string b) : DataW Unit))[r]? := by rw [e3]
  rw [List.getElem?_map, List.getElem?_map, List.getElem?_eq_getElem (by omega : r < xs.length), List.getElem?_eq_getElem (by omega : r < opWL.length), e2] at e4
  have hz : s = opW r := by
   simp only [Option.map_some, Option.some.injEq, DataW.lit.injEq, Lit.string.injEq] at e4
   unfold opW bs
   rw [List.getD, List.getElem?_eq_getElem (by omega : r < opWL.length)]
   refine ByteArray.ext (Array.toList_inj.1 ?_)
   simpa using e4
  rw [World.var?_cell gOps hv r, ← hz]
  have : cs.toList[r]? = some (.string s) := by
   have h0 : ((cs.toList.drop r).take 1)[0]? = some (.string s) := by rw [e1]; rfl
   simpa using h0
  simpa using this
 refine ⟨?_, hcell⟩
 rcases Nat.lt_or_ge 2 W.heap.size with h | h
 ·exact h
 ·have := hcell 0 (by omega)
  simp [World.cell?, Array.getElem?_eq_none h] at this
theorem pow_of_var {W : World} {cs : Array Value} {fuel : Nat} {p : List MemPlace} (hv : W.var? Tryz.prog "internal/strconv.uint64pow10" = some cs)
  (hd : DataW.trod (fun _ => ()) Tryz.prog W 0 (fun _ => true) false fuel 181 cs.toList = some (Rows.laid_internal_strconv_uint64pow10, p)) : PowAt W := by
 rw [powDt] at hd
 unfold PowAt Lib.TabIs
 rw [hv, ← Lib.cells_of_tab Tryz.underlying181 Tryz.underlying153 (by kernel_rfl) (by kernel_rfl) hd]
theorem tms_of_var {W : World} {cs : Array Value} {fuel : Nat} {p : List MemPlace} (hv : W.var? Tryz.prog "loop.example/g00457/impl.termWords" = some cs)
  (hd : DataW.trod (fun _ => ()) Tryz.prog W 0 (fun _ => true) false fuel 120 cs.toList = some (Rows.laid_loop_example_g00457_impl_termWords, p)) : TmsAt W := by
 have hcell : ∀ r, r < 5 → W.cell? ⟨0, r, none⟩ = some (.string (tmW r)) := by
  intro r hr
  obtain ⟨xs, m, _, ex, _, hl, hel⟩ := DataW.trod_array Tryz.underlying120 hd
  have c5 : Tryz.prog.cellsOf 9 = 1 := by kernel_rfl
  have hE := hel r hr
  rw [c5, Nat.mul_one, List.getElem?_eq_getElem (by omega)] at hE
  obtain ⟨s, e1, e2, _⟩ := DataW.trod_string Tryz.underlying9 hE
  have hlen : tmWL.length = 5 := rfl
  rw [tmsDt] at ex
  have e3 : (xs.map (·.1)) = tmWL.map fun b => .lit (.string b) := (DataW.agg.inj (Prod.mk.inj ex).1).symm
  have e4 : (xs.map (·.1))[r]? = (tmWL.map fun b => (DataW.lit (.string b) : DataW Unit))[r]? := by rw [e3]
  rw [List.getElem?_map, List.getElem?_map, List.getElem?_eq_getElem (by omega : r < xs.length), List.getElem?_eq_getElem (by omega : r < tmWL.length), e2] at e4
  have hz : s = tmW r := by
   simp only [Option.map_some, Option.some.injEq, DataW.lit.injEq, Lit.string.injEq] at e4
   unfold tmW bs
   rw [List.getD, List.getElem?_eq_getElem (by omega : r < tmWL.length)]
   refine ByteArray.ext (Array.toList_inj.1 ?_)
   simpa using e4
  rw [World.var?_cell gTms hv r, ← hz]
  have : cs.toList[r]? = some (.string s) := by
   have h0 : ((cs.toList.drop r).take 1)[0]? = some (.string s) := by rw [e1]; rfl
   simpa using h0
  simpa using this
 refine ⟨?_, hcell⟩
 rcases Nat.lt_or_ge 0 W.heap.size with h | h
 ·exact h
 ·have := hcell 0 (by omega)
  simp [World.cell?, Array.getElem?_eq_none h] at this
theorem gv_of {W : World} {n : String} {g : Nat} {x : Value} (hg : Tryz.prog.globalNamed n = some g) (h : W.var? Tryz.prog n = some #[x]) : Gv W g x := by
 have hc : W.cell? ⟨g, 0, none⟩ = some x := by rw [World.var?_cell hg h 0]; rfl
 refine ⟨hc, ?_⟩
 rcases Nat.lt_or_ge g W.heap.size with h | h
 ·exact h
 ·simp [World.cell?, Array.getElem?_eq_none h] at hc
theorem three_vars {H : Type} {enc : TypeId × Value → H} {P : Program} {W : World} {sp : Nat → Bool} {n m k : String} {gs : List (DataW H)} {q : List MemPlace} (h : DataW.TrodVars enc P W sp [n, m, k] gs q) : ∃ g1 g2 g3, gs = [g1, g2, g3] := by
 match gs, h with
 | [g], h => obtain ⟨_, _, _, _, _, _, _, _, _, _, h, _⟩ := h; exact h.elim
 | [g1, g2], h =>
  obtain ⟨_, _, _, _, _, _, _, _, _, _, h, _⟩ := h
  obtain ⟨_, _, _, _, _, _, _, _, _, _, h, _⟩ := h
  exact h.elim
 | [g1, g2, g3], _ => exact ⟨g1, g2, g3, rfl⟩
 | g1 :: g2 :: g3 :: x :: r, h =>
  obtain ⟨_, _, _, _, _, _, _, _, _, _, h, _⟩ := h
  obtain ⟨_, _, _, _, _, _, _, _, _, _, h, _⟩ := h
  obtain ⟨_, _, _, _, _, _, _, _, _, _, h, _⟩ := h
  exact h.elim
structure LaidM (W : World) (aC : Addr) : Prop where
 c : W.var? Tryz.prog "loop.example/g00457/impl.errUnread" = some #[errV aC]
 gv : Gv W 1 (errV aC)
 es : ErrsAt W
 pw : PowAt W
 ops : OpsAt W
 tms : TmsAt W
theorem LaidM.tabs {W : World} {aC : Addr} (h : LaidM W aC) : Tabs W aC := ⟨h.gv, h.es, h.pw, h.ops, h.tms⟩
set_option maxHeartbeats 8000000 in
set_option maxRecDepth 100000 in
theorem read_of_laid {W : World} (h : laidMetH Tryz.prog Rows.fnExactReadModuleRow.laid W) : ∃ aC, LaidM W aC := by
 rw [MakeChecks.laidMetH_plain _ _ _ (by kernel_rfl)] at h
 obtain ⟨ps, ⟨g0, t0, cs0, f0, p0, q0, hg0, ht0, hv0, hd0, ⟨g1, t1, cs1, f1, p1, q1, hg1, ht1, hv1, hd1, ⟨g2, t2, cs2, f2, p2, q2, hg2, ht2, hv2, hd2, ⟨g3, t3, cs3, f3, p3, q3, hg3, ht3, hv3, hd3, ⟨g4, t4, cs4, f4, p4, q4, hg4, ht4, hv4, hd4, ⟨g5, t5, cs5, f5, p5, q5, hg5, ht5, hv5, hd5, ⟨g6, t6, cs6, f6, p6, q6, hg6, ht6, hv6, hd6, ⟨g7, t7, cs7, f7, p7, q7, hg7, ht7, hv7, hd7, ⟨g8, t8, cs8, f8, p8, q8, hg8, ht8, hv8, hd8, ⟨g9, t9, cs9, f9, p9, q9, hg9, ht9, hv9, hd9, hq9, e9⟩, e8⟩, e7⟩, e6⟩, e5⟩, e4⟩, e3⟩, e2⟩, e1⟩, e0⟩, hnd, hrows⟩ := h
 obtain rfl := Option.some.inj (gPow.symm.trans hg2)
 obtain rfl := Option.some.inj (tPow.symm.trans ht2)
 obtain rfl := Option.some.inj (gRg.symm.trans hg4)
 obtain rfl := Option.some.inj (tRg.symm.trans ht4)
 obtain rfl := Option.some.inj (gSy.symm.trans hg5)
 obtain rfl := Option.some.inj (tSy.symm.trans ht5)
 obtain rfl := Option.some.inj (gOps.symm.trans hg6)
 obtain rfl := Option.some.inj (tOps.symm.trans ht6)
 obtain rfl := Option.some.inj (gC.symm.trans hg8)
 obtain rfl := Option.some.inj (tC.symm.trans ht8)
 obtain rfl := Option.some.inj (gTms.symm.trans hg7)
 obtain rfl := Option.some.inj (tTms.symm.trans ht7)
 have hO := ops_of_var hv6 hd6
 have hT := tms_of_var hv7 hd7
 have hW := pow_of_var hv2 hd2
 clear hd0 hd1 hd2 hd3 hd6 hd7 hd9
 subst e9
 subst e8
 subst e7
 subst e6
 subst e5
 subst e4
 subst e3
 subst e2
 subst e1
 subst e0
 obtain ⟨l4⟩ := cs4
 obtain ⟨l5⟩ := cs5
 obtain ⟨l8⟩ := cs8
 have ok4 : ∀ u v, l4 = [.iface u v] → Value.okWide Tryz.prog W .any 0 u v := fun u v e => by
  subst e
  exact (hrows 10 0 (by simp [MemPlace.row])).2 u v (by simpa using World.var?_cell hg4 hv4 0)
 have ok5 : ∀ u v, l5 = [.iface u v] → Value.okWide Tryz.prog W .any 0 u v := fun u v e => by
  subst e
  exact (hrows 9 0 (by simp [MemPlace.row])).2 u v (by simpa using World.var?_cell hg5 hv5 0)
 have ok8 : ∀ u v, l8 = [.iface u v] → Value.okWide Tryz.prog W .any 0 u v := fun u v e => by
  subst e
  exact (hrows 1 0 (by simp [MemPlace.row])).2 u v (by simpa using World.var?_cell hg8 hv8 0)
 obtain ⟨a4, s4, rfl, hc4, hs4, hz4, rfl⟩ := errorString_of_trod Tryz.underlying45 lrow Tryz.underlying232 Tryz.underlying234 rfl rfl Tryz.underlying9 lcES lcS hd4 ok4
 obtain ⟨a5, s5, rfl, hc5, hs5, hz5, rfl⟩ := errorString_of_trod Tryz.underlying45 lrow Tryz.underlying232 Tryz.underlying234 rfl rfl Tryz.underlying9 lcES lcS hd5 ok5
 obtain ⟨a8, s8, rfl, hc8, hs8, hz8, rfl⟩ := errorString_of_trod Tryz.underlying45 lrow Tryz.underlying232 Tryz.underlying234 rfl rfl Tryz.underlying9 lcES lcS hd8 ok8
 exact ⟨a8, ⟨hv8, gv_of gC hv8, ⟨⟨_, gv_of gSy hv5, .inr ⟨_, _, rfl⟩⟩, ⟨_, gv_of gRg hv4, .inr ⟨_, _, rfl⟩⟩⟩, hW, hO, hT⟩⟩
theorem read_met (os : Os) (args : Array Value) : laidMetH Tryz.prog Rows.fnExactReadModuleRow.laid ((World.laidAll Tryz.prog os Rows.fnExactReadModuleRow.laid).forCall (fun _ _ => 0) ⟨#[], args, []⟩).memory := by
 rw [MakeChecks.laidMetH_plain _ _ _ (by kernel_rfl)]
 exact laidMet_laidAll _ (by kernel_rfl) (by kernel_rfl)
end Go.Proofs.YtkpmiikafconmaaGreatDoor
