/- A number's bytes: the program's way. -/
import Derived.Test.YtpmanjkaiknlhaaDoorVof
import Derived.OwnWalk
import Derived.Laws.AppendOwn
import Derived.Test.YtpmanjkaiknlhaaDoorPbB
namespace Go.Proofs.YtpmanjkaiknlhaaDoor
open Go.RowKit

theorem infoB : (Tryd.prog.info? 5).map (fun i => (i.zero, i.size, i.bytes)) = some (some (.int .u8 0), 1, 1) := by kernel_rfl
theorem own_sliceB {w : World} {b : Nat} {e : TypeId} {z : Nat} {v : Value} {n : Nat} {xs : List Value} (h : w.ownsRow b e z v n xs) : ∃ a c, v = .slice a n c := by
  rcases h.2 with ⟨rfl, rfl⟩ | ⟨g, cap, cur, rfl, _⟩
  · exact ⟨_, _, rfl⟩
  · exact ⟨_, _, rfl⟩
theorem lit_cellB {w : World} {v : Value} {t : TypeId} : ∀ j u, [v][j]? = some u → (w.alloc (.cells #[v] t)).cell? ((⟨w.heap.size, 0, none⟩ : Addr).add j) = some u := by
  intro j u hj
  rcases j with _ | j
  · simp at hj; subst hj; simp [Addr.add]
  · simp at hj
theorem own_geB {w : World} {b : Nat} {e : TypeId} {s : Nat} {v : Value} {n : Nat} {xs : List Value} (h : w.ownsRow b e s v n xs) {g : Nat} (hv : v.ownBlock = some g) : b ≤ g := (h.lt g hv).1
theorem u8_nat {q : Nat} (h : q < 256) : (UInt8.ofNat q).toNat = q := by simp; omega
/-- Bytes as cells. -/
def byteVs (l : List UInt8) : List Value := l.map fun b => .int .u8 (b.toNat : Int)
theorem byteVs_snoc (l : List UInt8) (b : UInt8) : byteVs (l ++ [b]) = byteVs l ++ [.int .u8 (b.toNat : Int)] := by simp [byteVs]
theorem conv_own {w : World} {base : Nat} {v : Value} {l : List UInt8} {n : Nat} (hn : n = l.length) (h : w.ownsRow base 5 1 v n (byteVs l)) (hl : 0 < l.length) : (convert 61 9 v).run Tryd.prog w = .ok (.string ⟨l.toArray⟩) w := by
  subst hn
  rcases h.2 with ⟨_, h0⟩ | ⟨g, cap, cur, rfl, hb, hg, r⟩
  · omega
  refine run_convert_bytes_back w _ _ 5 _ cap l Tryd.underlying61 Tryd.underlying5 Tryd.underlying9 fun j hj => ?_
  exact h.cells rfl j _ (by simp [byteVs, hj])
theorem or_i64 (a b : Nat) (ha : a < 4294967296) (hb : b < 4294967296) : bits .or .i64 (a : Int) (b : Int) = ((a ||| b : Nat) : Int) := by
  have hx : a ||| b < 2 ^ 32 := Nat.or_lt_two_pow (by omega) (by omega)
  have h1 : (BitVec.ofInt 64 (a : Int)).toNat = a := by simp; omega
  have h2 : (BitVec.ofInt 64 (b : Int)).toNat = b := by simp; omega
  show IntKind.i64.wrap ((BitVec.ofInt 64 (a : Int) ||| BitVec.ofInt 64 (b : Int)).toNat : Int) = _
  rw [BitVec.toNat_or, h1, h2, IntKind.wrap_i64]
  generalize a ||| b = q at hx
  omega
set_option maxRecDepth 100000 in
theorem or_small : ∀ a : Nat, a < 256 → a ||| 128 = 128 + a % 128 := by decide +kernel
theorem or_128 (m : Nat) : (m ||| 128) % 256 = 128 + m % 128 := by
  have h := Nat.or_mod_two_pow (a := m) (b := 128) (n := 8)
  rw [show (2 : Nat) ^ 8 = 256 from rfl] at h
  rw [h, show (128 : Nat) % 256 = 128 from rfl, or_small (m % 256) (by omega)]
  omega

end Go.Proofs.YtpmanjkaiknlhaaDoor
namespace Go.Proofs.YtpmanjkaiknlhaaDoor
open Go.RowKit

theorem u8_of {b : UInt8} {q : Nat} (h : q = b.toNat) : UInt8.ofNat q = b := by
  apply UInt8.toNat_inj.1
  rw [u8_nat (by have := b.toNat_lt; omega), h]
theorem rdl_yes (l : List UInt8) : ∀ (k n x m : Nat), rdl k n l = (x, m) → m ≠ 0 → ∃ y, x = n + 128 ^ k * y ∧ k ≤ m ∧ m - k ≤ l.length ∧ vl y = l.take (m - k) ∧ (0 < k → 0 < y) ∧ x ≤ 4294967295 := by
  induction l with
  | nil => intro k n x m h hm; simp [rdl] at h; omega
  | cons b r ih =>
    intro k n x m h hm
    have hb := b.toNat_lt
    by_cases h5 : 5 ≤ k
    · rw [rdl, if_pos h5] at h
      cases h; omega
    · rw [rdl_cons (by omega)] at h
      by_cases h1 : 128 ≤ b.toNat
      · rw [if_pos h1] at h
        obtain ⟨y, hx, hk, hlen, hv, hy, hmax⟩ := ih _ _ _ _ h hm
        refine ⟨b.toNat % 128 + 128 * y, ?_, by omega, by simp; omega, ?_, fun _ => by have := hy (by omega); omega, hmax⟩
        · rw [hx, Nat.pow_succ, Nat.mul_add, Nat.mul_assoc]; omega
        · have h0 := hy (by omega)
          rw [vl_more (by omega), show (b.toNat % 128 + 128 * y) / 128 = y by omega, hv, show m - k = (m - (k + 1)) + 1 by omega, List.take_succ_cons]
          congr 1
          exact u8_of (by omega)
      · rw [if_neg h1] at h
        by_cases h2 : 4294967295 < n + 128 ^ k * (b.toNat % 128) ∨ (b.toNat = 0 ∧ 0 < k)
        · rw [if_pos h2] at h
          cases h; omega
        · rw [if_neg h2] at h
          cases h
          refine ⟨b.toNat, by rw [Nat.mod_eq_of_lt (by omega)], by omega, by simp, ?_, fun h => by omega, by omega⟩
          rw [vl_last (by omega), show k + 1 - k = 1 by omega]
          simp
theorem rdl_back (r : List UInt8) : ∀ (y k n : Nat), n + 128 ^ k * y ≤ 4294967295 → (0 < k → 0 < y) → k + (vl y).length ≤ 5 → rdl k n (vl y ++ r) = (n + 128 ^ k * y, k + (vl y).length) := by
  intro y
  induction y using Nat.strongRecOn with
  | ind y ih =>
    intro k n hm hk h5
    by_cases h1 : y < 128
    · rw [vl_last h1] at h5 ⊢
      simp at h5
      have e : (UInt8.ofNat y).toNat = y := u8_nat (by omega)
      rw [List.singleton_append, rdl_cons (by omega), e, if_neg (by omega), Nat.mod_eq_of_lt h1, if_neg (by omega)]
      simp
    · rw [vl_more (by omega)] at h5 ⊢
      simp only [List.length_cons, List.cons_append] at h5 ⊢
      have e : (UInt8.ofNat (128 + y % 128)).toNat = 128 + y % 128 := u8_nat (by omega)
      have hp : 128 ^ (k + 1) * (y / 128) + 128 ^ k * (y % 128) = 128 ^ k * y := by
        rw [Nat.pow_succ, Nat.mul_assoc, ← Nat.mul_add, Nat.div_add_mod]
      have e2 : (128 + y % 128) % 128 = y % 128 := by omega
      rw [rdl_cons (by omega), e, if_pos (by omega), e2, ih (y / 128) (by omega) (k + 1) _ (by omega) (by omega) (by omega)]
      exact Prod.ext (by simp only; omega) (by simp only; omega)

/-- What stands at a place, written again. -/
theorem rdAt_yes {t : ByteArray} {a : Int} (h : 0 < (rdAt t a).2) : 0 ≤ a ∧ a + ((rdAt t a).2 : Int) ≤ t.size ∧ vof ((rdAt t a).1 : Int) = t.extract a.toNat (a.toNat + (rdAt t a).2) := by
  unfold rdAt at h ⊢
  split at h
  · rename_i hin
    rw [if_pos hin]
    generalize hq : rdl 0 0 (t.data.toList.drop a.toNat) = q at h
    obtain ⟨x, m⟩ := q
    obtain ⟨y, hx, _, hl, hv, _, hmax⟩ := rdl_yes _ _ _ _ _ hq (by simpa using Nat.pos_iff_ne_zero.1 h)
    simp at hx hl hv
    subst hx
    refine ⟨hin.1, by simp only; omega, ?_⟩
    unfold vof
    rw [if_pos (by simp only; omega)]
    apply ByteArray.ext
    rw [show ((x : Nat) : Int).toNat = x from rfl, hv]
    apply Array.ext'
    simp [ByteArray.data_extract, Array.toList_extract, List.extract]
  · omega
theorem rdAt_back {n : Int} (h : 0 ≤ n ∧ n ≤ 4294967295) (p r : UInt8) : rdAt (⟨#[p]⟩ ++ vof n ++ ⟨#[r]⟩) 1 = (n.toNat, (vof n).size) := by
  have h5 := vl_five (n := n.toNat) (by omega)
  have e : (ByteArray.mk #[p] ++ vof n ++ ByteArray.mk #[r]) = ByteArray.mk ([p] ++ vl n.toNat ++ [r]).toArray := by
    unfold vof
    rw [if_pos h, show (ByteArray.mk #[p]) = ByteArray.mk [p].toArray from rfl, show (ByteArray.mk #[r]) = ByteArray.mk [r].toArray from rfl, ByteArray.mk_append_mk, ByteArray.mk_append_mk]
  have hz : (vof n).size = (vl n.toNat).length := by
    unfold vof
    rw [if_pos h]
    show (vl n.toNat).toArray.size = _
    simp
  rw [e, hz]
  unfold rdAt
  rw [if_pos ⟨by omega, by show (1 : Int) < (([p] ++ vl n.toNat ++ [r]).toArray.size : Nat); simp; omega⟩]
  have := rdl_back [r] n.toNat 0 0 (by simp; omega) (by omega) (by omega)
  simpa using this
end Go.Proofs.YtpmanjkaiknlhaaDoor
namespace Go.Proofs.YtpmanjkaiknlhaaDoor
open Go.RowKit
set_option linter.unusedVariables false
set_option linter.unusedSimpArgs false

def Rng (l : List Int) : Prop := ∀ x ∈ l, 0 ≤ x ∧ x ≤ 4294967295
theorem Rng.tail {x : Int} {l : List Int} (h : Rng (x :: l)) : Rng l := fun y hy => h y (List.mem_cons_of_mem _ hy)
theorem Rng.head {x : Int} {l : List Int} (h : Rng (x :: l)) : 0 ≤ x ∧ x ≤ 4294967295 := h x (List.mem_cons_self ..)
theorem Rng.left {a b : List Int} (h : Rng (a ++ b)) : Rng a := fun y hy => h y (List.mem_append_left _ hy)
theorem Rng.right {a b : List Int} (h : Rng (a ++ b)) : Rng b := fun y hy => h y (List.mem_append_right _ hy)
theorem Rng.join {a b : List Int} (h : Rng a) (k : Rng b) : Rng (a ++ b) := fun y hy => by
  rcases List.mem_append.1 hy with h1 | h1
  · exact h y h1
  · exact k y h1
def toL (l : List Int) : List UInt8 := l.flatMap fun n => vl n.toNat
theorem toL_nil : toL [] = [] := rfl
theorem toL_cons (x : Int) (l : List Int) : toL (x :: l) = vl x.toNat ++ toL l := by simp [toL]
theorem toL_append (a b : List Int) : toL (a ++ b) = toL a ++ toL b := by simp [toL]
theorem vl_ne (n : Nat) : vl n ≠ [] := by rw [vl]; split <;> simp
theorem vb_data : ∀ (l : List Int) (R : ByteArray), Rng l → (vb R l).data.toList = R.data.toList ++ toL l
  | [], R, _ => by simp [vb_nil, toL]
  | n :: l, R, h => by
    have hn := h.head
    rw [vb_cons, vb_data l _ h.tail, toL_cons]
    have e : (R ++ vof n).data.toList = R.data.toList ++ vl n.toNat := by
      unfold vof; rw [if_pos hn]; simp [ByteArray.data_append]
    rw [e, List.append_assoc]
theorem rd_one {x : Int} (h : 0 ≤ x ∧ x ≤ 4294967295) (r : List UInt8) : rdl 0 0 (vl x.toNat ++ r) = (x.toNat, (vl x.toNat).length) := by
  have h5 := vl_five (n := x.toNat) (by omega)
  rw [rdl_back r x.toNat 0 0 (by simp; omega) (by omega) (by omega)]; simp
theorem toL_cut : ∀ (p l : List Int) (r : List UInt8), Rng p → Rng l → toL p ++ r = toL l → ∃ q, l = p ++ q ∧ r = toL q
  | [], l, r, _, _, h => ⟨l, rfl, by simpa [toL] using h⟩
  | x :: p, [], r, _, _, h => by
    exfalso
    rw [toL_cons, toL_nil] at h
    exact vl_ne _ (List.append_eq_nil_iff.1 (List.append_eq_nil_iff.1 h).1).1
  | x :: p, y :: l, r, hp, hl, h => by
    rw [toL_cons, toL_cons, List.append_assoc] at h
    have e1 := rd_one hp.head (toL p ++ r)
    have e2 := rd_one hl.head (toL l)
    rw [h, e2] at e1
    have e3 : y.toNat = x.toNat := congrArg Prod.fst e1
    have h1 := hp.head
    have h2 := hl.head
    have e4 : y = x := by omega
    subst e4
    have h' := List.append_cancel_left h
    obtain ⟨q, rfl, hq⟩ := toL_cut p l r hp.tail hl.tail h'
    exact ⟨q, rfl, hq⟩
theorem toL_inj {p l : List Int} (hp : Rng p) (hl : Rng l) (h : toL p = toL l) : p = l := by
  obtain ⟨q, rfl, hq⟩ := toL_cut p l [] hp hl (by simpa using h)
  cases q with
  | nil => simp
  | cons x r => rw [toL_cons] at hq; exact absurd (List.append_eq_nil_iff.1 hq.symm).1 (vl_ne _)
/-- A number that is read, with what stands behind it. -/
theorem rd_yes {l : List UInt8} {x m : Nat} (h : rdl 0 0 l = (x, m)) (hm : m ≠ 0) : l = vl x ++ l.drop m ∧ x ≤ 4294967295 ∧ m ≤ l.length := by
  obtain ⟨y, hx, _, hlen, hv, _, hmax⟩ := rdl_yes _ _ _ _ _ h hm
  simp at hx hlen hv
  subst hx
  exact ⟨by rw [hv, List.take_append_drop], hmax, hlen⟩
theorem rd_no {l : List UInt8} {q : List Int} (hq : Rng q) (h : l = toL q) (hl : l ≠ []) : (rdl 0 0 l).2 ≠ 0 := by
  cases q with
  | nil => exact absurd h hl
  | cons x r =>
    rw [h, toL_cons, rd_one hq.head]
    intro e
    exact vl_ne _ (List.length_eq_zero_iff.1 e)
theorem wid_iff (x : Int) : (widthB x = true) = (x = 1 ∨ x = 8 ∨ x = 16 ∨ x = 32) := by
  simp [widthB, or_assoc]
theorem topZ_le (x : Int) : topZ x ≤ 4294967296 := by unfold topZ; split <;> (try split) <;> (try split) <;> omega
theorem mins_key {i : MInsD} {regs n : Int} (h : minsB i regs n = true) (hr : regs ≤ 130) (hn : n ≤ 600) : (0 ≤ i.op ∧ i.op ≤ 4294967295) ∧ (0 ≤ i.w ∧ i.w ≤ 4294967295) ∧ (0 ≤ i.d ∧ i.d ≤ 4294967295) ∧ (0 ≤ i.a ∧ i.a ≤ 4294967295) ∧ (0 ≤ i.b ∧ i.b ≤ 4294967295) ∧ (0 ≤ i.c ∧ i.c ≤ 4294967295) ∧ (0 ≤ i.imm ∧ i.imm ≤ 4294967295) := by
  have ht := topZ_le i.w
  unfold minsB at h
  by_cases h0 : i.op = 31 ∨ i.op = 32
  · rw [if_pos h0] at h
    simp only [regB, valueB, belowB, Bool.and_eq_true, decide_eq_true_eq, beq_iff_eq, Bool.or_eq_true, wid_iff, Bool.false_eq_true] at h
    omega
  rw [if_neg h0] at h
  by_cases h1 : i.op = 34
  · rw [if_pos h1] at h
    simp only [regB, valueB, belowB, Bool.and_eq_true, decide_eq_true_eq, beq_iff_eq, Bool.or_eq_true, wid_iff, Bool.false_eq_true] at h
    omega
  rw [if_neg h1] at h
  by_cases h2 : i.op = 33 ∨ i.op = 35
  · rw [if_pos h2] at h
    simp only [regB, valueB, belowB, Bool.and_eq_true, decide_eq_true_eq, beq_iff_eq, Bool.or_eq_true, wid_iff, Bool.false_eq_true] at h
    omega
  rw [if_neg h2] at h
  by_cases h3 : i.op = 21
  · rw [if_pos h3] at h
    simp only [regB, valueB, belowB, Bool.and_eq_true, decide_eq_true_eq, beq_iff_eq, Bool.or_eq_true, wid_iff, Bool.false_eq_true] at h
    omega
  rw [if_neg h3] at h
  by_cases h4 : ¬ i.imm = 0
  · rw [if_pos h4] at h
    simp at h
  rw [if_neg h4] at h
  by_cases h5 : 1 ≤ i.op ∧ i.op ≤ 17
  · rw [if_pos h5] at h
    simp only [regB, valueB, belowB, Bool.and_eq_true, decide_eq_true_eq, beq_iff_eq, Bool.or_eq_true, wid_iff, Bool.false_eq_true] at h
    omega
  rw [if_neg h5] at h
  by_cases h6 : 18 ≤ i.op ∧ i.op ≤ 20
  · rw [if_pos h6] at h
    simp only [regB, valueB, belowB, Bool.and_eq_true, decide_eq_true_eq, beq_iff_eq, Bool.or_eq_true, wid_iff, Bool.false_eq_true] at h
    omega
  rw [if_neg h6] at h
  by_cases h7 : i.op = 22
  · rw [if_pos h7] at h
    simp only [regB, valueB, belowB, Bool.and_eq_true, decide_eq_true_eq, beq_iff_eq, Bool.or_eq_true, wid_iff, Bool.false_eq_true] at h
    omega
  rw [if_neg h7] at h
  by_cases h8 : i.op = 23
  · rw [if_pos h8] at h
    simp only [regB, valueB, belowB, Bool.and_eq_true, decide_eq_true_eq, beq_iff_eq, Bool.or_eq_true, wid_iff, Bool.false_eq_true] at h
    omega
  rw [if_neg h8] at h
  by_cases h9 : i.op = 24
  · rw [if_pos h9] at h
    simp only [regB, valueB, belowB, Bool.and_eq_true, decide_eq_true_eq, beq_iff_eq, Bool.or_eq_true, wid_iff, Bool.false_eq_true] at h
    omega
  rw [if_neg h9] at h
  by_cases h10 : i.op = 25
  · rw [if_pos h10] at h
    simp only [regB, valueB, belowB, Bool.and_eq_true, decide_eq_true_eq, beq_iff_eq, Bool.or_eq_true, wid_iff, Bool.false_eq_true] at h
    omega
  rw [if_neg h10] at h
  simp at h
theorem mins_rng {i : MInsD} {regs n : Int} (h : minsB i regs n = true) (hr : regs ≤ 130) (hn : n ≤ 600) : Rng (minN i) := by
  have key := mins_key h hr hn
  intro x hx
  simp [minN] at hx
  rcases hx with rfl | rfl | rfl | rfl | rfl | rfl | rfl
  · exact key.1
  · exact key.2.1
  · exact key.2.2.1
  · exact key.2.2.2.1
  · exact key.2.2.2.2.1
  · exact key.2.2.2.2.2.1
  · exact key.2.2.2.2.2.2
theorem Rng.list {l : List Int} (h : Rng l) (hl : l.length ≤ 4294967295) : Rng (listN l) := fun x hx => by
  rcases List.mem_cons.1 hx with rfl | h1
  · omega
  · exact h x h1
theorem prog_rng {p : ProgD} (h : progB p = true) : Rng (progN p) := by
  simp only [progB, codeB, Bool.and_eq_true, decide_eq_true_eq, List.all_eq_true] at h
  obtain ⟨⟨r1, r2⟩, l1, hp, l2, hw, c1, c2, _, hc⟩ := h
  refine Rng.join (Rng.join (Rng.join (Rng.join ?_ (Rng.list ?_ (by omega))) (Rng.list ?_ (by omega))) ?_) ?_
  · intro x hx; simp at hx; omega
  · intro x hx
    have := hp x hx
    simp [belowB] at this
    omega
  · intro x hx
    have := hw x hx
    rw [wid_iff] at this
    omega
  · intro x hx; simp at hx; omega
  · intro x hx
    obtain ⟨i, hi, hx⟩ := List.mem_flatMap.1 hx
    exact mins_rng (hc i hi) r2 (by omega) x hx
theorem progN_eq (p : ProgD) : progN p = p.regs :: (listN p.params ++ (listN p.widths ++ ((p.code.length : Int) :: p.code.flatMap minN))) := by simp [progN, headN]
theorem listN_inj {a b x y : List Int} (h : listN a ++ x = listN b ++ y) : a = b ∧ x = y := by
  simp only [listN, List.cons_append, List.cons.injEq] at h
  exact List.append_inj h.2 (by omega)
theorem minN_inj {i j : MInsD} {x y : List Int} (h : minN i ++ x = minN j ++ y) : i = j ∧ x = y := by
  simp only [minN, List.cons_append, List.nil_append, List.cons.injEq] at h
  obtain ⟨h1, h2, h3, h4, h5, h6, h7, h8⟩ := h
  refine ⟨?_, h8⟩
  cases i; cases j
  simp only at h1 h2 h3 h4 h5 h6 h7
  simp [h1, h2, h3, h4, h5, h6, h7]
theorem flat_inj : ∀ (a b : List MInsD), a.length = b.length → a.flatMap minN = b.flatMap minN → a = b
  | [], [], _, _ => rfl
  | [], _ :: _, h, _ => by simp at h
  | _ :: _, [], h, _ => by simp at h
  | x :: a, y :: b, h, e => by
    rw [List.flatMap_cons, List.flatMap_cons] at e
    obtain ⟨h1, h2⟩ := minN_inj e
    rw [h1, flat_inj a b (by simpa using h) h2]
theorem progN_inj {p q : ProgD} (h : progN p = progN q) : p = q := by
  rw [progN_eq, progN_eq] at h
  simp only [List.cons.injEq] at h
  obtain ⟨h1, h⟩ := h
  obtain ⟨h2, h⟩ := listN_inj h
  obtain ⟨h3, h⟩ := listN_inj h
  simp only [List.cons.injEq] at h
  obtain ⟨h4, h5⟩ := h
  have h6 := flat_inj _ _ (by omega) h5
  cases p; cases q
  simp only at h1 h2 h3 h6
  simp [h1, h2, h3, h6]
/-- These are the bytes of that program. -/
def OkP (s : ByteArray) (p : ProgD) : Prop := progB p = true ∧ s = vb reg1 (progN p) ∧ s.size ≤ 20000
theorem ok_data {s : ByteArray} {p : ProgD} (h : OkP s p) : s.data.toList = reg1.data.toList ++ toL (progN p) := by
  rw [h.2.1, vb_data _ _ (prog_rng h.1)]
theorem ok_one {s : ByteArray} {p q : ProgD} (h : OkP s p) (k : OkP s q) : p = q := by
  have e := (ok_data h).symm.trans (ok_data k)
  exact progN_inj (toL_inj (prog_rng h.1) (prog_rng k.1) (List.append_cancel_left e))
theorem ok_iff {s : ByteArray} {p : ProgD} {L : List Int} (hL : Rng L) (hs : s.data.toList = reg1.data.toList ++ toL L) (hz : s.size ≤ 20000) : OkP s p ↔ progB p = true ∧ L = progN p := by
  constructor
  · intro h
    have e := (ok_data h).symm.trans hs
    exact ⟨h.1, (toL_inj (prog_rng h.1) hL (List.append_cancel_left e)).symm⟩
  · rintro ⟨h1, rfl⟩
    refine ⟨h1, ?_, hz⟩
    apply ByteArray.ext
    apply Array.ext'
    rw [hs, vb_data _ _ hL]
end Go.Proofs.YtpmanjkaiknlhaaDoor
