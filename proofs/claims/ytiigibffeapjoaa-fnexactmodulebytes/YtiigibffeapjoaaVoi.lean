/- A number's bytes: the program's way. -/
import Derived.Test.YtiigibffeapjoaaVof
import Derived.OwnWalk
import Derived.Laws.AppendOwn
namespace Go.Proofs.Ytiigibffeapjoaa
open Go.RowKit

theorem infoB : (Try.prog.info? 5).map (fun i => (i.zero, i.size, i.bytes)) = some (some (.int .u8 0), 1, 1) := by kernel_rfl
theorem own_sliceB {w : World} {b : Nat} {e : TypeId} {z : Nat} {v : Value} {n : Nat} {xs : List Value} (h : w.ownsRow b e z v n xs) : ∃ a c, v = .slice a n c := by
  rcases h.2 with ⟨rfl, rfl⟩ | ⟨g, cap, cur, rfl, _⟩
  · exact ⟨_, _, rfl⟩
  · exact ⟨_, _, rfl⟩
theorem lit_cellB {w : World} {v : Value} {t : TypeId} : ∀ j u, [v][j]? = some u → (w.alloc (.cells #[v] t)).cell? ((⟨w.heap.size, 0, none⟩ : Addr).add j) = some u := by
  intro j u hj
  rcases j with _ | j
  · simp at hj; subst hj; simp [Addr.add]
  · simp at hj
theorem own_geB {w : World} {b : Nat} {e : TypeId} {s : Nat} {v : Value} {n : Nat} {xs : List Value} (h : w.ownsRow b e s v n xs) {g : Nat} (hv : v.ownBlock = some g) : b ≤ g := (h.lt g hv).1
theorem u8_nat {q : Nat} (h : q < 256) : (UInt8.ofNat q).toNat = q := by simp; omega
/-- Bytes as cells. -/
def byteVs (l : List UInt8) : List Value := l.map fun b => .int .u8 (b.toNat : Int)
theorem byteVs_snoc (l : List UInt8) (b : UInt8) : byteVs (l ++ [b]) = byteVs l ++ [.int .u8 (b.toNat : Int)] := by simp [byteVs]
theorem conv_own {w : World} {base : Nat} {v : Value} {l : List UInt8} {n : Nat} (hn : n = l.length) (h : w.ownsRow base 5 1 v n (byteVs l)) (hl : 0 < l.length) : (convert 68 9 v).run Try.prog w = .ok (.string ⟨l.toArray⟩) w := by
  subst hn
  rcases h.2 with ⟨_, h0⟩ | ⟨g, cap, cur, rfl, hb, hg, r⟩
  · omega
  refine run_convert_bytes_back w _ _ 5 _ cap l Try.underlying68 Try.underlying5 Try.underlying9 fun j hj => ?_
  exact h.cells rfl j _ (by simp [byteVs, hj])
theorem or_i64 (a b : Nat) (ha : a < 4294967296) (hb : b < 4294967296) : bits .or .i64 (a : Int) (b : Int) = ((a ||| b : Nat) : Int) := by
  have hx : a ||| b < 2 ^ 32 := Nat.or_lt_two_pow (by omega) (by omega)
  have h1 : (BitVec.ofInt 64 (a : Int)).toNat = a := by simp; omega
  have h2 : (BitVec.ofInt 64 (b : Int)).toNat = b := by simp; omega
  show IntKind.i64.wrap ((BitVec.ofInt 64 (a : Int) ||| BitVec.ofInt 64 (b : Int)).toNat : Int) = _
  rw [BitVec.toNat_or, h1, h2, IntKind.wrap_i64]
  generalize a ||| b = q at hx
  omega
set_option maxRecDepth 100000 in
theorem or_small : ∀ a : Nat, a < 256 → a ||| 128 = 128 + a % 128 := by decide +kernel
theorem or_128 (m : Nat) : (m ||| 128) % 256 = 128 + m % 128 := by
  have h := Nat.or_mod_two_pow (a := m) (b := 128) (n := 8)
  rw [show (2 : Nat) ^ 8 = 256 from rfl] at h
  rw [h, show (128 : Nat) % 256 = 128 from rfl, or_small (m % 256) (by omega)]
  omega

set_option maxHeartbeats 2000000 in
set_option maxRecDepth 100000 in
theorem varI (a : Int) (w : World) :
    Calls Try.prog 30 #[.int .i64 a] w fun e w' => e = .returned (.string (vof a)) ∧ Below w.heap.size w w' := by
  obtain ⟨i0, hi, hz0, hz1, hz2⟩ := info_parts infoB
  have HI : Hid (Try.prog.info? 5 = some i0) := hi
  have HZ0 : Hid (i0.zero = some (.int .u8 0)) := hz0
  have HZ1 : Hid (i0.size = 1) := hz1
  have HZ2 : Hid (i0.bytes = 1) := hz2
  clear hi hz0 hz1 hz2
  by_cases hin : 0 ≤ a ∧ a ≤ 4294967295
  · obtain ⟨n, rfl⟩ : ∃ n : Nat, a = n := ⟨a.toNat, by omega⟩
    have hn : n ≤ 4294967295 := by omega
    have HV : Hid (vof n = ⟨(vl n).toArray⟩) := by show _ = _; unfold vof; rw [if_pos hin]; rfl
    have h5 := vl_five hn
    clear hin
    go_enter Try.func30, Try.ntmps30
    go_wp2_with fail
    go_loopw [0, 3] (fun i st wr => ∃ (z : Int) (l : List UInt8), 0 ≤ z ∧ z ≤ 4294967295 ∧ l.length ≤ 5 ∧ i = .int .i64 z ∧ Hid (wr.ownsRow w.heap.size 5 1 st l.length (byteVs l)) ∧ Hid (vl n = l ++ vl z.toNat) ∧ Hid (Below w.heap.size w wr)) (fun i _ _ => (numOf i).toNat)
    case atStart => exact ⟨n, [], by omega, by omega, by simp, rfl, World.ownsRow_nil _ _ _ _, rfl, Below.refl _ _⟩
    case round =>
      obtain ⟨z, l, hm0, hm, hl, rfl, HO, HL, HB⟩ := hrel
      obtain ⟨ta, tc, rfl⟩ := own_sliceB HO.out
      have hz : w.heap.size ≤ wr.heap.size := HB.out.size
      by_cases h1 : z < 128
      · have h1' : ¬ 128 ≤ z := by omega
        have HT : Hid (byteVs l ++ [.int .u8 z] = byteVs (l ++ [UInt8.ofNat z.toNat])) := (by show _ = _; rw [byteVs_snoc, u8_nat (by omega : z.toNat < 256)]; congr 3; omega)
        have HN : Hid (l ++ [UInt8.ofNat z.toNat] = vl n) := (by show _ = _; rw [HL.out, vl_last (by omega)])
        go_wp2_with (at_builtin; refine wpList_append_own _ rfl _ _ 68 rfl w.heap.size 5 i0 (.int .u8 0) 1 1 Try.underlying68 HI.out HZ0.out HZ1.out HZ2.out rfl (by decide) (.slice ta l.length tc) l.length (byteVs l) rfl (by exact (HO.out.alloc _)) ⟨wr.heap.size, 0, none⟩ 1 1 [.int .u8 (z)] rfl (by simp) (by exact lit_cellB) (by simp [Value.oneCell']) (by unfold maxLen; omega) (by omega) (by simp; omega) ?_; intro v3 w3 ho3 hg3 _; have HB3 : Hid (Below w.heap.size w w3) := (HB.out.alloc hz _).grown hg3 (by simp; omega) (fun q hq => own_geB HO.out hq); rw [HT.out, HN.out] at ho3; have hcv := conv_own (by have := congrArg List.length HN.out; simpa using this) ho3 (by rw [← HN.out]; simp); clear ho3 hg3)
        go_ret
        exact ⟨by rw [HV.out]; rfl, HB3.out⟩
      · have h1' : 128 ≤ z := by omega
        obtain ⟨y, hy⟩ : ∃ y : Int, bits .or .i64 z 128 = y := ⟨_, rfl⟩
        have HY : Hid (y % 256 = ((UInt8.ofNat (128 + z.toNat % 128)).toNat : Int)) := (by
          show _ = _
          have e : bits .or .i64 z 128 = ((z.toNat ||| 128 : Nat) : Int) := (by have h := or_i64 z.toNat 128 (by omega) (by omega); rw [Int.toNat_of_nonneg hm0] at h; exact h)
          have e2 := or_128 z.toNat
          rw [hy] at e
          rw [u8_nat (by omega : 128 + z.toNat % 128 < 256)]
          generalize z.toNat ||| 128 = q at e e2
          omega)
        have hlen : l.length + 1 ≤ 5 := (by
          have h6 := congrArg List.length HL.out
          have h7 : 0 < (vl (z.toNat / 128)).length := by rw [vl]; split <;> simp
          rw [vl_more (n := z.toNat) (by omega)] at h6
          simp at h6; omega)
        go_wp2_with (at_builtin; refine wpList_append_own _ rfl _ _ 68 rfl w.heap.size 5 i0 (.int .u8 0) 1 1 Try.underlying68 HI.out HZ0.out HZ1.out HZ2.out rfl (by decide) (.slice ta l.length tc) l.length (byteVs l) rfl (by exact (HO.out.alloc _)) ⟨wr.heap.size, 0, none⟩ 1 1 [.int .u8 (y % 256)] rfl (by simp) (by exact lit_cellB) (by simp [Value.oneCell']) (by unfold maxLen; omega) (by omega) (by simp; omega) ?_; intro v3 w3 ho3 hg3 _; have HB3 : Hid (Below w.heap.size w w3) := (HB.out.alloc hz _).grown hg3 (by simp; omega) (fun q hq => own_geB HO.out hq); rw [HY.out, ← byteVs_snoc] at ho3; have HO3 : Hid _ := ho3; clear ho3 hg3)
        refine ⟨⟨z / 128, l ++ [UInt8.ofNat (128 + z.toNat % 128)], by omega, by omega, by simp; omega, rfl, ?_, ?_, HB3.out⟩, by simp only [numOf]; omega⟩
        · have h := HO3.out
          rw [show l.length + 1 = (l ++ [UInt8.ofNat (128 + z.toNat % 128)]).length by simp] at h
          exact h
        · show vl n = _
          rw [HL.out, vl_more (n := z.toNat) (by omega), show (z / 128).toNat = z.toNat / 128 by omega]; simp
  · have HV : Hid (vof a = ⟨#[]⟩) := by show _ = _; unfold vof; rw [if_neg hin]
    go_enter Try.func30, Try.ntmps30
    go_wp2_with fail
    all_goals first | omega | (go_ret; exact ⟨by rw [HV.out]; rfl, Below.refl _ _⟩) | trace_state
end Go.Proofs.Ytiigibffeapjoaa
