/- The contracts of the copying functions of blocks, functions and modules. -/
import Derived.Test.YtjmoonbpfieifaaGreatDoorSzQ
import Derived.Deep.QuietTactic
import Derived.BigQuiet
import Derived.Deep.RegionWith
import Derived.WalkSmall
namespace Go.Proofs.YtjmoonbpfieifaaGreatDoor
open Go.RowKit

theorem infoBlock : (Tryz.prog.info? 69).map (fun i => (i.zero, i.size, i.bytes)) = some (some (.agg #[.slice none 0 0, .slice none 0 0, .int .i64 0, .int .i64 0, .int .i64 0, .int .i64 0]), 6, 80) := by kernel_rfl
end Go.Proofs.YtjmoonbpfieifaaGreatDoor
namespace Go.Proofs.YtjmoonbpfieifaaGreatDoor
open Go.RowKit

set_option maxHeartbeats 1000000 in
theorem eqInts_any (lo lo' : Nat) (a b : Option Addr) (ca cb : Nat) (l : List Int) (w : World) (ha : IntsAt w lo a l) (hb : IntsAt w lo' b l) :
    Calls Tryz.prog 32 #[.slice a l.length ca, .slice b l.length cb] w fun e w' => e = .returned (.bool true) ∧ Below w.heap.size w w' := by
  have hm := ha.1
  go_enter Tryz.func32, Tryz.ntmps32
  go_wp2_with fail
  go_loopw [5] (fun i wr => ∃ (k : Nat), k ≤ l.length ∧ i = .int .i64 k ∧ Below w.heap.size w wr) (fun i _ => l.length - (intOf i).toNat)
  case atStart => exact ⟨0, by omega, rfl, Below.refl _ _⟩
  case round =>
    obtain ⟨k, hk, rfl, hB⟩ := hrel
    by_cases hlt : k < l.length
    · rcases ha.2 with rfl | ⟨ba, offa, rfl, hla, hba, hca⟩
      · simp at hlt
      rcases hb.2 with rfl | ⟨bb, offb, rfl, hlb, hbb, hcb⟩
      · simp at hlt
      have e0 : wr.cell? ⟨ba, offa + k, none⟩ = some (.int .i64 (l.getD k 0)) := (cell_block (hB.block ba hba)).trans (hca k hlt)
      have e1 : wr.cell? ⟨bb, offb + k, none⟩ = some (.int .i64 (l.getD k 0)) := (cell_block (hB.block bb hbb)).trans (hcb k hlt)
      generalize l.getD k 0 = d at e0 e1
      have HB : Hid (Below w.heap.size w wr) := hB
      clear hca hcb hB ha hb
      go_wp2_with fail
      go_quiet (fail)
      go_wp2_with fail
      go_roundw
      case rel => exact ⟨k + 1, by omega, by go_num, below_drewN HB.out _⟩
      case measure => simp [intOf]; omega
    · go_wp2_with fail
      go_ret
      exact ⟨rfl, hB⟩
set_option maxHeartbeats 2000000 in
theorem eqInst_any (lo lo' : Nat) (d : InstD) (u6 : Option Addr) (c6 : Nat) (v6 : Option Addr) (q6 : Nat) (w : World) (k6 : IntsAt w lo u6 d.args) (n6 : IntsAt w lo' v6 d.args) :
    Calls Tryz.prog 13 #[.agg #[.int .i64 d.op, .int .i64 d.w, .int .i64 d.a, .int .i64 d.b, .int .i64 d.c, .int .i64 d.imm, .slice u6 d.args.length c6], .agg #[.int .i64 d.op, .int .i64 d.w, .int .i64 d.a, .int .i64 d.b, .int .i64 d.c, .int .i64 d.imm, .slice v6 d.args.length q6]] w fun e w' => e = .returned (.bool true) ∧ Below w.heap.size w w' := by
  go_enter Tryz.func13, Tryz.ntmps13
  go_wp2_with (first | (go_at_call 32; refine (eqInts_any lo lo' _ _ _ _ _ _ (k6.keep (agree_of_below (((Below.refl w.heap.size w).alloc (Nat.le_refl _) _).alloc (by first | (simp; done) | (simp; omega)) _) _)) (n6.keep (agree_of_below (((Below.refl w.heap.size w).alloc (Nat.le_refl _) _).alloc (by first | (simp; done) | (simp; omega)) _) _))).mono ?_; rintro e w1 ⟨rfl, hb1⟩; have hcc1 := bcell hb1; have z1a : w.heap.size < w1.heap.size := (by have := hb1.size; (try simp at this); omega); have z1b : w.heap.size + 1 < w1.heap.size := (by have := hb1.size; (try simp at this); omega); have hB1 : Below w.heap.size w w1 := (((Below.refl w.heap.size w).alloc (Nat.le_refl _) _).alloc (by first | (simp; done) | (simp; omega)) _).trans (hb1.mono (by first | (simp; done) | (simp; omega)))))
  go_ret
  exact ⟨rfl, hB1⟩
end Go.Proofs.YtjmoonbpfieifaaGreatDoor
namespace Go.Proofs.YtjmoonbpfieifaaGreatDoor
open Go.RowKit

end Go.Proofs.YtjmoonbpfieifaaGreatDoor
