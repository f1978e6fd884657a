import Derived.Test.YtkpmiikafconmaaGreatDoorRdrJp
namespace Go.Proofs.YtkpmiikafconmaaGreatDoor
open Go.RowKit
set_option maxHeartbeats 400000
theorem Code.alloc{a0:Option Addr}{len g:Nat}{w:World}(h:Code a0 len g w)(hg:g≤w.heap.size)(o:Obj):Code a0 len g (w.alloc o):=by
 rcases h with h|⟨b,off,ha,hb,hc⟩
 ·exact .inl h
 ·refine .inr ⟨b,off,ha,hb,fun i hi=>?_⟩
  obtain⟨n,h0,h1,h2⟩:=hc i hi
  exact⟨n,h0,h1,by rw[cell_blk (Below.heap_alloc w o b (by omega))];exact h2⟩
theorem Rd.alloc{g:Nat}{a0:Option Addr}{len cap:Nat}{w:World}(h:Rd g a0 len cap w)(o:Obj):Rd g a0 len cap (w.alloc o):=by
 obtain⟨hg,hl,hc,p,hp,hb⟩:=h
 exact⟨by simp;omega,hl,hc.alloc (by omega) o,p,hp,by rw[Below.heap_alloc w o g hg];exact hb⟩
theorem Rd.lt{g:Nat}{a0:Option Addr}{len cap:Nat}{w:World}(h:Rd g a0 len cap w):g<w.heap.size:=h.1
theorem four{w w1:World}{g:Nat}{x0 x1 x2 x3 n:Int}{t:TypeId}(hg:g<w.heap.size)(k:(w.alloc (.cells #[.int .i64 x0,.int .i64 x1,.int .i64 x2,.int .i64 x3] t)).grownBy w1 (some g))(h0:0≤n)(h1:n<4) :
  ∃ z:Int,w1.cell? ⟨w.heap.size,n.toNat,none⟩=some (.int .i64 z)∧(z=x0∨z=x1∨z=x2∨z=x3):=by
 have hb:w1.heap[w.heap.size]?=some (.cells #[.int .i64 x0,.int .i64 x1,.int .i64 x2,.int .i64 x3] t (0,0)):=by
  rw[k.block w.heap.size (by simp) (by simp;omega)]
  show (w.heap.push _)[w.heap.size]?=_
  simp
 have hn:n=0∨n=1∨n=2∨n=3:=by omega
 rcases hn with rfl|rfl|rfl|rfl
 ·exact⟨x0,by unfold World.cell?;rw[hb];rfl,.inl rfl⟩
 ·exact⟨x1,by unfold World.cell?;rw[hb];rfl,.inr (.inl rfl)⟩
 ·exact⟨x2,by unfold World.cell?;rw[hb];rfl,.inr (.inr (.inl rfl))⟩
 ·exact⟨x3,by unfold World.cell?;rw[hb];rfl,.inr (.inr (.inr rfl))⟩
theorem near_eq{lo hi n:Int}(hlo:-1000000≤lo)(hlh:lo≤hi)(hhi:hi≤5000000000):lo≤wrap64 (lo+wrap64 (n/2%(hi-lo+1)))∧wrap64 (lo+wrap64 (n/2%(hi-lo+1)))≤hi:=by
 have h0:=Int.emod_nonneg (n/2) (b:=hi-lo+1) (by omega)
 have h1:=Int.emod_lt_of_pos (n/2) (b:=hi-lo+1) (by omega)
 generalize n/2%(hi-lo+1)=m at h0 h1
 unfold wrap64;omega
theorem near_any(g:Nat)(a0:Option Addr)(len cap:Nat)(lo hi:Int)(w:World)(h:Rd g a0 len cap w)(hlo:-1000000≤lo)(hlh:lo≤hi)(hhi:hi≤5000000000) :
  Calls Tryz.prog 107 #[.pointer (some ⟨g,0,none⟩),.int .i64 lo,.int .i64 hi] w fun e w'=>∃ n:Int,e=.returned (.int .i64 n)∧lo≤n∧n≤hi∧Rd g a0 len cap w'∧w.grownBy w' (some g):=by
 go_enter Tryz.func107,Tryz.ntmps107
 go_wp2_with (first|(go_at_call 57;refine (below_any g a0 len cap _ _ (by assumption)).mono ?_;rintro e w1 ⟨n1,rfl,hn0,hn1,hr1,hg1⟩)|(go_at_call 136;refine (word_any g a0 len cap _ (by assumption)).mono ?_;rintro e w2 ⟨n2,rfl,hm0,hm1,hr2,hg2⟩))
 ·go_ret
  exact⟨lo,rfl,by omega,by omega,by assumption,by assumption⟩
 ·go_ret
  exact⟨hi,rfl,by omega,by omega,by assumption,by assumption⟩
 ·go_ret
  exact⟨_,rfl,(near_eq hlo hlh hhi).1,(near_eq hlo hlh hhi).2,by assumption,zgT (by assumption) (by assumption)⟩
theorem width_any(g:Nat)(a0:Option Addr)(len cap:Nat)(w:World)(h:Rd g a0 len cap w) :
  Calls Tryz.prog 93 #[.pointer (some ⟨g,0,none⟩)] w fun e w'=>∃ n:Int,e=.returned (.int .i64 n)∧(n=1∨n=8∨n=16∨n=32)∧Rd g a0 len cap w'∧w.grownBy w' (some g):=by
 have hlt:=h.lt
 go_enter Tryz.func93,Tryz.ntmps93
 go_wp2_with (go_at_call 57;refine (below_any g a0 len cap _ _ (h.alloc _)).mono ?_;rintro e w1 ⟨n1,rfl,hn0,hn1,hr1,hg1⟩;have hn2:n1<4:=(by omega);obtain⟨z,hz,hzc⟩:=four hlt hg1 hn0 hn2)
 go_ret
 exact⟨z,rfl,by omega,by assumption,zgT (World.grownBy_alloc _ _ _) (by assumption)⟩
theorem off_any(g:Nat)(a0:Option Addr)(len cap:Nat)(lo hi:Int)(w:World)(h:Rd g a0 len cap w)(hlo:-1000000≤lo)(hlh:lo≤hi)(hhi:hi≤5000000000) :
  Calls Tryz.prog 69 #[.pointer (some ⟨g,0,none⟩),.int .i64 lo,.int .i64 hi] w fun e w'=>∃ n:Int,e=.returned (.int .i64 n)∧-9223372036854775808≤n∧n≤9223372036854775807∧Rd g a0 len cap w'∧w.grownBy w' (some g):=by
 go_enter Tryz.func69,Tryz.ntmps69
 go_wp2_with (first|(go_at_call 30;refine (once_any g a0 len cap _ _ (by assumption) (by omega)).mono ?_;rintro e w1 ⟨b1,rfl,hr1,hg1⟩;have hlt:=hr1.lt)|(go_at_call 107;refine (near_any g a0 len cap _ _ _ (by assumption) (by assumption) (by assumption) (by assumption)).mono ?_;rintro e w2 ⟨n2,rfl,hm0,hm1,hr2,hg2⟩)|(go_at_call 57;refine (below_any g a0 len cap _ _ (Rd.alloc (by assumption) _)).mono ?_;rintro e w2 ⟨n1,rfl,hn0,hn1,hr2,hg2⟩;have hn2:n1<4:=(by omega);obtain⟨z,hz,hzc⟩:=four hlt hg2 hn0 hn2))
 ·go_ret
  exact⟨_,rfl,by omega,by omega,by assumption,zgT (zgT hg1 (World.grownBy_alloc _ _ _)) (by assumption)⟩
 ·go_ret
  exact⟨_,rfl,by omega,by omega,by assumption,zgT (by assumption) (by assumption)⟩
set_option maxHeartbeats 800000
theorem open_any(a0:Option Addr)(len cap:Nat)(w:World) :
  Calls Tryz.prog 28 #[.slice a0 len cap] w fun e w'=>e=.returned (.pointer (some ⟨w.heap.size,0,none⟩))∧w'=w.alloc (.cells #[.slice a0 len cap,.int .i64 0] 100):=by
 go_enter Tryz.func28,Tryz.ntmps28
 go_wp2_with fail
 go_ret
 exact⟨rfl,rfl⟩
theorem rd_open{a0:Option Addr}{len cap:Nat}{w:World}(hl:len≤1048576)(hc:Code a0 len w.heap.size w):Rd w.heap.size a0 len cap (w.alloc (.cells #[.slice a0 len cap,.int .i64 0] 100)):=by
 refine⟨by simp,hl,hc.alloc (Nat.le_refl _) _,0,by omega,?_⟩
 show (w.heap.push _)[w.heap.size]?=_
 simp
theorem value_any(g:Nat)(a0:Option Addr)(len cap:Nat)(x:Int)(w:World)(h:Rd g a0 len cap w)(hx:x=1∨x=8∨x=16∨x=32) :
  Calls Tryz.prog 129 #[.pointer (some ⟨g,0,none⟩),.int .i64 x] w fun e w'=>∃ n:Int,e=.returned (.int .i64 n)∧0≤n∧n≤4294967295∧Rd g a0 len cap w'∧w.grownBy w' (some g):=by
 rcases hx with rfl|rfl|rfl|rfl
 all_goals
  go_enter Tryz.func129,Tryz.ntmps129
  go_wp2_with (first|(go_at_call 57;refine (below_any g a0 len cap _ _ (by assumption)).mono ?_;rintro e w1 ⟨n1,rfl,hn0,hn1,hr1,hg1⟩)|(go_at_call 136;refine (word_any g a0 len cap _ (by assumption)).mono ?_;rintro e w2 ⟨n2,rfl,hm0,hm1,hr2,hg2⟩))
  all_goals go_ret
  all_goals first|exact⟨_,rfl,by omega,by omega,by assumption,by assumption⟩|exact⟨_,rfl,by omega,by omega,by assumption,zgT (by assumption) (by assumption)⟩|trace_state
theorem cell_lt{w:World}{b o:Nat}{v:Value}(h:w.cell? ⟨b,o,none⟩=some v):b<w.heap.size:=by
 unfold World.cell? at h
 cases hb:w.heap[b]? with
 | none=>simp[hb] at h
 | some x=>exact (Array.getElem?_eq_some_iff.1 hb).1
theorem Code.below{a0:Option Addr}{len:Nat}{w w':World}(h:Code a0 len w.heap.size w)(k:Below w.heap.size w w'):Code a0 len w'.heap.size w':=by
 rcases h with h|⟨b,off,ha,hb,hc⟩
 ·exact .inl h
 ·have:=k.size
  refine .inr ⟨b,off,ha,by omega,fun i hi=>?_⟩
  obtain⟨n,h0,h1,h2⟩:=hc i hi
  exact⟨n,h0,h1,by rw[cell_blk (k.block b hb)];exact h2⟩
theorem u8_bd{n:Int}(h:(Lit.int .u8 n).wf=true):0≤n∧n≤255:=by
 have h':IntKind.u8.min≤n∧n≤IntKind.u8.max:=by simpa [Lit.wf] using h
 exact h'
theorem code_of{w:World}{a:Option Addr}{len cap:Nat}{zs:List Int}
  (h:(a=none∧len=0∧cap=0∧zs=[])∨∃ x,a=some x∧len≤cap∧cap≤maxLen∧zs.length=cap∧(∀ i,i<zs.length→w.cell? (x.add i)=some (.int .u8 (zs.getD i 0)))∧∀ n∈zs,(Lit.int .u8 n).wf=true) :
  Code a len w.heap.size w:=by
 rcases h with⟨rfl,rfl,rfl,rfl⟩|⟨⟨b,off,spot⟩,rfl,hl,hm,hz,hcell,hwz⟩
 ·exact .inl rfl
 ·by_cases h0:len=0
  ·exact .inl h0
  ·have hc0:=hcell 0 (by omega)
   have hs:spot=none:=by simpa [Addr.add] using World.cell?_spot hc0
   subst hs
   have hat:∀ i,(⟨b,off,none⟩:Addr).add i=⟨b,off+i,none⟩:=fun i=>by unfold Addr.add;split<;>simp_all
   refine .inr ⟨b,off,rfl,?_,fun i hi=>?_⟩
   ·rw[hat] at hc0;exact cell_lt hc0
   ·have hi2:i<zs.length:=by omega
    have hw:=u8_bd (hwz (zs.getD i 0) (by simp[List.getD,hi2]))
    exact⟨_,hw.1,hw.2,by rw[←hat];exact hcell i hi2⟩
theorem big_any(a0:Option Addr)(len cap:Nat)(w:World):Calls Tryz.prog 5 #[.slice a0 len cap] w fun e w'=>e=.returned (.bool (decide (1048576<len)))∧w'=w:=by
 go_enter Tryz.func5,Tryz.ntmps5
 go_wp2_with fail
 go_ret
 exact⟨congrArg (fun b=>Ending.returned (.bool b)) (by rw[Bool.eq_iff_iff];simp;omega),rfl⟩
end Go.Proofs.YtkpmiikafconmaaGreatDoor
