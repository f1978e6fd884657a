import Derived.Test.YtkpmiikafconmaaGreatDoorRows
import Derived.WalkKit
import Derived.WalkSpells
import Derived.Deep.QuietTactic
import Derived.BigQuiet
namespace Go.Proofs.YtkpmiikafconmaaGreatDoor
open Go.RowKit
set_option maxHeartbeats 400000
def Code(a0:Option Addr)(len g:Nat)(w:World):Prop :=
 len=0∨∃ b off,a0=some ⟨b,off,none⟩∧b<g∧∀ i,i<len→∃ n:Int,0≤n∧n≤255∧w.cell? ⟨b,off+i,none⟩=some (.int .u8 n)
def Rd(g:Nat)(a0:Option Addr)(len cap:Nat)(w:World):Prop :=
 g<w.heap.size∧len≤1048576∧Code a0 len g w∧∃ p:Nat,p≤len∧w.heap[g]?=some (.cells #[.slice a0 len cap,.int .i64 p] 100 (0,0))
theorem zgT{a b c:World}{r:Option Nat}(h:a.grownBy b r)(k:b.grownBy c r):a.grownBy c r :=
 ⟨k.os.trans h.os,k.tape.trans h.tape,k.output.trans h.output,Nat.le_trans h.size k.size,fun i hi hn=>(k.block i (Nat.lt_of_lt_of_le hi h.size) hn).trans (h.block i hi hn)⟩
theorem cell_blk{w w':World}{b o:Nat}(h:w'.heap[b]?=w.heap[b]?):w'.cell? ⟨b,o,none⟩=w.cell? ⟨b,o,none⟩:=by
 unfold World.cell?;rw[h]
theorem Code.keep{a0:Option Addr}{len g:Nat}{w w':World}(h:Code a0 len g w)(hg:g<w.heap.size)(k:w.grownBy w' (some g)):Code a0 len g w':=by
 rcases h with h|⟨b,off,ha,hb,hc⟩
 ·exact .inl h
 ·refine .inr ⟨b,off,ha,hb,fun i hi=>?_⟩
  obtain⟨n,h0,h1,h2⟩:=hc i hi
  exact⟨n,h0,h1,by rw[cell_blk (k.block b (by omega) (by simp;omega))];exact h2⟩
theorem set_block(w:World)(g:Nat)(x y v:Value)(t:TypeId)(h:w.heap[g]?=some (.cells #[x,y] t (0,0))):(w.setCell ⟨g,1,none⟩ v).heap[g]?=some (.cells #[x,v] t (0,0)):=by
 show (w.heap.modify g _)[g]?=_
 rw[Array.getElem?_modify,if_pos rfl,h]
 rfl
theorem set_grown(w:World)(g o:Nat)(v:Value):w.grownBy (w.setCell ⟨g,o,none⟩ v) (some g) :=
 ⟨rfl,rfl,rfl,by simp[World.setCell],fun k _ hn=>by
  simp only[World.setCell,Array.getElem?_modify]
  rw[if_neg (by intro e;exact hn (by rw[e]))]⟩
theorem rd_step{g:Nat}{a0:Option Addr}{len cap p:Nat}{w:World}(hg:g<w.heap.size)(hl:len≤1048576)(hc:Code a0 len g w)(hp:p<len)
  (hb:w.heap[g]?=some (.cells #[.slice a0 len cap,.int .i64 p] 100 (0,0))) :
  Rd g a0 len cap (w.setCell ⟨g,1,none⟩ (.int .i64 ((p:Int)+1)))∧w.grownBy (w.setCell ⟨g,1,none⟩ (.int .i64 ((p:Int)+1))) (some g):=by
 have k:=set_grown w g 1 (.int .i64 ((p:Int)+1))
 have hs:g<(w.setCell ⟨g,1,none⟩ (.int .i64 ((p:Int)+1))).heap.size:=Nat.lt_of_lt_of_le hg k.size
 exact⟨⟨hs,hl,hc.keep hg k,p+1,hp,set_block w g _ _ _ _ hb⟩,k⟩
theorem next_any(g:Nat)(a0:Option Addr)(len cap:Nat)(w:World)(h:Rd g a0 len cap w) :
  Calls Tryz.prog 92 #[.pointer (some ⟨g,0,none⟩)] w fun e w'=>∃ n:Int,e=.returned (.int .i64 n)∧0≤n∧n≤255∧Rd g a0 len cap w'∧w.grownBy w' (some g):=by
 obtain⟨hg,hl,hcode,p,hp,hblk⟩:=h
 have c0:w.cell? ⟨g,0,none⟩=some (.slice a0 len cap):=by unfold World.cell?;rw[hblk];rfl
 have c1:w.cell? ⟨g,1,none⟩=some (.int .i64 p):=by unfold World.cell?;rw[hblk];rfl
 have f1:w.frozen? ⟨g,1,none⟩=false:=by unfold World.frozen?;rw[hblk];rfl
 have HB:Hid (w.heap[g]?=some (.cells #[.slice a0 len cap,.int .i64 p] 100 (0,0))):=hblk
 have HC:Hid (Code a0 len g w):=hcode
 clear hblk
 by_cases hlt:p<len
 ·rcases hcode with hz|⟨b,off,rfl,hb,hc⟩
  ·omega
  obtain⟨n,h0,h1,hn⟩:=hc p hlt
  clear hc
  have d1:decide (len≤p)=false:=by simpa using hlt
  go_enter Tryz.func92,Tryz.ntmps92
  go_wp2
  go_quiet (fail)
  go_wp2
  go_quiet (fail)
  go_wp2
  go_ret
  have k:=rd_step hg hl HC.out hlt HB.out
  exact⟨n,rfl,h0,h1,k.1,⟨k.2.os,k.2.tape,k.2.output,k.2.size,k.2.block⟩⟩
 ·clear hcode
  go_enter Tryz.func92,Tryz.ntmps92
  go_wp2
  go_quiet (fail)
  go_wp2
  go_ret
  exact⟨0,rfl,by omega,by omega,⟨hg,hl,HC.out,p,hp,HB.out⟩,⟨rfl,rfl,rfl,Nat.le_refl _,fun _ _ _=>rfl⟩⟩
theorem below_any(g:Nat)(a0:Option Addr)(len cap:Nat)(m:Int)(w:World)(h:Rd g a0 len cap w) :
  Calls Tryz.prog 57 #[.pointer (some ⟨g,0,none⟩),.int .i64 m] w fun e w'=>∃ n:Int,e=.returned (.int .i64 n)∧0≤n∧(n<m∨n=0)∧Rd g a0 len cap w'∧w.grownBy w' (some g):=by
 by_cases h1:m≤1
 ·go_enter Tryz.func57,Tryz.ntmps57
  go_wp2_with fail
  go_ret
  exact⟨0,rfl,by omega,.inr rfl,h,World.grownBy.refl _ _⟩
 ·by_cases h2:m≤256
  ·go_enter Tryz.func57,Tryz.ntmps57
   go_wp2_with (go_at_call 92;refine (next_any g a0 len cap _ (by assumption)).mono ?_;rintro e w1 ⟨n1,rfl,hn0,hn1,hr1,hg1⟩)
   go_ret
   exact⟨_,rfl,Int.emod_nonneg _ (by omega),.inl (Int.emod_lt_of_pos _ (by omega)),by assumption,by assumption⟩
  ·go_enter Tryz.func57,Tryz.ntmps57
   go_wp2_with (go_at_call 92;refine (next_any g a0 len cap _ (by assumption)).mono ?_;rintro e w1 ⟨n1,rfl,hn0,hn1,hr1,hg1⟩)
   go_ret
   exact⟨_,rfl,Int.emod_nonneg _ (by omega),.inl (Int.emod_lt_of_pos _ (by omega)),by assumption,zgT (by assumption) (by assumption)⟩
theorem once_any(g:Nat)(a0:Option Addr)(len cap:Nat)(m:Int)(w:World)(h:Rd g a0 len cap w)(hm:1≤m∧m≤1000) :
  Calls Tryz.prog 30 #[.pointer (some ⟨g,0,none⟩),.int .i64 m] w fun e w'=>∃ b:Bool,e=.returned (.bool b)∧Rd g a0 len cap w'∧w.grownBy w' (some g):=by
 go_enter Tryz.func30,Tryz.ntmps30
 go_wp2_with (go_at_call 57;refine (below_any g a0 len cap _ _ (by assumption)).mono ?_;rintro e w1 ⟨n1,rfl,hn0,hn1,hr1,hg1⟩)
 go_ret
 exact⟨_,rfl,by assumption,by assumption⟩
theorem or_u64(x y:Int):0≤bits .or .u64 x y∧bits .or .u64 x y<18446744073709551616:=by
 unfold bits;simp only[IntKind.wrap_u64];omega
theorem word_any(g:Nat)(a0:Option Addr)(len cap:Nat)(w:World)(h:Rd g a0 len cap w) :
  Calls Tryz.prog 136 #[.pointer (some ⟨g,0,none⟩)] w fun e w'=>∃ n:Int,e=.returned (.int .u64 n)∧0≤n∧n<18446744073709551616∧Rd g a0 len cap w'∧w.grownBy w' (some g):=by
 have HR:Hid (w.grownBy w (some g)):=World.grownBy.refl _ _
 go_enter Tryz.func136,Tryz.ntmps136
 go_wp2_with fail
 go_loopw [3,4] (fun x i wr=>∃ (k:Nat) (n:Int),k≤8∧i=.int .i64 k∧x=.int .u64 n∧0≤n∧n<18446744073709551616∧Rd g a0 len cap wr∧w.grownBy wr (some g)) (fun _ i _=>8-(intOf i).toNat)
 case atStart=>exact⟨0,0,by omega,rfl,rfl,by omega,by omega,h,HR.out⟩
 case round =>
  obtain⟨k,n,hk,rfl,rfl,hn0,hn1,hr,hgr⟩:=hrel
  by_cases hlt:k<8
  ·have HG:Hid (w.grownBy wr (some g)):=hgr
   clear hgr
   go_wp2_with (go_at_call 92;refine (next_any g a0 len cap _ (by assumption)).mono ?_;rintro e w1 ⟨n1,rfl,hm0,hm1,hr1,hg1⟩)
   go_roundw
   case rel=>exact⟨k+1,_,by omega,by go_num,rfl,(or_u64 _ _).1,(or_u64 _ _).2,by assumption,zgT HG.out (by assumption)⟩
   case measure=>simp[intOf];omega
  ·go_wp2_with fail
   go_ret
   exact⟨_,rfl,hn0,hn1,hr,hgr⟩
end Go.Proofs.YtkpmiikafconmaaGreatDoor
