import Derived.Test.YtkpmiikafconmaaGreatDoorGnYJp
import Derived.Test.YtkpmiikafconmaaGreatDoorReKJp
import Derived.RowKitTokens
import Derived.LaidLaws
import Derived.LaidHandle
import Derived.LaidMore
import Derived.Stop.LaidErr
import Derived.Stop.ErrReads
import Derived.Stop.Joined
import Derived.Lay
import Derived.ProofKit
import Derived.OpenShut
import Derived.OpenVars
namespace Go.Proofs.YtkpmiikafconmaaGreatDoor
open Go.RowKit Go.Deep
set_option maxHeartbeats 4000000
set_option maxRecDepth 100000
set_option linter.unusedVariables false
def ModTold(g:Nat)(a0:Option Addr)(len cap:Nat)(v:World)(e:Ending)(w:World):Prop:=∃ gm n cm,e=.returned (.agg #[.slice (some ⟨gm,0,none⟩) n cm])∧1≤n∧∃ (d:FuncD) (up ub:Option Addr) (cp cb:Nat),w.cell? ⟨gm,0,none⟩=some (.slice up d.params.length cp)∧w.cell? ⟨gm,1,none⟩=some (.int .i64 d.ret)∧w.cell? ⟨gm,2,none⟩=some (.slice ub d.blocks.length cb)∧SmFunc d∧1≤d.blocks.length∧IntsAt w v.heap.size up d.params∧zBA w v.heap.size ub d.blocks∧Rd g a0 len cap w∧(∀ b,b<v.heap.size→b≠g→w.heap[b]?=v.heap[b]?)∧v.heap.size≤w.heap.size∧w.os=v.os∧w.tape=v.tape∧w.output=v.output
theorem ty2_low{w:World}{lo lo':Nat}{d:FuncD}{up ub:Option Addr}(h:Ty2 w lo d up ub)(hl:lo'≤lo):Ty2 w lo' d up ub:=by
 obtain⟨M,h1,h3⟩:=h
 refine⟨M,fun b T m hb=>?_,h3⟩
 obtain⟨k1,k2⟩:=h1 b T m hb
 exact⟨by omega,k2⟩
def ModAll(g:Nat)(a0:Option Addr)(len cap:Nat)(v:World)(e:Ending)(w:World):Prop:=∃ gm n cm,e=.returned (.agg #[.slice (some ⟨gm,0,none⟩) n cm])∧1≤n∧n≤2∧v.heap.size≤gm∧(∃ cur,w.heap[gm]?=some (.cells cur 55 (0,0)))∧(∀ i,i<n→∃ (d:FuncD) (up ub:Option Addr) (cp cb:Nat),w.cell? ⟨gm,i*3,none⟩=some (.slice up d.params.length cp)∧w.cell? ⟨gm,i*3+1,none⟩=some (.int .i64 d.ret)∧w.cell? ⟨gm,i*3+2,none⟩=some (.slice ub d.blocks.length cb)∧Ty2 w v.heap.size d up ub)∧Rd g a0 len cap w∧(∀ b,b<v.heap.size→b≠g→w.heap[b]?=v.heap[b]?)∧v.heap.size≤w.heap.size∧w.os=v.os∧w.tape=v.tape∧w.output=v.output
theorem module_both(g:Nat)(a0:Option Addr)(len cap:Nat)(v:World)(h:Rd g a0 len cap v):Calls Tryz.prog 29 #[.pointer (some ⟨g,0,none⟩)] v fun e w=>ModTold g a0 len cap v e w∧ModAll g a0 len cap v e w:=by
 have h0:=mst_start h
 have hs5:=size5 v
 go_enter Tryz.func29,Tryz.ntmps29
 go_wp2_with (first|(go_at_call 57;refine (below_any g a0 len cap _ ((((v.alloc (.cells #[.slice none 0 0] 26)).alloc (.cells #[.slice none 0 0] 26)).alloc (.cells #[] 2)).alloc (.cells #[] 41)) h0.rd).mono ?_;rintro e w0 ⟨n0,rfl,hn0,hn1,hr0,hg0⟩;obtain⟨k0,rfl⟩:=Int.eq_ofNat_of_zero_le hn0;have M0:=h0.keep hr0 (fun b h1 h2=>hg0.block b h1 (by simpa using h2)) hg0.size hg0.os hg0.tape hg0.output;clear h0 hr0 hg0))
 generalize hz:v.heap.size=z0 at M0 ⊢
 go_loopw [4,5,6] (fun r s i wr=>∃ k n:Nat,i=.int .i64 n∧n+k≤2∧0<n+k∧MSt z0 g a0 len cap v k r s wr) (fun _ _ i _=>(intOf i).toNat)
 case atStart=>exact⟨0,1+k0,by first|rfl|go_num|(congr 1;omega),by omega,by omega,M0⟩
 case round =>
  clear M0
  obtain⟨k,n,rfl,hkn,hkn0,hM⟩:=hrel
  by_cases hn:0<n
  ·obtain⟨base,M,ur,cr,us,cs,hbase,rfl,rfl,hin,hbase2,hqc⟩:=hM.fnIn (by omega)
   have PF:=fn_any base g a0 len cap M ur us k cr cs wr hin
   go_wp2_with (first|(go_at_call 58;refine PF.mono ?_;rintro e w1 ⟨up,np,cp,ret,ub,nb,cb,rfl,M2,th,sl1,sl2,hn2,hnb,hret,hpw,hrd,hkeep,ho1,ho2,ho3,hsz1,hhold⟩;obtain⟨d,e1,e2,e3,hF⟩:=fnc_of (ret:=ret) th (by omega) sl1 sl2 hn2 hnb hpw;subst e1 e2 e3;have TY1:=ty1_of (k:=k) (r:=.slice ur k cr) (s:=.slice us k cs) th sl1 sl2 hn2 hnb hhold hqc;have PC:=countS_any base d up cp ub cb (w1.alloc (.cells #[.slice up d.params.length cp,.int .i64 d.ret,.slice ub d.blocks.length cb] 55)) hF.sm (hF.mem.read.2.keep (zaA _ _ _));clear th sl1 sl2 hpw hhold))
   refine PC.mono ?_
   rintro e w3 ⟨rfl,hb3⟩
   have hbb:=hin.bv
   have hz4:=hM.sz
   obtain⟨⟨K1,K2,K3⟩,⟨X1,X2,X3⟩,hlt13,KK,XX,hsx⟩:=mids hM hrd hkeep ho1 ho2 ho3 hsz1 hF hin.bv hb3
   obtain⟨zs0,hro0⟩:=hM.ro
   obtain⟨mf0,xs0,ps0,_,_,hso0,_⟩:=hM.fs
   have hqs:∀ q,((Value.slice ur k cr).ownBlock=some q∨(Value.slice us k cs).ownBlock=some q)→q<w3.heap.size:=fun q hq=>by
    rcases hq with hq|hq
    ·have:=(hro0.lt q hq).2;omega
    ·have:=(hso0.lt q hq).2;omega
   obtain⟨TK,TX⟩:=mids_ty TY1 hb3 hqs (by omega)
   have HTK:Hid _:=TK
   have HTX:Hid _:=TX
   clear TK TX TY1 hqs hqc hro0 hso0
   obtain⟨mf,xs,ps,zs,hmf,hfs⟩:=fs_at hM
   have FK:=hfs w3 KK (by omega)
   have FX:=hfs _ XX (by omega)
   have hTm0:True:=trivial
   have hTm:mf.ownBlock≠some w1.heap.size:=fun e=>by have:=hmf _ e;omega
   obtain⟨iF,fi,f0,f1,f2⟩:=info_parts infoF
   obtain⟨iS,gi,g0',g1',g2'⟩:=info_parts infoSy
   obtain⟨iI,ji,j0,j1,j2⟩:=info_parts info1
   have HF:Hid _:=(⟨fi,f0,f1,f2⟩:_∧_∧_∧_)
   have HS:Hid _:=(⟨gi,g0',g1',g2'⟩:_∧_∧_∧_)
   have HI:Hid _:=(⟨ji,j0,j1,j2⟩:_∧_∧_∧_)
   have hne2:¬(w1.heap.size=z0+1):=by omega
   have HX:Hid _:=(⟨FX,X1,X2,X3⟩:_∧_∧_∧_)
   have HK:Hid _:=(⟨FK,K1,K2,K3⟩:_∧_∧_∧_)
   have t0:w3.cell? ⟨w1.heap.size,0,none⟩=some (.slice up d.params.length cp):=(zcH K2).trans rfl
   have t1:w3.cell? ⟨w1.heap.size,1,none⟩=some (.int .i64 d.ret):=(zcH K2).trans rfl
   have t2:w3.cell? ⟨w1.heap.size,2,none⟩=some (.slice ub d.blocks.length cb):=(zcH K2).trans rfl
   have u0:w3.frozen? ⟨w1.heap.size,0,none⟩=false:=by simp[World.frozen?,K2]
   have u1:w3.frozen? ⟨w1.heap.size,1,none⟩=false:=by simp[World.frozen?,K2]
   have u2:w3.frozen? ⟨w1.heap.size,2,none⟩=false:=by simp[World.frozen?,K2]
   clear hs5 hsx X1 X2 X3 FX XX KK FK K1 K2 K3 PC hb3 hkeep PF hF hrd ho1 ho2 ho3 hfs fi f0 f1 f2 gi g0' g1' g2' ji j0 j1 j2
   by_cases hc:(60:Int)<(cntF d:Int)
   ·go_upto_region 10 with fail
    replace HK:=HX
    replace HTK:=HTX
    clear HX HTX t0 t1 t2 u0 u1 u2
    generalize (((((w3.setCell ⟨w1.heap.size,0,none⟩ (.slice none 0 0)).setCell ⟨w1.heap.size,1,none⟩ (.int .i64 8)).setCell ⟨w1.heap.size,2,none⟩ (.slice (some ⟨w3.heap.size+1,0,none⟩) 1 1)).alloc (.cells #[.int .i64 21,.int .i64 8,.int .i64 0,.int .i64 0,.int .i64 0,.int .i64 7,.slice none 0 0] 95)).alloc (.cells #[.slice none 0 0,.slice (some ⟨w3.heap.size,0,none⟩) 1 1,.int .i64 1,.int .i64 0,.int .i64 0,.int .i64 0] 74))=xw at HK HTK ⊢
    have t0:xw.cell? ⟨w1.heap.size,0,none⟩=some (.slice none 0 0):=(zcH HK.out.2.2.1).trans rfl
    have t1:xw.cell? ⟨w1.heap.size,1,none⟩=some (.int .i64 8):=(zcH HK.out.2.2.1).trans rfl
    have t2:xw.cell? ⟨w1.heap.size,2,none⟩=some (.slice (some ⟨w3.heap.size+1,0,none⟩) 1 1):=(zcH HK.out.2.2.1).trans rfl
    have hxl:=HK.out.2.1.sz
    have mc:xw.cell? ⟨z0+1,0,none⟩=some mf:=(zcH HK.out.1.1).trans rfl
    go_wp2_with (first|(at_builtin;refine wpList_append_two _ rfl (.tmp 38) (.tmp 40) 24 rfl (z0+2) 55 iF (.agg #[.slice none 0 0,.int .i64 0,.slice none 0 0]) 3 56 Tryz.underlying24 HF.out.1 HF.out.2.1 HF.out.2.2.1 HF.out.2.2.2 rfl (by decide) mf k xs rfl (HK.out.1.2.1.alloc _) ⟨xw.heap.size,0,none⟩ 1 [.slice none 0 0,.int .i64 8,.slice (some ⟨w3.heap.size+1,0,none⟩) 1 1] rfl rfl (three_of (zhL _ _)) (by simp[Value.oneCell']) (by unfold maxLen;omega) (by omega) (by simp;omega) ?_;intro g4 c4 y1 o1 E1 l1;have e1:=E1.grown;have HE1:Hid _:=E1;clear E1;obtain⟨A1,A2,A3,A4,A5⟩:=after1 (g4:=g4) (c4:=c4) HK.out.2.1 HK.out.1.1 HK.out.1.2.1 HK.out.1.2.2.1 HK.out.1.2.2.2.1 HK.out.2.2.1 (by omega) hTm e1;have n0:y1.cell? ⟨z0+1,0,none⟩=some mf:=(zcH A1).trans rfl;have n1:y1.frozen? ⟨z0+1,0,none⟩=false:=(by simp[World.frozen?,A1]);have v1:y1.cell? ⟨w1.heap.size,1,none⟩=some (.int .i64 8):=(zcH A2).trans rfl;have v0:y1.cell? ⟨w1.heap.size,0,none⟩=some (.slice none 0 0):=(zcH A2).trans rfl;have HA:Hid _:=(⟨A2,A3,A4,o1⟩:_∧_∧_∧_);clear A1 A2 A3 A4 o1 e1 l1 t0 t1 t2 mc)|(at_builtin;refine wpList_append_two _ rfl (.tmp 43) (.tmp 46) 41 rfl (z0+2) 2 iI (.int .i64 0) 1 8 Tryz.underlying41 HI.out.1 HI.out.2.1 HI.out.2.2.1 HI.out.2.2.2 rfl (by decide) (.slice ur k cr) k (zs.map (Value.int .i64)) rfl (HA.out.2.1.alloc _) ⟨y1.heap.size,0,none⟩ 1 [.int .i64 8] rfl rfl (one_of (heap_alloc_set _ _ _ _)) (by simp[Value.oneCell']) (by unfold maxLen;omega) (by omega) (by simp[World.size_setCell];omega) ?_;intro g5 c5 y3 o2 E2 l2;have e2:=E2.grown;have HE2:Hid _:=E2;clear E2;obtain⟨B1,B2,B3⟩:=after2 HA.out.2.2.1 HA.out.2.1 ((Below.heap_setCell _ _ _ _ hne2).trans HA.out.1) e2;have v3:y3.cell? ⟨w1.heap.size,0,none⟩=some (.slice none 0 0):=(zcH B1).trans rfl;have hs3:z0+4≤y3.heap.size:=(by simp only[World.size_setCell] at B3;omega);have HB:Hid _:=(⟨B2,o2⟩:_∧_);clear B1 B2 B3 o2 e2 l2 n0 n1 v1 v0)|(at_builtin;refine wpList_append_two _ rfl (.tmp 48) (.tmp 51) 101 rfl (z0+2) 41 iS (.slice none 0 0) 1 24 Tryz.underlying101 HS.out.1 HS.out.2.1 HS.out.2.2.1 HS.out.2.2.2 rfl (by decide) (.slice us k cs) k ps rfl (HB.out.1.alloc _) ⟨y3.heap.size,0,none⟩ 1 [.slice none 0 0] rfl rfl (one_of (zhL _ _)) (by simp[Value.oneCell']) (by unfold maxLen;omega) (by omega) (by simp;omega) ?_;intro g6 c6 y4 o3 E3 l3;have HE3:Hid _:=E3;have HC:Hid _:=o3;clear o3 E3 l3 v3))
    have NX:=next_at (T7:=w1.heap.size) (d:=fun7) (up:=none) (cp:=0) (ub:=(some ⟨w3.heap.size+1,0,none⟩)) (cb:=1) HK.out.2.1 (by omega) HK.out.2.2.2 hbase HTK.out hbase2 HK.out.1 HA.out.2.2.2 HE1.out HB.out.2 HE2.out HC.out HE3.out
    go_roundw
    case rel=>exact⟨k+1,n-1,by first|go_num|(congr 1;omega),by omega,by omega,NX⟩
    case measure=>simp[intOf];omega
   ·by_cases hl:(10:Int)<(d.blocks.length:Int)
    ·go_upto_region 10 with fail
     replace HK:=HX
     replace HTK:=HTX
     clear HX HTX t0 t1 t2 u0 u1 u2
     generalize (((((w3.setCell ⟨w1.heap.size,0,none⟩ (.slice none 0 0)).setCell ⟨w1.heap.size,1,none⟩ (.int .i64 8)).setCell ⟨w1.heap.size,2,none⟩ (.slice (some ⟨w3.heap.size+1,0,none⟩) 1 1)).alloc (.cells #[.int .i64 21,.int .i64 8,.int .i64 0,.int .i64 0,.int .i64 0,.int .i64 7,.slice none 0 0] 95)).alloc (.cells #[.slice none 0 0,.slice (some ⟨w3.heap.size,0,none⟩) 1 1,.int .i64 1,.int .i64 0,.int .i64 0,.int .i64 0] 74))=xw at HK HTK ⊢
     have t0:xw.cell? ⟨w1.heap.size,0,none⟩=some (.slice none 0 0):=(zcH HK.out.2.2.1).trans rfl
     have t1:xw.cell? ⟨w1.heap.size,1,none⟩=some (.int .i64 8):=(zcH HK.out.2.2.1).trans rfl
     have t2:xw.cell? ⟨w1.heap.size,2,none⟩=some (.slice (some ⟨w3.heap.size+1,0,none⟩) 1 1):=(zcH HK.out.2.2.1).trans rfl
     have hxl:=HK.out.2.1.sz
     have mc:xw.cell? ⟨z0+1,0,none⟩=some mf:=(zcH HK.out.1.1).trans rfl
     go_wp2_with (first|(at_builtin;refine wpList_append_two _ rfl (.tmp 38) (.tmp 40) 24 rfl (z0+2) 55 iF (.agg #[.slice none 0 0,.int .i64 0,.slice none 0 0]) 3 56 Tryz.underlying24 HF.out.1 HF.out.2.1 HF.out.2.2.1 HF.out.2.2.2 rfl (by decide) mf k xs rfl (HK.out.1.2.1.alloc _) ⟨xw.heap.size,0,none⟩ 1 [.slice none 0 0,.int .i64 8,.slice (some ⟨w3.heap.size+1,0,none⟩) 1 1] rfl rfl (three_of (zhL _ _)) (by simp[Value.oneCell']) (by unfold maxLen;omega) (by omega) (by simp;omega) ?_;intro g4 c4 y1 o1 E1 l1;have e1:=E1.grown;have HE1:Hid _:=E1;clear E1;obtain⟨A1,A2,A3,A4,A5⟩:=after1 (g4:=g4) (c4:=c4) HK.out.2.1 HK.out.1.1 HK.out.1.2.1 HK.out.1.2.2.1 HK.out.1.2.2.2.1 HK.out.2.2.1 (by omega) hTm e1;have n0:y1.cell? ⟨z0+1,0,none⟩=some mf:=(zcH A1).trans rfl;have n1:y1.frozen? ⟨z0+1,0,none⟩=false:=(by simp[World.frozen?,A1]);have v1:y1.cell? ⟨w1.heap.size,1,none⟩=some (.int .i64 8):=(zcH A2).trans rfl;have v0:y1.cell? ⟨w1.heap.size,0,none⟩=some (.slice none 0 0):=(zcH A2).trans rfl;have HA:Hid _:=(⟨A2,A3,A4,o1⟩:_∧_∧_∧_);clear A1 A2 A3 A4 o1 e1 l1 t0 t1 t2 mc)|(at_builtin;refine wpList_append_two _ rfl (.tmp 43) (.tmp 46) 41 rfl (z0+2) 2 iI (.int .i64 0) 1 8 Tryz.underlying41 HI.out.1 HI.out.2.1 HI.out.2.2.1 HI.out.2.2.2 rfl (by decide) (.slice ur k cr) k (zs.map (Value.int .i64)) rfl (HA.out.2.1.alloc _) ⟨y1.heap.size,0,none⟩ 1 [.int .i64 8] rfl rfl (one_of (heap_alloc_set _ _ _ _)) (by simp[Value.oneCell']) (by unfold maxLen;omega) (by omega) (by simp[World.size_setCell];omega) ?_;intro g5 c5 y3 o2 E2 l2;have e2:=E2.grown;have HE2:Hid _:=E2;clear E2;obtain⟨B1,B2,B3⟩:=after2 HA.out.2.2.1 HA.out.2.1 ((Below.heap_setCell _ _ _ _ hne2).trans HA.out.1) e2;have v3:y3.cell? ⟨w1.heap.size,0,none⟩=some (.slice none 0 0):=(zcH B1).trans rfl;have hs3:z0+4≤y3.heap.size:=(by simp only[World.size_setCell] at B3;omega);have HB:Hid _:=(⟨B2,o2⟩:_∧_);clear B1 B2 B3 o2 e2 l2 n0 n1 v1 v0)|(at_builtin;refine wpList_append_two _ rfl (.tmp 48) (.tmp 51) 101 rfl (z0+2) 41 iS (.slice none 0 0) 1 24 Tryz.underlying101 HS.out.1 HS.out.2.1 HS.out.2.2.1 HS.out.2.2.2 rfl (by decide) (.slice us k cs) k ps rfl (HB.out.1.alloc _) ⟨y3.heap.size,0,none⟩ 1 [.slice none 0 0] rfl rfl (one_of (zhL _ _)) (by simp[Value.oneCell']) (by unfold maxLen;omega) (by omega) (by simp;omega) ?_;intro g6 c6 y4 o3 E3 l3;have HE3:Hid _:=E3;have HC:Hid _:=o3;clear o3 E3 l3 v3))
     have NX:=next_at (T7:=w1.heap.size) (d:=fun7) (up:=none) (cp:=0) (ub:=(some ⟨w3.heap.size+1,0,none⟩)) (cb:=1) HK.out.2.1 (by omega) HK.out.2.2.2 hbase HTK.out hbase2 HK.out.1 HA.out.2.2.2 HE1.out HB.out.2 HE2.out HC.out HE3.out
     go_roundw
     case rel=>exact⟨k+1,n-1,by first|go_num|(congr 1;omega),by omega,by omega,NX⟩
     case measure=>simp[intOf];omega
    ·clear HX HTX u0 u1 u2
     have mc:w3.cell? ⟨z0+1,0,none⟩=some mf:=(zcH HK.out.1.1).trans rfl
     go_wp2_with (first|(at_builtin;refine wpList_append_two _ rfl (.tmp 38) (.tmp 40) 24 rfl (z0+2) 55 iF (.agg #[.slice none 0 0,.int .i64 0,.slice none 0 0]) 3 56 Tryz.underlying24 HF.out.1 HF.out.2.1 HF.out.2.2.1 HF.out.2.2.2 rfl (by decide) mf k xs rfl (HK.out.1.2.1.alloc _) ⟨w3.heap.size,0,none⟩ 1 [.slice up d.params.length cp,.int .i64 d.ret,.slice ub d.blocks.length cb] rfl rfl (three_of (zhL _ _)) (by simp[Value.oneCell']) (by unfold maxLen;omega) (by omega) (by simp;omega) ?_;intro g4 c4 y1 o1 E1 l1;have e1:=E1.grown;have HE1:Hid _:=E1;clear E1;obtain⟨A1,A2,A3,A4,A5⟩:=after1 (g4:=g4) (c4:=c4) HK.out.2.1 HK.out.1.1 HK.out.1.2.1 HK.out.1.2.2.1 HK.out.1.2.2.2.1 HK.out.2.2.1 (by omega) hTm e1;have n0:y1.cell? ⟨z0+1,0,none⟩=some mf:=(zcH A1).trans rfl;have n1:y1.frozen? ⟨z0+1,0,none⟩=false:=(by simp[World.frozen?,A1]);have v1:y1.cell? ⟨w1.heap.size,1,none⟩=some (.int .i64 d.ret):=(zcH A2).trans rfl;have v0:y1.cell? ⟨w1.heap.size,0,none⟩=some (.slice up d.params.length cp):=(zcH A2).trans rfl;have HA:Hid _:=(⟨A2,A3,A4,o1⟩:_∧_∧_∧_);clear A1 A2 A3 A4 o1 e1 l1 t0 t1 t2 mc)|(at_builtin;refine wpList_append_two _ rfl (.tmp 43) (.tmp 46) 41 rfl (z0+2) 2 iI (.int .i64 0) 1 8 Tryz.underlying41 HI.out.1 HI.out.2.1 HI.out.2.2.1 HI.out.2.2.2 rfl (by decide) (.slice ur k cr) k (zs.map (Value.int .i64)) rfl (HA.out.2.1.alloc _) ⟨y1.heap.size,0,none⟩ 1 [.int .i64 d.ret] rfl rfl (one_of (heap_alloc_set _ _ _ _)) (by simp[Value.oneCell']) (by unfold maxLen;omega) (by omega) (by simp[World.size_setCell];omega) ?_;intro g5 c5 y3 o2 E2 l2;have e2:=E2.grown;have HE2:Hid _:=E2;clear E2;obtain⟨B1,B2,B3⟩:=after2 HA.out.2.2.1 HA.out.2.1 ((Below.heap_setCell _ _ _ _ hne2).trans HA.out.1) e2;have v3:y3.cell? ⟨w1.heap.size,0,none⟩=some (.slice up d.params.length cp):=(zcH B1).trans rfl;have hs3:z0+4≤y3.heap.size:=(by simp only[World.size_setCell] at B3;omega);have HB:Hid _:=(⟨B2,o2⟩:_∧_);clear B1 B2 B3 o2 e2 l2 n0 n1 v1 v0)|(at_builtin;refine wpList_append_two _ rfl (.tmp 48) (.tmp 51) 101 rfl (z0+2) 41 iS (.slice none 0 0) 1 24 Tryz.underlying101 HS.out.1 HS.out.2.1 HS.out.2.2.1 HS.out.2.2.2 rfl (by decide) (.slice us k cs) k ps rfl (HB.out.1.alloc _) ⟨y3.heap.size,0,none⟩ 1 [.slice up d.params.length cp] rfl rfl (one_of (zhL _ _)) (by simp[Value.oneCell']) (by unfold maxLen;omega) (by omega) (by simp;omega) ?_;intro g6 c6 y4 o3 E3 l3;have HE3:Hid _:=E3;have HC:Hid _:=o3;clear o3 E3 l3 v3))
     have NX:=next_at (T7:=w1.heap.size) (d:=d) (up:=up) (cp:=cp) (ub:=ub) (cb:=cb) HK.out.2.1 (by omega) HK.out.2.2.2 hbase HTK.out hbase2 HK.out.1 HA.out.2.2.2 HE1.out HB.out.2 HE2.out HC.out HE3.out
     go_roundw
     case rel=>exact⟨k+1,n-1,by first|go_num|(congr 1;omega),by omega,by omega,NX⟩
     case measure=>simp[intOf];omega
  ·have hn0:n=0:=by omega
   subst hn0
   obtain⟨mf,xs,ps,zs,hmf,hfs⟩:=fs_at hM
   obtain⟨m1,m2,m3,m5,m0,m4,m6⟩:=hfs wr (fun _ _ _=>rfl) (Nat.le_refl _)
   obtain⟨d,up,cp,ub,cb,H,x0,x1,x2,hF,_,_,_,_,_,hT1⟩:=m4 (by omega)
   have hgz:=hM.gz
   have hz4:=hM.sz
   rcases m2.2 with⟨_,e⟩|⟨gm,cm,cur,rfl,hgm,hcur,_⟩
   ·omega
   have cm1:wr.cell? ⟨z0+1,0,none⟩=some (.slice (some ⟨gm,0,none⟩) k cm):=(zcH m1).trans rfl
   have cz:wr.cell? ⟨z0,0,none⟩=some (.slice none 0 0):=(zcH hM.res).trans rfl
   have fz:wr.frozen? ⟨z0,0,none⟩=false:=by simp[World.frozen?,hM.res]
   have r0:wr.cell? ⟨gm,0,none⟩=some (.slice up d.params.length cp):=(own_at (k:=0) m2 (by omega)).trans x0
   have r1:wr.cell? ⟨gm,1,none⟩=some (.int .i64 d.ret):=(own_at (k:=1) m2 (by omega)).trans x1
   have r2:wr.cell? ⟨gm,2,none⟩=some (.slice ub d.blocks.length cb):=(own_at (k:=2) m2 (by omega)).trans x2
   have HR:Hid _:=hM.res
   have hmd:=hF.mem.read
   have hr:=zhS (o:=0) (v:=.slice (some ⟨gm,0,none⟩) k cm) hM.res
   go_wp2_with fail
   have hset:∀ b,b≠z0→(wr.setCell ⟨z0,0,none⟩ (.slice (some ⟨gm,0,none⟩) k cm)).heap[b]?=wr.heap[b]?:=fun b hb=>Below.heap_setCell _ _ _ _ hb
   have hag:Agree (z0+4) wr (wr.setCell ⟨z0,0,none⟩ (.slice (some ⟨gm,0,none⟩) k cm)):=⟨by simp only[World.size_setCell];exact Nat.le_refl _,fun b h1 _=>hset b (by omega)⟩
   refine bodyPost_ret (v:=.agg #[.slice (some ⟨gm,0,none⟩) k cm]) ((results_cell_row Tryz.results29 _ _ z0 26 _ (0,0) _ rfl hr Tryz.underlying26 rfl (by kernel_rfl)).trans (by rfl)) rfl ⟨⟨gm,k,cm,rfl,by omega,d,up,ub,cp,cb,?_,?_,?_,hF.sm,hF.one,(hmd.1.keep hag).low (by omega),(hmd.2.keep hag).low (by omega),rd_keep hM.rd (by simp only[World.size_setCell];exact Nat.le_refl _) fun b hb=>hset b (by omega),fun b h1 h2=>(hset b (by omega)).trans (hM.old b (by omega) h2),by simp only[World.size_setCell];omega,(set_os _ _ _).trans hM.os,(set_tape _ _ _).trans hM.tape,(set_output _ _ _).trans hM.output⟩,?_⟩
   ·exact (cell_blk (hset gm (by omega))).trans r0
   ·exact (cell_blk (hset gm (by omega))).trans r1
   ·exact (cell_blk (hset gm (by omega))).trans r2
   ·refine⟨gm,k,cm,rfl,by omega,by omega,by omega,⟨cur,(hset gm (by omega)).trans hcur⟩,fun i hi=>?_,rd_keep hM.rd (by simp only[World.size_setCell];exact Nat.le_refl _) fun b hb=>hset b (by omega),fun b h1 h2=>(hset b (by omega)).trans (hM.old b (by omega) h2),by simp only[World.size_setCell];omega,(set_os _ _ _).trans hM.os,(set_tape _ _ _).trans hM.tape,(set_output _ _ _).trans hM.output⟩
    rcases i with _|_|i
    ·exact⟨d,up,ub,cp,cb,(cell_blk (hset gm (by omega))).trans r0,(cell_blk (hset gm (by omega))).trans r1,(cell_blk (hset gm (by omega))).trans r2,(hT1.keep (g:=z0) (fun b _ hb=>hset b hb) (by omega)).two (by omega)⟩
    ·obtain⟨d2,up2,cp2,ub2,cb2,y0,y1,y2,hT2⟩:=m6 (by omega)
     exact⟨d2,up2,ub2,cp2,cb2,(cell_blk (hset gm (by omega))).trans ((own_at (k:=3) m2 (by omega)).trans y0),(cell_blk (hset gm (by omega))).trans ((own_at (k:=4) m2 (by omega)).trans y1),(cell_blk (hset gm (by omega))).trans ((own_at (k:=5) m2 (by omega)).trans y2),ty2_low (hT2.keep (g:=z0) (fun b _ hb=>hset b hb) (by omega)) (by omega)⟩
    ·omega
theorem module_all(g:Nat)(a0:Option Addr)(len cap:Nat)(v:World)(h:Rd g a0 len cap v):Calls Tryz.prog 29 #[.pointer (some ⟨g,0,none⟩)] v fun e w=>ModAll g a0 len cap v e w :=
 (module_both g a0 len cap v h).mono fun _ _ k=>k.2
def SlW(M:Tmap)(N:Nat)(v:Value):Prop:=∃ u n c,v=.slice u n c∧n≤N∧(n=0∨∃ g o m,u=some ⟨g,o,none⟩∧M g=some (2,m)∧o+n≤m)
theorem SlV1.slw{M:Tmap}{N:Nat}{v:Value}(h:SlV1 M N 2 v):SlW M N v:=by
 obtain⟨n,_,h2,u,c,rfl,h3⟩:=h
 refine⟨u,n,c,rfl,h2,?_⟩
 rcases h3 with h|⟨g,m,e,h4,h5⟩
 ·exact .inl h
 ·exact .inr ⟨g,0,m,e,h4,by omega⟩
def ElR(M:Tmap)(N:Nat)(T:TypeId)(c:Nat→Option Value):Prop :=
 (T=2→∃ z:Int,c 0=some (.int .i64 z))∧(T=41→∃ v,c 0=some v∧SlV M N 2 v) ∧
 (T=92→(∃ z:Int,c 0=some (.int .i64 z))∧∃ v,c 1=some v∧SlW M N v) ∧
 (T=95→(∀ j,j<6→∃ z:Int,c j=some (.int .i64 z))∧∃ v,c 6=some v∧SlV M N 2 v) ∧
 (T=74→(∃ v,c 0=some v∧SlV M N 92 v)∧(∃ v,c 1=some v∧SlV M N 95 v)∧∀ j,2≤j→j<6→∃ z:Int,c j=some (.int .i64 z))
def TR(base:Nat)(M:Tmap)(N:Nat)(v:World):Prop:=∀ b T m,M b=some (T,m)→base≤b∧∃ cur,v.heap[b]?=some (.cells cur T (0,0))∧∀ i,i<m→ElR M N T (fun j=>cur[i*szT T+j]?)
theorem ElOk.r{M:Tmap}{N:Nat}{T:TypeId}{c:Nat→Option Value}(h:ElOk M N T c):ElR M N T c:=by
 obtain⟨h1,h2,h3,h4,h5⟩:=h
 refine⟨h1,h2,fun e=>?_,h4,h5⟩
 obtain⟨k1,v,k2,k3⟩:=h3 e
 exact⟨k1,v,k2,k3.slw⟩
theorem TH.tr{base N:Nat}{M:Tmap}{v:World}(h:TH base M N v):TR base M N v:=fun b T m hm=>by
 obtain⟨h1,cur,h2,h3⟩:=h b T m hm
 exact⟨h1,cur,h2,fun i hi=>(h3 i hi).r⟩
theorem TR.same{lo N:Nat}{M:Tmap}{w w':World}(h:TR lo M N w)(hb:∀ b,lo≤b→b<w.heap.size→w'.heap[b]?=w.heap[b]?):TR lo M N w':=fun b T m hm=>by
 obtain⟨h1,cur,h2,h3⟩:=h b T m hm
 exact⟨h1,cur,(hb b h1 (Array.getElem?_eq_some_iff.1 h2).1).trans h2,h3⟩
theorem slv_slice{M:Tmap}{N:Nat}{T:TypeId}{v:Value}(h:SlV M N T v):∃ u n c,v=.slice u n c:=by
 obtain⟨n,_,u,c,rfl,_⟩:=h
 exact⟨u,n,c,rfl⟩
theorem TR.set{base N:Nat}{M:Tmap}{v:World}{b o:Nat}{x y:Value}(h:TR base M N v)(hy:v.cell? ⟨b,o,none⟩=some y)(hx:∀ T m,M b=some (T,m)→((∃ z:Int,y=.int .i64 z)∧∃ z:Int,x=.int .i64 z)∨x=y∨(T=92∧o%2=1∧(SlW M N y→SlW M N x))):TR base M N (v.setCell ⟨b,o,none⟩ x):=fun b' T m hm=>by
 obtain⟨h1,cur,h2,h3⟩:=h b' T m hm
 by_cases e:b'=b
 ·subst e
  have hyc:cur[o]?=some y:=by rw[zcH h2] at hy;exact hy
  have hos:o<cur.size:=(Array.getElem?_eq_some_iff.1 hyc).1
  refine⟨h1,cur.setIfInBounds o x,zhS h2,fun i hi=>?_⟩
  have hk:∀ k,(cur.setIfInBounds o x)[k]?=if k=o then some x else cur[k]?:=fun k=>by
   rw[Array.getElem?_setIfInBounds]
   by_cases e:k=o
   ·subst e;simp[hos]
   ·simp[e,Ne.symm e]
  have hX:=hx T m hm
  have I:∀ j,(T=92→j=0)→(∃ z:Int,cur[i*szT T+j]?=some (.int .i64 z))→∃ z:Int,(cur.setIfInBounds o x)[i*szT T+j]?=some (.int .i64 z):=fun j hj ⟨z,hz⟩=>by
   rw[hk]
   by_cases e:i*szT T+j=o
   ·rw[if_pos e]
    rw[e,hyc] at hz
    cases hz
    rcases hX with⟨_,z',rfl⟩|rfl|⟨rfl,h5,_⟩
    ·exact⟨z',rfl⟩
    ·exact⟨z,rfl⟩
    ·have hs:szT 92=2:=by decide
     rw[hs,hj rfl] at e
     omega
   ·rw[if_neg e];exact⟨z,hz⟩
  have S:∀ j v,T≠92→cur[i*szT T+j]?=some v→(∃ u n c,v=.slice u n c)→(cur.setIfInBounds o x)[i*szT T+j]?=some v:=fun j v hT hv ⟨u,n,c,hs⟩=>by
   rw[hk]
   by_cases e:i*szT T+j=o
   ·rw[if_pos e]
    rw[e,hyc] at hv
    cases hv
    rcases hX with⟨⟨z,hz⟩,_⟩|rfl|⟨h5,_⟩
    ·rw[hs] at hz;cases hz
    ·rfl
    ·exact absurd h5 hT
   ·rw[if_neg e];exact hv
  obtain⟨k1,k2,k3,k4,k5⟩:=h3 i hi
  refine⟨fun q=>I 0 (fun _=>rfl) (k1 q),fun q=>?_,fun q=>⟨I 0 (fun _=>rfl) (k3 q).1,?_⟩,fun q=>⟨fun j hj=>I j (fun k=>by rw[q] at k;exact absurd k (by decide)) ((k4 q).1 j hj),?_⟩,fun q=>⟨?_,?_,fun j hj hj6=>I j (fun k=>by rw[q] at k;exact absurd k (by decide)) ((k5 q).2.2 j hj hj6)⟩⟩
  ·obtain⟨v,v1,v2⟩:=k2 q
   exact⟨v,S 0 v (by rw[q];decide) v1 (slv_slice v2),v2⟩
  ·obtain⟨v,v1,v2⟩:=(k3 q).2
   dsimp only at v1
   show ∃ v,(cur.setIfInBounds o x)[i*szT T+1]?=some v∧SlW M N v
   rw[hk]
   by_cases e:i*szT T+1=o
   ·rw[if_pos e]
    rw[e,hyc] at v1
    cases v1
    rcases hX with⟨⟨z,hz⟩,_⟩|rfl|⟨_,_,h5⟩
    ·obtain⟨_,_,_,rfl,_⟩:=v2;cases hz
    ·exact⟨_,rfl,v2⟩
    ·exact⟨_,rfl,h5 v2⟩
   ·rw[if_neg e];exact⟨v,v1,v2⟩
  ·obtain⟨v,v1,v2⟩:=(k4 q).2
   exact⟨v,S 6 v (by rw[q];decide) v1 (slv_slice v2),v2⟩
  ·obtain⟨v,v1,v2⟩:=(k5 q).1
   exact⟨v,S 0 v (by rw[q];decide) v1 (slv_slice v2),v2⟩
  ·obtain⟨v,v1,v2⟩:=(k5 q).2.1
   exact⟨v,S 1 v (by rw[q];decide) v1 (slv_slice v2),v2⟩
 ·exact⟨h1,cur,(Below.heap_setCell _ _ _ _ e).trans h2,h3⟩
variable {base N n c:Nat} {M:Tmap} {v:World} {u:Option Addr}
theorem sl_atR{T:TypeId}(th:TR base M N v)(h:SlN M T (.slice u n c) n):n=0∨∃ g,u=some ⟨g,0,none⟩∧base≤g∧g<v.heap.size∧∀ i,i<n→ElR M N T (fun j=>v.cell? ⟨g,0+i*szT T+j,none⟩):=by
 obtain⟨u',c',e,h⟩:=h
 cases e
 rcases h with h|⟨g,m,rfl,hM,hm⟩
 ·exact .inl h
 ·obtain⟨h1,cur,h2,h3⟩:=th g T m hM
  refine .inr ⟨g,rfl,h1,(Array.getElem?_eq_some_iff.1 h2).1,fun i hi=>?_⟩
  have e:(fun j=>v.cell? ⟨g,0+i*szT T+j,none⟩)=fun j=>cur[i*szT T+j]?:=by
   funext j
   rw[zcH h2,Nat.zero_add]
  rw[e]
  exact h3 i (by omega)
theorem ints_ofR(th:TR base M N v)(h:SlN M 2 (.slice u n c) n)(hn:n≤10000):∃ l:List Int,l.length=n∧IntsAt v base u l:=by
 rcases sl_atR th h with rfl|⟨g,rfl,h1,h2,h3⟩
 ·exact⟨[],rfl,by simp,.inl rfl⟩
 ·have hs:szT 2=1:=by decide
  obtain⟨l,l1,l2⟩:=list_of 0 (fun i z=>v.cell? ⟨g,0+i,none⟩=some (.int .i64 z)) n fun i hi=>by
   obtain⟨z,hz⟩:=(h3 i hi).1 rfl
   exact⟨z,by simpa [hs] using hz⟩
  exact⟨l,l1,by omega,.inr ⟨g,0,rfl,h1,h2,fun i hi=>l2 i (by omega)⟩⟩
theorem ints_ofW(th:TR base M N v)(h:n=0∨∃ g o m,u=some ⟨g,o,none⟩∧M g=some (2,m)∧o+n≤m)(hn:n≤10000):∃ l:List Int,l.length=n∧IntsAt v base u l:=by
 rcases h with rfl|⟨g,o,m,rfl,hM,hm⟩
 ·exact⟨[],rfl,by simp,.inl rfl⟩
 ·obtain⟨h1,cur,h2,h3⟩:=th g _ m hM
  have hs:szT 2=1:=by decide
  obtain⟨l,l1,l2⟩:=list_of 0 (fun i z=>v.cell? ⟨g,o+i,none⟩=some (.int .i64 z)) n fun i hi=>by
   obtain⟨z,hz⟩:=(h3 (o+i) (by omega)).1 rfl
   exact⟨z,by rw[zcH h2];simpa [hs] using hz⟩
  exact⟨l,l1,by omega,.inr ⟨g,o,rfl,h1,(Array.getElem?_eq_some_iff.1 h2).1,fun i hi=>l2 i (by omega)⟩⟩
theorem phis_ofR(th:TR base M N v)(hN:N≤10000)(h:SlN M 92 (.slice u n c) n)(hn:n≤10000):∃ l:List PhiD,l.length=n∧PhisAt v base u l∧∀ p∈l,SmPhi p:=by
 rcases sl_atR th h with rfl|⟨g,rfl,h1,h2,h3⟩
 ·exact⟨[],rfl,⟨by simp,.inl rfl⟩,by simp⟩
 ·have hs:szT 92=2:=by decide
  obtain⟨l,l1,l2⟩:=list_of phi0 (fun i p=>(v.cell? ⟨g,0+i*2,none⟩=some (.int .i64 p.w)∧∃ u c,v.cell? ⟨g,0+i*2+1,none⟩=some (.slice u p.ins.length c)∧IntsAt v base u p.ins)∧p.ins.length≤10000) n fun i hi=>by
   obtain⟨⟨z,hz⟩,s,hs1,hs2⟩:=(h3 i hi).2.2.1 rfl
   obtain⟨u,k,c,rfl,hk,hs3⟩:=hs2
   obtain⟨m,m1,m2⟩:=ints_ofW th (u:=u) hs3 (by omega)
   exact⟨⟨z,m⟩,⟨by simpa [hs] using hz,u,c,by simpa [hs,m1] using hs1,m2⟩,by dsimp only;omega⟩
  refine⟨l,l1,⟨by omega,.inr ⟨g,0,rfl,h1,h2,fun i hi=>(l2 i (by omega)).1⟩⟩,fun p hp=>?_⟩
  obtain⟨i,hi,rfl⟩:=mem_getD phi0 hp
  have:=(l2 i (by omega)).2
  show _≤_
  omega
theorem insts_ofR(th:TR base M N v)(hN:N≤10000)(h:SlN M 95 (.slice u n c) n)(hn:n≤10000):∃ l:List InstD,l.length=n∧InstsAt v base u l∧∀ p∈l,SmInst p:=by
 rcases sl_atR th h with rfl|⟨g,rfl,h1,h2,h3⟩
 ·exact⟨[],rfl,⟨by simp,.inl rfl⟩,by simp⟩
 ·have hs:szT 95=7:=by decide
  obtain⟨l,l1,l2⟩:=list_of inst0 (fun i p=>(v.cell? ⟨g,0+i*7,none⟩=some (.int .i64 p.op)∧v.cell? ⟨g,0+i*7+1,none⟩=some (.int .i64 p.w)∧v.cell? ⟨g,0+i*7+2,none⟩=some (.int .i64 p.a)∧v.cell? ⟨g,0+i*7+3,none⟩=some (.int .i64 p.b)∧v.cell? ⟨g,0+i*7+4,none⟩=some (.int .i64 p.c)∧v.cell? ⟨g,0+i*7+5,none⟩=some (.int .i64 p.imm)∧∃ u c,v.cell? ⟨g,0+i*7+6,none⟩=some (.slice u p.args.length c)∧IntsAt v base u p.args)∧p.args.length≤10000) n fun i hi=>by
   obtain⟨hz,s,hs1,hs2⟩:=(h3 i hi).2.2.2.1 rfl
   obtain⟨u,k,c,rfl,hk,hs3⟩:=slv_form hs2
   obtain⟨m,m1,m2⟩:=ints_ofR th hs3 (by omega)
   obtain⟨z0,y0⟩:=hz 0 (by omega)
   obtain⟨z1,y1⟩:=hz 1 (by omega)
   obtain⟨z2,y2⟩:=hz 2 (by omega)
   obtain⟨z3,y3⟩:=hz 3 (by omega)
   obtain⟨z4,y4⟩:=hz 4 (by omega)
   obtain⟨z5,y5⟩:=hz 5 (by omega)
   simp only[hs] at y0 y1 y2 y3 y4 y5 hs1
   exact⟨⟨z0,z1,z2,z3,z4,z5,m⟩,⟨y0,y1,y2,y3,y4,y5,u,c,by rw[hs1,m1],m2⟩,by dsimp only;omega⟩
  refine⟨l,l1,⟨by omega,.inr ⟨g,0,rfl,h1,h2,fun i hi=>(l2 i (by omega)).1⟩⟩,fun p hp=>?_⟩
  obtain⟨i,hi,rfl⟩:=mem_getD inst0 hp
  have:=(l2 i (by omega)).2
  show _≤_
  omega
theorem blocks_ofR(th:TR base M N v)(hN:N≤10000)(h:SlN M 74 (.slice u n c) n)(hn:n≤10000):∃ l:List BlockD,l.length=n∧zBA v base u l∧∀ p∈l,SmBlock p:=by
 rcases sl_atR th h with rfl|⟨g,rfl,h1,h2,h3⟩
 ·exact⟨[],rfl,⟨by simp,.inl rfl⟩,by simp⟩
 ·have hs:szT 74=6:=by decide
  obtain⟨l,l1,l2⟩:=list_of block0 (fun i p=>((∃ u c,v.cell? ⟨g,0+i*6,none⟩=some (.slice u p.phis.length c)∧PhisAt v base u p.phis)∧(∃ u c,v.cell? ⟨g,0+i*6+1,none⟩=some (.slice u p.insts.length c)∧InstsAt v base u p.insts)∧v.cell? ⟨g,0+i*6+2,none⟩=some (.int .i64 p.term.kind)∧v.cell? ⟨g,0+i*6+3,none⟩=some (.int .i64 p.term.a)∧v.cell? ⟨g,0+i*6+4,none⟩=some (.int .i64 p.term.x)∧v.cell? ⟨g,0+i*6+5,none⟩=some (.int .i64 p.term.y))∧SmBlock p) n fun i hi=>by
   obtain⟨⟨s,hs1,hs2⟩,⟨s',hs1',hs2'⟩,hz⟩:=(h3 i hi).2.2.2.2 rfl
   obtain⟨u,k,c,rfl,hk,hs3⟩:=slv_form hs2
   obtain⟨u',k',c',rfl,hk',hs3'⟩:=slv_form hs2'
   obtain⟨m,m1,m2,m3⟩:=phis_ofR th hN hs3 (by omega)
   obtain⟨m',m1',m2',m3'⟩:=insts_ofR th hN hs3' (by omega)
   obtain⟨z2,y2⟩:=hz 2 (by omega) (by omega)
   obtain⟨z3,y3⟩:=hz 3 (by omega) (by omega)
   obtain⟨z4,y4⟩:=hz 4 (by omega) (by omega)
   obtain⟨z5,y5⟩:=hz 5 (by omega) (by omega)
   simp only[hs] at y2 y3 y4 y5 hs1 hs1'
   exact⟨⟨m,m',⟨z2,z3,z4,z5⟩⟩,⟨⟨u,c,by rw[←m1] at hs1;exact hs1,m2⟩,⟨u',c',by rw[←m1'] at hs1';exact hs1',m2'⟩,y2,y3,y4,y5⟩,⟨by dsimp only;omega,m3⟩,⟨by dsimp only;omega,m3'⟩⟩
  refine⟨l,l1,⟨by omega,.inr ⟨g,0,rfl,h1,h2,fun i hi=>(l2 i (by omega)).1⟩⟩,fun p hp=>?_⟩
  obtain⟨i,hi,rfl⟩:=mem_getD block0 hp
  exact (l2 i (by omega)).2
def FunR(lo:Nat)(w:World)(np nb:Nat)(up ub:Option Addr):Prop:=∃ M,TR lo M 400 w∧SlN M 2 (.slice up np 0) np∧SlN M 74 (.slice ub nb 0) nb∧np≤2∧1≤nb∧nb≤400
def ModR(lo gm n:Nat)(w:World):Prop:=(∃ cur,w.heap[gm]?=some (.cells cur 55 (0,0)))∧∀ i,i<n→∃ (np nb:Nat) (ret:Int) (up ub:Option Addr) (cp cb:Nat),w.cell? ⟨gm,i*3,none⟩=some (.slice up np cp)∧w.cell? ⟨gm,i*3+1,none⟩=some (.int .i64 ret)∧w.cell? ⟨gm,i*3+2,none⟩=some (.slice ub nb cb)∧FunR lo w np nb up ub
theorem ModR.same{lo gm n:Nat}{w w':World}(h:ModR lo gm n w)(hg:lo≤gm)(hb:∀ b,lo≤b→b<w.heap.size→w'.heap[b]?=w.heap[b]?):ModR lo gm n w':=by
 obtain⟨⟨cur,hc⟩,h⟩:=h
 have e:=hb gm hg (Array.getElem?_eq_some_iff.1 hc).1
 refine⟨⟨cur,e.trans hc⟩,fun i hi=>?_⟩
 obtain⟨np,nb,ret,up,ub,cp,cb,h0,h1,h2,M,h3,h4⟩:=h i hi
 exact⟨np,nb,ret,up,ub,cp,cb,(cell_blk e).trans h0,(cell_blk e).trans h1,(cell_blk e).trans h2,M,h3.same hb,h4⟩
theorem ModR.set{lo gm n b o:Nat}{w:World}{x y:Value}(h:ModR lo gm n w)(hb:b≠gm)(hy:w.cell? ⟨b,o,none⟩=some y)(hx:((∃ z:Int,y=.int .i64 z)∧∃ z:Int,x=.int .i64 z)∨x=y∨((∃ cur,w.heap[b]?=some (.cells cur 92 (0,0)))∧o%2=1∧∀ M,SlW M 400 y→SlW M 400 x)):ModR lo gm n (w.setCell ⟨b,o,none⟩ x):=by
 obtain⟨⟨cur,hc⟩,h⟩:=h
 have e:(w.setCell ⟨b,o,none⟩ x).heap[gm]?=w.heap[gm]?:=Below.heap_setCell _ _ _ _ (Ne.symm hb)
 refine⟨⟨cur,e.trans hc⟩,fun i hi=>?_⟩
 obtain⟨np,nb,ret,up,ub,cp,cb,h0,h1,h2,M,h3,h4⟩:=h i hi
 refine⟨np,nb,ret,up,ub,cp,cb,(cell_blk e).trans h0,(cell_blk e).trans h1,(cell_blk e).trans h2,M,h3.set hy fun T m hm=>?_,h4⟩
 rcases hx with hx|hx|⟨⟨c1,hc1⟩,h5,h6⟩
 ·exact .inl hx
 ·exact .inr (.inl hx)
 ·obtain⟨_,c2,hc2,_⟩:=h3 b T m hm
  rw[hc1] at hc2
  cases hc2
  exact .inr (.inr ⟨rfl,h5,h6 M⟩)
theorem ModAll.r{gm n lo:Nat}{w:World}(hc:∃ cur,w.heap[gm]?=some (.cells cur 55 (0,0)))(h:∀ i,i<n→∃ (d:FuncD) (up ub:Option Addr) (cp cb:Nat),w.cell? ⟨gm,i*3,none⟩=some (.slice up d.params.length cp)∧w.cell? ⟨gm,i*3+1,none⟩=some (.int .i64 d.ret)∧w.cell? ⟨gm,i*3+2,none⟩=some (.slice ub d.blocks.length cb)∧Ty2 w lo d up ub):ModR lo gm n w:=by
 refine⟨hc,fun i hi=>?_⟩
 obtain⟨d,up,ub,cp,cb,h0,h1,h2,M,h3,h4,h5,h6,h7,h8⟩:=h i hi
 exact⟨_,_,_,up,ub,cp,cb,h0,h1,h2,M,h3.tr,h4,h5,h6,h7,h8⟩
theorem FunR.low{lo lo' np nb:Nat}{w:World}{up ub:Option Addr}(h:FunR lo w np nb up ub)(hl:lo'≤lo):FunR lo' w np nb up ub:=by
 obtain⟨M,h1,h2⟩:=h
 refine⟨M,fun b T m hb=>?_,h2⟩
 obtain⟨k1,k2⟩:=h1 b T m hb
 exact⟨by omega,k2⟩
theorem ModR.low{lo lo' gm n:Nat}{w:World}(h:ModR lo gm n w)(hl:lo'≤lo):ModR lo' gm n w:=by
 refine⟨h.1,fun i hi=>?_⟩
 obtain⟨np,nb,ret,up,ub,cp,cb,h0,h1,h2,h3⟩:=h.2 i hi
 exact⟨np,nb,ret,up,ub,cp,cb,h0,h1,h2,h3.low hl⟩
theorem FunR.read{lo np nb:Nat}{w:World}{up ub:Option Addr}{ret:Int}(h:FunR lo w np nb up ub):∃ d:FuncD,d.params.length=np∧d.ret=ret∧d.blocks.length=nb∧SmFunc d∧IntsAt w lo up d.params∧zBA w lo ub d.blocks:=by
 obtain⟨M,h1,h2,h3,h4,h5,h6⟩:=h
 obtain⟨l,l1,l2⟩:=ints_ofR h1 h2 (by omega)
 obtain⟨m,m1,m2,m3⟩:=blocks_ofR h1 (by omega) h3 (by omega)
 exact⟨⟨l,ret,m⟩,l1,rfl,m1,⟨by dsimp only;omega,by dsimp only;omega,m3⟩,l2,m2⟩
end Go.Proofs.YtkpmiikafconmaaGreatDoor
namespace Go.Proofs.YtkpmiikafconmaaGreatDoor
open Go.ChangeShapes Go.WideShapes Go.RowKit
set_option maxHeartbeats 8000000
set_option maxRecDepth 100000
set_option linter.unusedVariables false
theorem gC:Tryz.prog.globalNamed "loop.example/g00457/impl.errUnread" = some 1:=by kernel_rfl
theorem tC:(Tryz.prog.globals[1]?).map (·.type)=some 45:=by kernel_rfl
theorem gSy:Tryz.prog.globalNamed "strconv.ErrSyntax" = some 9:=by kernel_rfl
theorem tSy:(Tryz.prog.globals[9]?).map (·.type)=some 45:=by kernel_rfl
theorem gRg:Tryz.prog.globalNamed "strconv.ErrRange" = some 10:=by kernel_rfl
theorem tRg:(Tryz.prog.globals[10]?).map (·.type)=some 45:=by kernel_rfl
theorem lcES:Tryz.prog.cellsOf 234=1:=by kernel_rfl
theorem lcS:Tryz.prog.cellsOf 9=1:=by kernel_rfl
theorem lstar : "*" ++ "errors.errorString" = "*errors.errorString" := by decide
theorem lrow(u:TypeId)(h:Tryz.prog.typeName? 3 u=some "*errors.errorString"):u=232 :=
 typeName_ptr_named (nm := "errors.errorString") (by rw[lstar];kernel_rfl) (by kernel_rfl) (by decide) u (by rw[lstar];exact h)
theorem gOps:Tryz.prog.globalNamed "loop.example/g00457/impl.opWords" = some 2:=by kernel_rfl
theorem tOps:(Tryz.prog.globals[2]?).map (·.type)=some 150:=by kernel_rfl
theorem tPow:(Tryz.prog.globals[3]?).map (·.type)=some 181:=by kernel_rfl
theorem gTms:Tryz.prog.globalNamed "loop.example/g00457/impl.termWords" = some 0:=by kernel_rfl
theorem tTms:(Tryz.prog.globals[0]?).map (·.type)=some 120:=by kernel_rfl
theorem tmsDt:(Rows.laid_loop_example_g00457_impl_termWords:DataW Unit)=.agg (tmWL.map fun b=>.lit (.string b)):=by rfl
theorem opsDt:(Rows.laid_loop_example_g00457_impl_opWords:DataW Unit)=.agg (opWL.map fun b=>.lit (.string b)):=by rfl
theorem powDt:(Rows.laid_internal_strconv_uint64pow10:DataW Unit)=Lib.tabData .u64 Lib.pow10Tab:=by rfl
theorem var_below{W W':World}{n:String}{g:Nat}{cs:Array Value}(hg:Tryz.prog.globalNamed n=some g)(h:W.var? Tryz.prog n=some cs)(k:Below W.heap.size W W'):W'.var? Tryz.prog n=some cs:=by
 unfold World.var? at h ⊢
 simp only[hg,Option.bind_some] at h ⊢
 have hlt:g<W.heap.size:=by
  rcases Nat.lt_or_ge g W.heap.size with h'|h'
  ·exact h'
  ·simp[Array.getElem?_eq_none h'] at h
 rw[k.block g hlt]
 exact h
theorem vars_cons{H:Type}(enc:TypeId × Value→H){W:World}{n:String}{g:Nat}{x:Value}{ns:List String}{ds:List (DataW H)}{qs:List MemPlace}{sp:Nat→Bool}
  (hg:Tryz.prog.globalNamed n=some g) (ht:(Tryz.prog.globals[g]?).map (·.type)=some 45) (h:W.var? Tryz.prog n=some #[x]) (ix:IsIface x) (r:DataW.TrodVars enc Tryz.prog W sp ns ds qs) :
  DataW.TrodVars enc Tryz.prog W sp (n :: ns) (tok enc x :: ds) (.cell g 0 :: qs) :=
 ⟨g,45,#[x],1,[],qs,hg,ht,h,trod_held Tryz.underlying45 ix 0,r,rfl⟩
theorem ops_of_var{W:World}{cs:Array Value}{fuel:Nat}{p:List MemPlace}(hv:W.var? Tryz.prog "loop.example/g00457/impl.opWords" = some cs)
  (hd:DataW.trod (fun _=>()) Tryz.prog W 0 (fun _=>true) false fuel 150 cs.toList=some (Rows.laid_loop_example_g00457_impl_opWords,p)):OpsAt W:=by
 have hcell:∀ r,r<28→W.cell? ⟨2,r,none⟩=some (.string (opW r)):=by
  intro r hr
  obtain⟨xs,m,_,ex,_,hl,hel⟩:=DataW.trod_array Tryz.underlying150 hd
  have c5:Tryz.prog.cellsOf 9=1:=by kernel_rfl
  have hE:=hel r hr
  rw[c5,Nat.mul_one,List.getElem?_eq_getElem (by omega)] at hE
  obtain⟨s,e1,e2,_⟩:=DataW.trod_string Tryz.underlying9 hE
  have hlen:opWL.length=28:=rfl
  rw[opsDt] at ex
  have e3:(xs.map (·.1))=opWL.map fun b=>.lit (.string b):=(DataW.agg.inj (Prod.mk.inj ex).1).symm
  have e4:(xs.map (·.1))[r]?=(opWL.map fun b=>(DataW.lit (.string b):DataW Unit))[r]?:=by rw[e3]
  rw[List.getElem?_map,List.getElem?_map,List.getElem?_eq_getElem (by omega:r<xs.length),List.getElem?_eq_getElem (by omega:r<opWL.length),e2] at e4
  have hz:s=opW r:=by
   simp only[Option.map_some,Option.some.injEq,DataW.lit.injEq,Lit.string.injEq] at e4
   unfold opW bs
   rw[List.getD,List.getElem?_eq_getElem (by omega:r<opWL.length)]
   refine ByteArray.ext (Array.toList_inj.1 ?_)
   simpa using e4
  rw[World.var?_cell gOps hv r,←hz]
  have:cs.toList[r]?=some (.string s):=by
   have h0:((cs.toList.drop r).take 1)[0]?=some (.string s):=by rw[e1];rfl
   simpa using h0
  simpa using this
 refine⟨?_,hcell⟩
 rcases Nat.lt_or_ge 2 W.heap.size with h|h
 ·exact h
 ·have:=hcell 0 (by omega)
  simp[World.cell?,Array.getElem?_eq_none h] at this
theorem pow_of_var{W:World}{cs:Array Value}{fuel:Nat}{p:List MemPlace}(hv:W.var? Tryz.prog "internal/strconv.uint64pow10" = some cs)
  (hd:DataW.trod (fun _=>()) Tryz.prog W 0 (fun _=>true) false fuel 181 cs.toList=some (Rows.laid_internal_strconv_uint64pow10,p)):PowAt W:=by
 rw[powDt] at hd
 unfold PowAt Lib.TabIs
 rw[hv,←Lib.cells_of_tab Tryz.underlying181 Tryz.underlying153 (by kernel_rfl) (by kernel_rfl) hd]
theorem tms_of_var{W:World}{cs:Array Value}{fuel:Nat}{p:List MemPlace}(hv:W.var? Tryz.prog "loop.example/g00457/impl.termWords" = some cs)
  (hd:DataW.trod (fun _=>()) Tryz.prog W 0 (fun _=>true) false fuel 120 cs.toList=some (Rows.laid_loop_example_g00457_impl_termWords,p)):TmsAt W:=by
 have hcell:∀ r,r<5→W.cell? ⟨0,r,none⟩=some (.string (tmW r)):=by
  intro r hr
  obtain⟨xs,m,_,ex,_,hl,hel⟩:=DataW.trod_array Tryz.underlying120 hd
  have c5:Tryz.prog.cellsOf 9=1:=by kernel_rfl
  have hE:=hel r hr
  rw[c5,Nat.mul_one,List.getElem?_eq_getElem (by omega)] at hE
  obtain⟨s,e1,e2,_⟩:=DataW.trod_string Tryz.underlying9 hE
  have hlen:tmWL.length=5:=rfl
  rw[tmsDt] at ex
  have e3:(xs.map (·.1))=tmWL.map fun b=>.lit (.string b):=(DataW.agg.inj (Prod.mk.inj ex).1).symm
  have e4:(xs.map (·.1))[r]?=(tmWL.map fun b=>(DataW.lit (.string b):DataW Unit))[r]?:=by rw[e3]
  rw[List.getElem?_map,List.getElem?_map,List.getElem?_eq_getElem (by omega:r<xs.length),List.getElem?_eq_getElem (by omega:r<tmWL.length),e2] at e4
  have hz:s=tmW r:=by
   simp only[Option.map_some,Option.some.injEq,DataW.lit.injEq,Lit.string.injEq] at e4
   unfold tmW bs
   rw[List.getD,List.getElem?_eq_getElem (by omega:r<tmWL.length)]
   refine ByteArray.ext (Array.toList_inj.1 ?_)
   simpa using e4
  rw[World.var?_cell gTms hv r,←hz]
  have:cs.toList[r]?=some (.string s):=by
   have h0:((cs.toList.drop r).take 1)[0]?=some (.string s):=by rw[e1];rfl
   simpa using h0
  simpa using this
 refine⟨?_,hcell⟩
 rcases Nat.lt_or_ge 0 W.heap.size with h|h
 ·exact h
 ·have:=hcell 0 (by omega)
  simp[World.cell?,Array.getElem?_eq_none h] at this
theorem two_vars{H:Type}{enc:TypeId × Value→H}{P:Program}{W:World}{sp:Nat→Bool}{n m:String}{gs:List (DataW H)}{q:List MemPlace}(h:DataW.TrodVars enc P W sp [n,m] gs q):∃ g1 g2,gs=[g1,g2]:=by
 match gs,h with
 | [g],h=>obtain⟨_,_,_,_,_,_,_,_,_,_,h,_⟩:=h;exact h.elim
 | [g1,g2],_=>exact⟨g1,g2,rfl⟩
 | g1 :: g2 :: x :: r,h =>
  obtain⟨_,_,_,_,_,_,_,_,_,_,h,_⟩:=h
  obtain⟨_,_,_,_,_,_,_,_,_,_,h,_⟩:=h
  exact h.elim
theorem gv_of{W:World}{n:String}{g:Nat}{x:Value}(hg:Tryz.prog.globalNamed n=some g)(h:W.var? Tryz.prog n=some #[x]):Gv W g x:=by
 have hc:W.cell? ⟨g,0,none⟩=some x:=by rw[World.var?_cell hg h 0];rfl
 refine⟨hc,?_⟩
 rcases Nat.lt_or_ge g W.heap.size with h|h
 ·exact h
 ·simp[World.cell?,Array.getElem?_eq_none h] at hc
theorem three_vars{H:Type}{enc:TypeId × Value→H}{P:Program}{W:World}{sp:Nat→Bool}{n m k:String}{gs:List (DataW H)}{q:List MemPlace}(h:DataW.TrodVars enc P W sp [n,m,k] gs q):∃ g1 g2 g3,gs=[g1,g2,g3]:=by
 match gs,h with
 | [g],h=>obtain⟨_,_,_,_,_,_,_,_,_,_,h,_⟩:=h;exact h.elim
 | [g1,g2],h =>
  obtain⟨_,_,_,_,_,_,_,_,_,_,h,_⟩:=h
  obtain⟨_,_,_,_,_,_,_,_,_,_,h,_⟩:=h
  exact h.elim
 | [g1,g2,g3],_=>exact⟨g1,g2,g3,rfl⟩
 | g1 :: g2 :: g3 :: x :: r,h =>
  obtain⟨_,_,_,_,_,_,_,_,_,_,h,_⟩:=h
  obtain⟨_,_,_,_,_,_,_,_,_,_,h,_⟩:=h
  obtain⟨_,_,_,_,_,_,_,_,_,_,h,_⟩:=h
  exact h.elim
structure LaidM(W:World)(aC:Addr):Prop where
 c:W.var? Tryz.prog "loop.example/g00457/impl.errUnread" = some #[errV aC]
 gv:Gv W 1 (errV aC)
 es:ErrsAt W
 pw:PowAt W
 ops:OpsAt W
 tms:TmsAt W
theorem LaidM.tabs{W:World}{aC:Addr}(h:LaidM W aC):Tabs W aC:=⟨h.gv,h.es,h.pw,h.ops,h.tms⟩
theorem read_of_laid{W:World}(h:laidMetH Tryz.prog Rows.fnExactReadModuleRow.laid W):∃ aC,LaidM W aC:=by
 rw[MakeChecks.laidMetH_plain _ _ _ (by kernel_rfl)] at h
 obtain⟨ps,⟨g0,t0,cs0,f0,p0,q0,hg0,ht0,hv0,hd0,⟨g1,t1,cs1,f1,p1,q1,hg1,ht1,hv1,hd1,⟨g2,t2,cs2,f2,p2,q2,hg2,ht2,hv2,hd2,⟨g3,t3,cs3,f3,p3,q3,hg3,ht3,hv3,hd3,⟨g4,t4,cs4,f4,p4,q4,hg4,ht4,hv4,hd4,⟨g5,t5,cs5,f5,p5,q5,hg5,ht5,hv5,hd5,⟨g6,t6,cs6,f6,p6,q6,hg6,ht6,hv6,hd6,⟨g7,t7,cs7,f7,p7,q7,hg7,ht7,hv7,hd7,⟨g8,t8,cs8,f8,p8,q8,hg8,ht8,hv8,hd8,⟨g9,t9,cs9,f9,p9,q9,hg9,ht9,hv9,hd9,hq9,e9⟩,e8⟩,e7⟩,e6⟩,e5⟩,e4⟩,e3⟩,e2⟩,e1⟩,e0⟩,hnd,hrows⟩:=h
 obtain rfl:=Option.some.inj (gPow.symm.trans hg2)
 obtain rfl:=Option.some.inj (tPow.symm.trans ht2)
 obtain rfl:=Option.some.inj (gRg.symm.trans hg4)
 obtain rfl:=Option.some.inj (tRg.symm.trans ht4)
 obtain rfl:=Option.some.inj (gSy.symm.trans hg5)
 obtain rfl:=Option.some.inj (tSy.symm.trans ht5)
 obtain rfl:=Option.some.inj (gOps.symm.trans hg6)
 obtain rfl:=Option.some.inj (tOps.symm.trans ht6)
 obtain rfl:=Option.some.inj (gC.symm.trans hg8)
 obtain rfl:=Option.some.inj (tC.symm.trans ht8)
 obtain rfl:=Option.some.inj (gTms.symm.trans hg7)
 obtain rfl:=Option.some.inj (tTms.symm.trans ht7)
 have hO:=ops_of_var hv6 hd6
 have hT:=tms_of_var hv7 hd7
 have hW:=pow_of_var hv2 hd2
 clear hd0 hd1 hd2 hd3 hd6 hd7 hd9
 subst e9
 subst e8
 subst e7
 subst e6
 subst e5
 subst e4
 subst e3
 subst e2
 subst e1
 subst e0
 obtain⟨l4⟩:=cs4
 obtain⟨l5⟩:=cs5
 obtain⟨l8⟩:=cs8
 have ok4:∀ u v,l4=[.iface u v]→Value.okWide Tryz.prog W .any 0 u v:=fun u v e=>by
  subst e
  exact (hrows 10 0 (by simp[MemPlace.row])).2 u v (by simpa using World.var?_cell hg4 hv4 0)
 have ok5:∀ u v,l5=[.iface u v]→Value.okWide Tryz.prog W .any 0 u v:=fun u v e=>by
  subst e
  exact (hrows 9 0 (by simp[MemPlace.row])).2 u v (by simpa using World.var?_cell hg5 hv5 0)
 have ok8:∀ u v,l8=[.iface u v]→Value.okWide Tryz.prog W .any 0 u v:=fun u v e=>by
  subst e
  exact (hrows 1 0 (by simp[MemPlace.row])).2 u v (by simpa using World.var?_cell hg8 hv8 0)
 obtain⟨a4,s4,rfl,hc4,hs4,hz4,rfl⟩:=errorString_of_trod Tryz.underlying45 lrow Tryz.underlying232 Tryz.underlying234 rfl rfl Tryz.underlying9 lcES lcS hd4 ok4
 obtain⟨a5,s5,rfl,hc5,hs5,hz5,rfl⟩:=errorString_of_trod Tryz.underlying45 lrow Tryz.underlying232 Tryz.underlying234 rfl rfl Tryz.underlying9 lcES lcS hd5 ok5
 obtain⟨a8,s8,rfl,hc8,hs8,hz8,rfl⟩:=errorString_of_trod Tryz.underlying45 lrow Tryz.underlying232 Tryz.underlying234 rfl rfl Tryz.underlying9 lcES lcS hd8 ok8
 exact⟨a8,⟨hv8,gv_of gC hv8,⟨⟨_,gv_of gSy hv5,.inr ⟨_,_,rfl⟩⟩,⟨_,gv_of gRg hv4,.inr ⟨_,_,rfl⟩⟩⟩,hW,hO,hT⟩⟩
theorem read_met(os:Os)(args:Array Value):laidMetH Tryz.prog Rows.fnExactReadModuleRow.laid ((World.laidAll Tryz.prog os Rows.fnExactReadModuleRow.laid).forCall (fun _ _=>0) ⟨#[],args,[]⟩).memory:=by
 rw[MakeChecks.laidMetH_plain _ _ _ (by kernel_rfl)]
 exact laidMet_laidAll _ (by kernel_rfl) (by kernel_rfl)
theorem vars_snd{H:Type}{enc:TypeId × Value→H}{W W':World}{gs:List (DataW H)}{q:List MemPlace}{x:Value}(hl:laidOutB Tryz.prog=true)(bel:Below W.heap.size W W')
  (hV:DataW.TrodVars enc Tryz.prog W (fun _=>true) ["loop.example/g00457/impl.opWords", "loop.example/g00457/impl.errUnread"] gs q) (hx:W.var? Tryz.prog "loop.example/g00457/impl.errUnread" = some #[x]) (ix:IsIface x) :
  DataW.TrodVars enc Tryz.prog W' (fun b=>decide (b<W.heap.size)) ["loop.example/g00457/impl.opWords", "loop.example/g00457/impl.errUnread"] gs q:=by
 obtain⟨g1,g2,rfl⟩:=two_vars hV
 obtain⟨g,t,cs,fuel,p,q1,h1,h2,h3,h4,hs,e⟩:=hV
 obtain⟨hgs,hq1⟩:=hs.unique (vars_cons enc gC tC hx ix (show DataW.TrodVars enc Tryz.prog W (fun _=>true) [] [] [] from rfl))
 have K:DataW.TrodVars enc Tryz.prog W (fun _=>true) ["loop.example/g00457/impl.opWords"] [g1] (MemPlace.row ⟨g,0,none⟩ cs.size++p++[]):=⟨g,t,cs,fuel,p,[],h1,h2,h3,h4,rfl,rfl⟩
 obtain⟨g',t',cs',fuel',p',q',k1,k2,k3,k4,ks,ke⟩:=Below.trodVars hl bel (by kernel_rfl) K
 have hq':q'=[]:=ks
 subst hq'
 have T:DataW.TrodVars enc Tryz.prog W' (fun b=>decide (b<W.heap.size)) ["loop.example/g00457/impl.errUnread"] [g2] q1:=by
  rw[hgs,hq1]
  exact vars_cons enc gC tC (var_below gC hx bel) ix rfl
 refine⟨g',t',cs',fuel',p',q1,k1,k2,k3,k4,T,?_⟩
 rw[e]
 simp only[List.append_nil] at ke
 rw[ke]
theorem vars_thd{H:Type}{enc:TypeId × Value→H}{W W':World}{gs:List (DataW H)}{q:List MemPlace}{x:Value}(hl:laidOutB Tryz.prog=true)(bel:Below W.heap.size W W')
  (hV:DataW.TrodVars enc Tryz.prog W (fun _=>true) ["loop.example/g00457/impl.termWords", "loop.example/g00457/impl.opWords", "loop.example/g00457/impl.errUnread"] gs q) (hx:W.var? Tryz.prog "loop.example/g00457/impl.errUnread" = some #[x]) (ix:IsIface x) :
  DataW.TrodVars enc Tryz.prog W' (fun b=>decide (b<W.heap.size)) ["loop.example/g00457/impl.termWords", "loop.example/g00457/impl.opWords", "loop.example/g00457/impl.errUnread"] gs q:=by
 obtain⟨g1,g2,g3,rfl⟩:=three_vars hV
 obtain⟨g,t,cs,fuel,p,q1,h1,h2,h3,h4,hs,e⟩:=hV
 have S2:=vars_snd hl bel hs hx ix
 have K:DataW.TrodVars enc Tryz.prog W (fun _=>true) ["loop.example/g00457/impl.termWords"] [g1] (MemPlace.row ⟨g,0,none⟩ cs.size++p++[]):=⟨g,t,cs,fuel,p,[],h1,h2,h3,h4,rfl,rfl⟩
 obtain⟨g',t',cs',fuel',p',q',k1,k2,k3,k4,ks,ke⟩:=Below.trodVars hl bel (by kernel_rfl) K
 have hq':q'=[]:=ks
 subst hq'
 refine⟨g',t',cs',fuel',p',q1,k1,k2,k3,k4,S2,?_⟩
 rw[e]
 simp only[List.append_nil] at ke
 rw[ke]
end Go.Proofs.YtkpmiikafconmaaGreatDoor
