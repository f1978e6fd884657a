import Derived.Test.YtkpmiikafconmaaGreatDoorGnHJp
namespace Go.Proofs.YtkpmiikafconmaaGreatDoor
open Go.RowKit Go.Deep
set_option maxHeartbeats 4000000
set_option maxRecDepth 100000
set_option linter.unusedVariables false
def NewI(w:World)(g q n:Nat):Prop:=q<w.heap.size∧q≠g∧∃ z:Int,w.cell? ⟨q,n,none⟩=some (.int .i64 z)
theorem NewI.grown{w w':World}{g q n:Nat}(h:NewI w g q n)(k:w.grownBy w' (some g)):NewI w' g q n:=by
 obtain⟨h1,h2,z,h3⟩:=h
 exact⟨Nat.lt_of_lt_of_le h1 k.size,h2,z,(zcB (k.block q h1 (by simpa using h2))).trans h3⟩
theorem NewI.alloc{w:World}{g q n:Nat}(h:NewI w g q n)(o:Obj):NewI (w.alloc o) g q n:=by
 obtain⟨h1,h2,z,h3⟩:=h
 exact⟨by simp;omega,h2,z,(zcB (Below.heap_alloc w o q h1)).trans h3⟩
def Ty17(g G:Nat)(np:Int)(b:Bool)(w:World):Nat→Value→Prop
 | 0,x=>x=.pointer (some ⟨G,0,none⟩)
 | 1,x=>b=false→∃ q,x=.slice (some ⟨q,0,none⟩) 2 2∧NewI w g q 0∧NewI w g q 1
 | 2,x=>x=.pointer (some ⟨G,0,none⟩)
 | 3,x=>x=.pointer (some ⟨G,0,none⟩)
 | 4,x=>x=.pointer (some ⟨G,0,none⟩)
 | 5,x=>x=.pointer (some ⟨g,0,none⟩)
 | 6,x=>∃ k:Nat,k<2∧x=.int .i64 k
 | 7,x=>b=false→∃ q n,x=.pointer (some ⟨q,n,none⟩)∧NewI w g q n
 | 8,x=>∃ z:Int,x=.int .i64 z
 | 9,x=>b=false→∃ q,x=.slice (some ⟨q,0,none⟩) 2 2∧NewI w g q 0∧NewI w g q 1
 | 10,x=>x=.pointer (some ⟨G,0,none⟩)
 | 11,x=>x=.pointer (some ⟨G,0,none⟩)
 | 12,x=>x=.pointer (some ⟨G,0,none⟩)
 | 13,x=>x=.pointer (some ⟨g,0,none⟩)
 | 14,x=>∃ k:Nat,k<2∧x=.int .i64 k
 | 15,x=>b=false→∃ q n,x=.pointer (some ⟨q,n,none⟩)∧NewI w g q n
 | 16,x=>∃ z:Int,x=.int .i64 z
 | 17,x=>x=.int .i64 np
 | 18,x=>∃ z1 z2:Int,x=.agg #[.int .i64 z1,.int .i64 z2,.int .i64 np,.int .i64 0,.int .i64 0,.int .i64 0,.slice none 0 0]
 | _,_=>True
theorem Ty17.move{g G:Nat}{np:Int}{b:Bool}{w w':World}(hm:∀ q n,NewI w g q n→NewI w' g q n):∀ {i:Nat} {x:Value},Ty17 g G np b w i x→Ty17 g G np b w' i x
 | 0,_,h=>h
 | 1,_,h=>fun e=>by obtain⟨q,h1,h2,h3⟩:=h e;exact⟨q,h1,hm _ _ h2,hm _ _ h3⟩
 | 2,_,h=>h
 | 3,_,h=>h
 | 4,_,h=>h
 | 5,_,h=>h
 | 6,_,h=>h
 | 7,_,h=>fun e=>by obtain⟨q,n,h1,h2⟩:=h e;exact⟨q,n,h1,hm _ _ h2⟩
 | 8,_,h=>h
 | 9,_,h=>fun e=>by obtain⟨q,h1,h2,h3⟩:=h e;exact⟨q,h1,hm _ _ h2,hm _ _ h3⟩
 | 10,_,h=>h
 | 11,_,h=>h
 | 12,_,h=>h
 | 13,_,h=>h
 | 14,_,h=>h
 | 15,_,h=>fun e=>by obtain⟨q,n,h1,h2⟩:=h e;exact⟨q,n,h1,hm _ _ h2⟩
 | 16,_,h=>h
 | 17,_,h=>h
 | 18,_,h=>h
 | _+19,_,h=>h
theorem Ty17.done{g G:Nat}{np:Int}{b:Bool}{w w':World}:∀ {i:Nat} {x:Value},Ty17 g G np b w i x→Ty17 g G np true w' i x
 | 0,_,h=>h
 | 1,_,_=>fun e=>by cases e
 | 2,_,h=>h
 | 3,_,h=>h
 | 4,_,h=>h
 | 5,_,h=>h
 | 6,_,h=>h
 | 7,_,_=>fun e=>by cases e
 | 8,_,h=>h
 | 9,_,_=>fun e=>by cases e
 | 10,_,h=>h
 | 11,_,h=>h
 | 12,_,h=>h
 | 13,_,h=>h
 | 14,_,h=>h
 | 15,_,_=>fun e=>by cases e
 | 16,_,h=>h
 | 17,_,h=>h
 | 18,_,h=>h
 | _+19,_,h=>h
section
variable (base g G:Nat) (a0:Option Addr) (len cap:Nat) (M:Tmap) (N:Nat) (S:GRec) (v:World) (j:Nat) (np:Int)
def J17(up:Nat→Bool)(f:Nat→Value)(w:World):Prop:=St base g G a0 len cap M N S v (if up 19=true then j+2 else j) w∧∀ i,up i=true→Ty17 g G np (up 19) w i (f i)
variable {base g G a0 len cap M N S v j np}
theorem J17.step{up:Nat→Bool}{f:Nat→Value}{w w':World}{i:Nat}{x:Value}(h:J17 base g G a0 len cap M N S v j np up f w)(hi:i≠19)(hs:St base g G a0 len cap M N S v (if up 19=true then j+2 else j) w')
  (hm:∀ q n,NewI w g q n→NewI w' g q n) (hx:Ty17 g G np (up 19) w' i x):J17 base g G a0 len cap M N S v j np (upd up i true) (upd f i x) w':=by
 have e:upd up i true 19=up 19:=upd_ne _ _ (fun e=>hi e.symm)
 refine⟨by rw[e];exact hs,fun k hk=>?_⟩
 rw[e]
 by_cases hki:k=i
 ·subst hki;rw[upd_same];exact hx
 ·rw[upd_ne _ _ hki] at hk ⊢
  exact (h.2 k hk).move hm
theorem J17.still{up:Nat→Bool}{f:Nat→Value}{w:World}{i:Nat}{x:Value}(h:J17 base g G a0 len cap M N S v j np up f w)(hi:i≠19)(hx:Ty17 g G np (up 19) w i x):J17 base g G a0 len cap M N S v j np (upd up i true) (upd f i x) w :=
 h.step hi h.1 (fun _ _ h=>h) hx
theorem J17.last{up:Nat→Bool}{f:Nat→Value}{w w':World}{x:Value}(h:J17 base g G a0 len cap M N S v j np up f w)(hs:St base g G a0 len cap M N S v (j+2) w'):J17 base g G a0 len cap M N S v j np (upd up 19 true) (upd f 19 x) w':=by
 refine⟨by rw[upd_same,if_pos rfl];exact hs,fun k hk=>?_⟩
 rw[upd_same]
 by_cases hki:k=19
 ·subst hki;trivial
 ·rw[upd_ne _ _ hki] at hk ⊢
  exact (h.2 k hk).done
end
theorem wp_by{P:Program}{o:Oper}{a:Act}{w:World}{K:Act→World→Prop}{Q:Exit→Act→World→Prop}(h:∀ K':Act→World→Prop,(∀ a w,K a w→K' a w)→o.wp P a w K' Q):o.wp P a w K Q:=h K (fun _ _ h=>h)
theorem three{w w1:World}{g:Nat}{x0 x1 x2:Int}{t:TypeId}(hg:g<w.heap.size)(k:(w.alloc (.cells #[.int .i64 x0,.int .i64 x1,.int .i64 x2] t)).grownBy w1 (some g))(n:Nat)(hn:n<3):∃ z:Int,w1.cell? ⟨w.heap.size,n,none⟩=some (.int .i64 z):=by
 have h1:=(k.block w.heap.size (by simp) (by simp;omega)).trans (zhL w _)
 rw[zcH h1]
 match n,hn with
 | 0,_=>exact⟨_,rfl⟩
 | 1,_=>exact⟨_,rfl⟩
 | 2,_=>exact⟨_,rfl⟩
theorem some_any(base g G:Nat)(a0:Option Addr)(len cap:Nat)(M:Tmap)(N:Nat)(S:GRec)(v:World)(h:Gok base g G a0 len cap M N S v)(hp:ParW M S v)(n:Nat)(hn:n≤10)(hN:N+10*n≤10000) :
  Calls Tryz.prog 95 #[.pointer (some ⟨G,0,none⟩),.int .i64 n] v fun e v'=>(∃ r,e=.returned r)∧St base g G a0 len cap M N S v (10*n) v':=by
 have h0:=h.st
 clear h
 go_enter Tryz.func95,Tryz.ntmps95
 go_wp2_with fail
 go_loopw [4] (fun i wr=>∃ k:Nat,k≤n∧i=.int .i64 k∧St base g G a0 len cap M N S v (10*k) wr) (fun i _=>n-(intOf i).toNat)
 case atStart=>exact⟨0,by omega,rfl,h0⟩
 case round =>
  obtain⟨k,hk,rfl,hs⟩:=hrel
  obtain⟨wo,hwo⟩:∃ wo,wo=wr:=⟨_,rfl⟩
  subst hwo
  clear h0
  obtain⟨nx,f10⟩:=hs.cell10
  have f0:=hs.cell0
  by_cases hlt:k<n
  ·by_cases hnx:nx<40
   ·go_wp2_with (first|(go_at_call 93;refine (width_st hs).mono ?_;rintro e w1 ⟨x,rfl,hx,h1,hg1⟩;have f1:=h1.cell0)|(go_at_call 57;refine (below_st h1 _ (by omega)).mono ?_;rintro e w2 ⟨kb,rfl,hkb,h2,hg2⟩;have f2:=h2.cell0;clear hg1 hg2 h1 f1 f0 f10)|(go_at_call 129;refine (value_st h2 _ hx).mono ?_;rintro e w3 ⟨nv,rfl,h3⟩)|(go_at_call 130;refine (pick_st (by assumption) _ (by first|assumption|simp) (by omega)).mono ?_;rintro e w4 ⟨np,rfl,h4⟩;have f4:=h4.cell0;have f4a:(w4.alloc (.cells #[.int .i64 1,.int .i64 8,.int .i64 16] 2)).cell? ⟨G,0,none⟩=some (.pointer (some ⟨g,0,none⟩)):=(h4.alloc _).cell0)|(go_at_call 57;refine (below_st (St.alloc (by assumption) _) _ (by omega)).mono ?_;rintro e w5 ⟨kc,rfl,hkc,h5,hg5⟩;have f5:=h5.cell0;obtain⟨z5,hz5⟩:=three (St.glt (by assumption)) hg5 kc (by omega))|(go_at_call 57;refine (below_st (by assumption) _ (by omega)).mono ?_;rintro e w5 ⟨kc,rfl,hkc,h5,hg5⟩;have f5:=h5.cell0)|(go_at_call 128;refine (put_st (by assumption) _ _ _ _ _ _ (by omega)).mono ?_;rintro e w6 ⟨nq,rfl,h6⟩;have f6:=h6.cell0)|(go_at_call 131;refine (call_st h2 hp (by omega)).mono ?_;rintro e w6 ⟨⟨r,rfl⟩,h6⟩))
    all_goals first
     | exact⟨⟨k+1,by omega,by go_num,h6.mono (by omega) (by omega)⟩,by simp[intOf];omega⟩
     | skip
    generalize hA:({ tmps:=_,defers:=_ }:Act)=A
    have hsz:A.tmps.size=181:=by rw[←hA];rfl
    have hA0:A.tmps[0]?.getD undef=.pointer (some ⟨G,0,none⟩):=by rw[←hA];rfl
    have hA9:A.tmps[9]?.getD undef=.int .i64 np:=by rw[←hA];rfl
    refine wp_region_slots (by kernel_rfl) 91 20 (by omega) (by kernel_rfl) (J17 base g G a0 len cap M N S v (10*k+2) np) ?_ ?_ ?_
    ·exact⟨h4.drew,fun i hi=>by cases hi⟩
    ·intro f w9 hJ
     have h9:St base g G a0 len cap M N S v (10*k+2+2) w9:=hJ.1
     subst hA
     simp only[putsF,Act.put,List.setIfInBounds_toArray,List.set_cons_zero,List.set_cons_succ,Nat.reduceAdd]
     clear hJ
     go_wp2_with fail
     exact⟨⟨k+1,by omega,by go_num,h9.mono (by omega) (by omega)⟩,by simp[intOf];omega⟩
    ·intro i o up f w9 ho hd hcl hup hJ
     have B0:(putsF A 91 20 f).tmps[0]?.getD undef=.pointer (some ⟨G,0,none⟩):=by have:=putsF_out A 91 f 0 20 (by omega);simp only[Array.getD_eq_getD_getElem?] at this;exact this.trans hA0
     have B9:(putsF A 91 20 f).tmps[9]?.getD undef=.int .i64 np:=by have:=putsF_out A 91 f 9 20 (by omega);simp only[Array.getD_eq_getD_getElem?] at this;exact this.trans hA9
     have E:∀ i,i<20→(putsF A 91 20 f).tmps[91+i]?.getD undef=f i:=fun i hi=>by have:=putsF_in A 91 f i 20 hi (by omega);simpa only[Array.getD_eq_getD_getElem?] using this
     generalize putsF A 91 20 f=B at B0 B9 E ⊢
     clear hA hA0 hA9 hsz
     rcases i with _|_|_|_|_|_|_|_|_|_|_|_|_|_|_|_|_|_|_|_|i
     all_goals first|(obtain rfl:=Option.some.inj ho)|(exfalso;simp at ho)
     ·clear hd hcl ho
      refine wp_by fun K' hK=>?_
      go_simp
      refine hK _ _ ⟨_,rfl,hJ.still (by decide) rfl⟩
     ·clear hd hcl ho
      refine wp_by fun K' hK=>?_
      go_simp
      refine hK _ _ ⟨_,rfl,hJ.step (by decide) (hJ.1.alloc _) (fun _ _ h=>h.alloc _) (fun _=>⟨_,rfl,⟨by simp,fun e=>absurd hJ.1.glt (by omega),_,(zcH (zhL _ _)).trans rfl⟩,⟨by simp,fun e=>absurd hJ.1.glt (by omega),_,(zcH (zhL _ _)).trans rfl⟩⟩)⟩
     ·clear hd hcl ho
      refine wp_by fun K' hK=>?_
      go_simp
      refine hK _ _ ⟨_,rfl,hJ.still (by decide) rfl⟩
     ·have u2:up 2=true:=hd ⟨2,.data⟩ (by simp) rfl
      clear hd hcl ho
      have t:f 2=.pointer (some ⟨G,0,none⟩):=hJ.2 2 u2
      have e93:B.tmps[93]?.getD undef=.pointer (some ⟨G,0,none⟩):=(E 2 (by omega)).trans t
      refine wp_by fun K' hK=>?_
      go_simp
      refine hK _ _ ⟨_,rfl,hJ.still (by decide) rfl⟩
     ·have u3:up 3=true:=hd ⟨3,.data⟩ (by simp) rfl
      clear hd hcl ho
      have t:f 3=.pointer (some ⟨G,0,none⟩):=hJ.2 3 u3
      have e94:B.tmps[94]?.getD undef=.pointer (some ⟨G,0,none⟩):=(E 3 (by omega)).trans t
      refine wp_by fun K' hK=>?_
      go_simp
      refine hK _ _ ⟨_,rfl,hJ.still (by decide) rfl⟩
     ·have u4:up 4=true:=hd ⟨4,.data⟩ (by simp) rfl
      clear hd hcl ho
      have t:f 4=.pointer (some ⟨G,0,none⟩):=hJ.2 4 u4
      have e95:B.tmps[95]?.getD undef=.pointer (some ⟨G,0,none⟩):=(E 4 (by omega)).trans t
      have c0:=hJ.1.cell0
      refine wp_by fun K' hK=>?_
      go_simp
      refine hK _ _ ⟨_,rfl,hJ.still (by decide) rfl⟩
     ·have u5:up 5=true:=hd ⟨5,.data⟩ (by simp) rfl
      clear hd hcl ho
      have t:f 5=.pointer (some ⟨g,0,none⟩):=hJ.2 5 u5
      have e96:B.tmps[96]?.getD undef=.pointer (some ⟨g,0,none⟩):=(E 5 (by omega)).trans t
      refine wp_by fun K' hK=>?_
      go_simp
      go_at_call 57
      refine (below_st hJ.1 _ (by omega)).mono ?_
      rintro e w8 ⟨kq,rfl,hkq,h8,hg8⟩
      exact hK _ _ ⟨_,rfl,hJ.step (by decide) h8 (fun _ _ h=>h.grown hg8) ⟨kq,by omega,rfl⟩⟩
     ·have u1:up 1=true:=hd ⟨1,.data⟩ (by simp) rfl
      have u6:up 6=true:=hd ⟨6,.data⟩ (by simp) rfl
      have ups:up 19=true→up 7=true:=fun h=>hcl 8 _ rfl (hcl 18 _ rfl (hcl 19 _ rfl h ⟨18,.data⟩ (by simp) rfl) ⟨8,.data⟩ (by simp) rfl) ⟨7,.data⟩ (by simp) rfl
      clear hd hcl ho
      obtain⟨kq,hkq,t⟩:∃ k:Nat,k<2∧f 6=.int .i64 k:=hJ.2 6 u6
      have e97:B.tmps[97]?.getD undef=.int .i64 kq:=(E 6 (by omega)).trans t
      rcases h19:up 19 with _|_
      ·obtain⟨q,t2,n0,n1⟩:∃ q,f 1=.slice (some ⟨q,0,none⟩) 2 2∧NewI w9 g q 0∧NewI w9 g q 1:=hJ.2 1 u1 h19
       have e92:B.tmps[92]?.getD undef=.slice (some ⟨q,0,none⟩) 2 2:=(E 1 (by omega)).trans t2
       obtain rfl|rfl:kq=0∨kq=1:=by omega
       all_goals
        refine wp_by fun K' hK=>?_
        go_simp
        first|exact hK _ _ ⟨_,rfl,hJ.still (by decide) (fun _=>⟨_,_,rfl,n0⟩)⟩|exact hK _ _ ⟨_,rfl,hJ.still (by decide) (fun _=>⟨_,_,rfl,n1⟩)⟩
      ·rw[ups h19] at hup;cases hup
     ·have u7:up 7=true:=hd ⟨7,.data⟩ (by simp) rfl
      have ups:up 19=true→up 8=true:=fun h=>hcl 18 _ rfl (hcl 19 _ rfl h ⟨18,.data⟩ (by simp) rfl) ⟨8,.data⟩ (by simp) rfl
      clear hd hcl ho
      rcases h19:up 19 with _|_
      ·obtain⟨q,nn,t,hq,hqg,z,hz⟩:∃ q n,f 7=.pointer (some ⟨q,n,none⟩)∧NewI w9 g q n:=hJ.2 7 u7 h19
       have e98:B.tmps[98]?.getD undef=.pointer (some ⟨q,nn,none⟩):=(E 7 (by omega)).trans t
       refine wp_by fun K' hK=>?_
       go_simp
       exact hK _ _ ⟨_,rfl,hJ.still (by decide) ⟨_,rfl⟩⟩
      ·rw[ups h19] at hup;cases hup
     ·clear hd hcl ho
      refine wp_by fun K' hK=>?_
      go_simp
      refine hK _ _ ⟨_,rfl,hJ.step (by decide) (hJ.1.alloc _) (fun _ _ h=>h.alloc _) (fun _=>⟨_,rfl,⟨by simp,fun e=>absurd hJ.1.glt (by omega),_,(zcH (zhL _ _)).trans rfl⟩,⟨by simp,fun e=>absurd hJ.1.glt (by omega),_,(zcH (zhL _ _)).trans rfl⟩⟩)⟩
     ·clear hd hcl ho
      refine wp_by fun K' hK=>?_
      go_simp
      refine hK _ _ ⟨_,rfl,hJ.still (by decide) rfl⟩
     ·have u10:up 10=true:=hd ⟨10,.data⟩ (by simp) rfl
      clear hd hcl ho
      have t:f 10=.pointer (some ⟨G,0,none⟩):=hJ.2 10 u10
      have e101:B.tmps[101]?.getD undef=.pointer (some ⟨G,0,none⟩):=(E 10 (by omega)).trans t
      refine wp_by fun K' hK=>?_
      go_simp
      refine hK _ _ ⟨_,rfl,hJ.still (by decide) rfl⟩
     ·have u11:up 11=true:=hd ⟨11,.data⟩ (by simp) rfl
      clear hd hcl ho
      have t:f 11=.pointer (some ⟨G,0,none⟩):=hJ.2 11 u11
      have e102:B.tmps[102]?.getD undef=.pointer (some ⟨G,0,none⟩):=(E 11 (by omega)).trans t
      refine wp_by fun K' hK=>?_
      go_simp
      refine hK _ _ ⟨_,rfl,hJ.still (by decide) rfl⟩
     ·have u12:up 12=true:=hd ⟨12,.data⟩ (by simp) rfl
      clear hd hcl ho
      have t:f 12=.pointer (some ⟨G,0,none⟩):=hJ.2 12 u12
      have e103:B.tmps[103]?.getD undef=.pointer (some ⟨G,0,none⟩):=(E 12 (by omega)).trans t
      have c0:=hJ.1.cell0
      refine wp_by fun K' hK=>?_
      go_simp
      refine hK _ _ ⟨_,rfl,hJ.still (by decide) rfl⟩
     ·have u13:up 13=true:=hd ⟨13,.data⟩ (by simp) rfl
      clear hd hcl ho
      have t:f 13=.pointer (some ⟨g,0,none⟩):=hJ.2 13 u13
      have e104:B.tmps[104]?.getD undef=.pointer (some ⟨g,0,none⟩):=(E 13 (by omega)).trans t
      refine wp_by fun K' hK=>?_
      go_simp
      go_at_call 57
      refine (below_st hJ.1 _ (by omega)).mono ?_
      rintro e w8 ⟨kq,rfl,hkq,h8,hg8⟩
      exact hK _ _ ⟨_,rfl,hJ.step (by decide) h8 (fun _ _ h=>h.grown hg8) ⟨kq,by omega,rfl⟩⟩
     ·have u9:up 9=true:=hd ⟨9,.data⟩ (by simp) rfl
      have u14:up 14=true:=hd ⟨14,.data⟩ (by simp) rfl
      have ups:up 19=true→up 15=true:=fun h=>hcl 16 _ rfl (hcl 18 _ rfl (hcl 19 _ rfl h ⟨18,.data⟩ (by simp) rfl) ⟨16,.data⟩ (by simp) rfl) ⟨15,.data⟩ (by simp) rfl
      clear hd hcl ho
      obtain⟨kq,hkq,t⟩:∃ k:Nat,k<2∧f 14=.int .i64 k:=hJ.2 14 u14
      have e105:B.tmps[105]?.getD undef=.int .i64 kq:=(E 14 (by omega)).trans t
      rcases h19:up 19 with _|_
      ·obtain⟨q,t2,n0,n1⟩:∃ q,f 9=.slice (some ⟨q,0,none⟩) 2 2∧NewI w9 g q 0∧NewI w9 g q 1:=hJ.2 9 u9 h19
       have e100:B.tmps[100]?.getD undef=.slice (some ⟨q,0,none⟩) 2 2:=(E 9 (by omega)).trans t2
       obtain rfl|rfl:kq=0∨kq=1:=by omega
       all_goals
        refine wp_by fun K' hK=>?_
        go_simp
        first|exact hK _ _ ⟨_,rfl,hJ.still (by decide) (fun _=>⟨_,_,rfl,n0⟩)⟩|exact hK _ _ ⟨_,rfl,hJ.still (by decide) (fun _=>⟨_,_,rfl,n1⟩)⟩
      ·rw[ups h19] at hup;cases hup
     ·have u15:up 15=true:=hd ⟨15,.data⟩ (by simp) rfl
      have ups:up 19=true→up 16=true:=fun h=>hcl 18 _ rfl (hcl 19 _ rfl h ⟨18,.data⟩ (by simp) rfl) ⟨16,.data⟩ (by simp) rfl
      clear hd hcl ho
      rcases h19:up 19 with _|_
      ·obtain⟨q,nn,t,hq,hqg,z,hz⟩:∃ q n,f 15=.pointer (some ⟨q,n,none⟩)∧NewI w9 g q n:=hJ.2 15 u15 h19
       have e106:B.tmps[106]?.getD undef=.pointer (some ⟨q,nn,none⟩):=(E 15 (by omega)).trans t
       refine wp_by fun K' hK=>?_
       go_simp
       exact hK _ _ ⟨_,rfl,hJ.still (by decide) ⟨_,rfl⟩⟩
      ·rw[ups h19] at hup;cases hup
     ·clear hd hcl ho
      refine wp_by fun K' hK=>?_
      go_simp
      refine hK _ _ ⟨_,rfl,hJ.still (by decide) rfl⟩
     ·have u8:up 8=true:=hd ⟨8,.data⟩ (by simp) rfl
      have u16:up 16=true:=hd ⟨16,.data⟩ (by simp) rfl
      have u17:up 17=true:=hd ⟨17,.data⟩ (by simp) rfl
      clear hd hcl ho
      obtain⟨z1,t1⟩:∃ z:Int,f 8=.int .i64 z:=hJ.2 8 u8
      obtain⟨z2,t2⟩:∃ z:Int,f 16=.int .i64 z:=hJ.2 16 u16
      have t3:f 17=.int .i64 np:=hJ.2 17 u17
      have e99:B.tmps[99]?.getD undef=.int .i64 z1:=(E 8 (by omega)).trans t1
      have e107:B.tmps[107]?.getD undef=.int .i64 z2:=(E 16 (by omega)).trans t2
      have e108:B.tmps[108]?.getD undef=.int .i64 np:=(E 17 (by omega)).trans t3
      refine wp_by fun K' hK=>?_
      go_simp
      refine hK _ _ ⟨_,rfl,hJ.still (by decide) ⟨z1,z2,rfl⟩⟩
     ·have u0:up 0=true:=hd ⟨0,.data⟩ (by simp) rfl
      have u18:up 18=true:=hd ⟨18,.data⟩ (by simp) rfl
      clear hd hcl ho
      have t0:f 0=.pointer (some ⟨G,0,none⟩):=hJ.2 0 u0
      obtain⟨z1,z2,t1⟩:∃ z1 z2:Int,f 18=.agg #[.int .i64 z1,.int .i64 z2,.int .i64 np,.int .i64 0,.int .i64 0,.int .i64 0,.slice none 0 0]:=hJ.2 18 u18
      have e91:B.tmps[91]?.getD undef=.pointer (some ⟨G,0,none⟩):=(E 0 (by omega)).trans t0
      have e109:B.tmps[109]?.getD undef=.agg #[.int .i64 z1,.int .i64 z2,.int .i64 np,.int .i64 0,.int .i64 0,.int .i64 0,.slice none 0 0]:=(E 18 (by omega)).trans t1
      have hs19:St base g G a0 len cap M N S v (10*k+2) w9:=by have:=hJ.1;rwa [if_neg (by rw[hup];decide)] at this
      refine wp_by fun K' hK=>?_
      go_simp
      go_at_call 128
      refine (put_st hs19 _ _ _ _ _ _ (by omega)).mono ?_
      rintro e w8 ⟨nq,rfl,h8⟩
      exact hK _ _ ⟨_,rfl,hJ.last h8⟩
   ·go_wp2_with fail
    exact bodyPost_end (results_none Tryz.results95 _ _ _) rfl ⟨⟨_,rfl⟩,hs.mono (by omega) (by omega)⟩
  ·go_wp2_with fail
   exact bodyPost_end (results_none Tryz.results95 _ _ _) rfl ⟨⟨_,rfl⟩,hs.mono (by omega) (by omega)⟩
end Go.Proofs.YtkpmiikafconmaaGreatDoor
