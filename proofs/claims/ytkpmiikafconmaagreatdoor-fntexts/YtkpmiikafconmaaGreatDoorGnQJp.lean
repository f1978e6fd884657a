import Derived.Test.YtkpmiikafconmaaGreatDoorGnPJp
import Derived.Test.YtkpmiikafconmaaGreatDoorGnJJp
namespace Go.Proofs.YtkpmiikafconmaaGreatDoor
open Go.RowKit Go.Deep
set_option maxHeartbeats 4000000
set_option maxRecDepth 100000
set_option linter.unusedVariables false
variable {base g G len cap N j:Nat} {a0:Option Addr} {M M':Tmap} {S S':GRec} {v w:World}
theorem some_sb(h:Sb base g G a0 len cap M N S v j M' S' w)(hp:ParW M S v)(n:Nat)(hn:n≤10)(hN:N+j+10*n≤10000) :
  Calls Tryz.prog 95 #[.pointer (some ⟨G,0,none⟩),.int .i64 n] w fun e w'=>(∃ r,e=.returned r)∧∃ M2 S2,Sb base g G a0 len cap M N S v (j+10*n) M2 S2 w'∧Same S' S2∧Mov g G M' M2 w w':=by
 refine (some_any base g G a0 len cap M' (N+j) S' w h.1 (hp.mv h.2.1 h.2.2) n hn hN).mono ?_
 rintro e w' ⟨hr,M2,S2,H2,hS2,V2⟩
 exact⟨hr,M2,S2,⟨by rw[←Nat.add_assoc];exact H2,h.2.1.trans hS2.kept,h.2.2.trans V2.mv⟩,hS2,V2⟩
theorem below_sb(h:Sb base g G a0 len cap M N S v j M' S' w)(m:Int)(hm:1≤m) :
  Calls Tryz.prog 57 #[.pointer (some ⟨g,0,none⟩),.int .i64 m] w fun e w'=>∃ k:Nat,e=.returned (.int .i64 k)∧(k:Int)<m∧Sb base g G a0 len cap M N S v j M' S' w'∧Mov g G M' M' w w':=by
 refine (below_any g a0 len cap m w h.1.rd).mono ?_
 rintro e w' ⟨n,rfl,h0,h1,hr',hg'⟩
 obtain⟨k,rfl⟩:=Int.eq_ofNat_of_zero_le h0
 exact⟨k,rfl,by omega,h.read hr' hg',(h.1.read hr' hg').2⟩
theorem width_sb(h:Sb base g G a0 len cap M N S v j M' S' w) :
  Calls Tryz.prog 93 #[.pointer (some ⟨g,0,none⟩)] w fun e w'=>∃ x:Int,e=.returned (.int .i64 x)∧(x=1∨x=8∨x=16∨x=32)∧Sb base g G a0 len cap M N S v j M' S' w'∧Mov g G M' M' w w':=by
 refine (width_any g a0 len cap w h.1.rd).mono ?_
 rintro e w' ⟨n,rfl,h0,hr',hg'⟩
 exact⟨n,rfl,h0,h.read hr' hg',(h.1.read hr' hg').2⟩
def Idf(M:Tmap)(S:GRec):Prop:=(S.idv=.slice none 0 0∧S.wsv=.slice none 0 0∧S.nid=0)∨(0<S.nid∧SlN M 2 S.idv S.nid∧SlN M 2 S.wsv S.nid)
theorem Idf.ext(h:Idf M S)(k:Ext M M'):Idf M' S:=by
 rcases h with h|⟨h1,h2,h3⟩
 ·exact .inl h
 ·exact .inr ⟨h1,h2.ext k,h3.ext k⟩
theorem Idf.form(h:Idf M S):∃ u c u' c',S.idv=.slice u S.nid c∧S.wsv=.slice u' S.nid c':=by
 rcases h with⟨h1,h2,h3⟩|⟨_,⟨u,c,h2,_⟩,⟨u',c',h3,_⟩⟩
 ·exact⟨none,0,none,0,by rw[h1,h3],by rw[h2,h3]⟩
 ·exact⟨u,c,u',c',h2,h3⟩
def Seeing(S S1:GRec):GRec:={ S with idv:=S1.idv,wsv:=S1.wsv,nid:=S1.nid }
theorem Gok.restore{S1:GRec}(h:Gok base g G a0 len cap M N S w)(hi:Idf M S1)(hn:S1.nid≤N) :
  Gok base g G a0 len cap M N (Seeing S S1) ((w.setCell ⟨G,11,none⟩ S1.idv).setCell ⟨G,12,none⟩ S1.wsv)∧Mov g G M M w ((w.setCell ⟨G,11,none⟩ S1.idv).setCell ⟨G,12,none⟩ S1.wsv):=by
 have hbn:=h.bn
 refine h.grew (Nat.le_refl _) (fun b hb hn=>by rw[Below.heap_setCell _ _ _ _ hn,Below.heap_setCell _ _ _ _ hn]) (by simp[World.setCell]) rfl rfl rfl (fun _ _=>rfl) (fun b T m hb hm=>by rw[h.th.none hb] at hm;cases hm) ?_ ⟨rfl,rfl,rfl,rfl,rfl,rfl,rfl,rfl,rfl,rfl,rfl⟩ hi (by unfold Seeing;dsimp only;omega)
 exact (zhS (zhS h.cells)).trans rfl
theorem Sb.restore{S1:GRec}(h:Sb base g G a0 len cap M N S v j M' S' w)(hi:Idf M' S1)(hn:S1.nid≤N+j) :
  Sb base g G a0 len cap M N S v j M' (Seeing S' S1) ((w.setCell ⟨G,11,none⟩ S1.idv).setCell ⟨G,12,none⟩ S1.wsv)∧Mov g G M' M' w ((w.setCell ⟨G,11,none⟩ S1.idv).setCell ⟨G,12,none⟩ S1.wsv):=by
 obtain⟨h1,h2⟩:=h.1.restore hi hn
 exact⟨⟨h1,h.2.1.trans ⟨rfl,rfl,rfl,rfl,rfl,rfl⟩,h.2.2.trans h2.mv⟩,h2⟩
theorem seen_cells(h:Gok base g G a0 len cap M N S w)(x:Value):(w.cell? ⟨G,11,none⟩=some S.idv∧w.frozen? ⟨G,11,none⟩=false)∧(w.setCell ⟨G,11,none⟩ x).cell? ⟨G,12,none⟩=some S.wsv∧(w.setCell ⟨G,11,none⟩ x).frozen? ⟨G,12,none⟩=false:=by
 have q1:(w.setCell ⟨G,11,none⟩ x).heap[G]?=some (.cells (gcells g { S with idv:=x }) 141 (0,0)):=(zhS h.cells).trans rfl
 exact⟨⟨(zgc h.cells 11).1.trans rfl,(zgc h.cells 11).2⟩,(zgc q1 12).1.trans rfl,(zgc q1 12).2⟩
theorem Mv.adopt{q n:Nat}{T0:TypeId}{A B:Tmap}{a b:World}(h:Mv g G A B a b)(hq:a.heap.size≤q)(hl:∀ x,(∃ p,A x=some p)→x<a.heap.size)(hB:B q=none):Mv g G A (put B q T0 n) a b :=
 ⟨h.ext.trans (put_ext (.inl hB)),fun x hx h1 h2 h3=>by
  obtain⟨e1,e2⟩:=h.out x hx h1 h2 h3
  exact⟨e1,by unfold put;rw[if_neg (by omega)];exact e2⟩,fun x T m hx hT=>by
  obtain⟨e1,e2⟩:=h.hold x T m hx hT
  have:=hl x ⟨_,hx⟩
  exact⟨e1,by unfold put;rw[if_neg (by omega)];exact e2⟩,h.os,h.tape,h.output,h.size⟩
theorem Sb.two(h:Sb base g G a0 len cap M N S v j M' S' w)(hl:∀ x,(∃ p,M x=some p)→x<v.heap.size)(x y:Int) :
  Sb base g G a0 len cap M N S v j (put M' w.heap.size 2 2) S' (w.alloc (.cells #[.int .i64 x,.int .i64 y] 2))∧SlN (put M' w.heap.size 2 2) 2 (.slice (some ⟨w.heap.size,0,none⟩) 2 2) 2:=by
 have hb:Below w.heap.size w (w.alloc (.cells #[.int .i64 x,.int .i64 y] 2)):=(Below.refl _ _).alloc (Nat.le_refl _) _
 obtain⟨H1,V1⟩:=h.1.below hb
 have hM:M' w.heap.size=none:=h.1.th.none (Nat.le_refl _)
 have hGl:=(Array.getElem?_eq_some_iff.1 h.1.cells).1
 obtain⟨H2,_,H3⟩:=H1.adopted (b:=w.heap.size) (n:=2) h.1.bv (by omega) hM (zhL w _) (fun i hi=>by
  match i,hi with
  | 0,_=>exact⟨x,rfl⟩
  | 1,_=>exact⟨y,rfl⟩)
 exact⟨⟨H2,h.2.1,(h.2.2.trans V1.mv).adopt h.2.2.size hl hM⟩,H3⟩
theorem close_sc(h:Sb base g G a0 len cap M N S v j M' S' w)(kd ta tx ty:Int)(hN:N+j+1≤10000) :
  Calls Tryz.prog 132 #[.pointer (some ⟨G,0,none⟩),.agg #[.int .i64 kd,.int .i64 ta,.int .i64 tx,.int .i64 ty]] w fun e w'=>(∃ r,e=.returned r)∧∃ M2 S2,Sb base g G a0 len cap M N S v (j+1) M2 S2 w'∧Mv g G M' M2 w w':=by
 refine (close_sb h kd ta tx ty hN).mono ?_
 rintro e w' ⟨hr,M2,s',h2,v2⟩
 exact⟨hr,M2,_,h2,v2⟩
theorem fork_any(base g G:Nat)(a0:Option Addr)(len cap:Nat)(M:Tmap)(N:Nat)(S:GRec)(v:World)(h:Gok base g G a0 len cap M N S v)(hp:ParW M S v)(hN:N+60≤10000) :
  Calls Tryz.prog 96 #[.pointer (some ⟨G,0,none⟩)] v fun e v'=>(∃ r,e=.returned r)∧∃ M' S',Sb base g G a0 len cap M N S v 60 M' S' v':=by
 have hl:∀ x,(∃ p,M x=some p)→x<v.heap.size:=fun x hx=>(h.th.lt hx).2
 have HL:Hid (∀ x,(∃ p,M x=some p)→x<v.heap.size):=hl
 have h0:=h.sb
 obtain⟨ub,cb,eb,_⟩:=h.b.sl
 have c3:v.cell? ⟨G,3,none⟩=some (.slice ub S.nb cb):=by rw[←eb];exact (zgc h.cells 3).1.trans rfl
 have hbn:=h.bn
 have HP:Hid (ParW M S v):=hp
 clear h hl hp eb
 go_enter Tryz.func96,Tryz.ntmps96
 go_wp2_with (first|(go_at_call 130;refine (pick_sb h0 _ (.inl rfl) (by omega)).mono ?_;rintro e w1 ⟨c,rfl,M1,S1,h1,s1,v1⟩;clear h0 c3)|(go_at_call 132;refine (close_sc h1 _ _ _ _ (by omega)).mono ?_;rintro e w2 ⟨⟨r2,rfl⟩,M2,S2,h2,v2⟩;have f2:=h2.cell0;have I2:Idf M2 S2:=h2.1.ids;obtain⟨ui,ci,uw,cw,ei,ew⟩:=I2.form;have c11:w2.cell? ⟨G,11,none⟩=some (.slice ui S2.nid ci):=(by rw[←ei];exact (zgc h2.1.cells 11).1.trans rfl);have c12:w2.cell? ⟨G,12,none⟩=some (.slice uw S2.nid cw):=(by rw[←ew];exact (zgc h2.1.cells 12).1.trans rfl);have n2:=h2.1.bn.2.2.2.2.1;clear h1)|(go_at_call 57;refine (below_sb h2 _ (by omega)).mono ?_;rintro e w3 ⟨k3,rfl,hk3,h3,v3⟩;clear f2 c11 c12 h2)|(go_at_call 95;refine (some_sb h3 HP.out k3 (by omega) (by omega)).mono ?_;rintro e w4 ⟨⟨r4,rfl⟩,M4,S4,h4,s4,v4⟩;have h4:=h4.mono (i:=23) (by omega) (by omega);have f4:=h4.cell0;clear h3)|(go_at_call 93;refine (width_sb h4).mono ?_;rintro e w5 ⟨x,rfl,hx,h5,v5⟩;clear f4 h4)|(go_at_call 130;refine (pick_sb h5 _ hx (by omega)).mono ?_;rintro e w6 ⟨a6,rfl,M6,S6,h6,s6,v6⟩;clear h5)|(go_at_call 130;refine (pick_sb h6 _ (.inr (.inl rfl)) (by omega)).mono ?_;rintro e w7 ⟨a7,rfl,M7,S7,h7,s7,v7⟩;clear h6)|(go_at_call 132;refine (close_sc h7 _ _ _ _ (by omega)).mono ?_;rintro e w8 ⟨⟨r8,rfl⟩,M8,S8,h8,v8⟩;have I8:=I2.ext ((((((v3.ext.trans v4.ext).trans v5.ext).trans v6.ext).trans v7.ext)).trans v8.ext);obtain⟨R8,_⟩:=h8.restore I8 (by omega);obtain⟨⟨y1,z1⟩,y2,z2⟩:=seen_cells h8.1 S2.idv;rw[ei] at R8 y2 z2;rw[ew] at R8;have f8:=R8.cell0;clear h7 h8)|(go_at_call 57;refine (below_sb R8 _ (by omega)).mono ?_;rintro e w9 ⟨k9,rfl,hk9,h9,v9⟩;clear f8 R8 y1 z1 y2 z2)|(go_at_call 95;refine (some_sb h9 HP.out k9 (by omega) (by omega)).mono ?_;rintro e w10 ⟨⟨r10,rfl⟩,M10,S10,h10,s10,v10⟩;have h10:=h10.mono (i:=48) (by omega) (by omega);have P10:=pick_sb h10 x hx (by omega);clear h9 h10)|(go_at_call 130;refine P10.mono ?_;rintro e w11 ⟨a11,rfl,M11,S11,h11,s11,v11⟩;have P11:=pick_sb h11 8 (.inr (.inl rfl)) (by omega);clear P10 h11)|(go_at_call 130;refine P11.mono ?_;rintro e w12 ⟨a12,rfl,M12,S12,h12,s12,v12⟩;clear P11)|(go_at_call 132;refine (close_sc h12 _ _ _ _ (by omega)).mono ?_;rintro e w13 ⟨⟨r13,rfl⟩,M13,S13,h13,v13⟩;have I13:=I8.ext ((((v9.ext.trans v10.ext).trans v11.ext).trans v12.ext).trans v13.ext);obtain⟨R13,_⟩:=h13.restore I13 (by omega);obtain⟨⟨y1,z1⟩,y2,z2⟩:=seen_cells h13.1 S2.idv;rw[ei] at R13 y2 z2;rw[ew] at R13;obtain⟨T13,L13⟩:=R13.two HL.out a6 a11;simp only[World.size_setCell] at T13 L13;clear h12 h13)|(go_at_call 133;refine (phi_sb T13 _ _ 2 2 L13 (by omega) (by omega)).mono ?_;rintro e w14 ⟨n14,rfl,M14,S14,h14,_,_,_,_⟩;obtain⟨T14,L14⟩:=h14.two HL.out a7 a12;clear y1 z1 y2 z2 T13 h14)|(go_at_call 133;refine (phi_sb T14 _ _ 2 2 L14 (by omega) (by omega)).mono ?_;rintro e w15 ⟨n15,rfl,M15,S15,h15,_,_,_,_⟩))
 exact bodyPost_end (results_none Tryz.results96 _ _ _) rfl ⟨⟨_,rfl⟩,M15,S15,h15.mono (by omega) (by omega)⟩
def rowAt(w:World)(s:Value)(k:Nat):Option Value:=match s with
 | .slice (some ⟨g,0,none⟩) _ _=>w.cell? ⟨g,k,none⟩
 | _=>none
theorem own_at{w:World}{base n sz k:Nat}{T:TypeId}{s:Value}{xs:List Value}(h:w.ownsRow base T sz s n xs)(hk:k<n*sz):rowAt w s k=xs[k]?:=by
 obtain⟨h1,h2⟩:=h
 rcases h2 with⟨rfl,rfl⟩|⟨g,cap,cur,rfl,hg,hc,hn,hm,hs,ht⟩
 ·omega
 ·show w.cell? ⟨g,k,none⟩=_
  rw[zcH hc,←ht,List.getElem?_take,if_pos hk]
  simp
theorem rowAt_hold{w w':World}{M:Tmap}{T:TypeId}{s:Value}{n k:Nat}(hs:SlN M T s n)(hn:0<n)(hh:∀ b m,M b=some (T,m)→w'.heap[b]?=w.heap[b]?):rowAt w' s k=rowAt w s k:=by
 obtain⟨u,c,rfl,h⟩:=hs
 rcases h with h|⟨q,m,rfl,hq,_⟩
 ·omega
 ·exact cell_blk (hh q m hq)
variable {base g G len cap N N' j:Nat} {a0:Option Addr} {M M' M2:Tmap} {S S' S2:GRec} {v w w':World}
theorem phi_at(h:Sb base g G a0 len cap M N S v j M' S' w)(x:Int)(u:Option Addr)(q:Nat)(hav:SlN M' 2 (.slice u 2 q) 2)(hna:2≤N+j)(hN:N+j+2≤10000) :
  Calls Tryz.prog 133 #[.pointer (some ⟨G,0,none⟩),.int .i64 x,.slice u 2 q] w fun e w'=>∃ n:Int,e=.returned (.int .i64 n)∧∃ M2 S2,Sb base g G a0 len cap M N S v (j+2) M2 S2 w'∧S2.bv=S'.bv∧S2.nb=S'.nb∧S2.nph=S'.nph+1∧Mv g G M' M2 w w' ∧
   (∀ k,k<S'.nph*2→rowAt w' S2.phv k=rowAt w S'.phv k)∧rowAt w' S2.phv (S'.nph*2+1)=some (.slice u 2 q):=by
 refine (phi_two base g G a0 len cap M' (N+j) S' x u 2 q w h.1 hN hav hna (by omega)).mono ?_
 rintro e w' ⟨n,rfl,M2,S2,H2,⟨s',hS2⟩,V2,xs,hx1,hx2⟩
 have hz:szT 92=2:=by decide
 rw[hz] at hx1 hx2
 have hl:=hx1.1
 refine⟨n,rfl,M2,S2,⟨H2,h.2.1.trans ?_,h.2.2.trans V2⟩,?_,?_,?_,V2,fun k hk=>?_,?_⟩
 ·rw[hS2];exact⟨rfl,rfl,rfl,rfl,rfl,rfl⟩
 ·rw[hS2]
 ·rw[hS2]
 ·rw[hS2]
 ·rw[own_at hx2 (by omega),own_at hx1 hk,List.getElem?_append_left (by omega)]
 ·rw[own_at hx2 (by omega),List.getElem?_append_right (by omega),hl,Nat.add_sub_cancel_left]
  rfl
theorem close_at(h:Sb base g G a0 len cap M N S v j M' S' w)(kd ta tx ty:Int)(hN:N+j+1≤10000) :
  Calls Tryz.prog 132 #[.pointer (some ⟨G,0,none⟩),.agg #[.int .i64 kd,.int .i64 ta,.int .i64 tx,.int .i64 ty]] w fun e w'=>(∃ r,e=.returned r)∧∃ M2 S2,Sb base g G a0 len cap M N S v (j+1) M2 S2 w'∧Mv g G M' M2 w w'∧(S2.nph=0∧S2.nb=S'.nb+1) ∧
   (∀ b T m,M' b=some (T,m)→T≠74→T≠95→w'.heap[b]?=w.heap[b]?∧M2 b=some (T,m))∧(∀ k,k<S'.nb*6→rowAt w' S2.bv k=rowAt w S'.bv k)∧rowAt w' S2.bv (S'.nb*6)=some S'.phv:=by
 refine (close_two base g G a0 len cap M' (N+j) S' kd ta tx ty w h.1 hN).mono ?_
 rintro e w' ⟨hr,M2,s',H2,V2,hh,xs,hx1,hx2⟩
 have hz:szT 74=6:=by decide
 rw[hz] at hx1 hx2
 have hl:=hx1.1
 refine⟨hr,M2,Closed S' s',⟨H2,h.2.1.trans (closed_kept _ _),h.2.2.trans V2⟩,V2,⟨rfl,rfl⟩,hh,fun k hk=>?_,?_⟩
 ·show rowAt w' s' k=_
  rw[own_at hx2 (by omega),own_at hx1 hk,List.getElem?_append_left (by omega)]
 ·show rowAt w' s' _=_
  rw[own_at hx2 (by omega),List.getElem?_append_right (by omega),hl,Nat.sub_self]
  rfl
structure Tk(M:Tmap)(w:World)(V:Nat)(phv:Value)(t1 t2:Nat):Prop where
 hp:SlN M 92 phv 2
 p1:rowAt w phv 1=some (.slice (some ⟨t1,0,none⟩) 2 2)
 p3:rowAt w phv 3=some (.slice (some ⟨t2,0,none⟩) 2 2)
 m1:M t1=some (2,2)
 m2:M t2=some (2,2)
 f1:V≤t1
 f2:V≤t2
 ne:t1≠t2
theorem Tk.hold{V t1 t2:Nat}{phv:Value}(h:Tk M w V phv t1 t2)(he:Ext M M')(hh:∀ b T m,M b=some (T,m)→T≠74→T≠95→w'.heap[b]?=w.heap[b]?∧M' b=some (T,m)):Tk M' w' V phv t1 t2 :=
 ⟨h.hp.ext he,(rowAt_hold h.hp (by omega) fun b m hb=>(hh b _ m hb (by decide) (by decide)).1).trans h.p1,(rowAt_hold h.hp (by omega) fun b m hb=>(hh b _ m hb (by decide) (by decide)).1).trans h.p3,(hh t1 _ _ h.m1 (by decide) (by decide)).2,(hh t2 _ _ h.m2 (by decide) (by decide)).2,h.f1,h.f2,h.ne⟩
theorem Tk.mov{V t1 t2:Nat}{phv:Value}(h:Tk M w V phv t1 t2)(k:Mov g G M M' w w'):Tk M' w' V phv t1 t2:=h.hold k.ext fun b T m hb _ hI=>k.hold b T m hb hI
structure Lp(M:Tmap)(w:World)(S:GRec)(V idx t1 t2:Nat)(phv:Value):Prop where
 tk:Tk M w V phv t1 t2
 hb:rowAt w S.bv (idx*6)=some phv
 hi:idx<S.nb
theorem Lp.close{V idx t1 t2:Nat}{phv:Value}(h:Lp M w S V idx t1 t2 phv)(he:Ext M M')(hh:∀ b T m,M b=some (T,m)→T≠74→T≠95→w'.heap[b]?=w.heap[b]?∧M' b=some (T,m))(hk:∀ k,k<S.nb*6→rowAt w' S'.bv k=rowAt w S.bv k)(hn:S'.nb=S.nb+1):Lp M' w' S' V idx t1 t2 phv:=by
 have hi:=h.hi
 exact⟨h.tk.hold he hh,(hk _ (by omega)).trans h.hb,by omega⟩
theorem Lp.mov{V idx t1 t2:Nat}{phv:Value}(h:Lp M w S V idx t1 t2 phv)(hg:Gok base g G a0 len cap M N S w)(k:Mov g G M M' w w')(hS:Same S S'):Lp M' w' S' V idx t1 t2 phv:=by
 have hi:=h.hi
 refine⟨h.tk.mov k,?_,by rw[hS.2.2.2.1];exact hi⟩
 rw[hS.2.2.1,rowAt_hold hg.b.sl (by omega) fun b m hb=>(k.hold b _ m hb (by decide)).1]
 exact h.hb
theorem Gok.setInt{t:Nat}{z:Int}(h:Gok base g G a0 len cap M N S w)(ht:M t=some (2,2)):Gok base g G a0 len cap M N S (w.setCell ⟨t,1,none⟩ (.int .i64 z)):=by
 have hset:∀ b,b≠t→(w.setCell ⟨t,1,none⟩ (.int .i64 z)).heap[b]?=w.heap[b]?:=fun b hb=>Below.heap_setCell _ _ _ _ hb
 have hsz:(w.setCell ⟨t,1,none⟩ (.int .i64 z)).heap.size=w.heap.size:=by simp[World.setCell]
 have htb:=h.th.lt ⟨_,ht⟩
 have hgb:=h.gb
 have hmG:=h.mG
 have htG:G≠t:=fun e=>by rw[e,ht] at hmG;cases hmG
 have hcur:∀ {T:TypeId} {cur:Array Value},w.heap[t]?=some (.cells cur T (0,0))→(w.setCell ⟨t,1,none⟩ (.int .i64 z)).heap[t]?=some (.cells (cur.setIfInBounds 1 (.int .i64 z)) T (0,0)):=fun hc=>zhS hc
 have hrow:∀ {T:TypeId} {s:Value} {n:Nat},RowT base M T s n w→RowT base M T s n (w.setCell ⟨t,1,none⟩ (.int .i64 z)):=fun {T s n} r=>by
  rcases r with r|⟨q,c,cu,hv,hq,hq2,hc,hn,hm,hs⟩
  ·exact .inl r
  ·by_cases e:q=t
   ·subst e
    exact .inr ⟨q,c,_,hv,hq,hq2,hcur hc,hn,hm,by simpa using hs⟩
   ·exact .inr ⟨q,c,cu,hv,hq,hq2,(hset q e).trans hc,hn,hm,hs⟩
 refine⟨rd_keep h.rd (by omega) fun b hb=>hset b (by omega),h.gb,by rw[hsz];exact h.bv,h.mG,h.nG,(hset G htG).trans h.cells,fun b T m hb=>?_,hrow h.p,hrow h.b,hrow h.ph,hrow h.i,h.ids,h.rets,h.pars,h.bn⟩
 obtain⟨h1,cur,h2,h3⟩:=h.th b T m hb
 by_cases e:b=t
 ·subst e
  rw[ht] at hb
  cases hb
  refine⟨h1,_,hcur h2,fun i hi=>?_⟩
  have hs1:szT 2=1:=by decide
  obtain⟨z0,hz0⟩:=(h3 i hi).1 rfl
  simp only[hs1,Nat.mul_one,Nat.add_zero] at hz0
  by_cases hi1:i=1
  ·subst hi1
   have hlt:1<cur.size:=(Array.getElem?_eq_some_iff.1 hz0).1
   exact el_int (z:=z) (by simp[hs1,hlt])
  ·exact el_int (z:=z0) (by simp only[hs1,Nat.mul_one,Nat.add_zero];rw[Array.getElem?_setIfInBounds_ne (by omega)];exact hz0)
 ·exact⟨h1,cur,(hset b e).trans h2,h3⟩
theorem Sb.setInt{t:Nat}{z:Int}(h:Sb base g G a0 len cap M N S v j M' S' w)(hl:∀ x,(∃ p,M x=some p)→x<v.heap.size)(ht:M' t=some (2,2))(hv:v.heap.size≤t):Sb base g G a0 len cap M N S v j M' S' (w.setCell ⟨t,1,none⟩ (.int .i64 z)):=by
 have hset:∀ b,b≠t→(w.setCell ⟨t,1,none⟩ (.int .i64 z)).heap[b]?=w.heap[b]?:=fun b hb=>Below.heap_setCell _ _ _ _ hb
 have hsz:(w.setCell ⟨t,1,none⟩ (.int .i64 z)).heap.size=w.heap.size:=by simp[World.setCell]
 obtain⟨h1,h2,h3⟩:=h
 refine⟨h1.setInt ht,h2,⟨h3.ext,fun b hb e1 e2 e3=>?_,fun b T m hb hT=>?_,h3.os,h3.tape,h3.output,by rw[hsz];exact h3.size⟩⟩
 ·obtain⟨r1,r2⟩:=h3.out b hb e1 e2 e3
  exact⟨(hset b (by omega)).trans r1,r2⟩
 ·obtain⟨r1,r2⟩:=h3.hold b T m hb hT
  have:=hl b ⟨_,hb⟩
  exact⟨(hset b (by omega)).trans r1,r2⟩
theorem tk_made{V:Nat}{w5 w6 w7:World}{M5 M6 M7:Tmap}{S6 S7:GRec}{o5 o6:Obj}(hv:V≤w5.heap.size)(hv6:(w5.alloc o5).heap.size≤w6.heap.size)(g6:Gok base g G a0 len cap M6 N S6 w6)(g7:Gok base g G a0 len cap M7 N' S7 w7)(v6:Mv g G (put M5 w5.heap.size 2 2) M6 (w5.alloc o5) w6)(v7:Mv g G (put M6 w6.heap.size 2 2) M7 (w6.alloc o6) w7)(q6:S6.nph=1)(q7:S7.nph=2)
  (p6:rowAt w6 S6.phv 1=some (.slice (some ⟨w5.heap.size,0,none⟩) 2 2)) (k7:rowAt w7 S7.phv 1=rowAt (w6.alloc o6) S6.phv 1) (p7:rowAt w7 S7.phv 3=some (.slice (some ⟨w6.heap.size,0,none⟩) 2 2)):Tk M7 w7 V S7.phv w5.heap.size w6.heap.size:=by
 have hs:w5.heap.size<w6.heap.size:=by simp at hv6;omega
 have e6:SlN M6 92 S6.phv 1:=by rw[←q6];exact g6.ph.sl
 have e7:SlN M7 92 S7.phv 2:=by rw[←q7];exact g7.ph.sl
 have m6:M6 w5.heap.size=some (2,2):=(v6.hold _ _ _ (by simp[put]) (.inl rfl)).2
 refine⟨e7,k7.trans ((rowAt_hold e6 (by omega) fun b m hb=>Below.heap_alloc _ _ _ (g6.th.lt ⟨_,hb⟩).2).trans p6),p7,(v7.hold _ _ _ (by unfold put;rw[if_neg (by omega)];exact m6) (.inl rfl)).2,(v7.hold _ _ _ (by simp[put]) (.inl rfl)).2,hv,by omega,by omega⟩
theorem Lp.cells{V idx t1 t2:Nat}{phv:Value}(h:Lp M w S V idx t1 t2 phv)(hg:Gok base g G a0 len cap M N S w):∃ gb cb gp cp,S.bv=.slice (some ⟨gb,0,none⟩) S.nb cb∧w.cell? ⟨gb,idx*6,none⟩=some (.slice (some ⟨gp,0,none⟩) 2 cp)∧w.cell? ⟨gp,1,none⟩=some (.slice (some ⟨t1,0,none⟩) 2 2)∧w.cell? ⟨gp,3,none⟩=some (.slice (some ⟨t2,0,none⟩) 2 2) ∧
  (∃ z:Int,w.cell? ⟨t1,1,none⟩=some (.int .i64 z))∧w.frozen? ⟨t1,1,none⟩=false∧(∃ z:Int,w.cell? ⟨t2,1,none⟩=some (.int .i64 z))∧w.frozen? ⟨t2,1,none⟩=false∧(gb≠t1∧gb≠t2∧gp≠t1∧gp≠t2∧G≠t1∧G≠t2):=by
 obtain⟨⟨hp,p1,p3,m1,m2,f1,f2,_⟩,hb,hi⟩:=h
 rcases hg.b with⟨e,e0⟩|⟨gb,cb,cur,e1,e2,e3,e4,_⟩
 ·omega
 obtain⟨up,cp,rfl,hq⟩:=hp
 rcases hq with hq|⟨gp,mp,rfl,hM,_⟩
 ·omega
 have key:∀ t,M t=some (2,2)→(∃ z:Int,w.cell? ⟨t,1,none⟩=some (.int .i64 z))∧w.frozen? ⟨t,1,none⟩=false:=fun t ht=>by
  obtain⟨_,cu,c2,c3⟩:=hg.th t _ _ ht
  obtain⟨z,hz⟩:=(c3 1 (by omega)).1 rfl
  have hs1:szT 2=1:=by decide
  simp only[hs1,Nat.mul_one,Nat.add_zero] at hz
  exact⟨⟨z,(zcH c2).trans hz⟩,by simp[World.frozen?,c2]⟩
 have ne:∀ {a t:Nat} {T:TypeId} {n m:Nat},M a=some (T,n)→M t=some (2,m)→T≠2→a≠t:=fun h1 h2 h3 e=>by
  rw[e,h2] at h1
  cases h1
  exact h3 rfl
 have neG:∀ {t m:Nat},M t=some (2,m)→G≠t:=fun h1 e=>by
  have:=hg.mG
  rw[e,h1] at this
  cases this
 refine⟨gb,cb,gp,cp,e1,?_,p1,p3,(key t1 m1).1,(key t1 m1).2,(key t2 m2).1,(key t2 m2).2,ne e3 m1 (by decide),ne e3 m2 (by decide),ne hM m1 (by decide),ne hM m2 (by decide),neG m1,neG m2⟩
 rw[e1] at hb
 exact hb
end Go.Proofs.YtkpmiikafconmaaGreatDoor
