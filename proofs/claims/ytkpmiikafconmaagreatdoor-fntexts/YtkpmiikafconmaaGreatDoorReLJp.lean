import Derived.Test.YtkpmiikafconmaaGreatDoorReKJp
import Derived.Test.YtkpmiikafconmaaGreatDoorGnYJp
namespace Go.Proofs.YtkpmiikafconmaaGreatDoor
open Go.RowKit
set_option maxHeartbeats 4000000
set_option maxRecDepth 100000
set_option linter.unusedVariables false
set_option linter.unusedSimpArgs false
def LnTold(s word:ByteArray)(out:List Int)(ok:Bool):Prop:=∀ x:Ln,LineIs s x→LnOk x→ok=true∧word=bs x.1∧out=x.2
def LineEnd(s:ByteArray)(base:Nat)(w:World)(e:Ending):Prop:=∃ (word:ByteArray) (out:List Int) (u:Option Addr) (c:Nat) (ok:Bool),e=.returned (.tuple #[.string word,.slice u out.length c,.bool ok])∧Row w base (.slice u out.length c) out∧out.length≤20∧(s=⟨#[]⟩→out=[])∧LnTold s word out ok
def LeftL(s rest:ByteArray)(more:Bool)(out:List Int):Prop:=∀ x:Ln,LineIs s x→LnOk x→∃ T:List Int,x.2=out++T∧(T.map fun n=>bs (Lib.itoa n))=(if more=true then pieces rest else [])
theorem leftL_start{s word rest:ByteArray}{more:Bool}(h:CutEnd s word rest more):(∀ x:Ln,LineIs s x→LnOk x→word=bs x.1)∧LeftL s rest more []:=by
 refine⟨fun x ⟨w0,ws,h1,h2,h3⟩ _=>?_,fun x ⟨w0,ws,h1,h2,h3⟩ _=>⟨x.2,rfl,?_⟩⟩
 ·rw[h.1] at h1
  obtain⟨rfl,_⟩:=List.cons.inj h1
  exact h2
 ·rw[h.1] at h1
  rw[(List.cons.inj h1).2]
  exact h3.map.symm
theorem leftL_next{s rest one rest2:ByteArray}{more:Bool}{out:List Int}{n:Int}{ok:Bool}(h:LeftL s rest true out)(hc:CutEnd rest one rest2 more)(hn:NumTold one n ok):(∀ x:Ln,LineIs s x→LnOk x→ok=true)∧LeftL s rest2 more (out++[n]):=by
 have key:∀ x:Ln,LineIs s x→LnOk x→ok=true∧∃ T:List Int,x.2=(out++[n])++T∧(T.map fun n=>bs (Lib.itoa n))=(if more=true then pieces rest2 else []):=by
  intro x hx hk
  obtain⟨T,e1,e2⟩:=h x hx hk
  rw[if_pos rfl,hc.1] at e2
  cases T with
  | nil=>cases e2
  | cons t T =>
   rw[List.map_cons] at e2
   obtain⟨e3,e4⟩:=List.cons.inj e2
   obtain⟨k,e5,e6⟩:=hk.s t (by rw[e1];simp)
   rw[e5,itoa_nat] at e3
   obtain⟨h1,h2⟩:=hn k e6 e3.symm
   refine⟨h1,T,?_,e4⟩
   rw[e1,h2,e5]
   simp
 exact⟨fun x hx hk=>(key x hx hk).1,fun x hx hk=>(key x hx hk).2⟩
theorem leftL_end{s rest:ByteArray}{out:List Int}(h:LeftL s rest false out):∀ x:Ln,LineIs s x→LnOk x→out=x.2:=by
 intro x hx hk
 obtain⟨T,e1,e2⟩:=h x hx hk
 rw[if_neg (by simp)] at e2
 rw[List.map_eq_nil_iff.1 e2,List.append_nil] at e1
 exact e1.symm
theorem leftL_long{s rest:ByteArray}{out:List Int}(h:LeftL s rest true out)(hl:20≤out.length):∀ x:Ln,LineIs s x→¬LnOk x:=by
 intro x hx hk
 obtain⟨T,e1,e2⟩:=h x hx hk
 rw[if_pos rfl] at e2
 have h1:=congrArg List.length e2
 rw[pieces_len,List.length_map] at h1
 have h2:=hk.n
 rw[e1,List.length_append] at h2
 omega
theorem splitL(s:ByteArray)(w:World)(hs:s.size≤1048576) :
  Calls Tryz.prog 60 #[.string s] w fun e w'=>LineEnd s w.heap.size w' e∧Below w.heap.size w w':=by
 obtain⟨word,rest,more,C,hC⟩:=cutS s w hs
 have HW:Hid (∀ x:Ln,LineIs s x→LnOk x→word=bs x.1):=(leftL_start hC).1
 have HL:Hid (LeftL s rest more []):=(leftL_start hC).2
 have hrs:rest.size≤1048576:=hC.2.1
 have HM:Hid (s=⟨#[]⟩→more=false∧True):=fun e=>⟨cut_empty hC e,trivial⟩
 clear hC
 go_enter Tryz.func60,Tryz.ntmps60
 go_wp2_with (go_at_call 32;refine C.mono ?_;rintro e w1 ⟨rfl,b1⟩)
 have HB1:Hid (Below w.heap.size w w1):=b1
 have R1:Hid (Row (w1.alloc (.cells #[] 2)) w.heap.size (.slice (some ⟨w1.heap.size,0,none⟩) 0 0) []):=Row.lit w1 _ b1.size
 have B1:Hid (Below w.heap.size w (w1.alloc (.cells #[] 2))):=b1.alloc b1.size _
 clear b1 C
 generalize (w1.alloc (.cells #[] 2))=W1 at R1 B1 ⊢
 go_loopw [6,7,8] (fun rs mr st wr=>∃ (out:List Int) (rest:ByteArray) (more:Bool),Hid (Row wr w.heap.size st out)∧rs=.string rest∧mr=.bool more∧out.length≤20∧rest.size≤1048576∧Hid (LeftL s rest more out)∧Hid (s=⟨#[]⟩→more=false∧out=[])∧Hid (Below w.heap.size w wr)) (fun _ _ st _=>21-lenR st)
 case atStart=>exact⟨[],rest,more,R1.out,rfl,rfl,by simp,hrs,HL.out,fun e=>⟨(HM.out e).1,rfl⟩,B1.out⟩
 case round =>
  clear HL hrs R1 B1 HB1 HM
  obtain⟨out,rest,more,HO,rfl,rfl,hl,hrs,HL,HM,HB⟩:=hrel
  obtain⟨ta,tc,rfl⟩:=HO.out.slice
  cases more with
  | false =>
   have HT:Hid (LnTold s word out true):=fun x hx hk=>⟨rfl,HW.out x hx hk,leftL_end HL.out x hx hk⟩
   go_wp2_with fail
   exact bodyPost_ret (v:=.tuple #[.string word,.slice ta out.length tc,.bool true]) (by simp[results,Tryz.results60]) rfl ⟨⟨word,out,ta,tc,true,rfl,HO.out,hl,fun e=>(HM.out e).2,HT.out⟩,HB.out⟩
  | true =>
   by_cases h20:out.length<20
   ·obtain⟨one,rest2,more2,C,hC⟩:=cutS rest wr hrs
    have hr2:rest2.size≤1048576:=hC.2.1
    have ho2:one.size≤1048576:=hC.2.2
    have HC:Hid (CutEnd rest one rest2 more2):=hC
    clear hC
    have q20:(out.length:Int)<20:=by omega
    go_wp2_with (go_at_call 32;refine C.mono ?_;rintro e w2 ⟨rfl,b2⟩;have HB2:Hid (Below w.heap.size w w2):=HB.out.trans (b2.mono HB.out.size);have HO2:Hid (Row w2 w.heap.size (.slice ta out.length tc) out):=HO.out.keep b2;clear b2)
    refine (numS one w2 ho2).mono ?_
    rintro e w3 ⟨⟨n,ok,rfl,hn⟩,b3⟩
    have HB3:Hid (Below w.heap.size w w3):=HB2.out.trans (b3.mono HB2.out.size)
    have HO3:Hid (Row w3 w.heap.size (.slice ta out.length tc) out):=HO2.out.keep b3
    have HN:=leftL_next HL.out HC.out hn
    clear b3 hn HC HB2 HO2 HL C HB HO
    cases ok with
    | false =>
     have HT:Hid (LnTold s word [] false):=fun x hx hk=>absurd (HN.1 x hx hk) (by simp)
     clear HN
     go_wp2_with fail
     exact bodyPost_ret (v:=.tuple #[.string word,.slice none 0 0,.bool false]) (by simp[results,Tryz.results60]) rfl ⟨⟨word,[],none,0,false,rfl,Row.nil _ _,by simp,fun _=>rfl,HT.out⟩,HB3.out⟩
    | true =>
     have HL2:Hid (LeftL s rest2 more2 (out++[n])):=HN.2
     clear HN
     go_wp2_with (at_builtin;refine push_at rfl _ _ rfl w.heap.size (.slice ta out.length tc) out rfl (HO3.out.alloc _) n _ 1 rfl (by exact one_cell_at (by simp)) (by omega) (by simp;have:=HB3.out.size;omega) _ rfl ?_;intro g5 c5 w5 ho5 hg5 hat5 hlt5;have HO5:Hid _:=ho5;have HB5:Hid (Below w.heap.size w w5):=(HB3.out.alloc HB3.out.size _).grown hg5 (by simp;have:=HB3.out.size;omega) (fun q hq=>(HO3.out.ge hq).1);clear ho5 hg5 hat5)
     go_roundw
     case rel=>exact⟨out++[n],rest2,more2,HO5.out,rfl,rfl,by simp;omega,hr2,HL2.out,fun e=>absurd (HM.out e).1 (by simp),HB5.out⟩
     case measure=>simp[lenR];omega
   ·have HT:Hid (LnTold s word out false):=fun x hx hk=>absurd hk (leftL_long HL.out (by omega) x hx)
    have q20:¬(out.length:Int)<20:=by omega
    go_wp2_with fail
    exact bodyPost_ret (v:=.tuple #[.string word,.slice ta out.length tc,.bool false]) (by simp[results,Tryz.results60]) rfl ⟨⟨word,out,ta,tc,false,rfl,HO.out,hl,fun e=>(HM.out e).2,HT.out⟩,HB.out⟩
structure PSt where
 opn:Option (List Int × Int × List BlockD × List PhiD × List InstD)
 fns:List FuncD
def PSt.cl(l:List FuncD):PSt:=⟨none,l⟩
def PSt.op(l:List FuncD)(ps:List Int)(r:Int)(bs:List BlockD)(ph:List PhiD)(is:List InstD):PSt:=⟨some (ps,r,bs,ph,is),l⟩
def Step(p:PSt)(x:Ln)(q:PSt):Prop :=
 (∃ l r ps,p=.cl l∧x=(wFun,r :: ps)∧q=.cl (l++[⟨ps,r,[]⟩])) ∨
 (∃ l ps r bs,bs.length<10∧p=.cl (l++[⟨ps,r,bs⟩])∧x=(wBlk,[])∧q=.op l ps r bs [] []) ∨
 (∃ l ps r bs ph is e,p=.op l ps r bs ph is∧x=phiL e∧q=.op l ps r bs (ph++[e]) is) ∨
 (∃ l ps r bs ph is i,zIn i 60 3=true∧p=.op l ps r bs ph is∧x=insL i∧q=.op l ps r bs ph (is++[i])) ∨
 (∃ l ps r bs ph is t ids blocks,termB t ids blocks=true∧p=.op l ps r bs ph is∧x=trmL t∧q=.cl (l++[⟨ps,r,bs++[⟨ph,is,t⟩]⟩]))
theorem Step.func(l:List FuncD)(r:Int)(ps:List Int):Step (.cl l) (wFun,r :: ps) (.cl (l++[⟨ps,r,[]⟩])):=.inl ⟨l,r,ps,rfl,rfl,rfl⟩
theorem Step.block(l:List FuncD)(ps:List Int)(r:Int)(bs:List BlockD)(h:bs.length<10):Step (.cl (l++[⟨ps,r,bs⟩])) (wBlk,[]) (.op l ps r bs [] []):=.inr (.inl ⟨l,ps,r,bs,h,rfl,rfl,rfl⟩)
theorem Step.phi(l:List FuncD)(ps:List Int)(r:Int)(bs:List BlockD)(ph:List PhiD)(is:List InstD)(p:PhiD):Step (.op l ps r bs ph is) (phiL p) (.op l ps r bs (ph++[p]) is):=.inr (.inr (.inl ⟨l,ps,r,bs,ph,is,p,rfl,rfl,rfl⟩))
theorem Step.inst(l:List FuncD)(ps:List Int)(r:Int)(bs:List BlockD)(ph:List PhiD)(is:List InstD)(i:InstD)(h:zIn i 60 3=true):Step (.op l ps r bs ph is) (insL i) (.op l ps r bs ph (is++[i])):=.inr (.inr (.inr (.inl ⟨l,ps,r,bs,ph,is,i,h,rfl,rfl,rfl⟩)))
theorem Step.term(l:List FuncD)(ps:List Int)(r:Int)(bs:List BlockD)(ph:List PhiD)(is:List InstD)(t:TermD)(ids blocks:Int)(h:termB t ids blocks=true):Step (.op l ps r bs ph is) (trmL t) (.cl (l++[⟨ps,r,bs++[⟨ph,is,t⟩]⟩])):=.inr (.inr (.inr (.inr ⟨l,ps,r,bs,ph,is,t,ids,blocks,h,rfl,rfl,rfl⟩)))
theorem Step.atCl{l:List FuncD}{x:Ln}{q:PSt}(h:Step (.cl l) x q):(∃ r ps,x=(wFun,r :: ps)∧q=.cl (l++[⟨ps,r,[]⟩]))∨(∃ l2 ps r bs,bs.length<10∧l=l2++[⟨ps,r,bs⟩]∧x=(wBlk,[])∧q=.op l2 ps r bs [] []):=by
 rcases h with⟨l2,r,ps,e,k⟩|⟨l2,ps,r,bs,hl,e,k⟩|⟨_,_,_,_,_,_,_,e,_⟩|⟨_,_,_,_,_,_,_,_,e,_⟩|⟨_,_,_,_,_,_,_,_,_,_,e,_⟩
 ·cases e
  exact .inl ⟨r,ps,k⟩
 ·cases e
  exact .inr ⟨l2,ps,r,bs,hl,rfl,k⟩
 ·cases e
 ·cases e
 ·cases e
theorem Step.atOp{l:List FuncD}{ps:List Int}{r:Int}{bs:List BlockD}{ph:List PhiD}{is:List InstD}{x:Ln}{q:PSt}(h:Step (.op l ps r bs ph is) x q):(∃ e,x=phiL e∧q=.op l ps r bs (ph++[e]) is)∨(∃ i,zIn i 60 3=true∧x=insL i∧q=.op l ps r bs ph (is++[i]))∨(∃ t ids blocks,termB t ids blocks=true∧x=trmL t∧q=.cl (l++[⟨ps,r,bs++[⟨ph,is,t⟩]⟩])):=by
 rcases h with⟨_,_,_,e,_⟩|⟨_,_,_,_,_,e,_⟩|⟨_,_,_,_,_,_,p,e,k⟩|⟨_,_,_,_,_,_,i,hi,e,k⟩|⟨_,_,_,_,_,_,t,a,b,ht,e,k⟩
 ·cases e
 ·cases e
 ·cases e
  exact .inl ⟨p,k⟩
 ·cases e
  exact .inr (.inl ⟨i,hi,k⟩)
 ·cases e
  exact .inr (.inr ⟨t,a,b,ht,k⟩)
def Runs:PSt→List Ln→PSt→Prop
 | s,[],t=>s=t
 | s,x :: L,t=>∃ s2,Step s x s2∧Runs s2 L t
theorem Runs.nil(s:PSt):Runs s [] s:=rfl
theorem Runs.cons{s s2 s3:PSt}{x:Ln}{L:List Ln}(h:Step s x s2)(k:Runs s2 L s3):Runs s (x :: L) s3:=⟨s2,h,k⟩
theorem Runs.app:∀ {L:List Ln} {s s2 s3:PSt} {M:List Ln},Runs s L s2→Runs s2 M s3→Runs s (L++M) s3
 | [],_,_,_,_,h,k=>by
  have h':_=_:=h
  rw[h']
  exact k
 | _ :: _,_,_,_,_,⟨s4,h1,h2⟩,k=>⟨s4,h1,Runs.app h2 k⟩
theorem runs_phis(l:List FuncD)(ps:List Int)(r:Int)(bs:List BlockD)(is:List InstD):∀ (q ph:List PhiD),Runs (.op l ps r bs ph is) (q.map phiL) (.op l ps r bs (ph++q) is)
 | [],ph=>by rw[List.append_nil];exact .nil _
 | p :: q,ph=>by
  have:=runs_phis l ps r bs is q (ph++[p])
  rw[List.append_assoc] at this
  exact .cons (.phi ..) this
theorem runs_insts(l:List FuncD)(ps:List Int)(r:Int)(bs:List BlockD)(ph:List PhiD):∀ (q is:List InstD),(∀ i∈q,zIn i 60 3=true)→Runs (.op l ps r bs ph is) (q.map insL) (.op l ps r bs ph (is++q))
 | [],is,_=>by rw[List.append_nil];exact .nil _
 | i :: q,is,h=>by
  have:=runs_insts l ps r bs ph q (is++[i]) (fun x hx=>h x (List.mem_cons_of_mem _ hx))
  rw[List.append_assoc] at this
  exact .cons (.inst _ _ _ _ _ _ i (h i (List.mem_cons_self ..))) this
theorem runs_blk(l:List FuncD)(ps:List Int)(r:Int)(bs:List BlockD)(b:BlockD){ids blocks funcs:Int}(hn:bs.length<10)(hc:ids≤60)(hf:funcs≤3)(h:blockB ids blocks funcs b=true):Runs (.cl (l++[⟨ps,r,bs⟩])) (blkL b) (.cl (l++[⟨ps,r,bs++[b]⟩])):=by
 obtain⟨h1,h2⟩:=blk_form hc hf h
 refine .cons (.block l ps r bs hn) ?_
 have k1:=runs_phis l ps r bs [] b.phis []
 have k2:=runs_insts l ps r bs b.phis b.insts [] h1
 rw[List.nil_append] at k1 k2
 exact (k1.app k2).app (.cons (.term l ps r bs b.phis b.insts b.term ids blocks h2) (.nil _))
theorem runs_blks(l:List FuncD)(ps:List Int)(r:Int){ids blocks funcs:Int}(hc:ids≤60)(hf:funcs≤3):∀ (q bs:List BlockD),bs.length+q.length≤10→(∀ b∈q,blockB ids blocks funcs b=true)→Runs (.cl (l++[⟨ps,r,bs⟩])) (q.flatMap blkL) (.cl (l++[⟨ps,r,bs++q⟩]))
 | [],bs,_,_=>by rw[List.append_nil];exact .nil _
 | b :: q,bs,hn,h=>by
  rw[List.length_cons] at hn
  have k1:=runs_blk l ps r bs b (by omega) hc hf (h b (List.mem_cons_self ..))
  have k2:=runs_blks l ps r hc hf q (bs++[b]) (by simp;omega) (fun x hx=>h x (List.mem_cons_of_mem _ hx))
  rw[List.append_assoc] at k2
  exact k1.app k2
theorem runs_fun(l:List FuncD)(f:FuncD){funcs:Int}(hf:funcs≤3)(h:funcB funcs f=true):Runs (.cl l) (funL f) (.cl (l++[f])):=by
 simp only[funcB,Bool.and_eq_true,decide_eq_true_eq] at h
 exact .cons (.func l f.ret f.params) (runs_blks l f.params f.ret (ids:=(cntF f:Int)) (blocks:=(f.blocks.length:Int)) (by omega) hf f.blocks [] (by simp;omega) fun b hb=>List.all_eq_true.1 h.2 b hb)
theorem runs_funs{funcs:Int}(hf:funcs≤3):∀ (q l:List FuncD),(∀ f∈q,funcB funcs f=true)→Runs (.cl l) (q.flatMap funL) (.cl (l++q))
 | [],l,_=>by rw[List.append_nil];exact .nil _
 | f :: q,l,h=>by
  have k1:=runs_fun l f hf (h f (List.mem_cons_self ..))
  have k2:=runs_funs hf q (l++[f]) (fun x hx=>h x (List.mem_cons_of_mem _ hx))
  rw[List.append_assoc] at k2
  exact k1.app k2
theorem runs_mod{l:List FuncD}(h:modB l=true):Runs (.cl []) (modL l) (.cl l):=by
 simp only[modB,Bool.and_eq_true,decide_eq_true_eq] at h
 exact runs_funs (funcs:=(l.length:Int)) (by omega) l [] fun f hf=>List.all_eq_true.1 h.2 f hf
def modelT(k:Nat)(n:List Int):TermD:=if k=1 then ⟨1,n.getD 0 0,0,0⟩ else if k=2 then ⟨2,0,n.getD 0 0,0⟩ else if k=3 then ⟨3,n.getD 0 0,n.getD 1 0,n.getD 2 0⟩ else ⟨4,0,0,0⟩
theorem trm_model{t:TermD}{ids blocks:Int}(h:termB t ids blocks=true):(t.kind=1∨t.kind=2∨t.kind=3∨t.kind=4)∧modelT t.kind.toNat (termNs t)=t:=by
 obtain⟨k,a,x,y⟩:=t
 unfold termB at h
 dsimp only at h ⊢
 split at h
 ·rename_i hk
  subst hk
  simp only[Bool.and_eq_true,beq_iff_eq] at h
  rw[h.1.2,h.2]
  exact⟨.inl rfl,rfl⟩
 ·split at h
  ·rename_i hk
   subst hk
   simp only[Bool.and_eq_true,beq_iff_eq] at h
   rw[h.1.2,h.2]
   exact⟨.inr (.inl rfl),rfl⟩
  ·split at h
   ·rename_i hk
    subst hk
    exact⟨.inr (.inr (.inl rfl)),rfl⟩
   ·simp only[Bool.and_eq_true,beq_iff_eq] at h
    obtain⟨⟨⟨h1,h2⟩,h3⟩,h4⟩:=h
    subst h1 h2 h3 h4
    exact⟨.inr (.inr (.inr rfl)),rfl⟩
theorem ins_words{i:InstD}(h:zIn i 60 3=true):(insL i).1≠wFun∧(insL i).1≠wBlk∧(insL i).1≠wPhi∧∀ k:Fin 5,(insL i).1≠tmWL.getD k.1 []:=by
 have hF:=instB_inF h
 have h1:=hF.op1
 have h2:=hF.op27
 have key:∀ j:Fin 28,1≤j.1→opWL.getD j.1 []≠wFun∧opWL.getD j.1 []≠wBlk∧opWL.getD j.1 []≠wPhi∧∀ k:Fin 5,opWL.getD j.1 []≠tmWL.getD k.1 []:=by decide
 exact key ⟨i.op.toNat,by omega⟩ (by dsimp only;omega)
theorem trm_words:∀ k:Fin 5,tmWL.getD k.1 []≠wFun∧tmWL.getD k.1 []≠wBlk∧tmWL.getD k.1 []≠wPhi:=by decide
theorem trm_fin{t:TermD}(hk:t.kind=1∨t.kind=2∨t.kind=3∨t.kind=4):∃ k:Fin 5,1≤k.1∧t.kind.toNat=k.1:=by
 rcases hk with e|e|e|e<;>rw[e]
 ·exact⟨1,by decide,rfl⟩
 ·exact⟨2,by decide,rfl⟩
 ·exact⟨3,by decide,rfl⟩
 ·exact⟨4,by decide,rfl⟩
theorem tm_inj:∀ j k:Fin 5,tmWL.getD j.1 []=tmWL.getD k.1 []→j=k:=by decide
theorem st_cl{l:List FuncD}{x:Ln}{s2:PSt}(h:Step (.cl l) x s2):(x.1=wFun∧∃ r ps,x.2=r :: ps∧s2=.cl (l++[⟨ps,r,[]⟩]))∨(x.1=wBlk∧x.2=[]∧∃ l2 ps r bs,l=l2++[⟨ps,r,bs⟩]∧bs.length<10∧s2=.op l2 ps r bs [] []):=by
 rcases h.atCl with⟨r,ps,rfl,e⟩|⟨l2,ps,r,bs,hl,e1,rfl,e⟩
 ·exact .inl ⟨rfl,r,ps,rfl,e⟩
 ·exact .inr ⟨rfl,rfl,l2,ps,r,bs,e1,hl,e⟩
theorem st_op_no{l:List FuncD}{ps:List Int}{r:Int}{bs:List BlockD}{ph:List PhiD}{is:List InstD}{x:Ln}{s2:PSt}(h:Step (.op l ps r bs ph is) x s2):x.1≠wFun∧x.1≠wBlk:=by
 rcases h.atOp with⟨p,rfl,_⟩|⟨i,hi,rfl,_⟩|⟨t,a,b,ht,rfl,_⟩
 ·exact⟨by show wPhi≠wFun;decide,by show wPhi≠wBlk;decide⟩
 ·exact⟨(ins_words hi).1,(ins_words hi).2.1⟩
 ·obtain⟨k,_,e⟩:=trm_fin (trm_model ht).1
  show tmWL.getD t.kind.toNat []≠_∧tmWL.getD t.kind.toNat []≠_
  rw[e]
  exact⟨(trm_words k).1,(trm_words k).2.1⟩
theorem st_phi{l:List FuncD}{ps:List Int}{r:Int}{bs:List BlockD}{ph:List PhiD}{is:List InstD}{x:Ln}{s2:PSt}(h:Step (.op l ps r bs ph is) x s2)(hx:x.1=wPhi):∃ p:PhiD,x.2=p.w :: p.ins∧s2=.op l ps r bs (ph++[p]) is:=by
 rcases h.atOp with⟨p,rfl,e⟩|⟨i,hi,rfl,_⟩|⟨t,a,b,ht,rfl,_⟩
 ·exact⟨p,rfl,e⟩
 ·exact absurd hx (ins_words hi).2.2.1
 ·obtain⟨k,_,e⟩:=trm_fin (trm_model ht).1
  have hx':tmWL.getD t.kind.toNat []=wPhi:=hx
  rw[e] at hx'
  exact absurd hx' (trm_words k).2.2
theorem st_term{l:List FuncD}{ps:List Int}{r:Int}{bs:List BlockD}{ph:List PhiD}{is:List InstD}{x:Ln}{s2:PSt}(k:Fin 5)(h:Step (.op l ps r bs ph is) x s2)(hx:x.1=tmWL.getD k.1 []):s2=.cl (l++[⟨ps,r,bs++[⟨ph,is,modelT k.1 x.2⟩]⟩]):=by
 rcases h.atOp with⟨p,rfl,_⟩|⟨i,hi,rfl,_⟩|⟨t,a,b,ht,rfl,e2⟩
 ·exact absurd hx.symm (trm_words k).2.2
 ·exact absurd hx ((ins_words hi).2.2.2 k)
 ·obtain⟨h1,h2⟩:=trm_model ht
  obtain⟨j,_,e⟩:=trm_fin h1
  have hx':tmWL.getD t.kind.toNat []=tmWL.getD k.1 []:=hx
  rw[e] at hx'
  obtain rfl:=tm_inj j k hx'
  rw[e2]
  show _=PSt.cl (l++[⟨ps,r,bs++[⟨ph,is,modelT j.1 (termNs t)⟩]⟩])
  rw[←e,h2]
theorem st_inst{l:List FuncD}{ps:List Int}{r:Int}{bs:List BlockD}{ph:List PhiD}{is:List InstD}{x:Ln}{s2:PSt}(h:Step (.op l ps r bs ph is) x s2)(hp:x.1≠wPhi)(ht:∀ k:Fin 5,1≤k.1→x.1≠tmWL.getD k.1 []):∃ i,zIn i 60 3=true∧x=insL i∧s2=.op l ps r bs ph (is++[i]):=by
 rcases h.atOp with⟨p,rfl,_⟩|⟨i,hi,rfl,e⟩|⟨t,a,b,h',rfl,_⟩
 ·exact absurd rfl hp
 ·exact⟨i,hi,rfl,e⟩
 ·obtain⟨k,hk,e⟩:=trm_fin (trm_model h').1
  exact absurd (by show tmWL.getD t.kind.toNat []=_;rw[e]) (ht k hk)
end Go.Proofs.YtkpmiikafconmaaGreatDoor
