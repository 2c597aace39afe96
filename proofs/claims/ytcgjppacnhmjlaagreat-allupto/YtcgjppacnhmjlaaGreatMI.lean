/- Own texts: FjF, FjG, FjH. -/
import Derived.Test.YtcgjppacnhmjlaaGreatMH
set_option linter.all false
open Array renaming getElem?_eq_some_iff->cq,getElem?_eq_getElem->jV,getElem?_setIfInBounds_ne->nk,mem_of_getElem?->lH,getElem?_map->qB,mem_append->pE,mem_iff_getElem->NI
open Bool renaming true->aq,false->ax
open Go renaming World->ak,Value->au,Frame->aC,Goroutine->aX,Program->aV,Addr->aH,stepG->aZ,FuncId->bW,Event->bX,deafBehind->jl,Trace->gN,mayWake->I8,runT->vv
open Go.Conc renaming aside_setCell->mG,runT_crowd_go->oh,woken->jI,semEvents->pJ,crowd->kI,Deaf_other->xO,Deaf_own->vj,awake_of->Ad,QuitsD->vo,awake->Hz,Deaf->oq,woken_run->I4,touchAt_old->Pn,touchAt_of->Pu
open Go.ConcN renaming sumTo->nJ,WgLive->vn
open Go.ConcR renaming WgAt->gO,Payload->qK,stA->dB
open Go.MemAct renaming ofEvent->fD,touch?->mF,low_mono->Ol
open Go.MemOp renaming ofEvents->l7
open Go.World renaming cell?->bL
open Nat renaming le_refl->aL,eq_zero_or_pos->pD,lt_or_ge->l9,strongRecOn->rN
open Ne renaming symm->jm
open Option renaming some->ae,none->af
open Option.some renaming injEq->iY
namespace Go.Proofs.YtcgjppacnhmjlaaGreat
open Go Go.Conc Go.ConcN
open Go.ConcR (KK wgBlock WgAt stA smA rd wr mk Payload DC0)
namespace Sim
variable {U:bX} {a R:Nat} {N:Array bX} {k:aX} {l:Gh} {Z:Nat->Prop} {W:ak}
section
variable [qK]
def nP(Wg:Nat)(e:bX):Prop:=e=mk .disable\/e=mk .enable\/∃a wr,e=⟨.cell a,wr,aq⟩/\a.block=Wg
section
variable {C:FC} {L:Nat->Prop} {J:Nat} {gh:Nat->Gh} {f:Array aX} {w c:ak} {t:gN}
theorem nP.touch{Wg:Nat}(h:nP Wg U){y:Touch}(b:(fD U).touch?=ae y):(∃a,y.loc=.cell a/\a.block=Wg)/\y.kind=.atomic:=by
 rcases h with rfl|rfl|⟨a,wr,rfl,c⟩;·cases b
 ·cases b
 ·simp only[fD,mF,iY]at b;subst b;exact⟨⟨a,rfl,c⟩,az⟩
theorem nP.low{Wg:Nat}(h:nP Wg U)(c:Wg<a):(fD U).low a:=by
 rcases h with rfl|rfl|⟨b,wr,rfl,f⟩;·trivial
 ·trivial
 ·show b.block<a;omega
theorem nP.rel{Wg:Nat}(h:nP Wg U)(a:aH):U.loc≠ .mark (.release a):=by
 rcases h with rfl|rfl|⟨a,wr,rfl,b⟩<;>intro x<;>cases x
theorem sf.book{O:Nat->Prop}{Wg:Nat}(h:sf O (dB Wg) t a R)(s:O Wg){fn:bW}{pos:String}(r:∀e∈N,nP Wg e)(v:∀(j:Nat) e,N[j]?=ae e->(fD e).touch?=af\/0<jl (oq t a) (N.extract 0 j)):sf O (dB Wg) (t++l7 a fn pos N) a R:=by
 refine⟨h.rel.appOwn fn pos N λj e f=> ?_,λi b W o c B=> ?_⟩
 ·rcases v j e f with l|l;·exact .inl l
  ·rcases r e (lH f)with rfl|rfl|⟨k,wr,rfl,p⟩;·exact .inl rfl
   ·exact .inl rfl
   ·exact .inr ⟨⟨k,wr,rfl⟩,l⟩
 ·rcases yo o with⟨x,w⟩|⟨_,op,U,H,Z⟩
  ·rw[Pn x]at c;exact h.late i b W w c B
  ·obtain⟨e,f,rfl⟩:=lC U;rw[Pu H]at c;obtain⟨⟨k,p,u⟩,y⟩:=(r e f).touch c;exact⟨⟨k,p,u▸s⟩,y⟩
theorem yy(h:C.dy)(I:Inv C L J gh f w t){g:aX}(r:1<=a)(b:a<=J)(j:C.m<=a)(o:f[a]?=ae g)(U:(gh a).stage<=6)(s:∀p,p≠C.Wg->c.heap[p]?=w.heap[p]?)(al:c.heap.size=w.heap.size)(aa:vn C.ty C.Wg c)(H:l.M=(gh a).M)(ab:l.ro=(gh a).ro)(W:l.val=(gh a).val)(v:∀e∈N,nP C.Wg e)(a7:∀(Z:Nat) e,N[Z]?=ae e->(fD e).touch?=af\/0<jl (gh a).d (N.extract 0 Z))(a6:l.d=jl (gh a).d N)(ho:eD C c a l k):Inv C L J (di gh a l) ((f.map (jI C.P g k c)).setIfInBounds a k) c (t++l7 a g.frame.fn g.frame.place N):=by
 have ad:C.Wg<w.heap.size:=I.gQ _ I.hO.1;have y:=I.ht a r b;have hR:=I.hr a r b;have a8:grow (gh a).M w c=(gh a).M:=by
  funext p;refine propext ⟨λa2=>a2.elim id λz=> ?_,.inl⟩;omega
 have x:=I.wf.TE;have hc:Ch C (gh a) a w c:=⟨ag,λp _ _ _ _ hW _=>s p hW,λp u=>.of_eq (s p λe=>(I.hL p (I.bY a p u)).2.2.2 (e▸I.hO.1)),.of_eq (s _ x.2.1),.of_eq (s _ x.2.2),λ_=>aa⟩;refine vT h I r b o (.inl j) hc (by rw[a8];exact H) ab (λe B=>⟨λam hy=> ?_,(v e B).low ag,(v e B).rel⟩) ho ?_ ?_
 ·obtain⟨⟨a1,ha,u⟩,R⟩:=(v e B).touch hy;exact .inl ⟨.inl ⟨a1,ha,u▸I.hO.1⟩,by rw[R];decide,by rw[R];decide⟩
 ·refine⟨λai=>ag,λ_ _=> ?_⟩;obtain⟨b1,b2⟩:=hR.2 j ag;refine⟨?_,λ_=> ?_⟩
  ·rw[W,H];exact h a _ _ w c (λp u=>s p λe=>(I.hM a p u).2.2.2.2 (e▸I.hO.1)) (by simp only[bL];rw[s _ x.2.2]) b1
  ·have:=b2 U;unfold Has at this⊢;rw[W,<-this];simp only[bL];rw[s _ x.2.1]
 ·refine⟨by rw[vj,y.1,a6],λ_ _=> ?_⟩;obtain⟨ac,hs⟩:=y.2 j U;exact⟨ac,hs.book I.hO.1 v (by rw[y.1];exact a7)⟩
def An(C:FC)(L:Nat->Prop)(J:Nat)(gh:Nat->Gh)(f:Array aX)(w:ak)(t:gN)(x:Nat)(g:aX)(h:Nat)(k j:Int):Prop:=
 ∃a c b h',aZ C.P ax g w=.go a c b/\Inv C L J (di gh x h') ((f.map (jI C.P g a c)).setIfInBounds x a) c (t++l7 x g.frame.fn g.frame.place b)/\pS h' (gh x)/\gO C.ty C.Wg c k j/\Rl (gh x).ro L w c/\h'.stage=h/\h'.ro=(gh x).ro/\a.status=.running
theorem uG(f:∀b,L b->b≠C.Wg)(a:aH)(j:a.block=C.Wg)(v:au):Rl Z L w (w.setCell a v):=by
 have h:=mG w a v;exact⟨by rw[h.size];exact aL _,λb c=>.of_eq (h.block b (by rw[j];exact f b c)),λb c _=>h.block b (by rw[j];exact f b c),h.os,h.output⟩
theorem M5{P:aV}{g:aX}(b:vo P a 1 g):g.status=.running:=by
 cases a with
 |zero=>exact absurd b.2 bc
 |succ a=>exact b.elim (λx=>absurd x.2 bc) (λx=>x.1)
section
variable (h:C.dy) (I:Inv C L J gh f w t) {x:Nat} {g:aX} (r:1<=x) (b:x<=J) (j:C.m<=x) (o:f[x]?=ae g) (u:(gh x).d=1)
include h I r b j o u
theorem N1(aa:(gh x).stage=5)(hD:AtD1 C.P C.ty C.Wg C.T C.n 0 (x-C.m+1) g w){v wt:Nat}(a7:wt<=1)(hv:v<2147483647)(Z:gO C.ty C.Wg w ((v+1)*KK+wt) 0):An C L J gh f w t x g (if v=0/\wt=1 then 4 else 0) (v*KK+wt) 0:=by
 obtain⟨a8,a6⟩:=hD;obtain⟨y,W,h4,hq⟩:=a6 v wt a7 hv Z;have H:∀a,L a->a≠C.Wg:=λa k e=>(I.hL a k).2.2.2 (e▸I.hO.1);have l:=mG w (dB C.Wg) (.int .u64 (v*KK+wt));have p:=Z.setSt (v*KK+wt);have U:∀e∈ #[rd (dB C.Wg),wr (dB C.Wg)],nP C.Wg e:=by
  intro e c;simp at c;rcases c with rfl|rfl;·exact .inr (.inr ⟨_,_,rfl,rfl⟩)
  ·exact .inr (.inr ⟨_,_,rfl,rfl⟩)
 have R:∀(a1:Nat) e, #[rd (dB C.Wg),wr (dB C.Wg)][a1]?=ae e->(fD e).touch?=af\/0<jl (gh x).d (#[rd (dB C.Wg),wr (dB C.Wg)].extract 0 a1):=by
  intro jx e c;rw[u]
  match jx,c with
  |0,_=>exact .inr (by simp[jl])
  |1,_=>exact .inr (by simp[jl,rd])
  |jx+2,c=>simp at c
 by_cases s:v=0/\wt=1
 ·obtain⟨a2,B⟩:=h4 s;refine⟨y,_,_,{gh x with stage:=4,rk:=Rk.nat a2},W,yy h I r b j o ag (λa k=>l.block a k) l.size ⟨_,_,p⟩ rfl rfl rfl U R (by rw[u];rfl) ⟨a2,rfl,B,u⟩,.inl (by show 4<(gh x).stage;omega),p,uG H _ rfl _,by rw[if_pos s],rfl,?_⟩;exact lq (RW.jU ..) (λ_ _ x=>x.1) B
 ·obtain⟨q,N⟩:=hq s;refine⟨y,_,_,{gh x with stage:=0,rk:=Rk.nat q},W,yy h I r b j o ag (λa k=>l.block a k) l.size ⟨_,_,p⟩ rfl rfl rfl U R (by rw[u];rfl) ⟨q,rfl,by rw[show({gh x with stage:=0,rk:=Rk.nat q}:Gh).d=1 from u];exact N⟩,.inl (by show 0<(gh x).stage;omega),p,uG H _ rfl _,by rw[if_neg s],rfl,M5 N⟩
theorem am7(U:(gh x).stage=4)(v:AtD2 C.P C.ty C.Wg C.T C.n 0 (x-C.m+1) g w)(c:gO C.ty C.Wg w 1 0):An C L J gh f w t x g 3 1 0:=by
 obtain⟨R,y⟩:=v;obtain⟨s,B,k,l⟩:=y c;refine⟨s,w,_,{gh x with stage:=3,rk:=Rk.nat k},B,yy h I r b j o ag (λH N=>rfl) rfl ⟨_,_,c⟩ rfl rfl rfl ?_ ?_ (by rw[u];rfl) ⟨k,rfl,l,u⟩,.inl (by show 3<(gh x).stage;omega),c,.refl _ L w,rfl,rfl,?_⟩
 ·intro e a;simp at a;subst a;exact .inr (.inr ⟨_,_,rfl,rfl⟩)
 ·intro p e a;rw[u]
  match p,a with
  |0,_=>exact .inr (by simp[jl])
  |p+1,a=>simp at a
 ·exact lq (RW.jU ..) (λ_ _ x=>x.1) l
theorem am8(a1:(gh x).stage=3)(N:AtD3 C.P C.ty C.Wg C.T C.n 0 (x-C.m+1) g w)(v:gO C.ty C.Wg w 1 0):An C L J gh f w t x g 2 0 0:=by
 obtain⟨Z,U⟩:=N;obtain⟨H,W,k,p⟩:=U v;have R:∀a,L a->a≠C.Wg:=λa l e=>(I.hL a l).2.2.2 (e▸I.hO.1);have s:=mG w (dB C.Wg) (.int .u64 0);have y:=v.setSt 0;refine⟨H,_,_,{gh x with stage:=2,rk:=Rk.nat k},W,yy h I r b j o ag (λa l=>s.block a l) s.size ⟨_,_,y⟩ rfl rfl rfl ?_ ?_ (by rw[u];rfl) ⟨k,rfl,p,u⟩,.inl (by show 2<(gh x).stage;omega),y,uG R _ rfl _,rfl,rfl,?_⟩
 ·intro e c;simp at c;subst c;exact .inr (.inr ⟨_,_,rfl,rfl⟩)
 ·intro B e c;rw[u]
  match B,c with
  |0,_=>exact .inr (by simp[jl])
  |B+1,c=>simp at c
 ·exact lq (RW.jU ..) (λ_ _ x=>x.1) p
theorem am9(a1:(gh x).stage=2)(H:AtD4 C.P C.ty C.Wg g w)(s:gO C.ty C.Wg w 0 0):I8 C.P g=aq/\An C L J gh f w t x g 0 0 1:=by
 obtain⟨Z,W,R⟩:=H;obtain⟨B,U,q,l⟩:=R s;have N:∀c,L c->c≠C.Wg:=λc k e=>(I.hL c k).2.2.2 (e▸I.hO.1);have p:=mG w (smA C.Wg) (.int .u32 1);have v:=s.setSm 1;refine⟨W,B,_,_,{gh x with stage:=0,rk:=Rk.nat q},U,yy h I r b j o ag (λc k=>p.block c k) p.size ⟨_,_,v⟩ rfl rfl rfl ?_ ?_ (by simp[u,jl,pJ]) ⟨q,rfl,by rw[show({gh x with stage:=0,rk:=Rk.nat q}:Gh).d=1 from u];exact l⟩,.inl (by show 0<(gh x).stage;omega),v,uG N _ rfl _,rfl,rfl,M5 l⟩
 ·intro e a;simp[pJ]at a;rcases a with rfl|rfl|rfl|rfl;·exact .inl rfl
  ·exact .inr (.inr ⟨_,_,rfl,rfl⟩)
  ·exact .inr (.inr ⟨_,_,rfl,rfl⟩)
  ·exact .inr (.inl rfl)
 ·intro y e a;rw[u]
  match y,a with
  |0,a=>simp[pJ]at a;subst a;exact .inl rfl
  |1,_=>exact .inr (by simp[jl,pJ])
  |2,_=>exact .inr (by simp[jl,pJ])
  |3,a=>simp[pJ]at a;subst a;exact .inl rfl
  |y+4,a=>simp[pJ]at a
end
end
end
section
variable [qK]
theorem pS.acc:∀h:Gh,Acc pS h:=by
 have key:∀n (h:Gh),h.stage=n->Acc pS h:=by
  intro n;induction n using rN with
  |_ n j=>
   have:∀r:Rk,∀h:Gh,h.rk=r->h.stage=n->Acc pS h:=by
    intro r;induction Rk.acc r with
    |intro r _ k=>
     intro h c a;refine⟨_,λy b=> ?_⟩;rcases b with b|⟨l,f⟩;·exact j y.stage ag y rfl
     ·exact k y.rk (by rw[<-c];exact f) y rfl ag
   exact λh a=>this h.rk h rfl a
 exact λh=>key h.stage h rfl
def pQ(J:Nat)(a gh:Nat->Gh):Prop:=∃x,1<=x/\x<=J/\pS (a x) (gh x)/\∀y,y≠x->a y=gh y
theorem pQ.acc:∀(J:Nat) (gh:Nat->Gh),Acc (pQ J) gh
 |0,gh=>⟨_,λy h=>by obtain⟨x,a,l,_⟩:=h;omega⟩
 |J+1,gh=>by
  have k:=pQ.acc J;have:∀h:Gh,∀gh:Nat->Gh,gh (J+1)=h->Acc (pQ (J+1)) gh:=by
   intro h;induction pS.acc h with
   |intro h _ p=>
    intro gh;induction k gh with
    |intro gh _ r=>
     intro f;refine⟨_,λy o=> ?_⟩;obtain⟨x,a,l,b,c⟩:=o;by_cases j:x=J+1
     ·subst j;exact p (y (J+1)) (by rw[<-f];exact b) y rfl
     ·exact r y ⟨x,a,ag,b,c⟩ (by rw[c (J+1) (jm j)];exact f)
  exact this _ gh rfl
theorem pQ.set{gh:Nat->Gh}(b:1<=R)(c:R<=a)(h:pS l (gh R)):pQ a (di gh R l) gh:=⟨R,b,c,by rw[dK];exact h,λy f=>e8 f⟩
def iQ(h:Gh):Nat:=if 5<=h.stage then 1 else 0
def Vg(m J:Nat)(gh:Nat->Gh):Nat:=nJ (J+1-m) λi=>iQ (gh (m+i))
section
variable {m J x:Nat} {gh:Nat->Gh} {h':Gh}
theorem Av(c:m<=x)(b:x<=J):Vg m J (di gh x h')+iQ (gh x)=Vg m J gh+iQ h':=by
 have:=sumTo_upd (λi=>gh (m+i)) h' iQ (i:=x-m) (j:=J+1-m) ag;have e:(λi=>iQ (di gh x h' (m+i)))=λi=>iQ (upd (λi=>gh (m+i)) (x-m) h' i):=by
  funext i;unfold di upd;by_cases a:i=x-m;·rw[if_pos ag,if_pos a]
  ·rw[if_neg ag,if_neg a]
 unfold Vg;rw[e];simpa[show m+(x-m)=x by omega]using this
theorem Im(b:x<m\/J<x):Vg m J (di gh x h')=Vg m J gh:=by
 unfold Vg;exact sumTo_congr λi a=>by rw[e8 ag]
theorem DJ(b:m<=x)(a:x<=J)(h:5<=(gh x).stage):1<=Vg m J gh:=by
 have:=le_sumTo (f:=λi=>iQ (gh (m+i))) (i:=x-m) (j:=J+1-m) ag;simp only[show m+(x-m)=x by omega,iQ,if_pos h]at this;exact this
theorem Au:Vg m J gh<=J+1-m:=by
 have:=sumTo_le (f:=λi=>iQ (gh (m+i))) (c:=1) (j:=J+1-m) λi _=>by unfold iQ;split<;>omega
 simpa[Vg]using this
theorem Io(h:1<=Vg m J gh):∃x,m<=x/\x<=J/\5<=(gh x).stage:=by
 have key:∀j,1<=nJ j (λi=>iQ (gh (m+i)))->∃i,i<j/\5<=(gh (m+i)).stage:=by
  intro j;induction j with
  |zero=>intro h;simp[nJ]at h
  |succ j f=>
   intro h;by_cases b:5<=(gh (m+j)).stage;·exact⟨j,ag,b⟩
   ·simp only[nJ,iQ,if_neg b]at h;obtain⟨i,c,a⟩:=f (by simpa[iQ]using h);exact⟨i,ag,a⟩
 obtain⟨i,c,a⟩:=key _ h;exact⟨m+i,ag,ag,a⟩
theorem PL(a:m<=J+1):Vg m (J+1) gh=Vg m J gh+iQ (gh (J+1)):=by
 unfold Vg;rw[show J+1+1-m=(J+1-m)+1 by omega,nJ,show m+(J+1-m)=J+1 by omega]
theorem PK(j:m<=x)(f:x<=J)(c:5<=(gh x).stage)(p:Vg m J gh=1):∀y,m<=y->y<=J->y≠x->¬5<=(gh y).stage:=by
 intro y l o k h;have a:=Av (gh:=gh) (h':={gh x with stage:=0}) j f;have b:1<=Vg m J (di gh x {gh x with stage:=0}):=DJ l o (by rw[e8 k];exact h);have c0:iQ {gh x with stage:=0}=0:=rfl;have c1:iQ (gh x)=1:=if_pos c;omega
end
def Kp(C:FC)(J:Nat)(v:(Nat->Gh)->Int->Int->Prop):Prop:=∀L gh f w t st b x g,Inv C L J gh f w t->gO C.ty C.Wg w st b->v gh st b->1<=x->x<=J->f[x]?=ae g->g.status=.running->
 ∃a c j h' k h,aZ C.P ax g w=.go a c j/\Inv C L J (di gh x h') ((f.map (jI C.P g a c)).setIfInBounds x a) c (t++l7 x g.frame.fn g.frame.place j)/\pS h' (gh x)/\gO C.ty C.Wg c k h/\v (di gh x h') k h/\Rl (gh x).ro L w c/\h'.ro=(gh x).ro/\(h=b\/(I8 C.P g=aq/\a.status=.running))
def en(C:FC)(J p vb:Nat)(gh:Nat->Gh)(st a:Int):Prop:=
 (∀x,C.m<=x->x<=J->(gh x).stage=0\/5<=(gh x).stage)/\st=((Vg C.m J gh+p:Nat):Int)*KK/\a=0/\Vg C.m J gh<=vb
def oF(C:FC)(J:Nat)(gh:Nat->Gh)(st a:Int):Prop:=
 ((∀x,C.m<=x->x<=J->(gh x).stage=0\/5<=(gh x).stage)/\1<=Vg C.m J gh/\st=((Vg C.m J gh:Nat):Int)*KK+1/\a=0)\/
 (∃x,C.m<=x/\x<=J/\((gh x).stage=4\/(gh x).stage=3\/(gh x).stage=2)/\(∀y,C.m<=y->y<=J->y≠x->(gh y).stage=0)/\st=(if(gh x).stage=2 then 0 else 1)/\a=0)\/
 ((∀x,C.m<=x->x<=J->(gh x).stage=0)/\st=0/\a=1)
section
variable {C:FC} {S L:Nat->Prop} {J:Nat} {gh:Nat->Gh} {f:Array aX} {w c:ak} {t:gN} {p vb s:Nat} {v:(Nat->Gh)->Int->Int->Prop}
theorem V2(h:C.dy)(I:Inv C L J gh f w t)(d:Nat):Inv C L J gh f (w.at d) t:=by
 refine⟨I.sz,I.mJ,λx j k=> ?_,λx j k=> ?_,I.ht,I.nx,I.ct,I.wG,I.low,I.qo,I.hM,I.mY,I.bY,I.hL,I.hO,I.gQ,⟨I.wf.T,I.wf.E,I.wf.TE,I.wf.wg⟩⟩
 ·obtain⟨g,a,b⟩:=I.hw x j k;exact⟨g,a,Fz b (Ry.at _ _ _ _) ⟨λ_ _ _ _=>rfl,id,id,rfl⟩⟩
 ·obtain⟨a,b⟩:=I.hr x j k;exact⟨a,λc e=>⟨h x _ _ w _ (λ_ _=>rfl) rfl (b c e).1,(b c e).2⟩⟩
theorem ag6(f:∀a b,(gh a).ro b->S b)(h:l.ro=(gh a).ro):∀y b,(di gh a l y).ro b->S b:=by
 intro y b c;by_cases e:y=a;·subst e;rw[dK,h]at c;exact f y b c
 ·rw[e8 e]at c;exact f y b c
theorem Nu(b:a<=J)(h:5<=l.stage↔5<=(gh a).stage):Vg C.m J (di gh a l)=Vg C.m J gh:=by
 rcases l9 a C.m with f|c;·exact Im (.inl f)
 ·have:=Av (gh:=gh) (h':=l) c b;have e:iQ l=iQ (gh a):=by unfold iQ;simp only[h]
  omega
theorem Lz(k:5<=l.stage↔5<=(gh a).stage)(o:(gh a).stage<=4->l.stage=(gh a).stage)(h:∀a,C.m<=a->a<=J->(gh a).stage=0\/5<=(gh a).stage):∀y,C.m<=y->y<=J->(di gh a l y).stage=0\/5<=(di gh a l y).stage:=by
 intro y b c;by_cases e:y=a
 ·subst e;rw[dK];rcases h y b c with f|j;·exact .inl ((o ag).trans f)
  ·exact .inr (k.2 j)
 ·rw[e8 e];exact h y b c
theorem LC{g:aX}(b:eD C w a l g)(c:2<=l.stage)(f:l.stage<=5):l.d=1:=by
 unfold eD at b;split at b<;>first|omega|(obtain⟨_,_,_,u⟩:=b;exact u)|exact b.elim
theorem Z2{g:aX}(c:eD C w a l g)(p:l.stage≠0):g.status=.running:=by
 have r:=c;unfold eD at c;split at c;·rename_i e;exact absurd e p
 ·obtain⟨h,_⟩:=c;have o:C.pr a l.M g w->g.status=.running:=λb=>b.1;cases j:l.rk with
  |leaf=>rw[j]at h;exact o (h w (Ry.refl _ _ _))
  |mk f=>rw[j]at h;exact h.elim (λa=>o (a w (Ry.refl _ _ _))) (·.1)
 ·obtain⟨k,_,b,_⟩:=c;exact lq (RW.jU ..) (λ_ _ a=>a.1) b
 ·obtain⟨k,_,b,_⟩:=c;exact lq (RW.jU ..) (λ_ _ a=>a.1) b
 ·obtain⟨k,_,b,_⟩:=c;exact lq (RW.jU ..) (λ_ _ a=>a.1) b
 ·obtain⟨k,_,b,_⟩:=c;exact lq (RW.jU ..) (λ_ _ a=>a.1) b
 ·obtain⟨k,_,b,_⟩:=c;exact lq (RW.jU ..) (λ_ _ a=>a.1) b
 ·obtain⟨k,_,b,_⟩:=c;exact lq (RW.jU ..) (λ_ _ a=>a.1) b
 ·exact c.elim
theorem gD(h:C.dy)(hn:J+1-C.m<2147483600)(hp:p<=1):Kp C J (en C J p vb):=by
 intro L gh f w t st sm x g I H ⟨s,h2,h3,h4⟩ r b o aa;subst h2 h3;rcases LD h I r b o aa with⟨g',c,l,h',Z,a2,a3,a4,a5,N,a7,a8⟩|⟨j,B⟩
 ·have k:=Nu (C:=C) b N;exact⟨g',c,l,h',_,_,Z,a2,a3,H.of_block a4,⟨Lz N a7 s,by rw[k],rfl,by rw[k];exact h4⟩,a5,a8,.inl rfl⟩
 ·have ad:=s x j b;rcases B with⟨a,B⟩|⟨a,_⟩|⟨a,_⟩|⟨a,_⟩
  ·have R:=DJ (m:=C.m) j b (show 5<=(gh x).stage by omega);have U:=Au (m:=C.m) (J:=J) (gh:=gh);obtain⟨v,k⟩:∃v,Vg C.m J gh+p=v+1:=⟨Vg C.m J gh+p-1,ag⟩;have u:(gh x).d=1:=by
    obtain⟨g1,_,ho⟩:=I.hw x r b;exact LC ho ag ag
   have ab:gO C.ty C.Wg w (((v:Nat)+1:Int)*KK+((0:Nat):Int)) 0:=by
    rw[k]at H;simpa using H
   obtain⟨g',c,l,h',R,U,b3,b4,b5,b6,b7,b8⟩:=N1 h I r b j o u a B (v:=v) (wt:=0) ag ag ab;have W:h'.stage=0:=by rw[b6,if_neg ag]
   have ai:Vg C.m J (di gh x h')+1=Vg C.m J gh:=by
    have:=Av (gh:=gh) (h':=h') j b;simp only[iQ,W,a]at this;simpa using this
   refine⟨g',c,l,h',_,_,R,U,b3,b4,⟨λy hy ac=> ?_,?_,rfl,ag⟩,b5,b7,.inl rfl⟩
   ·by_cases e:y=x;·subst e;rw[dK];exact .inl W
    ·rw[e8 e];exact s y hy ac
   ·rw[show Vg C.m J (di gh x h')+p=v by omega];simp
  ·omega
  ·omega
  ·omega
theorem EG(h:C.dy)(hn:J+1-C.m<2147483600):Kp C J (oF C J):=by
 intro L gh f w t st sm x g I aa hM r b o am;rcases LD h I r b o am with⟨B,c,v,h',a1,a2,a3,a4,a5,a6,a7,a8⟩|⟨j,H⟩
 ·have hv:=Nu (C:=C) b a6;refine⟨B,c,v,h',st,sm,a1,a2,a3,aa.of_block a4,?_,a5,a8,.inl rfl⟩;rcases hM with⟨p,R,U,h4⟩|⟨z,z1,z2,z3,z4,z5,z6⟩|⟨p,R,U⟩;·exact .inl ⟨Lz a6 a7 p,by rw[hv];exact R,by rw[hv];exact U,h4⟩
  ·refine .inr (.inl ⟨z,z1,z2,?_,λy k l s=> ?_,?_,z6⟩)
   ·by_cases e:z=x;·subst e;rw[dK,a7 ag];exact z3
    ·rw[e8 e];exact z3
   ·by_cases e:y=x;·subst e;rw[dK,a7 (by have:=z4 y k l s;omega)];exact z4 y k l s
    ·rw[e8 e];exact z4 y k l s
   ·by_cases e:z=x;·subst e;rw[dK,a7 ag];exact z5
    ·rw[e8 e];exact z5
  ·refine .inr (.inr ⟨λy k l=> ?_,R,U⟩);by_cases e:y=x;·subst e;rw[dK,a7 (by have:=p y k l;omega)];exact p y k l
   ·rw[e8 e];exact p y k l
 ·have ac:∀{ad},(gh x).stage=ad->2<=ad->ad<=5->(gh x).d=1:=by
   intro ad hs R h5;obtain⟨g1,_,ho⟩:=I.hw x r b;exact LC ho ag ag
  have last:(gh x).stage=4\/(gh x).stage=3\/(gh x).stage=2->(∀y,C.m<=y->y<=J->y≠x->(gh y).stage=0)/\st=(if(gh x).stage=2 then 0 else 1)/\sm=0:=by
   intro hs;rcases hM with⟨p,R,U,h4⟩|⟨z,z1,z2,z3,z4,z5,z6⟩|⟨p,R,U⟩;·have:=p x j b;omega
   ·by_cases e:x=z;·subst e;exact⟨z4,z5,z6⟩
    ·have:=z4 x j b e;omega
   ·have:=p x j b;omega
  rcases H with⟨a,H⟩|⟨a,H⟩|⟨a,H⟩|⟨a,H⟩
  ·rcases hM with⟨p,R,U,h4⟩|⟨z,z1,z2,z3,z4,z5,z6⟩|⟨p,R,U⟩
   ·subst U h4;have N:=Au (m:=C.m) (J:=J) (gh:=gh);obtain⟨ab,hv⟩:∃ab,Vg C.m J gh=ab+1:=⟨Vg C.m J gh-1,ag⟩;have ao:gO C.ty C.Wg w (((ab:Nat)+1:Int)*KK+((1:Nat):Int)) 0:=by
     rw[hv]at aa;simpa using aa
    obtain⟨B,c,v,h',Z,N,b3,b4,b5,u,b7,b8⟩:=N1 h I r b j o (ac a ag ag) a H (v:=ab) (wt:=1) ag ag ao;refine⟨B,c,v,h',_,_,Z,N,b3,b4,?_,b5,b7,.inl rfl⟩;by_cases an:ab=0
    ·have ai:h'.stage=4:=by rw[u,if_pos ag]
     refine .inr (.inl ⟨x,j,b,by rw[dK];exact .inl ai,λy k l s=> ?_,?_,rfl⟩)
     ·rw[e8 s];have:=PK (m:=C.m) j b (show 5<=(gh x).stage by omega) ag y k l s;have:=p y k l;omega
     ·rw[dK,ai,an];simp
    ·have h0:h'.stage=0:=by rw[u,if_neg ag]
     have ap:Vg C.m J (di gh x h')+1=Vg C.m J gh:=by
      have:=Av (gh:=gh) (h':=h') j b;simp only[iQ,h0,a]at this;simpa using this
     refine .inl ⟨λy k l=> ?_,ag,?_,rfl⟩
     ·by_cases e:y=x;·subst e;rw[dK];exact .inl h0
      ·rw[e8 e];exact p y k l
     ·rw[show Vg C.m J (di gh x h')=ab by omega];simp
   ·have:x≠z:=λe=>by subst e;omega
    have:=z4 x j b this;omega
   ·have:=p x j b;omega
  ·obtain⟨l1,W,l3⟩:=last (.inl a);rw[a]at W;subst W l3;obtain⟨B,c,v,h',Z,N,b3,b4,b5,u,b7,b8⟩:=am7 h I r b j o (ac a ag ag) a H (by simpa using aa);refine⟨B,c,v,h',_,_,Z,N,b3,b4,.inr (.inl ⟨x,j,b,by rw[dK];exact .inr (.inl u),λy k l s=>by rw[e8 s];exact l1 y k l s,by rw[dK,u];simp,rfl⟩),b5,b7,.inl rfl⟩
  ·obtain⟨l1,W,l3⟩:=last (.inr (.inl a));rw[a]at W;subst W l3;obtain⟨B,c,v,h',Z,N,b3,b4,b5,u,b7,b8⟩:=am8 h I r b j o (ac a ag ag) a H (by simpa using aa);refine⟨B,c,v,h',_,_,Z,N,b3,b4,.inr (.inl ⟨x,j,b,by rw[dK];exact .inr (.inr u),λy k l s=>by rw[e8 s];exact l1 y k l s,by rw[dK,u];simp,rfl⟩),b5,b7,.inl rfl⟩
  ·obtain⟨l1,W,l3⟩:=last (.inr (.inr a));rw[a]at W;subst W l3;obtain⟨al,B,c,v,h',Z,N,b3,b4,b5,u,b7,b8⟩:=am9 h I r b j o (ac a ag ag) a H (by simpa using aa);refine⟨B,c,v,h',_,_,Z,N,b3,b4,.inr (.inr ⟨λy k l=> ?_,rfl,rfl⟩),b5,b7,.inr ⟨al,b8⟩⟩;by_cases e:y=x;·subst e;rw[dK];exact u
   ·rw[e8 e];exact l1 y k l e
structure kK(C:FC)(S L:Nat->Prop)(J:Nat)(v:(Nat->Gh)->Int->Int->Prop)(s:Nat)(gh:Nat->Gh)(f:Array aX)(w:ak)(t:gN):Prop where
 inv:Inv C L J gh f w t
 mo:∃st sm,gO C.ty C.Wg w st sm/\v gh st sm
 deaf:oq t 0=s
 ro:∀x b,(gh x).ro b->S b
theorem kK.at(h:C.dy)(a:kK C S L J v s gh f w t)(d:Nat):kK C S L J v s gh f (w.at d) t:=⟨V2 h a.inv d,a.mo,a.deaf,a.ro⟩
theorem G9(W:Kp C J v)(h:kK C S L J v s gh f w t){g:aX}(r:1<=a)(b:a<=J)(o:f[a]?=ae g)(aa:g.status=.running):∃j c p x,aZ C.P ax g w=.go j c p/\kK C S L J v s x ((f.map (jI C.P g j c)).setIfInBounds a j) c (t++l7 a g.frame.fn g.frame.place p)/\pQ J x gh/\Rl S L w c/\∃st k u l,gO C.ty C.Wg w st k/\gO C.ty C.Wg c u l/\(l=k\/(I8 C.P g=aq/\j.status=.running)):=by
 obtain⟨st,k,y,m2⟩:=h.mo;obtain⟨j,c,p,h',u,l,B,H,a3,a4,a5,N,R,U⟩:=W L gh f w t st k a g h.inv y m2 r b o aa;refine⟨j,c,p,di gh a h',B,⟨H,⟨u,l,a4,a5⟩,?_,ag6 h.ro R⟩,.set r b a3,N.mono (h.ro a),st,k,u,l,y,a4,U⟩;rw[xO t (g':=a) ag _ (λop Z=>od Z)];exact h.deaf
def eV(C:FC)(H:au->ak->Prop)(S L:Nat->Prop)(J:Nat)(v:(Nat->Gh)->Int->Int->Prop)(s:Nat)(fr:aC)(y:List aC)(B:ak):Prop:=
 ∀w f a t gh,Rl S L B w->f[0]?=ae (aw fr y)->kK C S L J v s gh f w t->Fin C.P H (kI f w a) t
theorem kK.awake(h:kK C S L J v s gh f w t)(j:f[0]?=ae k)(l:Hz k):∀g∈f,Hz g:=by
 intro g o;obtain⟨i,b,rfl⟩:=NI.1 o;rcases pD i with rfl|p
 ·have:f[0]=k:=by simpa[jV b]using j
  rw[this];exact l
 ·obtain⟨g,a,c⟩:=h.inv.hw i p (by have:=h.inv.sz;omega);rw[jV b]at a;cases a;exact Ad ((LB c).elim .inl λx=>.inr (.inr x))
theorem eV.um{H:au->ak->Prop}{fr:aC}{y:List aC}(h:C.dy)(hk:Kp C J v)(U:∀w f k t gh,Rl S L W w->f[0]?=ae (aw fr y)->kK C S L J v s gh f w t->∃u x,vv C.P (kI f w k) 0=(.next u,x)/\Fin C.P H u (t++x)):eV C H S L J v s fr y W:=by
 intro w f k t gh;induction pQ.acc J gh generalizing w f k t with
 |intro gh _ ih=>
  intro a8 a j;refine Fin.pick (j.awake a (Ad (.inl rfl))) ⟨0,_,a,rfl⟩ λi g d l b o=>.inl ?_;have r:=j.at h d;have p:=a8.trans (Rl.at S L w d);rcases pD i with rfl|a7;·exact U (w.at d) f l t gh p a r
  ·have a6:i<=J:=by
    have:=(cq.1 b).1;have:=j.inv.sz;omega
   obtain⟨g',c,es,R,B,N,a3,a4,_⟩:=G9 hk r a7 a6 b o;have Z:(i==0)=false:=by simp;omega
   refine⟨_,_,oh (P:=C.P) (sl:=l) (i:=i) b (by rw[Z];exact B),?_⟩;refine ih R a3 c _ l _ (p.trans a4) ?_ N;rw[nk ag,qB,a];simp[I4 (show(aw fr y).status=.running from rfl)]
end
end
section
variable [qK]
def xX(Wg:Nat)(S L:Nat->Prop)(e:bX):Prop:=
 (∃a,e.loc=.cell a/\L a.block/\(e.write=aq->¬S a.block))\/e.loc=.mark .noRoom\/(∃f,e.loc=.mark (.extern f))\/nP Wg e\/∃a,a.block=Wg/\(e=mk (.read a)\/e=mk (.write a)\/e=mk (.acquire a))
structure Zs(Wg:Nat)(S L:Nat->Prop)(w c:ak):Prop where
 size:w.heap.size<=c.heap.size
 bK:∀b,b<w.heap.size->(¬L b\/S b)->b≠Wg->c.heap[b]?=w.heap[b]?
section
variable {C:FC} {S L:Nat->Prop} {J:Nat} {gh:Nat->Gh} {f:Array aX} {w c:ak} {t:gN} {p vb s:Nat} {v:(Nat->Gh)->Int->Int->Prop}
theorem inv_zero(h:C.dy)(I:Inv C L J gh f w t)(ai:∀x b,(gh x).ro b->S b){y:aX}(h0:f[0]?=ae k)(Z:Zs C.Wg S L w c)(al:vn C.ty C.Wg c)(ab:∀e∈N,xX C.Wg S (grow L w c) e):Inv C (grow L w c) J gh ((f.map (jI C.P k y c)).setIfInBounds 0 y) c (t++l7 0 k.frame.fn k.frame.place N):=by
 have aF:0<f.size:=by rw[I.sz];omega
 have am:=Z.size;have ac:=I.wf.TE;have ao:C.T<w.heap.size:=by obtain⟨H,l,_⟩:=I.wf.T;exact(cq.1 l).1
 have an:C.E<w.heap.size:=by obtain⟨H,e,U,l,_⟩:=I.wf.E;exact(cq.1 l).1
 have av:C.Wg<w.heap.size:=I.gQ _ I.hO.1;have R:c.heap[C.T]?=w.heap[C.T]?:=Z.bK _ ao (.inl λa=>(I.hL _ a).2.1 rfl) ac.2.1;have eE:c.heap[C.E]?=w.heap[C.E]?:=Z.bK _ an (.inl λa=>(I.hL _ a).2.2.1 rfl) ac.2.2;have eM:∀x b,(gh x).M b->c.heap[b]?=w.heap[b]?:=λx b j=>Z.bK b (I.hM x b j).1 (.inl (I.hM x b j).2.1) λe=>(I.hM x b j).2.2.2.2 (e▸I.hO.1);have eR:∀x b,(gh x).ro b->c.heap[b]?=w.heap[b]?:=λx b j=>Z.bK b (I.hL b (I.bY x b j)).1 (.inr (ai x b j)) λe=>(I.hL b (I.bY x b j)).2.2.2 (e▸I.hO.1);have gL:∀b,grow L w c b->b<c.heap.size/\b≠C.T/\b≠C.E/\¬C.O b:=by
  intro b j;rcases j with j|⟨l,p⟩;·obtain⟨a1,a2⟩:=I.hL b j;exact⟨ag,a2⟩
  ·exact⟨p,ag,ag,λaa=>by have:=I.gQ b aa;omega⟩
 refine⟨by simp[I.sz],I.mJ,λx x1 xJ=> ?_,λx x1 xJ=> ?_,λx x1 xJ=> ?_,I.nx,?_,I.wG.app λop r=>.inl (od r),λop r=> ?_,λop r k=> ?_,λx b j=> ?_,I.mY,λx b j=>.inl (I.bY x b j),gL,I.hO,λb j=>by have:=I.gQ b j;omega,?_⟩
 ·obtain⟨g,l,p⟩:=I.hw x x1 xJ;refine⟨g,by rw[nk ag,qB,l];simp[Nx p],?_⟩;refine Fz p ⟨am,λb j=>.of_eq (eR x b j),λb j=>eM x b j,.of_eq R,.of_eq eE⟩ ⟨λb j=>ag,λ_=>al,λ⟨H,s,v⟩=>⟨H,R.trans s,v⟩,?_⟩;simp only[bL];rw[R]
 ·obtain⟨l,p⟩:=I.hr x x1 xJ;refine⟨l,λs v=>⟨h x _ _ w c (λb j=>eM x b j) (by simp only[bL];rw[eE]) (p s v).1,λh6=> ?_⟩⟩;have:=(p s v).2 h6;unfold Has at this⊢;rw[<-this];simp only[bL];rw[R]
 ·obtain⟨l,p⟩:=I.ht x x1 xJ;refine⟨by rw[xO t (g':=0) ag _ (λop r=>od r)];exact l,λs v=> ?_⟩;obtain⟨ad,hs⟩:=p s v;exact⟨ad,hs.other λop r=>.inl (by rw[od r];omega)⟩
 ·refine CT.app0 I.apart I.ct λop r=> ?_;obtain⟨e,W,rfl⟩:=lC r;refine⟨rfl,λaJ u=> ?_⟩;rcases ab e W with⟨k,o,B,a7⟩|a|⟨U,a⟩|a|⟨k,o,a|a|a⟩
  ·obtain⟨a6,wr,sy⟩:=e;dsimp only at o a7;subst o;simp only[fD,mF,iY]at u;subst u;obtain⟨g1,g2,g3,g4⟩:=gL _ B;refine .inr ⟨?_,λa8 k1 kJ ho=> ?_,λar a8 k1 kJ ap=> ?_⟩
   ·rintro(⟨y,e,aa⟩|a);·cases e;exact g4 aa
    ·cases a
   ·rcases ho with⟨y,e,a|⟨_,a|a,_⟩⟩|⟨ad,e,_⟩
    ·cases e;rcases B with B|⟨l,_⟩;·exact(I.hM a8 _ a).2.1 B
     ·have:=(I.hM a8 _ a).1;omega
    ·cases e;exact g2 a
    ·cases e;exact g3 a
    ·cases e
   ·rcases ap with⟨y,e,a⟩|⟨ad,e,_⟩;·cases e;exact a7 ar (ai a8 _ a)
    ·cases e
  ·obtain⟨a6,wr,sy⟩:=e;dsimp only at a;subst a;cases u
  ·obtain⟨a6,wr,sy⟩:=e;dsimp only at a;subst a;cases u
  ·obtain⟨⟨k,o,j⟩,hk⟩:=a.touch u;exact .inl ⟨.inl ⟨k,o,j▸I.hO.1⟩,by rw[hk];decide⟩
  ·subst a;simp only[mk,fD,mF,iY]at u;subst u;exact .inl ⟨.inl ⟨k,rfl,o▸I.hO.1⟩,az⟩
  ·subst a;simp only[mk,fD,mF,iY]at u;subst u;exact .inl ⟨.inl ⟨k,rfl,o▸I.hO.1⟩,az⟩
  ·subst a;cases u
 ·rcases pE.1 r with a|a;·exact Ol am (I.low op a)
  ·obtain⟨e,W,rfl⟩:=lC a;rcases ab e W with⟨k,o,B,a7⟩|a|⟨U,a⟩|a|⟨k,o,a|a|a⟩
   ·obtain⟨a6,wr,sy⟩:=e;dsimp only at o;subst o;exact(gL _ B).1
   ·obtain⟨a6,wr,sy⟩:=e;dsimp only at a;subst a;trivial
   ·obtain⟨a6,wr,sy⟩:=e;dsimp only at a;subst a;trivial
   ·exact a.low ag
   ·subst a;show k.block<c.heap.size;omega
   ·subst a;show k.block<c.heap.size;omega
   ·subst a;show k.block<c.heap.size;omega
 ·rcases pE.1 r with a|a;·exact I.qo op a k
  ·obtain⟨e,W,rfl⟩:=lC a;refine BA λy x=> ?_;rcases ab e W with⟨k,o,B,a7⟩|a|⟨U,a⟩|a|⟨k,o,a|a|a⟩;·rw[o]at x;cases x
   ·rw[a]at x;cases x
   ·rw[a]at x;cases x
   ·exact a.rel y x
   ·subst a;cases x
   ·subst a;cases x
   ·subst a;cases x
 ·obtain⟨l,p,s⟩:=I.hM x b j;refine⟨ag,λa=> ?_,s⟩;rcases a with a|⟨a,_⟩;·exact p a
  ·omega
 ·obtain⟨H,l,p⟩:=I.wf.T;obtain⟨d,e,U,s,v⟩:=I.wf.E;exact⟨⟨H,R.trans l,p⟩,⟨d,e,U,eE.trans s,v⟩,ac,al⟩
theorem sI(h:C.dy)(a:kK C S L J v s gh f w t){Mo':(Nat->Gh)->Int->Int->Prop}{a':aX}{es:Array bX}(l:f[0]?=ae k)(r:Zs C.Wg S L w c)(o:∀e∈es,xX C.Wg S (grow L w c) e){st j:Int}(b:gO C.ty C.Wg c st j)(p:Mo' gh st j):kK C S (grow L w c) J Mo' (jl s es) gh ((f.map (jI C.P k a' c)).setIfInBounds 0 a') c (t++l7 0 k.frame.fn k.frame.place es):=⟨inv_zero h a.inv a.ro l r ⟨_,_,b⟩ o,⟨_,_,b,p⟩,by rw[vj,a.deaf],a.ro⟩
theorem Zs.refl(Wg:Nat)(S L:Nat->Prop)(w:ak):Zs Wg S L w w:=⟨aL _,λ_ _ _ _=>rfl⟩
theorem Zs.set{Wg:Nat}{L:Nat->Prop}{a:aH}(v:au)(h:a.block=Wg):Zs Wg Z L W (W.setCell a v):=by
 have:=mG W a v;exact⟨by rw[this.size];exact aL _,λb _ _ c=>this.block b (by rw[h];exact c)⟩
theorem vO(L:Nat->Prop)(w:ak)(a:aH)(v:au):grow L w (w.setCell a v)=L:=by
 have:=(mG w a v).size;funext b;exact propext ⟨λh=>h.elim id λx=>ag,.inl⟩
variable {H:au->ak->Prop} {fr:aC} {y:List aC} {B:ak}
theorem IG(Wg:Nat):∀e∈ #[rd (dB Wg),wr (dB Wg)],nP Wg e:=by
 intro e a;simp at a;rcases a with rfl|rfl;·exact .inr (.inr ⟨_,_,rfl,rfl⟩)
 ·exact .inr (.inr ⟨_,_,rfl,rfl⟩)
theorem IF(Wg:Nat):∀e∈ #[rd (dB Wg)],nP Wg e:=by
 intro e a;simp at a;subst a;exact .inr (.inr ⟨_,_,rfl,rfl⟩)
theorem eV.add(h:C.dy)(Z:J+1-C.m<2147483600)(r:∀v:Nat,v<2147483600->∃c a,(∀w,Rl S L B w->gO C.ty C.Wg w ((v:Int)*KK) 0->aZ C.P aq (aw fr y) w=.go (aw c a) (w.setCell (dB C.Wg) (.int .u64 (((v:Int)+1)*KK))) #[rd (dB C.Wg),wr (dB C.Wg)])/\eV C H S L J (en C J 1 vb) s c a B):eV C H S L J (en C J 0 vb) s fr y B:=by
 refine .um h (gD h Z ag) λw f p t gh l k j=> ?_;obtain⟨st,sm,m1,m2,rfl,rfl,m5⟩:=j.mo;have hv:=Au (m:=C.m) (J:=J) (gh:=gh);obtain⟨c,a,u,x⟩:=r (Vg C.m J gh) ag;have o:gO C.ty C.Wg w (((Vg C.m J gh:Nat):Int)*KK) 0:=by simpa using m1
 have W:0<f.size:=(cq.1 k).1;refine⟨_,_,oh (P:=C.P) (sl:=p) (i:=0) k (show aZ C.P (0==0) _ _=_ from u w l o),?_⟩;have N:∀b,L b->b≠C.Wg:=λb R e=>(j.inv.hL b R).2.2.2 (e▸j.inv.hO.1);have:=sI (Mo':=en C J 1 vb) h j k (a':=aw c a) (Zs.set (.int .u64 ((((Vg C.m J gh:Nat):Int)+1)*KK)) rfl) (es:= #[rd (dB C.Wg),wr (dB C.Wg)]) (λe U=>.inr (.inr (.inr (.inl (IG _ e U))))) (o.setSt _) ⟨m2,az,rfl,m5⟩;rw[vO]at this;exact x _ _ p _ gh (l.trans (uG N _ rfl _)) (by simp[W]) this
theorem eV.load(h:C.dy)(R:J+1-C.m<2147483600)(p:∀v:Nat,v<=vb->v<2147483600->∃b a,(∀w,Rl S L B w->gO C.ty C.Wg w ((v:Int)*KK) 0->aZ C.P aq (aw fr y) w=.go (aw b a) w #[rd (dB C.Wg)])/\eV C H S L J (en C J 0 v) s b a B):eV C H S L J (en C J 0 vb) s fr y B:=by
 refine .um h (gD h R ag) λw f o t gh j c k=> ?_;obtain⟨st,sm,l,W,rfl,rfl,Z⟩:=k.mo;have hv:=Au (m:=C.m) (J:=J) (gh:=gh);obtain⟨b,a,r,u⟩:=p (Vg C.m J gh) Z ag;have U:gO C.ty C.Wg w (((Vg C.m J gh:Nat):Int)*KK) 0:=by simpa using l
 have N:0<f.size:=(cq.1 c).1;refine⟨_,_,oh (P:=C.P) (sl:=o) (i:=0) c (show aZ C.P (0==0) _ _=_ from r w j U),?_⟩;have:=sI (Mo':=en C J 0 (Vg C.m J gh)) h k c (a':=aw b a) (Zs.refl C.Wg S L w) (es:= #[rd (dB C.Wg)]) (λe x=>.inr (.inr (.inr (.inl (IF _ e x))))) l ⟨W,rfl,rfl,aL _⟩;rw[<-oT]at this;exact u _ _ o _ gh j (by simp[N]) this
theorem eV.Qz{vs:Nat}{fr1 fr2:aC}{cs1 cs2:List aC}(h:C.dy)(Z:J+1-C.m<2147483600)(a6:1<=vs)(N:∀w,Rl S L B w->gO C.ty C.Wg w ((vs:Int)*KK) 0->aZ C.P aq (aw fr y) w=.go (aw fr1 cs1) (w.setCell (dB C.Wg) (.int .u64 ((vs:Int)*KK+1))) #[rd (dB C.Wg),wr (dB C.Wg)])(a1:eV C H S L J (oF C J) s fr1 cs1 B)(R:∀w (v:Nat),Rl S L B w->v<vs->gO C.ty C.Wg w ((v:Int)*KK) 0->aZ C.P aq (aw fr y) w=.go (aw fr2 cs2) w #[rd (dB C.Wg)])(a2:eV C H S L J (en C J 0 (vs-1)) s fr2 cs2 B):eV C H S L J (en C J 0 vs) s fr y B:=by
 refine .um h (gD h Z ag) λw f k t gh j a c=> ?_;obtain⟨st,sm,u,x,rfl,rfl,m5⟩:=c.mo;have o:gO C.ty C.Wg w (((Vg C.m J gh:Nat):Int)*KK) 0:=by simpa using u
 have p:0<f.size:=(cq.1 a).1;have U:∀b,L b->b≠C.Wg:=λb W e=>(c.inv.hL b W).2.2.2 (e▸c.inv.hO.1);by_cases r:Vg C.m J gh=vs
 ·refine⟨_,_,oh (P:=C.P) (sl:=k) (i:=0) a (show aZ C.P (0==0) _ _=_ from N w j (r▸o)),?_⟩;have:=sI (Mo':=oF C J) h c a (a':=aw fr1 cs1) (Zs.set (.int .u64 ((vs:Int)*KK+1)) rfl) (es:= #[rd (dB C.Wg),wr (dB C.Wg)]) (λe l=>.inr (.inr (.inr (.inl (IG _ e l))))) (o.setSt _) (.inl ⟨x,ag,by rw[r],rfl⟩);rw[vO]at this;exact a1 _ _ k _ gh (j.trans (uG U _ rfl _)) (by simp[p]) this
 ·refine⟨_,_,oh (P:=C.P) (sl:=k) (i:=0) a (show aZ C.P (0==0) _ _=_ from R w _ j ag o),?_⟩;have:=sI (Mo':=en C J 0 (vs-1)) h c a (a':=aw fr2 cs2) (Zs.refl C.Wg S L w) (es:= #[rd (dB C.Wg)]) (λe l=>.inr (.inr (.inr (.inl (IF _ e l))))) u ⟨x,rfl,rfl,ag⟩;rw[<-oT]at this;exact a2 _ _ k _ gh j (by simp[p]) this
end
end
