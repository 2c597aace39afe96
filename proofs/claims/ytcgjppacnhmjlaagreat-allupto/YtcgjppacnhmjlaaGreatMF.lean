/- Own texts: SimM, SimN, SimO, SimP. -/
import Derived.Test.YtcgjppacnhmjlaaGreatME
import Derived.KernelRfl
import Derived.Calls
set_option linter.all false
open Array renaming all_eq_true_iff_forall_mem->jh,mem_of_getElem?->lH
open Array.mk renaming injEq->H7
open Bind renaming bind->eN
open Bool renaming true->aq,false->ax
open Classical renaming choose->l6,choose_spec->uS,not_forall->O8
open Except renaming pure->D3,bind->D4
open Go renaming World->ak,Value->au,Frame->aC,Goroutine->aX,Calls->aE,TypeId->aK,Program->aV,Addr->aH,execOp->bp,stepG->aZ,FuncId->bW,loadBytes->eQ,Event->bX,Oper->bR,results->ga,Sem->bA,Item->dP,stuck->iO,seen->jo,lone->jq,unwind->rY,doReturn->xP,runN->lM,Machine->Ag,Next->vu,step->pN,load->vx
open Go.Frame renaming enter->bG,finish->qH,oper?->A5,raise->Ho,catches->OA,pos->aL0
open Go.GStep renaming after->jG
open Go.Goroutine.mk renaming injEq->NH
open Go.Machine.mk renaming injEq->NX
open Go.Mode renaming atomic->gM,plain->Df
open Go.Result renaming halt->nD
open Go.Sem renaming bind->dp,runT_fst->fE,run->fu,runT_eq->nE,store->Ab
open Go.Stepped.next renaming injEq->aM2
open Go.World renaming farStore->sZ,freeze->CW,viewStore->Om,drawn->aD9
open Go.stepG renaming exec->fZ
open List renaming mem_cons->dk,length->jk,nil_append->nB
open List.cons renaming injEq->CJ
open Nat renaming le_refl->aL,le_trans->bT,lt_trichotomy->sV,add_assoc->CU,le_add_right->aB4
open Option renaming some->ae,none->af
open Option.some renaming injEq->iY
open Prod.mk renaming injEq->aA0
open Pure renaming pure->bN
namespace Go.Proofs.YtcgjppacnhmjlaaGreat
open Go Classical
namespace Sim
variable {h:BR} {c p:ak} {B:Type} {N:Array bX} {x:aC} {v H:List aC} {y:Ag} {o:bW} {u:au->ak->Prop} {r w:bA B}
abbrev Tape:=Nat->Question->Nat
inductive Ev {l:Type} (f:l->Tape->Nat->Option (l×Nat)) (j:l->Prop):l->Prop
 |stop {s:l}:j s->Ev f j s
 |step {s:l}:(∀tp d,∃x,f s tp d=ae x)->(∀tp d s1 k,f s tp d=ae (s1,k)->Ev f j s1)->Ev f j s
def mr{l:Type}(f:l->Tape->Nat->Option (l×Nat)):Nat->l->Tape->Nat->Option (l×Nat)
 |0,s,_,d=>ae (s,d)
 |n+1,s,tp,d=>match f s tp d with
  |some (s1,k)=>mr f n s1 tp (d+k)
  |none=>af
def ox(b:Tape)(a:Nat)(tp:Tape)(d k:Nat):Prop:=∀j,j<k->∀q,b (a+j) q=tp (d+j) q
section
variable {l:Type} {f:l->Tape->Nat->Option (l×Nat)} {j Inv:l->Prop}
theorem E0(aa:∀s tp d s1 k,Inv s->f s tp d=ae (s1,k)->∀b a,ox b a tp d k->f s b a=ae (s1,k))(a8:∀s tp d,Inv s->f s tp d=af->∃k,∀b a,ox b a tp d k->f s b a=af)(bK:∀s tp d s1 k,Inv s->f s tp d=ae (s1,k)->Inv s1){s0:l}(h0:Inv s0)(ab:∀tp,∃n s d,mr f n s0 tp 0=ae (s,d)/\j s):Ev f j s0:=by
 by_cases U:Ev f j s0;·exact U
 exfalso
 have N:∀s,∃p:Tape×Nat×Nat,Inv s->¬Ev f j s->
   (∃s1,f s p.1 p.2.1=ae (s1,p.2.2)/\¬Ev f j s1)\/(∀b a,ox b a p.1 p.2.1 p.2.2->f s b a=af):=by
  intro s;by_cases Z:Inv s
  ·by_cases W:Ev f j s;·exact⟨(λ_ _=>0,0,0),λ_ h=>absurd W h⟩
   ·have:¬∀tp d,∃s1 k,f s tp d=ae (s1,k)/\Ev f j s1:=λh=>W (.step (λtp d=>let ⟨s1,k,e,_⟩:=h tp d;⟨_,e⟩) λtp d s1 k e=>by obtain⟨s2,k2,R,h2⟩:=h tp d;rw[e]at R;cases R;exact h2);simp only[O8]at this;obtain⟨tp,d,hn⟩:=this;cases o:f s tp d with
    |none=>
     obtain⟨k,hk⟩:=a8 s tp d Z o;exact⟨(tp,d,k),λ_ _=>.inr hk⟩
    |some p=>
     obtain⟨s1,k⟩:=p;exact⟨(tp,d,k),λ_ _=>.inl ⟨s1,o,λh=>hn ⟨s1,k,o,h⟩⟩⟩
  ·exact⟨(λ_ _=>0,0,0),λh=>absurd h Z⟩
 let pick:l->Tape×Nat×Nat:=λs=>l6 (N s);have a6:∀s,Inv s->¬Ev f j s->(∃s1,f s (pick s).1 (pick s).2.1=ae (s1,(pick s).2.2)/\¬Ev f j s1)\/(∀b a,ox b a (pick s).1 (pick s).2.1 (pick s).2.2->f s b a=af):=λs=>uS (N s);let nxt:l×Nat->l×Nat:=λx=>if h:∃s1,f x.1 (pick x.1).1 (pick x.1).2.1=ae (s1,(pick x.1).2.2)/\¬Ev f j s1 then(l6 h,x.2+(pick x.1).2.2)else x
 let st:Nat->l×Nat:=λi=>Nat.rec (s0,0) (λ_ x=>nxt x) i;have ac:st 0=(s0,0):=rfl;have v:∀i,st (i+1)=nxt (st i):=λ_=>rfl;have w:∀i,Inv (st i).1/\¬Ev f j (st i).1:=by
  intro i;induction i with
  |zero=>exact⟨h0,U⟩
  |succ i t=>
   rw[v];show Inv (nxt (st i)).1/\¬Ev f j (nxt (st i)).1;by_cases h:∃s1,f (st i).1 (pick (st i).1).1 (pick (st i).1).2.1=ae (s1,(pick (st i).1).2.2)/\¬Ev f j s1
   ·have e:nxt (st i)=(l6 h,(st i).2+(pick (st i).1).2.2):=dif_pos h;rw[e];exact⟨bK _ _ _ _ _ t.1 (uS h).1,(uS h).2⟩
   ·have e:nxt (st i)=st i:=dif_neg h;rw[e];exact t
 have mono:∀i c,i<=c->(st i).2<=(st c).2:=by
  intro i c B;induction B with
  |refl=>exact aL _
  |@step c _ t=>
   refine bT t ?_;rw[v];show(st c).2<=(nxt (st c)).2;by_cases h:∃s1,f (st c).1 (pick (st c).1).1 (pick (st c).1).2.1=ae (s1,(pick (st c).1).2.2)/\¬Ev f j s1
   ·have e:nxt (st c)=(l6 h,(st c).2+(pick (st c).1).2.2):=dif_pos h;rw[e];exact aB4 _ _
   ·have e:nxt (st c)=st c:=dif_neg h;rw[e];exact aL _
 have apart:∀i c,i<c->(st i).2+(pick (st i).1).2.2<=(st c).2\/st c=st i:=by
  intro i c B;by_cases h:∃s1,f (st i).1 (pick (st i).1).1 (pick (st i).1).2.1=ae (s1,(pick (st i).1).2.2)/\¬Ev f j s1
  ·left;have e:nxt (st i)=(l6 h,(st i).2+(pick (st i).1).2.2):=dif_pos h;have:=mono (i+1) c B;rw[v,e]at this;exact this
  ·right;have e:nxt (st i)=st i:=dif_neg h;have:∀m,st (i+m)=st i:=by
    intro m;induction m with
    |zero=>rfl
    |succ m t=>rw[<-CU,v,t];exact e
   have:=this (c-i);rwa[show i+(c-i)=c by omega]at this
 let T:Tape:=λn q=>if h:∃i,(st i).2<=n/\n<(st i).2+(pick (st i).1).2.2 then
  (pick (st (l6 h)).1).1 ((pick (st (l6 h)).1).2.1+(n-(st (l6 h)).2)) q else 0
 have H:∀i,ox T (st i).2 (pick (st i).1).1 (pick (st i).1).2.1 (pick (st i).1).2.2:=by
  intro i c hj q;have u:∃r,(st r).2<=(st i).2+c/\(st i).2+c<(st r).2+(pick (st r).1).2.2:=⟨i,ag,ag⟩;have e:T ((st i).2+c) q=(pick (st (l6 u)).1).1 ((pick (st (l6 u)).1).2.1+((st i).2+c-(st (l6 u)).2)) q:=dif_pos u;rw[e];have hc:=uS u;generalize l6 u=r at hc⊢;have:st r=st i:=by
   rcases sV r i with a2|heq|a1
   ·rcases apart r i a2 with h|h;·omega
    ·exact h.symm
   ·rw[heq]
   ·rcases apart i r a1 with h|h;·omega
    ·exact h
  rw[this,show(st i).2+c-(st i).2=c by omega]
 have run:∀n i s d,mr f n (st i).1 T (st i).2=ae (s,d)->¬Ev f j s:=by
  intro n;induction n with
  |zero=>intro i s d h;cases h;exact(w i).2
  |succ n t=>
   intro i s d h;by_cases o:∃s1,f (st i).1 (pick (st i).1).1 (pick (st i).1).2.1=ae (s1,(pick (st i).1).2.2)/\¬Ev f j s1
   ·have e:nxt (st i)=(l6 o,(st i).2+(pick (st i).1).2.2):=dif_pos o;have a7:=aa _ _ _ _ _ (w i).1 (uS o).1 T (st i).2 (H i);refine t (i+1) s d ?_;rw[v,e];simp only[mr,a7]at h;exact h
   ·rcases a6 (st i).1 (w i).1 (w i).2 with y|y;·exact absurd y o
    ·have:=y T (st i).2 (H i);simp only[mr,this]at h;cases h
 obtain⟨n,s,d,hr,hS⟩:=ab T;exact run n 0 s d hr (.stop hS)
end
def re(w:ak)(tp:Tape)(d:Nat):World:={w with tape:=tp,drawn:=d}
theorem uE(w:ak):re w w.tape w.drawn=w:=rfl
theorem BV(w:ak)(tp:Tape)(d:Nat)(P:aV)(a:aH)(b:Bool):(re w tp d).farLoad P a b=w.farLoad P a b:=rfl
theorem Ms(w:ak)(tp:Tape)(d:Nat)(P:aV)(a:aH)(v:au)(b:Bool):(re w tp d).farStore P a v b=(w.farStore P a v b).map λx=>(re x.1 tp d,x.2):=by
 unfold sZ;show(match w.heap[a.block]? with|some (.view at_ u)=>_|_=>_)=_;cases w.heap[a.block]? with
 |none=>rfl
 |some o=>
  cases o with
  |view x u=>
   dsimp only;have:(re w tp d).viewStore P x u a v b=(w.viewStore P x u a v b).map λx=>(re x.1 tp d,x.2):=by
    unfold Om;simp only[eN,D4,bN,D3];rw[show(re w tp d).seen P x u a b=w.seen P x u a b from rfl];split;·rfl
    ·cases w.seen P x u a b with
     |error s=>rfl
     |ok q=>
      obtain⟨c,e,f,n,j,h⟩:=q;dsimp only;cases v.bytes? with
      |none=>rfl
      |some bytes=>
       dsimp only;split;·rfl
       ·generalize (List.foldlM (m:=Except String) _ c h)=r;cases r<;>rfl
   rw[this];cases w.viewStore P x u a v b<;>rfl
  |_=>rfl
theorem lE{V:aK->Prop}{N:Nat}{G:bW->Prop}{S:Nat->Nat->Prop}(f:WR V N G h S c p)(tp b:Tape)(d a:Nat):WR V N G h S (re c tp d) (re p b a):=⟨f.dC,f.low,f.sl,f.blk⟩
theorem ae6(w:ak)(tp:Tape)(d:Nat)(a:aH)(n:Nat):(re w tp d).freeze a n=re (w.freeze a n) tp d:=by
 unfold CW;split<;>rfl
def se(P:aV)(s:bA B)(w:ak)(tp:Tape)(d:Nat):Prop:=
 (∀f c,s.run P (re w tp d)=.ok f c->∃k,c=re c tp (d+k)/\∀b a,ox b a tp d k->s.run P (re w b a)=.ok f (re c b (a+k)))/\
 (∀x c,s.run P (re w tp d)=.halt x c->∃k,∀b a,ox b a tp d k->∃j h,s.run P (re w b a)=.halt j h)
variable {t:Tape}
theorem se.halt{P:aV}{d:Nat}(h:∀t d,∃x f,r.run P (re c t d)=.halt x f):se P r c t d:=⟨λk f e=>by(obtain⟨x,l,j⟩:=h t d;rw[e]at j;cases j),λx f e=>⟨0,λb a _=>h b a⟩⟩
theorem se.of{P:aV}{d:Nat}(h:se P w p t d)(e:∀t d,r.run P (re c t d)=w.run P (re p t d)):se P r c t d:=⟨λo l x=>by obtain⟨k,s,f⟩:=h.1 o l (by rw[<-e];exact x);exact⟨k,s,λb a j=>by rw[e];exact f b a j⟩,
  λx l y=>by obtain⟨k,f⟩:=h.2 x l (by rw[<-e];exact y);exact⟨k,λb a j=>by rw[e];exact f b a j⟩⟩
theorem Ks{P:aV}{w:ak}:∀(n:Nat){a:aH} {acc s:ByteArray} {c:ak} {tp:Tape} {d:Nat},(eQ a acc n).run P w=.ok s c->(eQ a acc n).run P (re w tp d)=.ok s (re w tp d)
 |0,a,acc,s,c,tp,d,h=>by cases h;rfl
 |n+1,a,acc,s,c,tp,d,h=>by
  simp only[eQ,vx,eN,dp,fu]at h⊢;rw[show(re w tp d).cell? a=w.cell? a from rfl,BV]
  have fin:∀v:au,(match v with| .int .u8 b=>eQ (a.add 1) (acc.push b.toNat.toUInt8) n|_=>iO "a byte variable that holds no byte").run P w=.ok s c->(match v with| .int .u8 b=>eQ (a.add 1) (acc.push b.toNat.toUInt8) n|_=>iO "a byte variable that holds no byte").run P (re w tp d)=.ok s (re w tp d):=by
   intro v f;cases v with
   |int k m=>cases k<;>first|(cases f;done)|exact Ks n f
   |_=>cases f
  cases j:w.cell? a with
  |some v=>rw[j]at h;exact fin v h
  |none=>
   rw[j]at h;cases l:w.farLoad P a (Df==gM)with
   |error x=>rw[l]at h;cases h
   |ok p=>rw[l]at h;exact fin p.1 h
theorem Kt{P:aV}{w:ak}:∀(n:Nat){a:aH} {acc:ByteArray} {x:Halt} {c:ak} {tp:Tape} {d:Nat},(eQ a acc n).run P w=.halt x c->∃j f,(eQ a acc n).run P (re w tp d)=.halt j f
 |0,a,acc,x,c,tp,d,h=>by cases h
 |n+1,a,acc,x,c,tp,d,h=>by
  simp only[eQ,vx,eN,dp,fu]at h⊢;rw[show(re w tp d).cell? a=w.cell? a from rfl,BV]
  have fin:∀v:au,(match v with| .int .u8 b=>eQ (a.add 1) (acc.push b.toNat.toUInt8) n|_=>iO "a byte variable that holds no byte").run P w=.halt x c->∃(j:Halt) (f:ak),fu P (match v with| .int .u8 b=>eQ (a.add 1) (acc.push b.toNat.toUInt8) n|_=>iO "a byte variable that holds no byte") (re w tp d)=.halt j f:=by
   intro v r;cases v with
   |int k m=>cases k<;>first|exact Kt n r|exact⟨_,_,rfl⟩
   |_=>exact⟨_,_,rfl⟩
  cases l:w.cell? a with
  |some v=>rw[l]at h;exact fin v h
  |none=>
   rw[l]at h;cases o:w.farLoad P a (Df==gM)with
   |error y=>exact⟨_,_,rfl⟩
   |ok p=>rw[o]at h;exact fin p.1 h
theorem aD.FM{X:Ctx}{A:BR->B->B->Prop}(hV:∀ai,X.vw ai->gP X.P ai)(a8:aD X A h r w):w=r->∀{c:ak}(tp:Tape) (d:Nat),(∀j p,h j p->j=p)->WR X.vw X.P.globals.size X.G h (λ_ _=>False) c c->se X.P r c tp d:=by
 induction a8 with
 |pure a8=>
  intro e c tp d l f;exact⟨λj w1 x=>by cases x;exact⟨0,rfl,λb a _=>rfl⟩,λx w1 y=>by cases y⟩
 |@load h m j R k k' t _ o=>
  intro e c tp d l f;cases e;cases u:c.cell? j with
  |some v=>
   obtain⟨v',al,hv⟩:=f.cell t u;rw[u]at al;cases al;exact(o v v hv rfl tp d l f).of λtp d=>by simp only[fu];rw[show(re c tp d).cell? j=ae v from u]
  |none=>
   cases W:c.farLoad X.P j (m==gM)with
   |error x=>exact .halt λtp d=>⟨x,re c tp d,by simp only[fu];rw[show(re c tp d).cell? j=af from u,BV,W]⟩
   |ok ad=>
    obtain⟨v,ac⟩:=ad;obtain⟨hv,hl⟩:=WR.E6 hV f t W;exact(o v v hv rfl tp d l f).of λtp d=>by simp only[fu];rw[show(re c tp d).cell? j=af from u,BV,W]
 |@store h m j R v v' k k' t hv _ o=>
  intro e c tp d l f;cases e
  have key:(∀c,(Ab m j v k).run X.P c=(match c.cell? j with
    |some _=>if c.frozen? j then nD (.unsupported (.unsafePointer "a write to bytes that a string shares")) c else k.run X.P (c.setCell j v)
    |none=>match c.farStore X.P j v (m==gM)with
     | .ok (c,_)=>k.run X.P c
     | .error a8=>nD a8 c))->se X.P (.store m j v k) c tp d:=by
   intro ab;cases u:c.cell? j with
   |none=>
    cases W:c.farStore X.P j v (m==gM)with
    |error x=>exact .halt λtp d=>⟨x,re c tp d,by rw[ab,show(re c tp d).cell? j=af from u];dsimp only;rw[Ms,W];rfl⟩
    |ok ad=>
     obtain⟨w2,ac⟩:=ad;obtain⟨q,ao,c',aT,aP,s,H,U,h4,h6,h5⟩:=f.Js t W;subst U;obtain⟨Z,a2⟩:=f.LZ (B:=λ_=>True) l s H h4 h6;exact(o rfl tp d l Z).of λtp d=>by rw[ab,show(re c tp d).cell? j=af from u];dsimp only;rw[Ms,W];rfl
   |some v0=>
    cases W:c.frozen? j with
    |true=>exact .halt λtp d=>⟨_,re c tp d,by rw[ab,show(re c tp d).cell? j=ae v0 from u];dsimp only;rw[show(re c tp d).frozen? j=aq from W];rfl⟩
    |false=>
     obtain⟨Z,a2⟩:=f.set (B:=λ_=>True) t hv u W;exact(o rfl tp d l Z).of λtp d=>by rw[ab,show(re c tp d).cell? j=ae v0 from u];dsimp only;rw[show(re c tp d).frozen? j=ax from W];rfl
  cases hv<;>first|exact key (λc=>rfl)|exact .halt λtp d=>⟨_,_,rfl⟩
 |@new h ao c' e k k' u _ o=>
  intro e c tp d l f;cases e;obtain⟨Z,a2⟩:=f.push (B:=λ_=>True) (f.Bt u _);have a1:∀j p,h.add c.heap.size c.heap.size j p->j=p:=λj p x=>x.elim (l j p) λy=>y.1.trans y.2.symm;exact(o c.heap.size c.heap.size (λp N=>by have:=(f.lt N).1;omega) (λp N=>by have:=(f.lt N).2;omega) f.low.1 f.low.2 rfl tp d a1 Z).of λtp d=>rfl
 |@newN h x x' ac k k' u _ o=>
  intro e c tp d l f;cases e;obtain⟨Z,a2⟩:=f.push (B:=λ_=>True) (f.Fc u ac);have a1:∀j p,h.add c.heap.size c.heap.size j p->j=p:=λj p x=>x.elim (l j p) λy=>y.1.trans y.2.symm;exact(o c.heap.size c.heap.size (λp N=>by have:=(f.lt N).1;omega) (λp N=>by have:=(f.lt N).2;omega) f.low.1 f.low.2 rfl tp d a1 Z).of λtp d=>rfl
 |@newV h x x' ai k k' hz u _ o=>
  intro e c tp d l f;cases e;obtain⟨Z,a2⟩:=f.push (B:=λ_=>True) (f.Lg hz u);have a1:∀j p,h.add c.heap.size c.heap.size j p->j=p:=λj p x=>x.elim (l j p) λy=>y.1.trans y.2.symm;exact(o c.heap.size c.heap.size (λp N=>by have:=(f.lt N).1;omega) (λp N=>by have:=(f.lt N).2;omega) f.low.1 f.low.2 rfl tp d a1 Z).of λtp d=>rfl
 |@getN h a7 r' k k' am _ _ o aF=>
  intro e c tp d l f;cases e;obtain⟨aJ,o',s,H,U⟩:=f.blk _ _ am;rw[s]at H;cases H;cases U with
  |cells=>exact .halt λtp d=>⟨_,re c tp d,by simp only[fu];rw[show(re c tp d).heap[a7]?=_ from s]⟩
  |number U=>exact(o _ _ _ U rfl tp d l f).of λtp d=>by simp only[fu];rw[show(re c tp d).heap[a7]?=_ from s]
  |view hz U=>exact(aF _ _ _ hz U rfl tp d l f).of λtp d=>by simp only[fu];rw[show(re c tp d).heap[a7]?=_ from s]
 |@shape h a7 r' k k' am _ o=>
  intro e c tp d l f;cases e;exact(o (c.shape? a7) _ (.inl rfl) rfl tp d l f).of λtp d=>rfl
 |@ustr h j R e n k k' t hu _ o=>
  intro e' c tp d l f;have ap:R=j:=by
   obtain⟨p,aJ,r⟩:=j;obtain⟨b',o',w⟩:=R;obtain⟨s,H,U⟩:=t;have:=l _ _ s;dsimp only at this H U;subst this H U;rfl
  subst ap;by_cases hl:mf X.P c R e n=aq
  ·have N:(eQ R .empty n).runT X.P c #[]=((eQ R .empty n).run X.P c,((eQ R .empty n).runT X.P c #[]).2):=by rw[<-fE X.P _ _ #[]]
   have aa:∀tp d,mf X.P (re c tp d) R e n=true:=λtp d=>hl;rcases f.DS hV n .empty t .nil N with⟨r,s,U⟩|⟨y,w2,s,hy⟩
   ·have ar:∀tp d,(eQ R .empty n).run X.P (re c tp d)=.ok r (re c tp d):=λtp d=>Ks n s;have hk:=Ns e' hl (by rw[N,s]);obtain⟨Z,a2⟩:=f.freeze (B:=λ_=>True) t n λ_ _ _ _=>trivial;exact(o r hk tp d l Z).of λtp d=>by rw[GA,if_pos (aa tp d),ar tp d];simp only[ae6]
   ·exact .halt λtp d=>by
     obtain⟨x',cS,H⟩:=Kt n s (tp:=tp) (d:=d);exact⟨x',cS,by rw[GA,if_pos (aa tp d),H]⟩
  ·have aa:∀tp d,¬mf X.P (re c tp d) R e n=true:=λtp d=>hl;exact .halt λtp d=>⟨_,re c tp d,by rw[GA,if_neg (aa tp d)]⟩
 |@frozen h j R k k' aR t _ o=>
  intro e c tp d l f;cases e;exact(o (c.frozen? j) rfl tp d l f).of λtp d=>rfl
 |@choose h q k k' _ o=>
  intro e c tp d l f;cases e;by_cases hq:q.forced=aq;·exact(o 0 rfl tp d l f).of λtp d=>by simp only[fu];rw[if_pos hq]
  ·have run:∀tp d,(Sem.choose q k).run X.P (re c tp d)=(k (q.cut (tp d q))).run X.P (re c tp (d+1)):=λtp d=>by simp only[fu];rw[if_neg hq];rfl
   have:=o (q.cut (tp d q)) rfl tp (d+1) l f;have an:∀{b a k},ox b a tp d (k+1)->b a q=tp d q/\ox b (a+1) tp (d+1) k:=by
    intro b a k t;refine⟨by simpa using t 0 ag q,λa6 hj q=> ?_⟩;have:=t (a6+1) ag q;rw[show a+1+a6=a+(a6+1) by omega,show d+1+a6=d+(a6+1) by omega];exact this
   refine⟨λj w1 x=> ?_,λx w1 y=> ?_⟩
   ·obtain⟨k1,s,H⟩:=this.1 j w1 (by rw[<-run];exact x);refine⟨k1+1,by rw[show d+(k1+1)=d+1+k1 by omega];exact s,λb a t=> ?_⟩;obtain⟨e1,e2⟩:=an t;rw[run,e1,H b (a+1) e2,show a+1+k1=a+(k1+1) by omega]
   ·obtain⟨k1,H⟩:=this.2 x w1 (by rw[<-run];exact y);refine⟨k1+1,λb a t=> ?_⟩;obtain⟨e1,e2⟩:=an t;rw[run,e1];exact H b (a+1) e2
 |program _ o=>
  intro e c tp d l f;cases e;exact(o rfl tp d l f).of λtp d=>rfl
 |@mark h m k k' hm _ o=>
  intro e c tp d l f;cases e;exact(o rfl tp d l f).of λtp d=>rfl
 |@dead h r w av=>
  intro e c tp d l f;exact .halt λtp d=>by obtain⟨y,w2,s,H⟩:=av (re c tp d);exact⟨y,w2,s⟩
def tO:String:= "fmt's door: nobody's"
theorem Ro:tO.startsWith "fmt's door" =true:=ah
theorem Rn:Extern.next tO=none:=ah
def c0(P:aV):Frame:={fn:=P.funcs.size,tmps:= #[],todo:=[.call {target:=.nil,args:= #[]} ax tO #[]],defers:=[],mode:=.run,kind:=.normal}
section
variable {P:aV}
theorem bare_go{g a:aX}(h:aZ P aq g c=.go a p N):(aZ P aq g c).bare=.go a p:=by rw[h];rfl
theorem yG{a:aC}{es:Array bX}(h:aZ P aq (aw x v) c=.go (aw a H) p es):pN P (jq x v c)=.next (jq a H p):=step_lone_go (bare_go h)
theorem Bo{o:Outcome}{es:Array bX}(h:aZ P aq (aw x v) c=.ended o p es):pN P (jq x v c)=.ended o p:=step_lone_ended (by show(aZ P aq (aw x v) c).bare=_;rw[h];rfl)
theorem MJ{m:Ag}{o:Outcome}{w:ak}(h:pN P m=.ended o w){n:Nat}(a:lM P n m=.next y):y=m:=by
 cases n with
 |zero=>cases a;rfl
 |succ n=>simp only[lM,h]at a;cases a
theorem PY{v:au}{n:Nat}(a:lM P n (jq ((c0 P).finish v) [] c)=.next y):y=jq ((c0 P).finish v) [] c:=by
 refine MJ (o:=.stuck ("no extern row " ++tO) (aL0 P ((c0 P).finish v))) (w:=c) (Bo (es:= #[]) ?_) a;simp[aZ,fZ,aw,c0,qH,Rn]
theorem LI:∀(b:List aC){a:aC} {w:ak} {ch:List PanicEntry} {n:Nat} {k:Ag},a.mode=.panicking ch->Plain a->(∃f,P.funcs[a.fn]?=ae f)->(∀c∈b,Plain c/\(∃f,P.funcs[c.fn]?=ae f)/\c.mode=.run)->lM P n (jq a (b++[c0 P]) w)=.next k->∃t x R v,k=jq t x R/\t.mode=.panicking v
 |b,a,w,ch,0,k,j,_,_,_,h=>by cases h;exact⟨a,_,w,ch,rfl,j⟩
 |[],a,w,ch,n+1,k,j,r,⟨f,p⟩,_,h=>by
  have l:pN P (jq a [c0 P] w)=.next (jq ((c0 P).raise ch) [] w):=yG (es:= #[]) (by
   simp[aZ,rY,aw,j,r.defers,OA,p])
  simp only[nB,lM,l]at h;have y:pN P (jq ((c0 P).raise ch) [] w)=.ended (.unsupported (.noEntry "a panic or Goexit out of a method that fmt calls behind a cut's door") (aL0 P ((c0 P).raise ch))) w:=Bo (es:= #[]) (by
   simp[aZ,rY,aw,c0,Ho,OA,Ro])
  rw[MJ y h];exact⟨_,_,_,ch,rfl,rfl⟩
 |c::b,a,w,ch,n+1,k,j,r,⟨f,p⟩,u,h=>by
  have l:pN P (jq a (c::b++[c0 P]) w)=.next (jq (c.raise ch) (b++[c0 P]) w):=yG (es:= #[]) (by
   simp[aZ,rY,aw,j,r.defers,OA,p])
  obtain⟨o,B,H⟩:=u c az;simp only[lM,l]at h;have s:c.raise ch={c with mode:=.panicking ch}:=by simp[Ho,H]
  exact LI b (by rw[s]) (by rw[s];exact⟨o.kind,o.round,o.defers⟩) (by rw[s];exact B) (λc N=>u c (by simp[N])) h
end
def T0:Tape:=λ_ _=>0
def gE(w:ak):World:=re w T0 0
structure LS where
 fr:aC
 fs:List aC
 w:ak
def fx(P:aV)(s:LS)(tp:Tape)(d:Nat):Option (LS×Nat):=
 match (dA P s.fr s.fs).run P (re s.w tp d)with
 | .ok p a=>ae (⟨p.1,p.2,gE a⟩,a.drawn-d)
 | .halt _ _=>af
def iz(X:Ctx)(P:aV)(fs:List Nat)(fz:Bool)(vs:List Nat)(s:LS):Prop:=
 ∃R,(∀a b,R a b->a=b)/\WR X.vw X.P.globals.size X.G R (λ_ _=>False) s.w s.w/\kL X P fs fz vs R (s.fr,s.fs) (s.fr,s.fs)
section
variable {X:Ctx} {P:aV} {fs vs:List Nat} {fz:Bool} {s s1:LS} {tp b:Tape} {d a k:Nat}
theorem iz.uH(G:Good X P fs fz vs)(h:iz X P fs fz vs s):∃R,(∀a b,R a b->a=b)/\WR X.vw X.P.globals.size X.G R (λ_ _=>False) s.w s.w/\kL X P fs fz vs R (s.fr,s.fs) (s.fr,s.fs)/\aD X (kL X P fs fz vs) R (dA X.P s.fr s.fs) (dA X.P s.fr s.fs):=by
 obtain⟨R,j,f,c⟩:=h;exact⟨R,j,f,c,BQ G f.dC c.1 c.2⟩
theorem EV(G:Good X P fs fz vs)(f:∀u,X.vw u->gP X.P u)(h:iz X P fs fz vs s):se X.P (dA X.P s.fr s.fs) s.w tp d:=by
 obtain⟨R,a,b,j,c⟩:=h.uH G;exact c.FM f rfl tp d a b
theorem EX(G:Good X P fs fz vs)(v:∀u,X.vw u->gP X.P u)(h:iz X P fs fz vs s)(c:fx X.P s tp d=ae (s1,k))(o:ox b a tp d k):fx X.P s b a=ae (s1,k):=by
 unfold fx at c⊢;cases l:(dA X.P s.fr s.fs).run X.P (re s.w tp d)with
 |halt x j=>rw[l]at c;cases c
 |ok p j=>
  rw[l]at c;obtain⟨f,r,t⟩:=(EV G v h (tp:=tp) (d:=d)).1 p j l;have y:j.drawn=d+f:=by rw[r];rfl
  cases c;rw[y,show d+f-d=f by omega]at o;rw[t b a o];simp only[iY,aA0];refine⟨rfl,?_⟩;show a+f-a=j.drawn-d;omega
theorem EW(G:Good X P fs fz vs)(o:∀u,X.vw u->gP X.P u)(h:iz X P fs fz vs s)(c:fx X.P s tp d=af):∃k,∀b a,ox b a tp d k->fx X.P s b a=none:=by
 unfold fx at c;cases f:(dA X.P s.fr s.fs).run X.P (re s.w tp d)with
 |ok p j=>rw[f]at c;cases c
 |halt x j=>
  obtain⟨t,l⟩:=(EV G o h (tp:=tp) (d:=d)).2 x j f;refine⟨t,λb a r=> ?_⟩;obtain⟨y,v,e⟩:=l b a r;unfold fx;rw[e]
theorem KM(G:Good X P fs fz vs)(r:∀u,X.vw u->gP X.P u)(h:iz X P fs fz vs s){p:sg}(t:(dA X.P s.fr s.fs).run X.P (re s.w tp d)=.ok p c):iz X P fs fz vs ⟨p.1,p.2,gE c⟩:=by
 obtain⟨R,k,l,v,o⟩:=h.uH G;have:=o.uL r rfl k (lE l tp tp d d) (es:= #[]) .nil (r:=(dA X.P s.fr s.fs).run X.P (re s.w tp d)) (es1:=((dA X.P s.fr s.fs).runT X.P (re s.w tp d) #[]).2) (by rw[<-fE X.P _ _ #[]]);rw[t]at this;obtain⟨a,b,f,j,_,_⟩:=this;exact⟨a,b,lE j _ _ _ _,f⟩
theorem Bq(G:Good X P fs fz vs)(c:∀u,X.vw u->gP X.P u)(h:iz X P fs fz vs s)(a:fx X.P s tp d=ae (s1,k)):iz X P fs fz vs s1:=by
 unfold fx at a;cases b:(dA X.P s.fr s.fs).run X.P (re s.w tp d)with
 |halt x f=>rw[b]at a;cases a
 |ok p f=>rw[b]at a;cases a;exact KM G c h b
theorem YU{i:dP}(h:lA P fs fz vs i=aq):(∃c,i=.code c/\match c with| .skip| .ret| .seq _ _| .cond _ _ _| .block _ _| .loop _| .exit _| .region _ _ _=>True|_=>False)\/(∃id,i=.inBlock id)\/(∃b,i=.inLoop b)\/∃a l,i=.inRegion a l:=by
 cases i with
 |code c=>left;refine⟨c,rfl,?_⟩;cases c<;>first|trivial|cases h
 |inBlock id=>exact .inr (.inl ⟨id,rfl⟩)
 |inLoop b=>exact .inr (.inr (.inl ⟨b,rfl⟩))
 |inRegion a l=>exact .inr (.inr (.inr ⟨a,l,rfl⟩))
 |_=>cases h
theorem iz.next(G:Good X P fs fz vs)(p:∀u,X.vw u->gP X.P u)(h:iz X P fs fz vs s){o:bR}{n:vu}(a:s.fr.oper?=ae o)(t:(bp s.fr.eval o).runT X.P (re s.w tp d) #[]=(.ok n c,N)):Ih n:=by
 obtain⟨R,l,b,f⟩:=h;have r:iu P fs fz vs o.op=true:=by
  unfold A5 at a;split at a
  ·rename_i H i rest k y;have:=f.1.items (.inRegion H (i::rest)) (by show _∈s.fr.todo;rw[y];simp);exact(jh.1 this) o (lH a)
  ·cases a
 have:=(FP G.hX G.F b.dC (ρ:=s.fr.eval) (ρ':=s.fr.eval) (λx B=>f.1.eval G x B) (λv=>⟨rfl,rfl⟩) o r).uL p rfl l (lE b tp tp d d) (es:= #[]) .nil t;obtain⟨U,_,j,_,_,_⟩:=this;cases j<;>trivial
theorem iz.dead(G:Good X P fs fz vs)(r:∀u,X.vw u->gP X.P u)(h:iz X P fs fz vs s)(y:s.fr.mode=.returning->s.fs≠[]){x:Halt}{t:ak}(b:(dA X.P s.fr s.fs).run X.P (re s.w tp d)=.halt x t)(c:List aC){main:Bool}:Dt s.fr c (aZ X.P main (aw s.fr c) (re s.w tp d)):=by
 have U:lO x:=by
  obtain⟨R,j,l,a,v⟩:=h.uH G;have:=v.uL r rfl j (lE l tp tp d d) (es:= #[]) .nil (r:=(dA X.P s.fr s.fs).run X.P (re s.w tp d)) (es1:=((dA X.P s.fr s.fs).runT X.P (re s.w tp d) #[]).2) (by rw[<-fE X.P _ _ #[]]);rw[b]at this;exact this
 have H:(dA X.P s.fr s.fs).runT X.P (re s.w tp d) #[]=(.halt x t,((dA X.P s.fr s.fs).runT X.P (re s.w tp d) #[]).2):=by rw[<-b,<-fE X.P _ _ #[]]
 obtain⟨R,j,l,a⟩:=id h;refine an0 a.1.p c a.1.g y (λW e=> ?_) H U (λo n w2 Z B b=>h.next G r B b) λi k N=>YU (a.1.items i (by show i∈s.fr.todo;rw[N];simp));rcases a.1.nm with f|f<;>·rw[f]at e;cases e
theorem pP.plain(j:pP X P fs fz vs h v H):∀c∈v,Plain c/\(∃f,X.P.funcs[c.fn]?=ae f)/\c.mode=.run:=by
 induction j with
 |nil=>intro c a;cases a
 |cons b k _ l=>
  intro c a;rcases dk.1 a with rfl|a;·exact⟨b.p,b.g,k⟩
  ·exact l c a
theorem ES(G:Good X P fs fz vs)(N:∀a8,X.vw a8->gP X.P a8){frE:aC}(hE:∀t,frE.mode≠ .panicking t):∀(n:Nat)(s:LS)(tp:Tape) (d:Nat),iz X P fs fz vs s->lM X.P n (jq s.fr (s.fs++[c0 X.P]) (re s.w tp d))=.next (jq frE [c0 X.P] c)->∃n' r a,mr (fx X.P) n' s tp d=ae (r,a)/\r.fs=[]/\r.fr=frE/\gE r.w=gE c:=by
 intro n;induction n with
 |zero=>
  intro s tp d u b;obtain⟨ad,a2,av⟩:=s;simp only[lM,aM2,jq,NX,H7,CJ,NH,and_true]at b;obtain⟨x,y,H⟩:=b;refine⟨0,⟨ad,a2,av⟩,d,rfl,?_,y,by rw[<-x];rfl⟩;cases a2 with
  |nil=>rfl
  |cons aJ a2=>exact absurd H (by intro ai;have:=congrArg jk ai;simp at this)
 |succ n ih=>
  intro s tp d u b;have am:=u;obtain⟨aF,h1,h2,j⟩:=am;by_cases a7:s.fr.mode=.returning/\s.fs=[]
  ·exfalso;obtain⟨hm,hf⟩:=a7;obtain⟨ac,U⟩:=j.1.g;have R:=j.1.p.defers;have W:=j.1.p.kind;dsimp only at U R W;cases a6:(ga ac s.fr.tmps).runT X.P (re s.w tp d) #[]with
   |mk ap es=>
    cases ap with
    |ok ar w2=>
     have:pN X.P (jq s.fr (s.fs++[c0 X.P]) (re s.w tp d))=.next (jq ((c0 X.P).finish ar) [] w2):=yG (es:=jo X.P s.fr.fn es) (by
      rw[hf];simp[aZ,rY,aw,hm,R,U,a6,W,xP,jG, -nE])
     simp only[lM,this]at b;have:=PY b;simp only[jq,NX,H7,CJ,NH]at this;simp at this
    |halt aa w2=>
     have:∃o l,pN X.P (jq s.fr (s.fs++[c0 X.P]) (re s.w tp d))=.ended o l:=by
      rw[hf];have:∃o l B,aZ X.P aq (aw s.fr [c0 X.P]) (re s.w tp d)=.ended o l B:=by
       cases aa<;>simp[aZ,rY,aw,hm,R,U,a6,jG, -nE]
      obtain⟨o,l,B,e⟩:=this;exact⟨o,l,Bo e⟩
     obtain⟨o,l,e⟩:=this;simp only[lM,e]at b;cases b
  ·have ao:s.fr.mode=.returning->s.fs≠[]:=λe e'=>a7 ⟨e,e'⟩;cases v:(dA X.P s.fr s.fs).run X.P (re s.w tp d)with
   |ok f h=>
    have hT:(dA X.P s.fr s.fs).runT X.P (re s.w tp d) #[]=(.ok (f.1,f.2) h,((dA X.P s.fr s.fs).runT X.P (re s.w tp d) #[]).2):=by rw[show(f.1,f.2)=f from rfl,<-v,<-fE X.P _ _ #[]]
    have al:=yG (Ca (main:=aq) j.1.p [c0 X.P] hT);simp only[lM,al]at b;obtain⟨k,x,_⟩:=(EV G N u (tp:=tp) (d:=d)).1 f h v;have W:h.drawn=d+k:=by rw[x];rfl
    have hl:fx X.P s tp d=ae (⟨f.1,f.2,gE h⟩,k):=by
     unfold fx;rw[v];simp only[iY,aA0,true_and];omega
    obtain⟨n',r,a,r1,r2,r3,r4⟩:=ih ⟨f.1,f.2,gE h⟩ tp (d+k) (KM G N u v) (by
     show lM X.P n (jq f.1 (f.2++[c0 X.P]) (re (gE h) tp (d+k)))=_;rw[show re (gE h) tp (d+k)=h from x.symm];exact b)
    exact⟨n'+1,r,a,by simp only[mr,hl];exact r1,r2,r3,r4⟩
   |halt aa h=>
    exfalso;rcases u.dead G N ao v (s.fs++[c0 X.P]) (main:=aq)with⟨o,l,B,e⟩|⟨t,l,B,e⟩;·simp only[lM,Bo e]at b;cases b
    ·simp only[lM,yG e]at b;have an:s.fr.mode=.run\/s.fr.mode=.returning:=j.1.nm;have a1:s.fr.raise t={s.fr with mode:=.panicking t}:=by
      unfold Ho;rcases an with e|e<;>rw[e]
     have Z:=j.1.p;obtain⟨aQ,aP,w2,ab,y,H⟩:=LI s.fs (P:=X.P) (ch:=t) (by rw[a1]) (by rw[a1];exact⟨Z.kind,Z.round,Z.defers⟩) (by rw[a1];exact j.1.g) j.2.plain b;simp only[jq,NX,H7,CJ,NH]at y;exact hE ab (by rw[y.2.1.1.1];exact H)
end
theorem yO(h:gE c=gE p):c=re p c.tape c.drawn:=by
 obtain⟨f,o,a,k,u1⟩:=c;obtain⟨j,r,b,l,u2⟩:=p;simp only[gE,re,World.mk.injEq]at h⊢;simp_all
def Am(P:aV)(a:au->ak->Prop)(s:LS):Prop:=
 s.fs=[]/\s.fr.mode=.returning/\∃v fn,a v s.w/\P.funcs[s.fr.fn]?=ae fn/\∀tp d,(ga fn s.fr.tmps).run P (re s.w tp d)=.ok v (re s.w tp d)
section
variable {X:Ctx} {P:aV} {fs vs:List Nat} {fz:Bool}
theorem G3(G:Good X P fs fz vs)(f:∀u,X.vw u->gP X.P u):∀(n:Nat)(s b:LS)(tp:Tape) (d a:Nat),iz X P fs fz vs s->mr (fx X.P) n s tp d=ae (b,a)->iz X P fs fz vs b
 |0,s,b,tp,d,a,c,h=>by cases h;exact c
 |n+1,s,b,tp,d,a,c,h=>by
  simp only[mr]at h;split at h;·rename_i s1 k j;exact G3 G f n s1 b tp _ a (Bq G f c j) h
  ·cases h
theorem Jh(G:Good X P fs fz vs)(l:∀a1,X.vw a1->gP X.P a1)(hg:X.G o)(hb:∃fn a2,X.P.funcs[o]?=ae fn/\fn.body=ae a2){args:Array au}(hd:∀y B,h y B->y=B)(hw:WR X.vw X.P.globals.size X.G h (λ_ _=>False) c c)(t:bq X.G h args args)(hp:∀v c tp d,u v c->u v (re c tp d))(hc:∀tp,aE X.P o args (re c tp 0) λe w'=>∃v,e=.returned v/\u v w'):Ev (fx X.P) (Am X.P u) ⟨bG X.P o args .normal,[],gE c⟩:=by
 have f:iz X P fs fz vs ⟨bG X.P o args .normal,[],gE c⟩:=⟨h,hd,lE hw _ _ _ _,fP.enter G hg t hb,.nil⟩;refine E0 (Inv:=iz X P fs fz vs) (λs tp d s1 k f p b a t=>EX G l f p t) (λs tp d f p=>EW G l f p) (λs tp d s1 k f p=>Bq G l f p) f λtp=> ?_;obtain⟨e,j,ai,⟨v,rfl,ac⟩,a7,am,ab⟩:=hc tp [c0 X.P];obtain⟨n,hn⟩:=a7;obtain⟨H,al,hk,fn,hf,ad⟩:=ab;obtain⟨R,Z,a,U,r2,r,W⟩:=ES G l (λch e=>by rw[H]at e;cases e) n ⟨bG X.P o args .normal,[],gE c⟩ tp 0 f (by exact hn);refine⟨R,Z,a,U,r2,by rw[r];exact H,v,fn,?_,by rw[r];exact hf,?_⟩;·rw[yO W];exact hp v j _ _ ac
 ·have a8:=G3 G l R _ _ _ _ _ f U;obtain⟨R1,e1,e2,e3⟩:=a8;rw[r];have x:=e3.1.tmps;dsimp only at x;rw[r]at x;have N:j=re Z.w j.tape j.drawn:=yO W.symm;have hl:=(BP fn x).FM l rfl j.tape j.drawn e1 e2;obtain⟨k,h1,h2⟩:=hl.1 v j (by rw[<-N];exact ad);have aa:k=0:=by
   have:=congrArg aD9 h1;simp only[re]at this;omega
  subst aa;intro b a6;rw[h2 b a6 (λan hj=>ag)];rw[N];rfl
theorem Th(G:Good X P fs fz vs)(l:∀a1,X.vw a1->gP X.P a1)(hg:X.G o)(hb:∃fn a2,X.P.funcs[o]?=ae fn/\fn.body=ae a2){args:Array au}(hd:∀y B,h y B->y=B)(hw:WR X.vw X.P.globals.size X.G h (λ_ _=>False) c c)(t:bq X.G h args args)(hp:∀v c tp d,u v c->u v (re c tp d))(hc:∀tp,aE X.P o args (re c tp 0) λe w'=>∃v,e=.returned v/\u v w'):Ev (fx X.P) (λs=>Am X.P u s/\s.fr.fn=o) ⟨bG X.P o args .normal,[],gE c⟩:=by
 have f:iz X P fs fz vs ⟨bG X.P o args .normal,[],gE c⟩:=⟨h,hd,lE hw _ _ _ _,fP.enter G hg t hb,.nil⟩;refine E0 (Inv:=iz X P fs fz vs) (λs tp d s1 k f p b a t=>EX G l f p t) (λs tp d f p=>EW G l f p) (λs tp d s1 k f p=>Bq G l f p) f λtp=> ?_;obtain⟨e,j,al,⟨v,rfl,ad⟩,a7,a8,ac⟩:=hc tp [c0 X.P];obtain⟨n,hn⟩:=a7;obtain⟨H,am,hk,fn,hf,ai⟩:=ac;obtain⟨R,Z,a,U,r2,r,W⟩:=ES G l (λch e=>by rw[H]at e;cases e) n ⟨bG X.P o args .normal,[],gE c⟩ tp 0 f (by exact hn);refine⟨R,Z,a,U,⟨r2,by rw[r];exact H,v,fn,?_,by rw[r];exact hf,?_⟩,by rw[r];exact a8⟩;·rw[yO W];exact hp v j _ _ ad
 ·have aa:=G3 G l R _ _ _ _ _ f U;obtain⟨R1,e1,e2,e3⟩:=aa;rw[r];have x:=e3.1.tmps;dsimp only at x;rw[r]at x;have N:j=re Z.w j.tape j.drawn:=yO W.symm;have hl:=(BP fn x).FM l rfl j.tape j.drawn e1 e2;obtain⟨k,h1,h2⟩:=hl.1 v j (by rw[<-N];exact ai);have ab:k=0:=by
   have:=congrArg aD9 h1;simp only[re]at this;omega
  subst ab;intro b a6;rw[h2 b a6 (λan hj=>ag)];rw[N];rfl
end
