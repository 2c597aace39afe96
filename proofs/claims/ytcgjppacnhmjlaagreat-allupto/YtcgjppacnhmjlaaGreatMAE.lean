/- Own texts: FzW. -/
import Derived.Test.YtcgjppacnhmjlaaGreatMAD
set_option linter.all false
open Array renaming getElem?_eq_some_iff->cq,all_eq_true_iff_forall_mem->jh,getElem?_eq_getElem->jV,getElem?_replicate->sP,ext_getElem?->rK,getElem?_eq_none->zC,getD->P9
open Bind renaming bind->eN
open Bool renaming true->aq,false->ax,and_eq_true->dj,or_eq_true->qE,eq_iff_iff->xx
open Classical renaming byContradiction->pC,not_forall->O8
open Decidable renaming decide->aM
open Go renaming World->ak,Value->au,Frame->aC,Program->aV,undef->aN,Operand->bC,execOp->bp,Oper->bR,yielded->fN,Deferred->jH,linearise_go_acc->xw,Item->dP
open Go.Act renaming eval->Dk
open Go.Conc renaming listed->ic
open Go.Frame renaming finish_atR->az9
open Go.Proofs.Tryz renaming prog->aj
open Go.Region renaming ready->dm,linearise->jY,wanted->iJ,binds->nC,Mode->pH
open Go.Region.linearise renaming go->gX
open Inhabited renaming default->fM
open List renaming getElem?_eq_getElem->bf,mem_of_getElem?->cG,mem_cons->dk,all_eq_true->eJ,mem_range->eh,range->dn,mem_filter->gK,getElem?_append_left->nu,getElem?_eq_none->lI,length_filter_le->mB,mem_map->iL,range'->jZ,any_eq_true->pG,reverse_singleton->xh,singleton_append->xi,filter_append->uV,filter_eq_self->xl,range_eq_range'->zI,getElem_of_mem->GV,getD->vc,range'_append_1->NL,mem_range'_1->Oa,mem_flatten->Og,filter_congr->az4,getElem_mem->aA4,getElem_inj->aA5,mapM_cons->aC6
open Nat renaming le_refl->aL,le_trans->bT,zero_le->fL,zero_add->ia,strongRecOn->rN,mod_lt->xK
open Option renaming some->ae,none->af,map_eq_some_iff->ji,map_some->hZ,getD_some->lK,isSome_iff_exists->sO,bind_some->qD
open Pure renaming pure->bN
namespace Go.Proofs.YtcgjppacnhmjlaaGreat
open Go Go.Conc Go.ConcN Go.Conc.Lib Go.ConcR.Gen Go.RowKit
namespace Sim
variable {s:au->ak->Prop} {r:ak} {a:Array bR} {l:List aC} {j:List dP} {h:Array au} {k:List Nat} {p:au} {b:Nat} {o:Nat->au} {c:pH} {f:Nat->Bool}
def dN(a:Array bR)(i:Nat):Nat:=(ew a i).getD 1000000
theorem ay.look{O:Nat->Prop}{fr:aC}{df:List jH}{v:bC->au}{i:Nat}{o:bR}{d:Nat}(N:(fr.kind==.early)=ax)(x:a[i]?=ae o)(B:o.dst=ae d)(U:qn o.op=aq)(H:o.guard=af)(w:bp (Dk ⟨h,df⟩) o=bp v o)(W:gz O r v o p)(R:ay aj s O (aw (fr.atR ⟨h.setIfInBounds d p,df⟩ (.inRegion a k::j)) l) r):ay aj s O (aw (fr.atR ⟨h,df⟩ (.inRegion a (i::k)::j)) l) r:=by
 have b:oG (aw (fr.atR ⟨h,df⟩ (.inRegion a (i::k)::j)) l)=o:=by
  show(a[i]?).getD fM=o;rw[x];rfl
 have f:aG (aw (fr.atR ⟨h,df⟩ (.inRegion a (i::k)::j)) l)=⟨h,df⟩:=rfl;have y:dW (aw (fr.atR ⟨h,df⟩ (.inRegion a (i::k)::j)) l) i:=by
  refine⟨rfl,?_,?_,N,by rw[b];exact U⟩
  ·show a[i]?=ae ((a[i]?).getD fM);rw[x];rfl
  ·rw[b];unfold iJ;rw[H]
 refine .step rfl λu c=> ?_;obtain⟨Z,r2⟩:=W u c;refine⟨_,Sim.re r u c,_,pz (v:=p) y (by rw[b,f,w];exact Z),aL _,λe t=> ?_,?_⟩
 ·unfold ic at t;rw[b,f,w]at t;exact r2 _ e t
 ·have:bt (aw (fr.atR ⟨h,df⟩ (.inRegion a (i::k)::j)) l) p=aw (fr.atR ⟨h.setIfInBounds d p,df⟩ (.inRegion a k::j)) l:=by
   unfold bt;rw[b,f,B];rfl
  rw[this];exact R.re (tp:=u) (d:=c)
def Ld(a:Array bR)(b:List Nat)(nt:Nat):Bool:=vG a&&
 ((dn a.size).all λi=>match a[i]? with
  |none=>ax
  |some o=>(match o.dst with
   |none=>b.contains i
   |some d=>aM (d<nt))&&((dn a.size).all λj=>aM (i=j)||dN a j !=dN a i)&&(b.contains i||(qn o.op&&o.guard.isNone&&
   wj (λx=>match x with
    | .tmp t=>(dn a.size).all λj=>ew a j !=ae t||(dY a i j&& ! b.contains j)
    |_=>aq) o.op)))&&
 ((dn b.length).all λs=>aM (s=0)||dY a (b.getD s 0) (b.getD (s-1) 0))&&b.all (λp=>aM (p<a.size))&&aM b.Nodup&&
 aM (0<b.length)&&aM (b.getD (b.length-1) 0+1=a.size)&&((dn a.size).all λj=>aM (j+1=a.size)||(dn a.size).any λk=>aM (j<k)&&dY a k j)
def Je(a:Array bR)(h:List Nat)(b:Nat->au)(c:Array au):bC->au
 | .tmp t=>match lz a a.size t with
  |some j=>b j
  |none=>c.getD t aN
 | .const v=>v
 | .global g=>.pointer (ae ⟨g,0,af⟩)
 | .func f=>.func (.func f) #[] #[]
theorem ay.mixed{Post:au->ak->Prop}{ops:Array bR}{id:Nat}{df:List jH}{fr:aC}{cs:List aC}{k:List dP}{tm:Array au}{O:Nat->Prop}{W:ak}(a:List Nat)(Vs:Nat->au)(St:Nat->List au->(Nat->Prop)->ak->Prop)(hm:Ld ops a tm.size=aq)(hk:(fr.kind==.early)=ax)(bo:∀s c O W,St s c O W->s<a.length->∀i,i<ops.size->a.contains i=ax->gz O W (Je ops a Vs tm) ((ops[i]?).getD fM) (Vs i))(bb:∀s c O W x rest,St s c O W->s<a.length->c.length=s->(∀j,dY ops (a.getD s 0) j=aq->a.contains j=ax->x (dN ops j)=Vs j)->(∀q,q<s->x (dN ops (a.getD q 0))=c.getD q aN)->(∀aa O' W',St (s+1) (c++[aa]) O' W'->ay aj Post O' (aw (fr.atR ⟨bS (cA ops ops.size) tm (cB x (dN ops (a.getD s 0)) aa),df⟩ (.inRegion ops rest::k)) cs) W')->ay aj Post O (aw (fr.atR ⟨bS (cA ops ops.size) tm x,df⟩ (.inRegion ops (a.getD s 0::rest)::k)) cs) W)(bd:∀c O W x,St a.length c O W->c.length=a.length->(∀q,q<a.length->x (dN ops (a.getD q 0))=c.getD q aN)->ay aj Post O (aw (fr.atR ⟨bS (cA ops ops.size) tm x,df⟩ (.inRegion ops []::k)) cs) W)(h0:St 0 [] O W):ay aj Post O (aw (fr.atR ⟨tm,df⟩ (.code (.region id ops aq)::k)) cs) W:=by
 unfold Ld at hm;simp only[dj]at hm;obtain⟨⟨⟨⟨⟨⟨⟨ao,b0⟩,b2⟩,bj⟩,ad⟩,ar⟩,av⟩,bk⟩:=hm;have ad:=of_decide_eq_true ad;have ar:=of_decide_eq_true ar;have av:=of_decide_eq_true av
 have am:∀i,i<ops.size->∃o,ops[i]?=ae o/\(∀d,o.dst=ae d->d<tm.size)/\(∀j,j<ops.size->dN ops j=dN ops i->i=j)/\(a.contains i=ax->o.dst.isSome=aq/\qn o.op=aq/\o.guard=af/\wj (λx=>match x with
    | .tmp t=>(dn ops.size).all λj=>ew ops j !=ae t||(dY ops i j&& ! a.contains j)
    |_=>aq) o.op=aq):=by
  intro i u;have h:=eJ.1 b0 i (eh.2 u);cases ho:ops[i]? with
  |none=>rw[ho]at h;cases h
  |some o=>
   rw[ho]at h;simp only[dj,qE]at h;obtain⟨⟨r,U⟩,v⟩:=h;refine⟨o,rfl,λd hd=>by rw[hd]at r;exact of_decide_eq_true r,λj b bi=> ?_,λZ=> ?_⟩
   ·have:=eJ.1 U j (eh.2 b);simpa[bi]using this
   ·rcases v with v|v;·rw[Z]at v;cases v
    ·refine⟨?_,v.1.1,by simpa using v.1.2,v.2⟩;cases hd:o.dst with
     |none=>rw[hd]at r;simp only at r;rw[Z]at r;cases r
     |some d=>rfl
 have ap:∀i o d,ops[i]?=ae o->o.dst=ae d->ew ops i=ae d:=λi o d r U=>by simp[ew,r,U]
 have ac:∀i j,i<ops.size->j<ops.size->dN ops i=dN ops j->i=j:=λi j u b e=>by
  obtain⟨o,_,_,h4,_⟩:=am i u;exact h4 j b e.symm
 have y:∀s,s<a.length->a.getD s 0<ops.size/\a.contains (a.getD s 0)=true:=λs hs=>by
  have e:a.getD s 0=a[s]:=by simp[vc,hs]
  rw[e];exact⟨of_decide_eq_true (eJ.1 bj _ (aA4 hs)),az⟩
 have bg:∀i,a.contains i=aq->∃s,s<a.length/\a.getD s 0=i:=λi u=>by
  have:i∈a:=by simpa using u
  obtain⟨s,hs,e⟩:=GV this;exact⟨s,hs,by simp[vc,hs,e]⟩
 have bv:tm=bS (cA ops ops.size) tm (λt=>tm.getD t aN):=F9.symm;obtain⟨n,R⟩:∃n,ops.size=n:=⟨_,rfl⟩;refine .step rfl λtp d=> ?_;obtain⟨md,t',ho⟩:=zi (aj.follows .mixedOrders) ops ((Sim.re W tp d).tape (Sim.re W tp d).drawn (.order fr.fn id));have bs:=Gf (P:=aj) (ops:=ops) (b:=fr) (a:=⟨tm,df⟩) (k:=k) (cs:=cs) (w:=Sim.re W tp d) (id:=id);refine⟨aw (fr.atR ⟨tm,df⟩ (.inRegion ops (jY md ops t')::k)) cs,Sim.re W tp (d+1), #[],?_,aL _,λe Z=>by simp at Z,.re ?_⟩
 ·have e:aw (fr.atR ⟨tm,df⟩ (.code (.region id ops aq)::k)) cs=G (fr.atR ⟨tm,df⟩ (.code (.region id ops aq)::k)) cs:=rfl;rw[e,bs,ho];rfl
 ·have e3:jY md ops t'=gX md ops n t' (cm n λ_=>ax) []:=by
   unfold jY;rw[R];congr 1;apply rK;intro i;by_cases u:i<n;·simp[cm,u,sP]
   ·simp[cm,sP,u,lI (show(dn n).length<=i by simp;omega)]
  have key:=LO (P:=aj) (Post:=Post) (md:=md) (ops:=ops) (n:=n) (g:=λx rest=>aw (fr.atR ⟨bS (cA ops ops.size) tm x,df⟩ (.inRegion ops rest::k)) cs)
   (K:=λl O x a6=>∃s c,St s c O a6/\c.length=s/\s<=a.length/\(∀q,q<a.length->l (a.getD q 0)=aM (q<s))/\(∀q,q<s->x (dN ops (a.getD q 0))=c.getD q aN)/\(∀i,i<n->a.contains i=ax->l i=aq->x (dN ops i)=Vs i)/\∀i,i<n->l i=aq->∀j,dY ops i j=aq->l j=aq) R ao (λl O x a6 i rest hK u aF ab aQ=> ?_) (λl O x a6 hK hl=> ?_) n t' (λ_=>ax) O (λt=>tm.getD t aN) W (by unfold jN;exact bT (mB _ _) az) ⟨0,[],h0,rfl,fL _,λq _=>az,λq f=>ag,λi _ _ h=>(by cases h),λi _ h=>(by cases h)⟩
  ·rw[e3];rw[<-bv]at key;exact key
  ·obtain⟨s,c,hS,a8,aT,r,U,v,ai⟩:=hK;have an:∀k,k<n->cz l i k=aq->∀j,dY ops k j=aq->cz l i j=true:=λk hk aJ j b=>by
    have:l j=true:=by
     by_cases e:k=i;·subst e;exact ab j b
     ·rw[iV l e]at aJ;exact ai k hk aJ j b
    unfold cz;split;·rfl
    ·exact this
   by_cases Z:a.contains i=aq
   ·obtain⟨q,f,rfl⟩:=bg i Z;have bm:q=s:=by
     have:=r q f;rw[aF]at this;have be:s<=q:=by simpa using this.symm
     by_cases e:q=s;·exact e
     ·exfalso;have hc:=eJ.1 b2 q (eh.2 f);simp only[qE,decide_eq_true_eq]at hc;rcases hc with hc|hc;·omega
      ·have:=ab _ hc;rw[r (q-1) ag]at this;have:q-1<s:=by simpa using this
       omega
    subst bm;refine bb q c O a6 x rest hS f a8 (λj b H=>v j ?_ H (ab j b)) U λaa O' W' aU=>aQ O' (cB x (dN ops (a.getD q 0)) aa) W' ⟨q+1,c++[aa],aU,by simp[a8],ag,λp hp=> ?_,λp hp=> ?_,λj b H hl=> ?_,an⟩
    ·obtain⟨o,e,b9,ba,bP,rfl⟩:=DX.1 b;have:=eJ.1 ao (a.getD q 0) (eh.2 (y q f).1);rw[e]at this;have:=eJ.1 this b9 (by simpa using ba);have:=of_decide_eq_true this;have:=(y q f).1;omega
    ·by_cases e:p=q
     ·subst e;rw[show cz l (a.getD p 0) (a.getD p 0)=aq from zj _ _];simp
     ·have w:a.getD p 0≠a.getD q 0:=λB=>by
       have a1:a.getD p 0=a[p]:=by simp[vc,hp]
       have a2:a.getD q 0=a[q]:=by simp[vc,f]
       rw[a1,a2]at B;exact e ((aA5 ad).1 B)
      rw[iV l w,r p hp];exact decide_eq_decide.2 ag
    ·by_cases e:p=q
     ·subst e;rw[x5];simp[vc,a8]
     ·have bl:p<q:=ag;have w:dN ops (a.getD p 0)≠dN ops (a.getD q 0):=λB=>by
       have:=ac _ _ (y p ag).1 (y q f).1 B;have a1:a.getD p 0=a[p]:=by simp[vc,show p<a.length by omega]
       have a2:a.getD q 0=a[q]:=by simp[vc,f]
       rw[a1,a2]at this;exact e ((aA5 ad).1 this)
      rw[rH _ _ w,U p bl];simp[vc,nu (show p<c.length by omega)]
    ·have w:dN ops j≠dN ops (a.getD q 0):=λB=>by
      have:=ac _ _ (by rw[R];exact b) (y q f).1 B;rw[this]at H;rw[(y q f).2]at H;cases H
     rw[rH _ _ w];refine v j b H ?_;have:j≠a.getD q 0:=λB=>by rw[B,(y q f).2]at H;cases H
     rwa[iV l this]at hl
   ·have a7:a.contains i=false:=by simpa using Z
    obtain⟨o,o1,o3,o4,o5⟩:=am i (by rw[R];exact u);obtain⟨o2,o6,o7,o8⟩:=o5 a7;obtain⟨dd,o2⟩:=sO.1 o2;have br:s<a.length:=by
     apply pC;intro be;have b1:∀d j,n-1-j=d->j<n->l j=true:=by
      intro d;induction d using rN with
      |_ d ih=>
       intro j hd b;have:=eJ.1 bk j (eh.2 ag);simp only[qE,decide_eq_true_eq,pG,eh,dj]at this;rcases this with h|⟨k,hk,bU,b6⟩
       ·have e:j=a.getD (a.length-1) 0:=ag;rw[e,r _ ag];simp;omega
       ·exact ai k ag (ih (n-1-k) ag k rfl ag) j b6
     have:=b1 _ i rfl u;rw[aF]at this;cases this
    have f:=bo s c O a6 hS br i (by rw[R];exact u) a7;rw[o1,lK]at f;have al:dN ops i=dd:=by unfold dN;rw[ap i o dd o1 o2];rfl
    have b3:bp (Dk ⟨bS (cA ops ops.size) tm x,df⟩) o=bp (Je ops a Vs tm) o:=by
     refine E3 (λbE hy=> ?_) o8;cases bE with
     |tmp t=>
      have bw:∀j,j<ops.size->ew ops j=ae t->dY ops i j=aq/\a.contains j=false:=λj b N=>by
       have:=eJ.1 hy j (eh.2 b);simpa[N]using this
      show(bS (cA ops ops.size) tm x).getD t aN=match lz ops ops.size t with
       |some j=>Vs j
       |none=>tm.getD t aN
      rw[yK];cases aR:lz ops ops.size t with
      |none=>
       rw[if_neg];rintro⟨hm,_⟩;obtain⟨j,b,N⟩:=lu.1 hm;exact yP aR j b N
      |some j=>
       obtain⟨b,N⟩:=yQ aR;obtain⟨o',q1,q4,_⟩:=am j b;have q2:o'.dst=ae t:=by unfold ew at N;rw[q1]at N;exact N
       rw[if_pos ⟨lu.2 ⟨j,b,N⟩,q4 t q2⟩];obtain⟨y1,y2⟩:=bw j b N;have:=v j ag y2 (ab j y1);unfold dN at this;rw[N]at this;exact this
     |const aa=>rfl
     |global g=>rfl
     |func bM=>rfl
    refine .look hk o1 o2 o6 o7 b3 f ?_;rw[yL (lu.2 ⟨i,by rw[R];exact u,ap i o dd o1 o2⟩)];refine aQ O _ a6 ⟨s,c,hS,a8,aT,λq f=> ?_,λq f=> ?_,λj b H hl=> ?_,an⟩
    ·have w:a.getD q 0≠i:=λe=>by rw[<-e,(y q f).2]at a7;cases a7
     rw[iV l w];exact r q f
    ·have w:dN ops (a.getD q 0)≠dd:=λe=>by
      rw[<-al]at e;have:=ac _ _ (y q ag).1 (by rw[R];exact u) e;rw[<-this,(y q ag).2]at a7;cases a7
     rw[rH _ _ w];exact U q f
    ·by_cases e:j=i;·subst e;rw[al,x5]
     ·have w:dN ops j≠dd:=λB=>e (ac _ _ (by rw[R];exact b) (by rw[R];exact u) (B.trans al.symm));rw[rH _ _ w];exact v j b H (by rwa[iV l e]at hl)
  ·obtain⟨s,c,hS,a8,aT,r,U,v,ai⟩:=hK;have hs:s=a.length:=by
    apply pC;intro w;have aP:s<a.length:=ag;have:=r s aP;rw[hl _ (by rw[<-R];exact(y s aP).1)]at this;simp at this
   subst hs;exact bd c O a6 x hS a8 U
theorem AQ{f:List jH}{c:Nat}(r:(ew a c).isSome=aq):aw ((FD b f (bS (cA a a.size) h o) (.inRegion a (c::k)::j)).finish p) l=aw ((FD b [] #[] []).atR ⟨bS (cA a a.size) h (cB o (dN a c) p),f⟩ (.inRegion a k::j)) l:=by
 have t:=az9 (FD b [] #[] []) ⟨bS (cA a a.size) h o,f⟩ a c k j p;obtain⟨d,r⟩:=sO.1 r;have s:(a[c]?).bind (·.dst)=ae d:=r;have u:c<a.size:=by
  apply pC;intro u;rw[zC ag]at s;cases s
 have v:dN a c=d:=by unfold dN;rw[r];rfl
 rw[s]at t;have e:FD b f (bS (cA a a.size) h o) (.inRegion a (c::k)::j)=(FD b [] #[] []).atR ⟨bS (cA a a.size) h o,f⟩ (.inRegion a (c::k)::j):=rfl;rw[e,t,v,<-yL (lu.2 ⟨c,u,r⟩)];rfl
theorem ay.Bp{O:Nat->Prop}{f:Nat}{i:Nat}{v:au}(b:(ew a i).isSome=aq)(t:qn ((a[i]?).getD fM).op=aq)(p:((a[i]?).getD fM).guard.isNone=aq)(u:gz O r (Dk ⟨bS (cA a a.size) h o,[]⟩) ((a[i]?).getD fM) v)(y:ay aj s O (aw ((FD f [] #[] []).atR ⟨bS (cA a a.size) h (cB o (dN a i) v),[]⟩ (.inRegion a k::j)) l) r):ay aj s O (aw ((FD f [] #[] []).atR ⟨bS (cA a a.size) h o,[]⟩ (.inRegion a (i::k)::j)) l) r:=by
 obtain⟨d,b⟩:=sO.1 b;have x:dN a i=d:=by unfold dN;rw[b];rfl
 cases c:a[i]? with
 |none=>unfold ew at b;rw[c]at b;cases b
 |some B=>
  have w:B.dst=ae d:=by unfold ew at b;rw[c]at b;exact b
  rw[c,lK]at t p u;refine .look (fr:=FD f [] #[] []) (df:=[]) rfl c w t (by simpa using p) rfl u ?_;rw[yL (lu.2 ⟨i,(cq.1 c).1,b⟩),<-x];exact y
theorem Le(f:(cA a a.size).contains (dN a b)=ax):bS (cA a a.size) h (cB o (dN a b) p)=bS (cA a a.size) h o:=F8 λt c=>rH _ _ λe=>by rw[e,f]at c;cases c
def C1(a:Array bR)(c:Nat):Bool:=aM (c<a.size)&&
 ((dn a.size).all λi=>match a[i]? with
  |some o=>o.after.toList.all λe=>aM (e.on<a.size)&&(aM (c<i)||decide (e.on<i))
  |none=>aq)&&
 ((dn c).all λj=>(dn (c+1)).any λk=>aM (j<k)&&dY a k j)&&
 ((dn a.size).all λi=>aM (i<=c)||(dn i).any λj=>aM (c<=j)&&dY a i j)
structure DG(ops:Array bR)(c:Nat):Prop where
 lt:c<ops.size
 on:∀i o,ops[i]?=ae o->∀e∈o.after,e.on<ops.size/\(i<=c->e.on<i)
 next:∀j,j<c->∃k,j<k/\k<=c/\dY ops k j=aq
 late:∀i,c<i->i<ops.size->∃j,c<=j/\dY ops i j=aq
theorem al8(h:C1 a b=aq):DG a b:=by
 unfold C1 at h;simp only[dj]at h;obtain⟨⟨⟨p,r⟩,s⟩,t⟩:=h;refine⟨of_decide_eq_true p,λi o l e u=> ?_,λj f=> ?_,λi y w=> ?_⟩
 ·have:=eJ.1 r i (eh.2 (cq.1 l).1);rw[l]at this;have:=eJ.1 this e (by simpa using u);simp only[dj,qE,decide_eq_true_eq]at this;exact⟨this.1,λx=>ag⟩
 ·obtain⟨k,v,c⟩:=pG.1 (eJ.1 s j (eh.2 f));simp only[dj,decide_eq_true_eq]at c;exact⟨k,c.1,by have:=eh.1 v;omega,c.2⟩
 ·have:=eJ.1 t i (eh.2 w);simp only[qE,decide_eq_true_eq]at this;rcases this with h|h;·omega
  ·obtain⟨j,f,c⟩:=pG.1 h;simp only[dj,decide_eq_true_eq]at c;exact⟨j,c.1,c.2⟩
theorem ae2{n:Nat}{i:Nat}(u:a.size=n)(y:DG a b)(h:i∈dm c a (cm n f)):i<n/\f i=ax/\∀j,dY a i j=aq->f j=true:=by
 unfold dm at h;rw[gK,eh,u,dj]at h;obtain⟨p,r,k⟩:=h;refine⟨p,by rw[na f _ p]at r;simpa using r,λj x=> ?_⟩;obtain⟨o,v,e,t,l,rfl⟩:=DX.1 x;rw[v]at k;simp only[hZ,lK]at k;have s:=(jh.1 k) e t;have w:nC c e=true:=by
  unfold nC at l⊢;split at l<;>first|(cases l;done)|rfl
 rw[w,na f _ (by rw[<-u];exact(y.on i o v e t).1)]at s;simpa using s
theorem ae3{n:Nat}{md:pH}(u:a.size=n)(p:DG a b)(h:∃i,i<=b/\f i=ax):∃i,i∈dm md a (cm n f):=by
 obtain⟨i,k⟩:=h;have w:=p.lt;induction i using rN with
 |_ i v=>
  by_cases c:∀j,j<i->f j=aq
  ·refine⟨i,?_⟩;unfold dm;rw[gK,eh,u,dj];refine⟨ag,by rw[na f _ ag,k.2];rfl,?_⟩;obtain⟨o,l⟩:∃o,a[i]?=ae o:=⟨a[i]'(ag),jV _⟩;rw[l];simp only[hZ,lK];refine jh.2 λe r=> ?_;have:=p.on i o l e r;rw[na f _ ag,c _ (this.2 k.1)];simp
  ·simp only[O8]at c;obtain⟨j,s,t⟩:=c;exact v j s ⟨ag,by simpa using t⟩
theorem ay.al9{P:aV}{Post:au->ak->Prop}{n:Nat}{id:Nat}{df:List jH}{fr:aC}{cs:List aC}{k:List dP}{T:(Nat->au)->Array au}{x:Nat->au}{O:Nat->Prop}{W:(Nat->Bool)->ak}{D:Nat->Nat}{V:Nat->au}(v:a.size=n)(hs:C1 a b=aq)(hD:∀i j,i<b->j<b->D i=D j->i=j)(a7:∀i,i<b->∀l x rest,l i=ax->(∀j,dY a i j=aq->l j=aq/\x (D j)=V j)->ay P Post O (aw (fr.atR ⟨T (cB x (D i) (V i)),df⟩ (.inRegion a rest::k)) cs) (W (cz l i))->ay P Post O (aw (fr.atR ⟨T x,df⟩ (.inRegion a (i::rest)::k)) cs) (W l))(ab:∀x l,(∀j,j<b->l j=aq)->(∀j,j<b->x (D j)=V j)->∀f fuel t,n-b<=fuel->ay P Post O (aw (fr.atR ⟨T x,df⟩ (.inRegion a (gX f a fuel t (cm n λj=>aM (j<b)) [])::k)) cs) (W l)):ay P Post O (aw (fr.atR ⟨T x,df⟩ (.code (.region id a aq)::k)) cs) (W λ_=>ax):=by
 have r:=al8 hs;refine .step rfl λR d=> ?_;obtain⟨f,N,ho⟩:=zi (P.follows .mixedOrders) a ((Sim.re (W λ_=>ax) R d).tape (Sim.re (W λ_=>ax) R d).drawn (.order fr.fn id));have ai:=Gf (P:=P) (ops:=a) (b:=fr) (a:=⟨T x,df⟩) (k:=k) (cs:=cs) (w:=Sim.re (W λ_=>ax) R d) (id:=id);refine⟨aw (fr.atR ⟨T x,df⟩ (.inRegion a (jY f a N)::k)) cs,Sim.re (W λ_=>ax) R (d+1), #[],?_,aL _,λe he=>by simp at he,.re ?_⟩
 ·have e:aw (fr.atR ⟨T x,df⟩ (.code (.region id a aq)::k)) cs=G (fr.atR ⟨T x,df⟩ (.code (.region id a aq)::k)) cs:=rfl;rw[e,ai,ho];rfl
 ·have e3:jY f a N=gX f a n N (cm n λ_=>ax) []:=by
   unfold jY;rw[v];congr 1;apply rK;intro i;by_cases o:i<n;·simp[cm,o,sP]
   ·simp[cm,sP,o,lI (show(dn n).length<=i by simp;omega)]
  rw[e3];have early:∀l:Nat->Bool,sa a n l->(∀j,dY a b j=aq->l j=aq)->∀j,j<b->l j=true:=by
   intro l u Z j c;have key:∀d j,b-j=d->j<b->l j=true:=by
    intro d;induction d using rN with
    |_ d ih=>
     intro j hd c;obtain⟨k,am,an,a2⟩:=r.next j c;by_cases e:k=b;·subst e;exact Z j a2
     ·exact u k (by have:=r.lt;omega) (ih (b-k) ag k rfl ag) j a2
   exact key _ j rfl c
  have key:∀(fuel t:Nat)(l:Nat->Bool) (x:Nat->au),jN n l<=fuel->sa a n l->(∀j,b<=j->l j=ax)->(∀j,j<b->l j=aq->x (D j)=V j)->ay P Post O (aw (fr.atR ⟨T x,df⟩ (.inRegion a (gX f a fuel t (cm n l) [])::k)) cs) (W l):=by
   intro fuel;induction fuel with
   |zero=>
    intro t l x hc u p H;have:=Az (n:=n) (l:=l) ag b (by rw[<-v];exact r.lt);rw[p b (aL _)]at this;cases this
   |succ fuel ih=>
    intro t l x hc u p H;by_cases B:∀j,j<b->l j=aq
    ·have e:l=λj=>aM (j<b):=by
      funext j;by_cases c:j<b;·rw[B j c];simp[c]
      ·rw[p j ag];simp[c]
     have a6:n-b<=fuel+1:=by
      have ao:n-b<=jN n l:=by
       unfold jN;have w:(jZ b (n-b)).Sublist ((dn n).filter λi=> ! l i):=by
        have U:=r.lt;rw[v]at U;have ad:dn n=dn b++jZ b (n-b):=by
         rw[zI,zI,show n=b+(n-b) by omega,<-NL];simp
        rw[ad,uV];have f2:(jZ b (n-b)).filter (λi=> ! l i)=jZ b (n-b):=xl.2 λi o=>by
         rw[Oa]at o;rw[p i o.1];rfl
        rw[f2];exact List.sublist_append_right _ _
       have:=w.length_le;simpa using this
      omega
     have el:cm n l=cm n λj=>aM (j<b):=by rw[e]
     rw[el];exact ab x l B (λj c=>H j c (B j c)) f (fuel+1) t a6
    rw[sx f a fuel t (cm n l)];cases o:(dm f a (cm n l))[t%(dm f a (cm n l)).length]? with
    |none=>
     have ac:dm f a (cm n l)=[]:=by
      cases Z:dm f a (cm n l)with
      |nil=>rfl
      |cons x xs=>
       rw[Z]at o;have U:t%(x::xs).length<(x::xs).length:=xK _ az;rw[bf U]at o;cases o
     obtain⟨j,c⟩:=ae3 (md:=f) v r ⟨b,aL _,p b (aL _)⟩;rw[ac]at c;cases c
    |some i=>
     obtain⟨w,h2,y⟩:=ae2 v r (cG o);dsimp only;rw[xw,xh,xi,vZ l w];have a1:i<b:=by
      apply pC;intro al;by_cases e:i=b;·subst e;exact B (early l u y)
      ·obtain⟨j,a8,aa⟩:=r.late i ag ag;have:=y j aa;rw[p j a8]at this;cases this
     refine a7 i a1 l x _ h2 (λj hd=> ?_) (ih _ (cz l i) (cB x (D i) (V i)) (by have:=yj w h2;omega) (u.set y) (λj c=>by rw[iV l ag];exact p j c) λj c s=> ?_)
     ·have s:=y j hd;by_cases c:j<b;·exact⟨s,H j c s⟩
      ·rw[p j ag]at s;cases s
     ·by_cases e:j=i;·subst e;exact x5 _ _ _
      ·rw[rH _ _ (λe'=>e (hD j i c a1 e'))];rw[iV l e]at s;exact H j c s
  exact key n N (λ_=>ax) x (by unfold jN;exact bT (mB _ _) az) (λi _ h=>by cases h) (λ_ _=>rfl) (λj _ h=>by cases h)
theorem ay.Qy{Post:au->ak->Prop}{ops:Array bR}{n c:Nat}{id:Nat}{df:List jH}{fr:aC}{cs:List aC}{k:List dP}{tm:Array au}{O:Nat->Prop}{W:ak}(a:List au)(hn:ops.size=n)(hs:C1 ops c=aq)(hc:AI ops c tm.size=aq)(hl:a.length=c)(hw:Cn ops c a=aq)(hk:(fr.kind==.early)=ax)(hq:QL O W (vH ops c a tm) ops 0 a)(aF:∀md fuel t,n-c<=fuel->ay aj Post O (aw (fr.atR ⟨bS (cA ops c) tm (xV ops c a),df⟩ (.inRegion ops (gX md ops fuel t (cm n λj=>aM (j<c)) [])::k)) cs) W):ay aj Post O (aw (fr.atR ⟨tm,df⟩ (.code (.region id ops aq)::k)) cs) W:=by
 have B:∀i,i<c->∃o d,ops[i]?=ae o/\o.dst=ae d/\qn o.op=aq/\d<tm.size/\(∀j,j<c->ew ops j=ae d->i=j)/\wj (λx=>match x with
   | .tmp t=>(dn c).all λj=>ew ops j !=ae t||dY ops i j
   |_=>aq) o.op=aq/\∀g b,o.guard=ae (g,b)->g<c/\dY ops i g=true:=by
  intro i v;have h:=eJ.1 hc i (eh.2 v);cases ho:ops[i]? with
  |none=>rw[ho]at h;cases h
  |some o=>
   rw[ho]at h;simp only[dj]at h;obtain⟨⟨⟨p,r⟩,h3⟩,h4⟩:=h;cases H:o.dst with
   |none=>rw[H]at r;cases r
   |some d=>
    rw[H]at r;simp only[dj,decide_eq_true_eq]at r;refine⟨o,d,rfl,H,p,r.1,λj f ar=> ?_,h3,λg b Z=> ?_⟩
    ·have:=eJ.1 r.2 j (eh.2 f);simpa[ar]using this
    ·rw[Z]at h4;simpa using h4
 have u:∀i o d,ops[i]?=ae o->o.dst=ae d->ew ops i=ae d:=λi o d p r=>by simp[ew,p,r]
 have hD:∀i,i<c->∀d,ew ops i=ae d->(ew ops i).getD 0=d:=λi _ d h=>by rw[h];rfl
 have hx:tm=bS (cA ops c) tm (λt=>tm.getD t aN):=F9.symm;have key:=ay.al9 (P:=aj) (Post:=Post) (id:=id) (df:=df) (fr:=fr) (cs:=cs) (k:=k) (T:=bS (cA ops c) tm) (x:=λt=>tm.getD t aN) (O:=O) (W:=λ_=>W) (D:=λi=>(ew ops i).getD 0) (V:=VN a) hn hs (λi j v f e=> ?_) (λi v aQ x rest hl H a1=> ?_) λx aQ _ hx md fuel t hf=> ?_;·rw[<-hx]at key;exact key
 ·obtain⟨o,d,p,r,_,_,h5,_⟩:=B i v;obtain⟨w,l,a8,aa,_⟩:=B j f;refine h5 j f ?_;rw[u j w l a8 aa];rw[u i o d p r,u j w l a8 aa]at e;simpa using e.symm
 ·obtain⟨o,d,p,r,h3,h4,h5,h6,h7⟩:=B i v;have ad:=u i o d p r;rw[ad]at a1;simp only[lK]at a1;rw[<-yL (lu.2 ⟨i,v,ad⟩)]at a1;have ac:∀j,j<c->dY ops i j=aq->∀t,ew ops j=ae t->x t=VN a j:=λj f an t ht=>by
   have:=(H j an).2;rw[ht]at this;exact this
  have ab:bp (Dk ⟨bS (cA ops c) tm x,df⟩) o=bp (vH ops c a tm) o:=by
   refine E3 (λaT hy=> ?_) h6;cases aT with
   |tmp t=>
    have aP:∀j,j<c->ew ops j=ae t->dY ops i j=true:=λj f s=>by
     have:=eJ.1 hy j (eh.2 f);simpa[s]using this
    show(bS (cA ops c) tm x).getD t aN=match lz ops c t with
     |some j=>VN a j
     |none=>tm.getD t aN
    rw[yK];cases N:lz ops c t with
    |none=>
     rw[if_neg];rintro⟨hm,_⟩;obtain⟨j,f,s⟩:=lu.1 hm;exact yP N j f s
    |some j=>
     obtain⟨f,s⟩:=yQ N;obtain⟨w,l,R,U,_,q4,_⟩:=B j f;have:l=t:=by have:=u j w l R U;rw[s]at this;cases this;rfl
     subst this;rw[if_pos ⟨lu.2 ⟨j,f,s⟩,q4⟩];exact ac j f (aP j f s) _ s
   |const b0=>rfl
   |global g=>rfl
   |func aU=>rfl
  have ai:=hq.get i ag;rw[ia,p,lK]at ai;have aJ:iJ o (fN ops (bS (cA ops c) tm x))=true:=by
   have y:=eJ.1 hw i (eh.2 v);rw[p]at y;unfold iJ;cases Z:o.guard with
   |none=>rfl
   |some gb=>
    obtain⟨g,b⟩:=gb;obtain⟨a6,ao⟩:=h7 g b Z;simp only[qD,Z]at y;obtain⟨w,l,R,U,_,q4,_⟩:=B g a6;have hv:=ac g a6 ao l (u g w l R U)
    have hy:fN ops (bS (cA ops c) tm x) g=match VN a g with
      | .bool b=>ae b
      |_=>none:=by
     unfold fN;rw[R];simp only[qD,U];have:(bS (cA ops c) tm x)[l]?=ae (VN a g):=by
      have h8:(bS (cA ops c) tm x)[l]?=ae ((bS (cA ops c) tm x).getD l aN):=by
       have:l<(bS (cA ops c) tm x).size:=by unfold bS;simpa using q4
       simp[P9,this]
      rw[h8,yK,if_pos ⟨lu.2 ⟨g,a6,u g w l R U⟩,q4⟩,hv]
     rw[this];generalize VN a g=aR;cases aR<;>rfl
    dsimp only;rw[hy];cases al:VN a g with
    |bool b'=>rw[al]at y;simpa using y
    |_=>rw[al]at y;cases y
  have am:dW (aw (fr.atR ⟨bS (cA ops c) tm x,df⟩ (.inRegion ops (i::rest)::k)) cs) i:=by
   refine⟨rfl,?_,?_,hk,?_⟩
   ·show ops[i]?=ae ((ops[i]?).getD fM);rw[p];rfl
   ·show iJ ((ops[i]?).getD fM) (fN ops (bS (cA ops c) tm x))=aq;rw[p];exact aJ
   ·show qn ((ops[i]?).getD fM).op=aq;rw[p];exact h3
  have a7:oG (aw (fr.atR ⟨bS (cA ops c) tm x,df⟩ (.inRegion ops (i::rest)::k)) cs)=o:=by
   show(ops[i]?).getD fM=o;rw[p];rfl
  have a2:aG (aw (fr.atR ⟨bS (cA ops c) tm x,df⟩ (.inRegion ops (i::rest)::k)) cs)=⟨bS (cA ops c) tm x,df⟩:=rfl;refine .step rfl λtp dd=> ?_;obtain⟨r1,r2⟩:=ai tp dd;refine⟨_,Sim.re W tp dd,_,pz (v:=VN a i) am (by rw[a7,a2,ab];exact r1),aL _,λe he=> ?_,?_⟩
  ·unfold ic at he;rw[a7,a2,ab]at he;exact r2 _ e he
  ·have:bt (aw (fr.atR ⟨bS (cA ops c) tm x,df⟩ (.inRegion ops (i::rest)::k)) cs) (VN a i)=aw (fr.atR ⟨(bS (cA ops c) tm x).setIfInBounds d (VN a i),df⟩ (.inRegion ops rest::k)) cs:=by
    unfold bt;rw[a7,a2,r];rfl
   rw[this];exact a1.re (tp:=tp) (d:=dd)
 ·have:bS (cA ops c) tm x=bS (cA ops c) tm (xV ops c a):=F8 λt ht=>by
   obtain⟨j0,ap,av⟩:=lu.1 ht;unfold xV;cases N:lz ops c t with
   |none=>exact absurd av (yP N j0 ap)
   |some j=>
    obtain⟨f,s⟩:=yQ N;have:=hx j f;rw[s]at this;exact this
  rw[this];exact aF md fuel t hf
def iR(a:pH)(b:Array bR):List (List Nat):=b.toList.map λo=>(o.after.toList.filter (nC a)).map (·.on)
def uD(E:List (List Nat))(done:List Nat):List Nat:=(dn E.length).filter λi=> ! done.contains i&&((E[i]?).map (·.all done.contains)).getD ax
theorem Mq{n:Nat}{done:List Nat}(r:a.size=n)(x:(iR c a).all (·.all (aM<|·<n))=aq):dm c a (cm n λj=>done.contains j)=uD (iR c a) done:=by
 unfold dm uD;have w:(iR c a).length=n:=by unfold iR;simp[r]
 rw[w,r];refine az4 λi k=> ?_;have k:=eh.1 k;rw[na _ _ k];congr 1;obtain⟨o,s⟩:∃o,a[i]?=ae o:=⟨a[i]'(ag),jV _⟩;have l:(iR c a)[i]?=ae ((o.after.toList.filter (nC c)).map (·.on)):=by unfold iR;simp[s]
 rw[s,l];simp only[hZ,lK];have p:=eJ.1 x _ (cG l);rw[xx,jh,eJ];constructor
 ·intro h j b;obtain⟨e,f,rfl⟩:=iL.1 b;obtain⟨u,v⟩:=gK.1 f;have:=h e (by simpa using u);rw[v,na _ _ (of_decide_eq_true (eJ.1 p _ b))]at this;simpa using this
 ·intro h e f;cases t:nC c e with
  |false=>simp
  |true=>
   have b:e.on∈(o.after.toList.filter (nC c)).map (·.on):=iL.2 ⟨e,gK.2 ⟨by simpa using f,t⟩,rfl⟩;rw[na _ _ (of_decide_eq_true (eJ.1 p _ b))];have:=h _ b;simpa using this
def sj(E:List (List Nat)):Nat->List Nat->Option (List (List Nat))
 |0,done=>if(uD E done).isEmpty then ae [[]]else af
 |k+1,done=>match uD E done with
  |[]=>ae [[]]
  |a=>(a.mapM λi=>(sj E k (i::done)).map λL=>L.map (i::·)).map List.flatten
theorem Yh{n:Nat}(y:a.size=n)(W:(iR c a).all (·.all (aM<|·<n))=aq):∀(k:Nat)(done:List Nat) (L:List (List Nat)),sj (iR c a) k done=ae L->∀f t,gX c a (k+f) t (cm n λj=>done.contains j) []∈L:=by
 have U:∀(done:List Nat) (fuel t:Nat),uD (iR c a) done=[]->gX c a fuel t (cm n λj=>done.contains j) []=[]:=λdone fuel t h=>by
  cases fuel with
  |zero=>rfl
  |succ fuel=>rw[sx,Mq y W,h];rfl
 intro k;induction k with
 |zero=>
  intro done L l f t;unfold sj at l;split at l
  ·rename_i h;cases l;rw[U done _ t (by simpa using h)];simp
  ·cases l
 |succ k ih=>
  intro done L l f t;unfold sj at l;cases u:uD (iR c a) done with
  |nil=>
   rw[u]at l;cases l;rw[U done _ t u];simp
  |cons p r=>
   rw[u]at l;simp only at l;rw[show k+1+f=(k+f)+1 by omega,sx,Mq y W,u];have R:t%(p::r).length<(p::r).length:=xK _ az;rw[bf R];dsimp only;generalize hi:(p::r)[t%(p::r).length]=i;have N:i∈p::r:=by rw[<-hi];exact aA4 R
   have a1:i<n:=by
    have:i∈uD (iR c a) done:=by rw[u];exact N
    have:=eh.1 (gK.1 this).1;have hl:(iR c a).length=n:=by unfold iR;simp[y]
    omega
   rw[xw,xh,xi,vZ _ a1];have e:cz (λj=>done.contains j) i=λj=>(i::done).contains j:=by
    funext j;unfold cz;by_cases e:j=i;·subst e;simp
    ·rw[if_neg e];simp[e]
   rw[e];obtain⟨s,h1,rfl⟩:=ji.1 l;have key:∀(v:List Nat) (s:List (List (List Nat))),(v.mapM λi=>(sj (iR c a) k (i::done)).map λL=>L.map (i::·))=ae s->i∈v->∃o,sj (iR c a) k (i::done)=ae o/\o.map (i::·)∈s:=by
    intro v;induction v with
    |nil=>intro s _ h;cases h
    |cons b bs a2=>
     intro s h x;rw[aC6]at h;cases w:sj (iR c a) k (b::done)with
     |none=>rw[w]at h;simp at h
     |some Z=>
      rw[w]at h;simp only[hZ,eN,qD,bN]at h;obtain⟨M,hM,h⟩:=Option.bind_eq_some_iff.1 h;cases h;rcases dk.1 x with rfl|x;·exact⟨Z,w,az⟩
      ·obtain⟨o,B,H⟩:=a2 M hM x;exact⟨o,B,by simp[H]⟩
   obtain⟨o,B,H⟩:=key _ _ h1 N;have:=ih (i::done) o B f (t/(p::r).length);exact Og.2 ⟨_,H,iL.2 ⟨_,this,rfl⟩⟩
