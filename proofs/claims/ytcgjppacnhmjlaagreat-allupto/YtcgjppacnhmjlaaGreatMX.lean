/- Own texts: FyS, FyW, FyX, FyZ. -/
import Derived.Test.YtcgjppacnhmjlaaGreatMW
import Derived.Test.YtcgjppacnhmjlaaGreatMS
import Derived.AtR
import Derived.RangeFuncRecord
import Derived.RangeFuncNested
set_option linter.all false
set_option maxRecDepth 100000
open Array renaming getElem?_eq_some_iff->cq,all_eq_true_iff_forall_mem->jh,getElem?_eq_getElem->jV,getElem?_replicate->sP,ext_getElem?->rK,append_empty->xm,size_push->zS,empty_append->O0
open Bind renaming bind->eN
open Bool renaming true->aq,false->ax,false_eq_true->dx,and_eq_true->dj,or_eq_true->qE
open Classical renaming byContradiction->pC
open Decidable renaming decide->aM
open Go renaming World->ak,Value->au,Frame->aC,Goroutine->aX,Calls->aE,TypeId->aK,Program->aV,Addr->aH,undef->aN,Operand->bC,execOp->bp,stepG->aZ,FuncId->bW,maxLen->cE,Event->bX,underlying->iZ,sizeOf->ed,Oper->bR,yielded->fN,Deferred->jH,Sem->bA,Code->du,linearise_go_acc->xw,Item->dP,resolve->mI,program->qJ,invoke->pL,isAgg->mL,callFunc->vi,seen->jo,exitTo->qL,Obj->dV,unwind->rY,doReturn->xP,Loop->nK,Next->vu,Func->pO
open Go.Conc renaming listed->ic,stepG_region_draw->aH0
open Go.Deferred renaming ofValue->ax5
open Go.Frame renaming enter->bG,finish->qH,eval->xI,round->D5,finish_atR->az9,atR->Pj
open Go.GStep renaming after->jG
open Go.Instr renaming sliceAt->CR,takeDeferred->ay6,beginRound->az8,enterLoop->aA9,endRound->aC2,getLoop->aD0,endLoop->aD2
open Go.IntKind renaming i64->cZ,wrap_i64->ft
open Go.Lib renaming size_eq->fY,hasPrefix->iK
open Go.MemAct renaming ofEvent->fD,touch?->mF
open Go.Proofs.Tryz renaming prog->aj,isAgg9->lL,sizeOf56->CS,runUnderlying69->NM,isAgg69->Hj,func67->OY,isAgg56->aG4,func45->aI9
open Go.Region renaming ready->dm,linearise->jY,wanted->iJ,Mode->pH,schedule->zO
open Go.Region.linearise renaming go->gX
open Go.RowKit renaming Below->aA
open Go.Sem renaming bind->dp,runT_bind'->jj,runT->eL,runT_eq->nE
open Go.World renaming block_lt_of_cell?->cC,size_alloc->dh,cell?_of_block->gV,size_setCell->jX,putObj->aD4
open Go.stepG renaming exec->fZ,apply->rV
open List renaming getElem?_eq_getElem->bf,getElem?_eq_some_iff->cu,mem_of_getElem?->cG,all_eq_true->eJ,mem_range->eh,range->dn,drop_eq_getElem_cons->lG,take_append_drop->jW,length_eq_zero_iff->kY,mem_filter->gK,getElem?_eq_none->lI,length_filter_le->mB,ext_getElem?->mD,getElem?_drop->ny,nil_append->nB,range'->jZ,any_eq_true->pG,isPrefixOf_iff_prefix->xf,prefix_append->sS,pairwise_append->uU,reverse_singleton->xh,append_assoc->sU,singleton_append->xi,filter_append->uV,map_cons->qG,prefix_iff_eq_take->zB,flatten_cons->uX,filter_eq_self->xl,drop_eq_nil_of_le->zD,range_eq_range'->zI,flatten_append->Cy,filter_eq_nil_iff->GS,map_toArray->CM,map_nil->zZ,length_singleton->NK,range'_append_1->NL,map_eq_nil_iff->NT,mem_range'_1->Oa
open Nat renaming le_refl->aL,le_trans->bT,strongRecOn->rN,mod_lt->xK,add_assoc->CU,mod_one->aK6
open Option renaming some->ae,none->af,map_some->hZ,getD_some->lK,map_none->Of,isNone_some->ax2
open Option.some renaming injEq->iY
open Pure renaming pure->bN
namespace Go.Proofs.YtcgjppacnhmjlaaGreat
open Go Go.Conc Go.ConcN Go.Conc.Lib Go.ConcR.Gen Go.RowKit
namespace Sim
variable {a v:Nat} {a7:Type} {o aa:ak} {B:BR} {f:List Nat} {p:List (List KV)} {b:aC} {u:List aC} {t a6:au} {ab:bC->au} {ac:bR} {h:ByteArray} {ad:aK} {U a8:bC} {W:aH} {y:bW} {a1:du} {Z:Array au}
def uJ(ops:Array bR)(c:Nat):Bool:=
 vG ops&&aM (c<ops.size)&&
 ((dn c).all λj=>(dn (c+1)).any λk=>aM (j<k)&&dY ops k j)&&
 ((dn ops.size).all λi=>aM (i<=c)||dY ops i (i-1))
structure DF(ops:Array bR)(c:Nat):Prop where
 down:vG ops=aq
 lt:c<ops.size
 next:∀j,j<c->∃k,j<k/\k<=c/\dY ops k j=aq
 chain:∀i,c<i->i<ops.size->dY ops i (i-1)=aq
theorem MT{ops:Array bR}(h:uJ ops a=aq):DF ops a:=by
 unfold uJ at h;simp only[dj]at h;obtain⟨⟨⟨c,f⟩,l⟩,o⟩:=h;refine⟨c,of_decide_eq_true f,λj p=> ?_,λi t s=> ?_⟩
 ·obtain⟨k,r,b⟩:=pG.1 (eJ.1 l j (eh.2 p));simp only[dj,decide_eq_true_eq]at b;exact⟨k,b.1,by have:=eh.1 r;omega,b.2⟩
 ·have:=eJ.1 o i (eh.2 s);simp only[qE,decide_eq_true_eq]at this;rcases this with h|h;·omega
  ·exact h
section
variable {P:aV} {Post:au->ak->Prop} {ops:Array bR} {n c:Nat} {j:pH} {l:Nat->Bool}
def sa(ops:Array bR)(n:Nat)(l:Nat->Bool):Prop:=∀i,i<n->l i=aq->∀j,dY ops i j=aq->l j=aq
theorem sa.set{i:Nat}(h:sa ops n l)(f:∀j,dY ops i j=aq->l j=aq):sa ops n (cz l i):=by
 intro k c b j a;have:l j=true:=by
  by_cases e:k=i;·subst e;exact f j a
  ·rw[iV l e]at b;exact h k c b j a
 unfold cz;split;·rfl
 ·exact this
theorem Jc(f:DF ops c)(u:ops.size=n)(h:sa ops n l)(o:∀j,dY ops c j=aq->l j=aq):∀j,j<c->l j=true:=by
 intro j a;have key:∀d j,c-j=d->j<c->l j=true:=by
  intro d;induction d using rN with
  |_ d p=>
   intro j r a;obtain⟨k,s,t,b⟩:=f.next j a;by_cases e:k=c;·subst e;exact o j b
   ·exact h k (by have:=f.lt;omega) (p (c-k) ag k rfl ag) j b
 exact key _ j rfl a
theorem EO(k:DF ops c)(l:ops.size=n):∀(fuel t m:Nat),c<=m->m<=n->n-m<=fuel->gX j ops fuel t (cm n λf=>aM (f<m)) []=(jZ m (n-m))
 |0,t,m,w,x,y=>by
  have:n-m=0:=ag;rw[this];rfl
 |fuel+1,t,m,w,x,y=>by
  rw[sx];by_cases N:m=n
  ·subst N;have W:dm j ops (cm m λf=>aM (f<m))=[]:=by
    rw[List.eq_nil_iff_forall_not_mem];intro i p;obtain⟨a,b,_⟩:=zd l k.down p;simp at b;omega
   rw[W];simp
  ·have Z:dm j ops (cm n λf=>aM (f<m))=[m]:=by
    have R:m∈dm j ops (cm n λf=>aM (f<m)):=by
     unfold dm;rw[gK,eh,l,dj];refine⟨ag,by rw[na _ _ ag];simp,?_⟩;obtain⟨o,s⟩:∃o,ops[m]?=ae o:=⟨ops[m]'(ag),jV _⟩;rw[s];simp only[hZ,lK];refine jh.2 λe H=> ?_;have:=eJ.1 k.down m (eh.2 ag);rw[s]at this;have r:=eJ.1 this e (by simpa using H);simp at r;rw[na _ _ ag];simp[r]
    have a1:∀i∈dm j ops (cm n λf=>aM (f<m)),i=m:=by
     intro i p;obtain⟨a,b,d⟩:=zd l k.down p;simp at b;apply pC;intro a2;have:=d (i-1) (k.chain i ag ag);simp at this;omega
    have U:(dm j ops (cm n λf=>aM (f<m))).Nodup:=by
     unfold dm;exact List.nodup_range.filter _
    match hR:dm j ops (cm n λf=>aM (f<m)),R,a1,U with
    |[],h,_,_=>cases h
    |[a],_,h,_=>rw[h a az]
    |a::b::a6,_,h,B=>
     have u:=h a az;have v:=h b az;subst u v;simp at B
   rw[Z];simp only[NK,aK6,List.getElem?_cons_zero];rw[xw,xh,xi,vZ _ ag];have e:cz (λf=>aM (f<m)) m=λf=>aM (f<m+1):=by
    funext f;unfold cz;by_cases e:f=m;·subst e;simp
    ·rw[if_neg e];exact decide_eq_decide.2 ag
   rw[e,EO k l fuel _ (m+1) ag ag ag];rw[show n-m=(n-(m+1))+1 by omega,List.range'_succ]
theorem ay.wW{id:Nat}{fr:aC}{cs:List aC}{k:List dP}{T:(Nat->au)->Array au}{x:Nat->au}{O:Nat->Prop}{W:(Nat->Bool)->ak}{D:Nat->Nat}{V:Nat->au}(p:ops.size=n)(hs:uJ ops c=aq)(hD:∀i a,i<c->a<c->D i=D a->i=a)(a2:∀i,i<c->∀l x rest,l i=ax->(∀a,dY ops i a=aq->l a=aq/\x (D a)=V a)->ay P Post O (aw (fr.at ⟨T (cB x (D i) (V i)),[]⟩ (.inRegion ops rest::k)) cs) (W (cz l i))->ay P Post O (aw (fr.at ⟨T x,[]⟩ (.inRegion ops (i::rest)::k)) cs) (W l))(a6:∀x l,(∀a,a<c->l a=aq)->(∀a,a<c->x (D a)=V a)->ay P Post O (aw (fr.at ⟨T x,[]⟩ (.inRegion ops (jZ c (n-c))::k)) cs) (W l)):ay P Post O (aw (fr.at ⟨T x,[]⟩ (.code (.region id ops aq)::k)) cs) (W λ_=>ax):=by
 have o:=MT hs;refine .step rfl λv d=> ?_;obtain⟨j,w,ho⟩:=zi (P.follows .mixedOrders) ops ((Sim.re (W λ_=>ax) v d).tape (Sim.re (W λ_=>ax) v d).drawn (.order (fr.at ⟨T x,[]⟩ (.code (.region id ops aq)::k)).fn id));have ac:=aH0 (P:=P) (main:=aq) (ops:=ops) (b:=fr) (a:=⟨T x,[]⟩) (k:=k) (cs:=cs) (w:=Sim.re (W λ_=>ax) v d) (id:=id);refine⟨aw (fr.at ⟨T x,[]⟩ (.inRegion ops (jY j ops w)::k)) cs,Sim.re (W λ_=>ax) v (d+1), #[],?_,aL _,λe he=>by simp at he,.re ?_⟩
 ·have e:aw (fr.at ⟨T x,[]⟩ (.code (.region id ops aq)::k)) cs=G (fr.at ⟨T x,[]⟩ (.code (.region id ops aq)::k)) cs:=rfl;rw[e,ac];have aa:zO (P.follows .mixedOrders) ops ((Sim.re (W λ_=>ax) v d).tape (Sim.re (W λ_=>ax) v d).drawn (.order fr.fn id))=jY j ops w:=ho;rw[aa];rfl
 ·have e3:jY j ops w=gX j ops n w (cm n λ_=>ax) []:=by
   unfold jY;rw[p];congr 1;apply rK;intro i;by_cases f:i<n;·simp[cm,f,sP]
   ·simp[cm,sP,f,lI (show(dn n).length<=i by simp;omega)]
  rw[e3];have key:∀(fuel t:Nat)(l:Nat->Bool) (x:Nat->au),jN n l<=fuel->sa ops n l->(∀a,c<=a->l a=ax)->(∀a,a<c->l a=aq->x (D a)=V a)->ay P Post O (aw (fr.at ⟨T x,[]⟩ (.inRegion ops (gX j ops fuel t (cm n l) [])::k)) cs) (W l):=by
   intro fuel;induction fuel with
   |zero=>
    intro t l x hc N s H;have:=Az (n:=n) (l:=l) ag c (by rw[<-p];exact o.lt);rw[s c (aL _)]at this;cases this
   |succ fuel ih=>
    intro t l x hc N s H;have a7:(∀a,a<c->l a=aq)->ay P Post O (aw (fr.at ⟨T x,[]⟩ (.inRegion ops (gX j ops (fuel+1) t (cm n l) [])::k)) cs) (W l):=λu=>by
     have e:l=λa=>aM (a<c):=by
      funext a;by_cases b:a<c;·rw[u a b];simp[b]
      ·rw[s a ag];simp[b]
     have a1:n-c<=fuel+1:=by
      have ad:jN n l=n-c:=by
       rw[e];unfold jN;have:((dn n).filter λi=> ! aM (i<c))=jZ c (n-c):=by
        have B:=o.lt;rw[p]at B;apply mD;intro q;have ab:dn n=dn c++jZ c (n-c):=by
         rw[zI,zI,show n=c+(n-c) by omega,<-NL];simp
        rw[ab,uV];have f1:(dn c).filter (λi=> ! aM (i<c))=[]:=GS.2 λi f=>by simp at f⊢;omega
        have f2:(jZ c (n-c)).filter (λi=> ! aM (i<c))=jZ c (n-c):=xl.2 λi f=>by simp[Oa]at f⊢;omega
        rw[f1,f2];simp
       rw[this];simp
      omega
     have B:=o.lt;have el:cm n l=cm n λa=>aM (a<c):=by rw[e]
     rw[el,EO o p (fuel+1) t c (aL _) ag a1];exact a6 x l u λa b=>H a b (u a b)
    by_cases u:∀a,a<c->l a=aq;·exact a7 u
    rw[sx j ops fuel t (cm n l)];cases f:(dm j ops (cm n l))[t%(dm j ops (cm n l)).length]? with
    |none=>
     have a8:dm j ops (cm n l)=[]:=by
      cases hr:dm j ops (cm n l)with
      |nil=>rfl
      |cons x xs=>
       rw[hr]at f;have B:t%(x::xs).length<(x::xs).length:=xK _ az;rw[bf B]at f;cases f
     obtain⟨a,b⟩:=FZ (md:=j) p o.down ⟨c,by rw[<-p];exact o.lt,s c (aL _)⟩;rw[a8]at b;cases b
    |some i=>
     obtain⟨R,U,y⟩:=zd p o.down (cG f);dsimp only;rw[xw,xh,xi,vZ l R];have Z:i<c:=by
      apply pC;intro ai;by_cases e:i=c;·subst e;exact u (Jc o p N y)
      ·have:=y (i-1) (o.chain i ag ag);rw[s (i-1) ag]at this;cases this
     refine a2 i Z l x _ U (λa hd=> ?_) (ih _ (cz l i) (cB x (D i) (V i)) (by have:=yj R U;omega) (N.set y) (λa b=>by rw[iV l ag];exact s a b) λa b r=> ?_)
     ·have r:=y a hd;by_cases b:a<c;·exact⟨r,H a b r⟩
      ·rw[s a ag]at r;cases r
     ·by_cases e:a=i;·subst e;exact x5 _ _ _
      ·rw[rH _ _ (λe'=>e (hD a i b Z e'))];rw[iV l e]at r;exact H a b r
  exact key n w (λ_=>ax) x (by unfold jN;exact bT (mB _ _) az) (λi _ h=>by cases h) (λ_ _=>rfl) (λa _ h=>by cases h)
end
def bF(Post:au->ak->Prop)(O:Nat->Prop)(fr:aC)(k:List dP)(a:List aC)(ops:Array bR)(T:(Nat->au)->Array au)(D:Nat->Nat)(V:Nat->au)(W b:ak)(i:Nat):Prop:=∀(l:Nat->Bool)(x:Nat->au) (rest:List Nat),(∀j,dY ops i j=aq->l j=aq/\x (D j)=V j)->ay aj Post O (aw (fr.at ⟨T (cB x (D i) (V i)),[]⟩ (.inRegion ops rest::k)) a) b->ay aj Post O (aw (fr.at ⟨T x,[]⟩ (.inRegion ops (i::rest)::k)) a) W
def MC(Post:au->ak->Prop)(f:Nat)(args:Array au)(O:Nat->Prop)(W:ak)(K:au->(Nat->Prop)->BR->ak->Prop):Prop:=
 ∀c h,(∀v a j b,K v a j b->ay aj Post a (aw (c.finish v) h) b)->ay aj Post O (aw (bG aj f args .normal) (c::h)) W
def mU(J x:List a7->(Nat->Prop)->BR->ak->Prop)(to:List UInt8)(l:List KV)(pre h:List a7)(v:au)(a:Nat->Prop)(c:BR)(f:ak):Prop:=
 (∃b,v=.bool b/\J (pre++h) a c f/\(b=ax->Go.Proofs.YtcgjppacnhmjlaaGreat.Past to l))\/(v=.bool ax/\∃q,q<+:h/\x (pre++q) a c f)
structure oB{H:Type}(S:Nat->Prop)(k:ak)(J:List H->(Nat->Prop)->BR->ak->Prop):Prop where
 kept:∀pre O R W,J pre O R W->Go.Proofs.YtcgjppacnhmjlaaGreat.Kept S k W
 known:∀pre O R W,J pre O R W->aI Xm O R W/\∀b,S b->R b b
 later:∀pre O R W R' W',J pre O R W->aO W W'->aI Xm O R' W'->BR.Sub R R'->J pre O R' W'
theorem oB.out{S:Nat->Prop}{J:List a7->(Nat->Prop)->BR->ak->Prop}(h:oB S o J){pre:List a7}{O:Nat->Prop}(b:J pre O B aa)(c:S a):¬O a:=(h.known pre O B aa b).1.apart a ((h.known pre O B aa b).2 a c)
theorem oB.cell{H:Type}{S:Nat->Prop}{k:ak}{J:List H->(Nat->Prop)->BR->ak->Prop}(h:oB S k J){pre:List H}{O:Nat->Prop}{R:BR}{W:ak}(a:J pre O R W){b o:Nat}(c:S b){v:au}(f:k.cell? ⟨b,o,af⟩=ae v):W.cell? ⟨b,o,af⟩=ae v:=
 (gV (a:=⟨b,o,af⟩) (h.kept pre O R W a b c)).trans f
def Aw(Post:au->ak->Prop)(S:Nat->Prop)(k:ak)(J x:List a7->(Nat->Prop)->BR->ak->Prop)(val:a7->KV)(fr to:ByteArray)(s:au)(N n:Nat):Prop:=
 ∀(O:Nat->Prop)(R:BR)(W:ak)(t:Nat)(l:List KV) (pre a:List a7),aY S n k t l->J pre O R W->pre.length+a.length<=N->a.map val=cO fr.data.toList to.data.toList l->MC Post 43 #[ptr t,.string fr,.string to,s] O W (mU J x to.data.toList l pre a)
noncomputable def Dr:Code:=(Tryz.f62.body).getD .skip
def As(x:Nat->au)(v0:au)(fr to:ByteArray)(s:au)(k o cap n:Nat)(j:Nat):Array Value:= #[v0,.string fr,.string to,s,x 4,x 5,x 6,x 7,x 8,x 9,x 10,.slice (ae ⟨k,o,af⟩) n cap,.int .i64 (n:Int),.int .i64 (j:Int),x 14,x 15,x 16,x 17,x 18,x 19,x 20,x 21,x 22,x 23]
noncomputable def i62:List Item:=[.code (cd [1,0,1,2,2] Dr),.inLoop (cd [1,0,1,2,2] Dr),.inBlock 0,.code (cd [1,1] Dr)]
section
variable {H:Type} {Post:au->ak->Prop} {S:Nat->Prop} {k:ak} {J x:List H->(Nat->Prop)->BR->ak->Prop} {val:H->KV} {fr to:ByteArray} {s:au} {N n:Nat}
noncomputable def f62(x:Nat->au)(v0:au)(fr to:ByteArray)(s:au)(k o cap m j t:Nat)(c:aC)(a:List aC):Frame:=dZ (nxtN aj aq 1 (nxtN aj aq 8 (bz (bz (nxtN aj aq 8 (dL (nxtN aj aq 3 (GF 62 (c::a) (As x v0 fr to s k o cap m j) i62)) 14 (.bool aq))) (.pointer (ae ⟨k,o+j,af⟩))) (ptr t)))).callers
theorem XD(hG:oB S k J)(ih:Aw Post S k J x val fr to s N n){v0:au}{cap:Nat}(hk:S a)(ao:eH k a v f)(aF:f.length=p.length)(hn:f.length<=9223372036854775807)(hC:∀(i:Nat) t g,f[i]?=ae t->p[i]?=ae g->aY S n k t g):∀(a1 j:Nat),a1+j=f.length->∀c O R W pre y,bh (p.drop j).flatten->J pre O R W->pre.length+y.length<=N->y.map val=cO fr.data.toList to.data.toList (p.drop j).flatten->(∀w h B l,mU J x to.data.toList (p.drop j).flatten pre y w h B l->ay aj Post h (aw (b.finish w) u) l)->ay aj Post O (GF 62 (b::u) (As c v0 fr to s a v cap f.length j) i62) W:=by
 intro a1;induction a1 with
 |zero=>
  intro j hj c O R W pre y Z H hN r o;have am:p.drop j=[]:=zD ag;rw[am]at r o;have ar:y=[]:=by simpa[cO]using r
  subst ar;refine .K 3 ?_;refine .val (i:=14) (v:=.bool (aM ((j:Int)<(f.length:Int)))) (v':=.bool ax) ah (by rw[decide_eq_false ag]) ?_;refine .K 10 ?_;exact .eqv (g':=aw (b.finish (.bool aq)) u) ah (o _ O R W (.inl ⟨aq,rfl,by simpa using H,λab=>by cases ab⟩))
 |succ a1 av=>
  intro j hj c O R W pre y Z H hN r o;have aa:cZ.wrap ((j:Int)+1)=((j+1:Nat):Int):=by rw[ft];omega
  obtain⟨t,ht⟩:∃t,f[j]?=ae t:=⟨f[j]'(ag),bf ag⟩;obtain⟨g,hg⟩:∃g,p[j]?=ae g:=⟨p[j]'(ag),bf ag⟩;have al:p.drop j=g::p.drop (j+1):=by
   obtain⟨h1,h2⟩:=cu.1 hg;rw[lG h1,h2]
  rw[al,uX]at r o Z;rw[G2]at r;obtain⟨U,y2,rfl,e1,e2⟩:=KX r;have ac:¬O a:=hG.out H hk;have ai:W.cell? ⟨a,v+j,af⟩=ae (ptr t):=hG.cell H hk (ao j t ht);refine .K 3 ?_;refine .val (i:=14) (v:=.bool (aM ((j:Int)<(f.length:Int)))) (v':=.bool aq) ah (by rw[decide_eq_true ag]) ?_;refine .K 8 ?_;refine .ri (i:=0) ah bI (t:=69) (x:=.tmp 11) (y:=.tmp 13) (e:=56) (n:=1) (a:=⟨a,v,af⟩) (l:=f.length) (c:=cap) (k:=(j:Int)) ah ah ah ⟨ag,ag⟩ NM CS ?_;rw[add1];refine .gS (i:=1) ah bI (t:=56) (x:=.tmp 15) (a:=⟨a,v+j,af⟩) (v:=ptr t) ah ah aG4 ac ai ?_;refine .K 8 ?_;refine .K 1 ?_;refine .eqv (g':=aw (bG aj 43 #[ptr t,.string fr,.string to,s] .normal) (f62 c v0 fr to s a v cap f.length j t b u::b::u)) ah (ih O R W t g pre U (hC j t g ht hg) H (by simp at hN;omega) e1 _ _ λw h B l hR=> ?_);have a8:w=.bool ax->mU J x to.data.toList (g++(p.drop (j+1)).flatten) pre (U++y2) (.bool ax) h B l->ay aj Post h (aw ((f62 c v0 fr to s a v cap f.length j t b u).finish (.bool ax)) (b::u)) l:=λ_ an=>by
   refine .K 9 ?_;exact .eqv (g':=aw (b.finish (.bool ax)) u) ah (o _ h B l an)
  rcases hR with⟨a2,rfl,a6,hp⟩|⟨rfl,q,hq,hx⟩
  ·cases a2 with
   |false=>
    have a7:=hp rfl;have ap:y2=[]:=by
     have h0:=a7.rest (fr:=fr.data.toList) Z;rw[h0]at e2;exact NT.1 e2
    subst ap;exact a8 rfl (.inl ⟨ax,rfl,by simpa using a6,λ_=>a7.Q5⟩)
   |true=>
    refine .K 7 ?_;refine .val (i:=23) (v:=.int .i64 (cZ.wrap ((j:Int)+1))) (v':=.int .i64 ((j+1:Nat):Int)) ah (by rw[aa]) ?_;refine .K 3 ?_
    exact .lit (tm:=λc=>As c v0 fr to s a v cap f.length (j+1)) ah λc=>av (j+1) ag c h B l (pre++U) y2 (uU.1 Z).2.1 a6 (by simp at hN⊢;omega) e2 λw O2 R2 W2 ad=>o w O2 R2 W2 (by
     rcases ad with⟨a2,rfl,h1,h2⟩|⟨rfl,q,hq,hx⟩;·exact .inl ⟨a2,rfl,by rw[<-sU];exact h1,λhb=>(h2 hb).AB⟩
     ·exact .inr ⟨rfl,U++q,(List.prefix_append_right_inj U).2 hq,by rw[<-sU];exact hx⟩)
  ·exact a8 rfl (.inr ⟨rfl,q,hq.trans (sS _ _),hx⟩)
theorem EY(hG:oB S k J)(ih:Aw Post S k J x val fr to s N n){O:Nat->Prop}{pre j:List H}(l:(f=[]/\∃u cap,t=.slice u 0 cap)\/∃a b cap,S a/\t=.slice (ae ⟨a,b,af⟩) f.length cap/\eH k a b f)(y:f.length=p.length)(hn:f.length<=9223372036854775807)(hC:∀(i:Nat) U g,f[i]?=ae U->p[i]?=ae g->aY S n k U g)(hs:bh p.flatten)(v:J pre O B o)(hN:pre.length+j.length<=N)(R:j.map val=cO fr.data.toList to.data.toList p.flatten):MC Post 62 #[t,.string fr,.string to,s] O o (mU J x to.data.toList p.flatten pre j):=by
 intro c cs w;rcases l with⟨rfl,u,cap,rfl⟩|⟨a,b,cap,hk,rfl,l⟩
 ·have hg:p=[]:=kY.1 (by simpa using y.symm);subst hg;have a1:j=[]:=by simpa[cO]using R
  subst a1;refine .K 26 ?_;exact .eqv (g':=aw (c.finish (.bool aq)) cs) ah (w _ O B o (.inl ⟨aq,rfl,by simpa using v,λh=>by cases h⟩))
 ·skip
  refine .K 13 ?_;exact .lit (tm:=λr=>As r (.slice (ae ⟨a,b,af⟩) f.length cap) fr to s a b cap f.length 0) ah λr=>XD hG ih hk l y hn hC f.length 0 ag r O B o pre j (by simpa using hs) v hN (by simpa using R) λa2 W Z W' h=>w a2 W Z W' (by simpa using h)
end
theorem ai6{n cap q:Nat}(b:ac.op=.slice 69 (.tmp 27) (ae (.tmp 28)) af af)(h:ab (.tmp 27)=.slice (ae ⟨a,v,af⟩) n cap)(c:ab (.tmp 28)=.int .i64 (q:Int))(f:q<=n):(bp ab ac).run aj o=.ok (.value (.slice (if cap=q then ae ⟨a,v,af⟩else ae ⟨a,v+q,af⟩) (n-q) (cap-q))) o:=by
 unfold bp;simp only[b,h,c,hZ,Of];simp[go_sem,CR];intro h;omega
theorem ai7(a:ac.op=.slice 69 (.tmp 27) (ae (.tmp 28)) af af)(h:ab (.tmp 27)=.slice af 0 0)(b:ab (.tmp 28)=.int .i64 ((0:Nat):Int)):(bp ab ac).run aj o=.ok (.value (.slice af 0 0)) o:=by
 unfold bp;simp only[a,h,b,hZ,Of];simp[go_sem,CR]
def fO(f:Nat)(fn:pO)(c:du):Prop:=aj.funcs[f]?=ae fn/\(fn.name== "runtime.NumGoroutine")=ax/\fn.body=ae c
theorem tR:fO 45 Tryz.f45 ((Tryz.f45.body).getD .skip):=⟨aI9,ah,ah⟩
theorem Ed:fO 67 Tryz.f67 ((Tryz.f67.body).getD .skip):=⟨OY,ah,ah⟩
theorem Et:Xm.G 45:=show fj.contains 45=aq from bc
theorem UN:Xm.G 67:=show fj.contains 67=aq from bc
theorem qz{G:bW->Prop}{u:au}(h:t=u)(a:VR G B u u):VR G B t t:=h▸a
theorem mV{G:bW->Prop}(a:VR G B t t)(b:VR G B a6 a6):bq G B #[t,a6] #[t,a6]:=iP (l:=[t,a6]) ⟨a,b,trivial⟩
theorem DQ(h:aa=o):aO o aa:=h▸aO.refl o
theorem aO.BB{a:Tape}{d:Nat}(h:aO (Sim.re o a d) aa):aO o aa:=⟨h.size,h.block,h.os,h.output⟩
section
variable {H:Type} {Post:au->ak->Prop} {S:Nat->Prop} {k:ak} {J x:List H->(Nat->Prop)->BR->ak->Prop} {val:H->KV} {fr to:ByteArray} {s:au} {N n:Nat}
theorem XB(b:oB S k J){O:Nat->Prop}{pre:List H}{l:List KV}(t:S a)(hp:k.cell? ⟨a,0,af⟩=ae (.string h))(ad:h.size<=64)(hf:fr.size<=9223372036854775807)(aa:¬h.data.toList<+:fr.data.toList)(f:J pre O B o):MC Post 61 #[ptr a,.string fr,.string to,s] O o (mU J x to.data.toList l pre []):=by
 intro c N a2;obtain⟨Z,ac⟩:=b.known _ _ _ _ f;have a6:¬O a:=b.out f t;have a8:o.cell? ⟨a,0,af⟩=ae (.string h):=b.cell f t hp;have hq:iK fr.data.toList h.data.toList=false:=by
  cases j:iK fr.data.toList h.data.toList with
  |false=>rfl
  |true=>exact absurd (xf.mp j) aa
 refine .K 11 ?_;refine .gS (i:=4) ah bI (t:=9) (x:=.tmp 14) (a:=⟨a,0,af⟩) (v:=.string h) ah ah lL a6 a8 ?_;refine .call (i:=5) bI ah (f:=45) (args:= #[.tmp 11,.tmp 15]) (ats:= #[9,9]) ah tR.1 tR.2.1 tR.2.2 Et (vals:= #[.string fr,.string h]) ah Z (mV (.string _) (.string _)) (Post1:=λv r=>v=.bool ax/\aO o r) (λv r p d ⟨R,U⟩=>⟨R,U.re p d⟩) (λp=>(qf fr h (Sim.re o p 0) hf (by unfold cE;omega)).mono λe r u=>⟨_,u.1,by rw[hq],(DQ u.2).BB⟩) λv y w ab a1 al a7 ai=> ?_;obtain⟨rfl,W⟩:=ab;refine .K 9 ?_;exact .eqv (g':=aw (c.finish (.bool aq)) N) ah (a2 _ O w y (.inl ⟨aq,rfl,by simpa using b.later _ _ _ _ _ _ f W a1 a7,λj=>by cases j⟩))
noncomputable def f61(t:Nat)(p fr to:ByteArray)(s a b:au)(q:Nat)(h:Bool)(c:aC)(f:List aC):Frame:=dZ (nxtN aj aq 1 (nxtN aj aq 3 (bz (nxtN aj aq 1 (bz (nxtN aj aq 11 (bz (nxtN aj aq 8 (bz (bz (nxtN aj aq 11 (aw (bG aj 61 #[ptr t,.string fr,.string to,s] .normal) (c::f))) (.string p)) (.bool aq))) (.tuple #[.int .i64 (q:Int),.bool h]))) a)) b))).callers
theorem XC(W:oB S k J)(ih:Aw Post S k J x val fr to s N n){O:Nat->Prop}{vp:Option aH}{ov:Option Int}{u:List UInt8}{l:List KV}{pre ys:List H}(a2:lP S k a h vp t l.length)(hR:eF S k t f)(hl:f.length=p.length)(hC:∀(i c:Nat) g,f[i]?=ae c->p[i]?=ae g->aY S n k c g)(Z:Shaped h.data.toList ov u p l)(hf:fr.size<=9223372036854775807)(aP:h.size<fr.size)(aR:h.data.toList<+:fr.data.toList)(hJ:J pre O B o)(hN:pre.length+ys.length<=N)(hy:ys.map val=cO fr.data.toList to.data.toList l):MC Post 61 #[ptr a,.string fr,.string to,s] O o (mU J x to.data.toList l pre ys):=by
 intro c cs b6;obtain⟨hK,am⟩:=W.known _ _ _ _ hJ;have ab:S a:=a2.iS;have b9:¬O a:=W.out hJ ab;have bd:o.cell? ⟨a,0,af⟩=ae (.string h):=W.cell hJ ab a2.c0;have bU:=a2.short;have aJ:=vU fr h.size aP;have hP:h.data.toList=fr.data.toList.take h.size:=by rw[fY];exact(zB.mp aR)
 rw[<-hP]at aJ;have bw:f.length<=256:=by have:=qu Z.aT.pw;have:=Z.aT.len;omega
 have aU:posOf fr[h.size] u<=f.length:=by have:=(wM fr[h.size] u Z.aT.pw).1;have:=Z.aT.len;omega
 have br:ys.map val=cO fr.data.toList to.data.toList (p.drop (posOf fr[h.size] u)).flatten:=by rw[hy];exact Z.ag1 aJ
 have aQ:∀w b,aO o w->aE aj 67 #[ptr a,.string fr] (Sim.re w b 0) λe r=>e=.returned (.tuple #[.int .i64 (posOf fr[h.size] u),.bool (aM (u[posOf fr[h.size] u]?=ae fr[h.size]))])/\aA (Sim.re w b 0).heap.size (Sim.re w b 0) r:=λw b hB=>by
  have an:Go.Proofs.YtcgjppacnhmjlaaGreat.Kept S k (Sim.re w b 0):=λa8 hb=>(hB.block a8 ((W.known _ _ _ _ hJ).1.wr.lt (am a8 hb)).1).trans (W.kept _ _ _ _ hJ a8 hb);have b1:∀(i c:Nat) g,f[i]?=ae c->p[i]?=ae g->aY S n (Sim.re w b 0) c g:=λi c g y R=>(hC i c g y R).frame an;have ar:lP S (Sim.re w b 0) a h vp t l.length:=⟨a2.iS,(an a a2.iS).trans a2.blk,a2.short⟩;have aa:eF S (Sim.re w b 0) t f:=by
   rcases hR with a7|⟨j,U,cap,y,R,h3,h4,h5,h6⟩;·exact .inl a7
   ·exact .inr ⟨j,U,cap,y,R,h3,h4,λi c hi=>(gV (a:=⟨j,U+i,af⟩) (an j y)).trans (h5 i c hi),h6⟩
  have ac:mO (Sim.re w b 0) h.size f u:=by rw[fY];exact BW hl b1 Z.aT
  exact wL (S:=S) (n:=n) ar.c0 ar.c2 aa ac Z.aT.pw hf aP
 have aF:l=(c9 h.data.toList ov++(p.take (posOf fr[h.size] u)).flatten)++(p.drop (posOf fr[h.size] u)).flatten:=by
  rw[sU,<-Cy,jW];exact Z.eq
 have bk:bh (p.drop (posOf fr[h.size] u)).flatten:=by
  have a7:=Z.ck;rw[aF]at a7;exact(uU.mp a7).2.1
 generalize aM (u[posOf fr[h.size] u]?=ae fr[h.size])=fd at aQ;generalize posOf fr[h.size] u=q at*;have hq:iK fr.data.toList h.data.toList=true:=xf.mpr aR;refine .K 11 ?_;refine .gS (i:=4) ah bI (t:=9) (x:=.tmp 14) (a:=⟨a,0,af⟩) (v:=.string h) ah ah lL b9 bd ?_;refine .call (i:=5) bI ah (f:=45) (args:= #[.tmp 11,.tmp 15]) (ats:= #[9,9]) ah tR.1 tR.2.1 tR.2.2 Et (vals:= #[.string fr,.string h]) ah hK (mV (.string _) (.string _)) (Post1:=λv r=>v=.bool aq/\aO o r) (λv r b d ⟨y,R⟩=>⟨y,R.re b d⟩) (λb=>(qf fr h (Sim.re o b 0) hf (by unfold cE;omega)).mono λe r he=>⟨_,he.1,by rw[hq],(DQ he.2).BB⟩) λv w R1 a6 b2 c6 aa bZ=> ?_;obtain⟨rfl,ac⟩:=a6;refine .K 8 ?_;refine .call (i:=2) bI ah (f:=67) (args:= #[.tmp 19,.tmp 20]) (ats:= #[56,9]) ah Ed.1 Ed.2.1 Ed.2.2 UN (vals:= #[ptr a,.string fr]) ah b2 (mV (.ptr ⟨aa _ _ (am a ab),rfl,rfl⟩) (.string _)) (Post1:=λv r=>v=.tuple #[.int .i64 (q:Int),.bool fd]/\aO w r) (λv r b d ⟨y,R⟩=>⟨y,R.re b d⟩) (λb=>(aQ w b ac).mono λe r he=>⟨_,he.1,rfl,aO.of he.2⟩) λv W2 R2 a6 al c7 av c5=> ?_;obtain⟨rfl,b0⟩:=a6;have hB:=ac.trans b0;have ai:=W.later _ _ _ _ _ _ hJ hB al (aa.trans av);have ba:¬O a:=W.out ai ab;have be:W2.cell? ⟨a,2,af⟩=ae t:=W.cell ai ab a2.c2;refine .K 11 ?_;refine .gS (i:=3) ah bI (t:=69) (x:=.tmp 26) (a:=⟨a,2,af⟩) (v:=t) ah ah Hj ba be ?_;refine .K 1 ?_;have ad:∀a1,VR Xm.G R2 a1 a1->((f.drop q=[]/\∃ao cap,a1=.slice ao 0 cap)\/∃j U cap,S j/\a1=.slice (ae ⟨j,U,af⟩) (f.drop q).length cap/\eH k j U (f.drop q))->ay aj Post O (bz (nxtN aj aq 1 (bz (nxtN aj aq 11 (bz (nxtN aj aq 8 (bz (bz (nxtN aj aq 11 (aw (bG aj 61 #[ptr a,.string fr,.string to,s] .normal) (c::cs))) (.string h)) (.bool aq))) (.tuple #[.int .i64 (q:Int),.bool fd]))) t)) a1) W2:=by
  intro a1 _ bj;refine .K 3 ?_;refine .K 1 ?_;refine .eqv (g':=aw (bG aj 62 #[a1,.string fr,.string to,s] .normal) (f61 a h fr to s t a1 q fd c cs::c::cs)) ah (EY W ih bj (by simp[hl]) (by simp;omega) (λi a g y R=>hC (q+i) a g (by rw[ny]at y;exact y) (by rw[ny]at R;exact R)) bk ai hN br _ _ λv O' R' W' bi=> ?_);refine .K 4 ?_;exact .eqv (g':=aw (c.finish v) cs) ah (b6 v O' R' W' (by
   rcases bi with⟨a8,y,R,h3⟩|a7;·exact .inl ⟨a8,y,R,λhb=>by rw[aF];exact(h3 hb).AB⟩
   ·exact .inr a7))
 rcases hR with⟨rfl,rfl⟩|⟨j,U,cap,hk,rfl,bv,bM,bb,bP⟩
 ·have bg:q=0:=by simpa using aU
  subst bg;refine .op (i:=5) (U:=[27,28]) (St:=λv w1=>v=.slice af 0 0/\∃b d,w1=Sim.re W2 b d) ah bI ah ah al (λbs hu=> ?_) (λb d=>⟨_,_,ai7 ah ah ah,rfl,b,d,rfl⟩) λv w1 R3 a6 b3 bo bl bm=> ?_
  ·simp at hu;rcases hu with rfl|rfl;·exact qz (u:=.slice af 0 0) ah (.snil _ _)
   ·exact qz (u:=.int .i64 ((0:Nat):Int)) ah (.int _ _)
  obtain⟨rfl,b,d,rfl⟩:=a6;exact .re (ad _ (.snil _ _) (.inl ⟨az,_,_,rfl⟩))
 ·have ap:R2 j j:=(aa.trans av) _ _ (am j hk);refine .op (i:=5) (U:=[27,28]) (St:=λv w1=>v=.slice (if cap=q then ae ⟨j,U,af⟩else ae ⟨j,U+q,af⟩) (f.length-q) (cap-q)/\∃b d,w1=Sim.re W2 b d) ah bI ah ah al (λbs hu=> ?_) (λb d=>⟨_,_,ai6 ah ah ah aU,rfl,b,d,rfl⟩) λv w1 R3 a6 b3 bo bl bm=> ?_
  ·simp at hu;rcases hu with rfl|rfl;·exact qz (u:=.slice (ae ⟨j,U,af⟩) f.length cap) ah (.slice _ _ ⟨ap,rfl,rfl⟩)
   ·exact qz (u:=.int .i64 (q:Int)) ah (.int _ _)
  obtain⟨rfl,b,d,rfl⟩:=a6;refine .re ?_;by_cases bE:q<f.length
  ·rw[if_neg ag];refine ad _ (.slice _ _ ⟨ap,rfl,rfl⟩) (.inr ⟨j,U+q,cap-q,hk,az,λi c hi=> ?_⟩);have:=bb (q+i) c (by rw[ny]at hi;exact hi);rw[CU];exact this
  ·have bY:q=f.length:=ag;refine ad _ ?_ (.inl ⟨zD ag,(if cap=q then ae ⟨j,U,af⟩else ae ⟨j,U+q,af⟩),cap-q,by rw[show f.length-q=0 by omega]⟩);split<;>exact .slice _ _ ⟨ap,rfl,rfl⟩
end
def It(g:aX)(i:Nat):Goroutine:=G (g.frame.atR (aG g) (.inRegion (lB g) (i::rF g)::kG g)) g.callers
def bt(g:aX)(v:au):Goroutine:=G (g.frame.atR ((aG g).put (oG g).dst v) (.inRegion (lB g) (rF g)::kG g)) g.callers
def qn:Op->Bool
 | .defer _=>ax
 |_=>aq
structure dW(g:aX)(i:Nat):Prop where
 eq:g=It g i
 op:(lB g)[i]?=ae (oG g)
 wanted:iJ (oG g) (fN (lB g) g.frame.tmps)=aq
 kind:(g.frame.kind==.early)=ax
 YA:qn (oG g).op=aq
section
variable {P:aV} {g:aX} {i:Nat} {w r:ak}
theorem dW.uH(h:dW g i):(oG g).semAt g.frame.roundOf (aG g).eval=bp (aG g).eval (oG g):=Oper.semAt_eq _ _ _ λc e=>by have:=h.YA;rw[e]at this;cases this
theorem dW.step(h:dW g i):aZ P aq g w=rV P aq (g.frame.atR (aG g) (.inRegion (lB g) (i::rF g)::kG g)) g.callers af (bp (aG g).eval (oG g)) w:=by
 have e:aZ P aq g w=aZ P aq (It g i) w:=by rw[<-h.eq]
 rw[e,<-h.uH];exact stepGR_op h.op h.wanted
theorem dW.fin(h:dW g i)(v:au):aw ((g.frame.atR (aG g) (.inRegion (lB g) (i::rF g)::kG g)).finish v) g.callers=bt g v:=by
 rw[az9,h.op];rfl
theorem dW.TQ(h:dW g i)(v:au):aw (g.frame.finish v) g.callers=bt g v:=by
 rw[<-h.fin v]
 conv=>lhs;rw[h.eq]
 rfl
theorem pz{v:au}(h:dW g i)(b:(bp (aG g).eval (oG g)).run P w=.ok (.value v) r):aZ P aq g w=.go (bt g v) r (ic P g.frame.fn (aG g) (oG g) w):=by
 have a:=h.kind;rw[h.step,<-h.fin v];simp[rV,b,aw,Pj,a,jG,ic]
theorem N4(h:dW g i)(b:(bp (aG g).eval (oG g)).run P w=.ok .skip r):aZ P aq g w=.go (bt g aN) r (ic P g.frame.fn (aG g) (oG g) w):=by
 have a:=h.kind;rw[h.step,<-h.fin aN];simp[rV,b,aw,Pj,a,jG,ic]
end
section
variable {Post:au->ak->Prop} {O:Nat->Prop} {g:aX} {w:ak} {R:BR} {i:Nat}
theorem ay.ep{t:aK}{x:bC}{a:aH}{v:au}(u:g.status=.running)(h:dW g i)(s:(oG g).op=.load t x)(y:(aG g).eval x=.pointer (ae a))(o:∀w,(mL t).run aj w=.ok ax w)(l:¬O a.block)(f:w.cell? a=ae v)(r:ay aj Post O (bt g v) w):ay aj Post O g w:=by
 have p:a.block<w.heap.size:=cC _ _ f;refine .step u λc d=> ?_;obtain⟨j,k⟩:=E2 (P:=aj) (w:=Sim.re w c d) s y (o _) (show(Sim.re w c d).cell? a=ae v from f);refine⟨_,_,_,pz h j,aL _,λe b=> ?_,r.re (tp:=c) (d:=d)⟩;unfold ic at b;rw[k]at b;rw[qw _ _ _ e b];exact qX l p
theorem ay.Vd{e:aK}{n:Nat}{k:Int}(r:g.status=.running)(h:dW g i)(p:(oG g).op=.indexAddr ad U a8)(u:(aG g).eval U=.slice (ae W) a v)(x:(aG g).eval a8=.int .i64 k)(l:0<=k/\k<a)(t:∀w,(iZ ad).run aj w=.ok (.slice e) w)(s:∀w,(ed e).run aj w=.ok n w)(o:ay aj Post O (bt g (.pointer (ae (W.add (k.toNat*n))))) w):ay aj Post O g w:=by
 refine .step r λc d=> ?_;obtain⟨f,j⟩:=E1 (P:=aj) (w:=Sim.re w c d) p u x l (t _) (s _);refine⟨_,_,_,pz h f,aL _,λe b=> ?_,o.re (tp:=c) (d:=d)⟩;unfold ic at b;rw[j,seen_none]at b;simp at b
theorem ay.str(s:g.status=.running)(h:dW g i)(r:(oG g).op=.store ad U a8)(x:(aG g).eval U=.pointer (ae W))(y:(aG g).eval a8=t)(v:t.oneCell'=aq)(u:∀w,(ed ad).run aj w=.ok 1 w)(l:¬O W.block)(c:w.cell? W=ae a6)(B:w.frozen? W=ax)(p:ay aj Post O (bt g aN) (w.setCell W t)):ay aj Post O g w:=by
 have o:W.block<w.heap.size:=cC _ _ c;refine .step s λa d=> ?_;obtain⟨j,k⟩:=Jk (P:=aj) (w:=Sim.re w a d) r x y v (u _) (show(Sim.re w a d).cell? W=ae a6 from c) (show(Sim.re w a d).frozen? W=ax from B);have f:((Sim.re w a d).setCell W t).heap.size=w.heap.size:=jX _ _ _;refine⟨_,_,_,N4 h j,by rw[f];exact aL _,λe b=> ?_,?_⟩
 ·unfold ic at b;rw[k]at b;rw[qw _ _ _ e b,f];exact qX l o
 ·exact p.re (tp:=a) (d:=d)
theorem ay.Z0{U:List Nat}{St:au->ak->Prop}(s:g.status=.running)(h:dW g i)(o:lx (sJ U) (oG g).op=aq)(W:iu aj fj aq [71] (oG g).op=aq)(l:aI Xm O R w)(u:∀t∈U,VR Xm.G R ((aG g).eval (.tmp t)) ((aG g).eval (.tmp t)))(r:∀c d,∃v a,(bp (aG g).eval (oG g)).run aj (Sim.re w c d)=.ok (.value v) a/\St v a)(p:∀v a b,St v a->aI Xm O b a->VR Xm.G b v v->BR.Sub R b->w.heap.size<=a.heap.size->ay aj Post O (bt g v) a):ay aj Post O g w:=
 .step s λc d=>by
  obtain⟨v,a,f,k⟩:=r c d;obtain⟨b,y,B,H,j,N⟩:=Fv (i:=i) o W l u f;cases B with
  |value x=>exact⟨_,_,_,pz h f,j,N,p v a b k (y.re a.tape a.drawn) x H j⟩
theorem ay.lone{fn:pO}{Post1:au->ak->Prop}(c:fO y fn a1)(k:Xm.G y)(f:aI Xm O R w)(j:bq Xm.G R Z Z)(hp:∀v w h d,Post1 v w->Post1 v (Sim.re w h d))(hc:∀h,aE aj y Z (Sim.re w h 0) λe r=>∃v,e=.returned v/\Post1 v r)(hn:∀v r a,Post1 v r->aI Xm O a r->VR Xm.G a v v->BR.Sub R a->w.heap.size<=r.heap.size->ay aj Post O (aw (b.finish v) u) r):ay aj Post O (aw (bG aj y Z .normal) (b::u)) w:=by
 have hE:=Jh (P:=aj) (fs:=fj) (fz:=aq) (vs:=[71]) sB wi k ⟨fn,a1,c.1,c.2.2⟩ f.diag f.wr j hp hc;have hS:kL Xm aj fj aq [71] R (bG aj y Z .normal,[]) (bG aj y Z .normal,[]):=⟨fP.enter sB k j ⟨fn,a1,c.1,c.2.2⟩,.nil⟩;have:=KU (X:=Xm) (tl:=b::u) (R0:=R) (w0:=w) (Post:=Post) (O:=O) sB wi (λs a l a2 a6 hR B=> ?_) hE (f.re T0 0) hS (BR.Sub.refl R) (aL _);·exact ig.Gt λp t x sl a8 q aa ab z=>this p t x sl a8 q aa ab z
 ·have a7:=l.1;rw[a7,nB];exact KW (s:=s) wi l a2 a6 λv o H N U W=>hn v s.w o H N W (hR.trans U) B
end
section
variable {Post:au->ak->Prop} {O:Nat->Prop} {g:aX} {w:ak} {i:Nat}
theorem Tj{wr:Bool}(f:v<a):nQ O a ⟨.obj v,wr,ax⟩:=by
 refine⟨⟨λx b h=> ?_,az,az,?_⟩,az,az,az⟩
 ·obtain⟨j,c,k⟩:=h;cases wr<;>simp only[fD,mF,iY]at b<;>(subst b;cases c)
 ·cases wr<;>exact f
theorem yk{P:aV}{fn:bW}{r:Nat}{b:Array bX}(c:r<a)(h:∀e∈b,∃wr,e=⟨.obj r,wr,ax⟩):∀e∈jo P fn b,nQ O a e:=λe f=>by
 obtain⟨wr,rfl⟩:=h e (qx f);exact Tj c
def ru(w:ak)(fr:aC)(ps:Array Tmp)(a body:du):Loop:={state:=.ready,pending:=af,fn:=fr.fn,tmps:=fr.tmps,params:=ps,assign:=a,body:=body,defers:=w.heap.size}
theorem ay.ad7{ps:Array Tmp}{body:du}{k:List dP}{fn:pO}{t:du}(r:b.mode=.run)(p:b.kind=.normal)(o:b.roundOf=af)(s:b.todo=.code (.rangeFunc U ps a1 body)::k)(W:b.eval U=.func (.func y) #[] Z)(a6:fO y fn t)(hn:ay aj Post O (aw (bG aj y (#[.func (.yield (w.heap.size+1)) #[] #[]]++Z) .normal) ({b with todo:=.inRangeFunc (w.heap.size+1)::k,defers:={target:=.collected w.heap.size,args:= #[]}::b.defers}::u)) ((w.alloc (.deferred (ae []))).alloc (.loop (ru w b ps a1 body)))):ay aj Post O (aw b u) w:=by
 refine .step rfl λtp d=>⟨_,_, #[],?_,?_,λe N=>by simp at N,hn.re (tp:=tp) (d:=d)⟩
 ·obtain⟨f,h,c,a,j,kd,ro⟩:=b;dsimp only at r p o s;subst r p o s;obtain⟨v,x,B⟩:=a6;have H:∀(args:Array au) (w:ak),(vi y args).runT aj w #[]=(.ok (.enter y args) w, #[]):=λargs w=>by
   simp only[vi,qJ,eN,dp,eL,v,x,B,ax2,dx,if_false,bN]
  have R:∀w:ak,(aA9 f h ps a1 body af).runT aj w #[]=(.ok (w.heap.size+1,[{target:=.collected w.heap.size,args:= #[]}]) ((w.alloc (.deferred (ae []))).alloc (.loop (ru w ⟨f,h,[],[],.run,.normal,af⟩ ps a1 body))), #[]):=λw=>by
   simp only[aA9,newObj,eN,dp,eL,bN,World.alloc,ru,zS]
  have a2:∀c a,(⟨f,h,c,a,.run,.normal,af⟩:aC).eval U=.func (.func y) #[] Z:=λc a=>by rw[<-W];cases U<;>rfl
  have a7:∀(c:List dP)(a:List jH)(l:Nat) (w:ak),(do let d<-mI (⟨f,h,c,a,.run,.normal,af⟩:aC).eval {callee:=.value U,args:= #[.const (.func (.yield l) #[] #[])],argTypes:= #[]} 0;pL d.target d.args:bA vu).runT aj w #[]=(.ok (.enter y (#[.func (.yield l) #[] #[]]++Z)) w, #[]):=λc a l w=>by
   have:=H (#[.func (.yield l) #[] #[]]++Z) w;simp only[mI,a2,ax5,eN,dp,bN,pL,CM,qG,zZ,O0];simp only[xI];exact this
  simp only[aw,aZ,fZ,R,rV,a7,jG,seen_none,if_true];rfl
 ·show w.heap.size<=((w.alloc (.deferred (ae []))).alloc (.loop (ru w b ps a1 body))).heap.size;rw[dh,dh];omega
theorem BL{P:aV}{w:ak}{l:Nat}{r:nK}(h:w.heap[l]?=ae (.loop r))(a:Array bX):(aD0 l).runT P w a=(.ok r w,a.push ⟨.obj l,ax,ax⟩):=by
 simp only[aD0,getObj,eN,dp,eL,h,bN];rfl
theorem ay.au2{b:bC}{j:Array aK}{l:Nat}{r:nK}{p1 p2:Tmp}(x:g.status=.running)(B:g.frame.kind=.normal)(h:dW g i)(v:(oG g).op=.call {callee:=.value U,args:= #[a8,b],argTypes:=j})(y:(aG g).eval U=.func (.yield l) #[] #[])(c:w.heap[l]?=ae (.loop r))(f:r.params= #[p1,p2])(u:ay aj Post O (aw (D5 l r.fn ((r.tmps.setIfInBounds p1 ((aG g).eval a8)).setIfInBounds p2 ((aG g).eval b)) r.assign r.body .normal) (g.frame::g.callers)) w):ay aj Post O g w:=by
 have t:l<w.heap.size:=(cq.1 c).1;have p:g.frame.atR (aG g) (.inRegion (lB g) (i::rF g)::kG g)=g.frame:=by
  conv=>rhs;rw[h.eq]
  rfl
 have o:∀a d,(bp (aG g).eval (oG g)).runT aj (Sim.re w a d) #[]=(.ok (.round l r.fn ((r.tmps.setIfInBounds p1 ((aG g).eval a8)).setIfInBounds p2 ((aG g).eval b)) r.assign r.body) (Sim.re w a d), #[⟨.obj l,ax,ax⟩]):=λa d=>by
  have e:=BL (P:=aj) (w:=Sim.re w a d) (l:=l) (r:=r) c #[];have H:¬(2≠r.params.size):=by rw[f];simp
  unfold bp;simp only[v,mI,y,ax5,eN,dp,bN,pL,CM,qG,zZ,O0,Instr.yield];rw[jj,e];dsimp only;rw[f];simp[-nE,eL,bN]
 refine .step x λa d=>⟨_,Sim.re w a d,jo aj g.frame.fn #[⟨.obj l,ax,ax⟩],?_,aL _,yk (r:=l) t λe k=>⟨ax,by simpa using k⟩,u.re (tp:=a) (d:=d)⟩;have s:((g.frame.atR (aG g) (.inRegion (lB g) (i::rF g)::kG g)).kind==.early)=false:=h.kind;rw[h.step];unfold rV;simp only[o,if_true,s,jG,dx,if_false,xm];rw[p];rfl
theorem World.oe(w:ak)(l:Nat)(o:dV):(w.putObj l o).heap.size=w.heap.size:=by simp[aD4]
theorem ay.MB{k:List dP}{l:Nat}{r:nK}(p:b.mode=.run)(o:b.kind=.normal)(f:b.roundOf=ae l)(s:b.todo=.beginRound::k)(c:w.heap[l]?=ae (.loop r))(H:r.state=.ready)(y:ay aj Post O (aw {b with todo:=k} u) (w.putObj l (.loop {r with state:=.busy}))):ay aj Post O (aw b u) w:=by
 have x:l<w.heap.size:=(cq.1 c).1;refine .step rfl λa d=>⟨_,Sim.re (w.putObj l (.loop {r with state:=.busy})) a d,jo aj b.fn #[⟨.obj l,ax,ax⟩,⟨.obj l,aq,ax⟩],?_,by show w.heap.size<=(w.putObj l _).heap.size;rw[World.oe];exact aL _,yk (r:=l) (by show l<(w.putObj l _).heap.size;rw[World.oe];exact x) λe h=> ?_,y.re (tp:=a) (d:=d)⟩
 ·obtain⟨R,Z,W,N,j,U,ro⟩:=b;dsimp only at p o f s;subst p o f s;have t:(do az8 l;bN .skip:bA vu).runT aj (Sim.re w a d) #[]=(.ok .skip (Sim.re (w.putObj l (.loop {r with state:=.busy})) a d), #[⟨.obj l,ax,ax⟩,⟨.obj l,aq,ax⟩]):=by
   have e:=BL (P:=aj) (w:=Sim.re w a d) (l:=l) (r:=r) c #[];have v:(Sim.re w a d).heap[l]?=ae (.loop r):=c;simp only[az8,eN];rw[jj,jj,e];simp only[setObj,dp,eL,v,H,bN];rfl
  have B:((.normal:CallKind)==.early)=false:=bc;simp only[aw,aZ,fZ,rV,Option.elim_some,if_true,t,jG,xm,qH,B,dx,if_false]
 ·simp at h;rcases h with rfl|rfl<;>exact⟨_,rfl⟩
theorem ZM{P:aV}{w:ak}{l:Nat}{r:nK}(a:Option du)(h:w.heap[l]?=ae (.loop r)):(aC2 l a).runT P w #[]=(.ok (.bool a.isNone) (w.putObj l (.loop {r with state:=if a.isNone then .ready else .done,pending:=a})), #[⟨.obj l,ax,ax⟩,⟨.obj l,aq,ax⟩]):=by
 have e:=BL (P:=P) h #[];simp only[aC2,eN];rw[jj,e];simp only[setObj,dp,eL,h,bN];rfl
def leaves(fr:aC):Option (Option du):=match fr.todo with
 |[]=>ae af
 | .code .ret::_=>ae (ae .ret)
 | .code (.exit id)::k=>if(qL id k).isNone then ae (ae (.exit id))else af
 |_=>af
theorem ay.ag7{c:aC}{h:Option du}{r:nK}(v:b.mode=.run)(s:b.kind=.normal)(o:b.roundOf=ae a)(f:leaves b=ae h)(t:w.heap[a]?=ae (.loop r))(y:ay aj Post O (aw (c.finish (.bool h.isNone)) u) (w.putObj a (.loop {r with state:=if h.isNone then .ready else .done,pending:=h}))):ay aj Post O (aw b (c::u)) w:=by
 have x:a<w.heap.size:=(cq.1 t).1;refine .step rfl λl d=>⟨_,Sim.re (w.putObj a (.loop {r with state:=if h.isNone then .ready else .done,pending:=h})) l d,jo aj b.fn #[⟨.obj a,ax,ax⟩,⟨.obj a,aq,ax⟩],?_,by show w.heap.size<=(w.putObj a _).heap.size;rw[World.oe];exact aL _,yk (r:=a) (by show a<(w.putObj a _).heap.size;rw[World.oe];exact x) λe p=> ?_,y.re (tp:=l) (d:=d)⟩
 ·obtain⟨R,Z,W,N,j,U,ro⟩:=b;dsimp only at v s o;subst v s o;have e:=ZM (P:=aj) (w:=Sim.re w l d) (l:=a) (r:=r) h t;unfold leaves at f;dsimp only at f;split at f
  ·cases f;simp only[aw,aZ,fZ,e,xP,jG,xm];first|done|rfl
  ·cases f;simp only[aw,aZ,fZ,e,xP,jG,xm];first|done|rfl
  ·rename_i id k;split at f
   ·rename_i B;cases f;have H:qL id k=none:=by simpa using B
    simp only[aw,aZ,fZ,H,Option.elim_none,e,xP,jG,xm];first|done|rfl
   ·cases f
  ·cases f
 ·simp at p;rcases p with rfl|rfl<;>exact⟨_,rfl⟩
theorem ay.Mp{k:List dP}{l:Nat}{r:nK}(h:b.mode=.run)(o:b.todo=.endRangeFunc l::k)(c:w.heap[l]?=ae (.loop r))(x:(r.state==.busy)=ax)(v:ay aj Post O (aw {b with todo:=(r.pending.map Item.code).toList++k} u) (w.putObj l (.loop {r with state:=.exhausted}))):ay aj Post O (aw b u) w:=by
 have t:l<w.heap.size:=(cq.1 c).1;refine .step rfl λa d=>⟨_,Sim.re (w.putObj l (.loop {r with state:=.exhausted})) a d,jo aj b.fn #[⟨.obj l,ax,ax⟩,⟨.obj l,aq,ax⟩],?_,by show w.heap.size<=(w.putObj l _).heap.size;rw[World.oe];exact aL _,yk (r:=l) (by show l<(w.putObj l _).heap.size;rw[World.oe];exact t) λe f=> ?_,v.re (tp:=a) (d:=d)⟩
 ·obtain⟨B,R,N,y,j,H,ro⟩:=b;dsimp only at h o;subst h o;have p:(aD2 l).runT aj (Sim.re w a d) #[]=(.ok r.pending (Sim.re (w.putObj l (.loop {r with state:=.exhausted})) a d), #[⟨.obj l,ax,ax⟩,⟨.obj l,aq,ax⟩]):=by
   have e:=BL (P:=aj) (w:=Sim.re w a d) (l:=l) (r:=r) c #[];have s:(Sim.re w a d).heap[l]?=ae (.loop r):=c;simp only[aD2,eN];rw[jj,e];simp only[x,dx,if_false,setObj,dp,eL,s,bN];rfl
  simp only[aw,aZ,fZ,p,jG,xm];first|done|rfl
 ·simp at f;rcases f with rfl|rfl<;>exact⟨_,rfl⟩
theorem ay.taken{D:Nat}{ar:Array au}{ds ds0:List jH}(k:b.mode=.returning)(c:b.defers={target:=.collected D,args:=ar}::ds)(h:w.heap[D]?=ae (.deferred (ae ds0)))(r:ay aj Post O (aw {b with defers:=ds0++ds} u) (w.putObj D (.deferred af))):ay aj Post O (aw b u) w:=by
 have p:D<w.heap.size:=(cq.1 h).1;refine .step rfl λa d=>⟨_,Sim.re (w.putObj D (.deferred af)) a d,jo aj b.fn #[⟨.obj D,ax,ax⟩,⟨.obj D,aq,ax⟩],?_,by show w.heap.size<=(w.putObj D _).heap.size;rw[World.oe];exact aL _,yk (r:=D) (by show D<(w.putObj D _).heap.size;rw[World.oe];exact p) λe f=> ?_,r.re (tp:=a) (d:=d)⟩
 ·obtain⟨t,y,x,s,j,v,ro⟩:=b;dsimp only at k c;subst k c;have l:(ay6 D).runT aj (Sim.re w a d) #[]=(.ok ds0 (Sim.re (w.putObj D (.deferred af)) a d), #[⟨.obj D,ax,ax⟩,⟨.obj D,aq,ax⟩]):=by
   have o:(Sim.re w a d).heap[D]?=ae (.deferred (ae ds0)):=h;simp only[ay6,getObj,setObj,eN,dp,eL,o,bN];rfl
  simp only[aw,aZ,rY,l,jG,xm];first|done|rfl
 ·simp at f;rcases f with rfl|rfl<;>exact⟨_,rfl⟩
end
