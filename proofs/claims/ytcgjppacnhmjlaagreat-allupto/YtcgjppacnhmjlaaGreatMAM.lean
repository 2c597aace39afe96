/- Own texts: GeP, GeB, GeC, GeD, GeE. -/
import Derived.Test.YtcgjppacnhmjlaaGreatMAL
set_option linter.all false
open Array renaming getElem?_eq_some_iff->cq,getElem?_modify->fV,toList_map->H5,toList_range->ay8,ext'->Pa
open Bool renaming true->aq,false->ax,false_eq_true->dx,eq_false_iff->CH
open Classical renaming byContradiction->pC
open Decidable renaming decide->aM
open Go renaming World->ak,Value->au,Calls->aE,TypeId->aK,heap_alloc_new->cY,Addr->aH,madeCells->kg,heap_alloc_old->xu,Obj->dV
open Go.Addr renaming add_lit->jF
open Go.Proofs.Tryz renaming prog->aj,func33->P2,ntmps33->aF9
open Go.Value renaming ownBlock->fX,string->zX
open Go.World renaming cell?->bL,size_alloc->dh,setCell->eK,size_setCell->jX,frozen?->gu,ownsRow_nil->CB
open Inhabited renaming default->fM
open List renaming getElem?_eq_getElem->bf,getElem?_eq_some_iff->cu,mem_of_getElem?->cG,take_of_length_le->fU,mem_append->dU,range->dn,mem_cons_self->gq,length_append->gJ,drop_eq_getElem_cons->lG,take_append_drop->jW,mem_cons_of_mem->jD,getElem?_map->iI,mem_filter->gK,getElem?_append_right->np,getElem?_append_left->nu,getElem?_eq_none->lI,length_filter_le->mB,pairwise_cons->kZ,mem_map->iL,take_add_one->mC,ext_getElem?->mD,nil_append->nB,any_eq_true->pG,length_cons->rM,append_assoc->sU,length_take->sW,filter_append->uV,replicate->rR,flatten_cons->uX,take_length->zK,flatten_append->Cy,length_nil->zV,size_toArray->CE,length_filter_eq_length_iff->NB,filter_cons->CO,pairwise_map->GZ,set_append_right->NJ,replicate_succ->NS,getElem?_range->NU,set_cons_zero->O5,getElem?_replicate->aw2,toList_toArray->ay2,filter_congr->az4,mem_flatMap->aA3
open List.Pairwise renaming nil->nA,filter->sQ,imp->aL5
open Nat renaming le_refl->aL,le_trans->bT,lt_of_lt_of_le->dG,zero_le->fL,zero_add->ia,sub_self->xC,lt_of_le_of_ne->O7,min_eq_left->Oo,reduceAdd->OK,mod_one->aK6
open Ne renaming symm->jm
open Option renaming some->ae,none->af,map_some->hZ,isSome_iff_exists->sO
open Prod renaming fst->Po
namespace Go.Proofs.YtcgjppacnhmjlaaGreat
open Go Go.Conc Go.ConcN Go.Conc.Lib Go.ConcR.Gen Go.RowKit
namespace Sim
variable {c:List KV} {k:List UInt8} {o:Int} {f s:Nat} {y:au} {v:List au} {t:ByteArray} {u:KV} {p:PP}
theorem am3{b:List KV}(f:bh c)(j:bh b)(h:∀e∈c,e∈b):c.length<=b.length:=by
 classical
 have e:c=b.filter (λx=>aM (x∈c)):=bh.ext f (sQ _ j) λx=>by
  rw[gK,decide_eq_true_iff];exact⟨λa=>⟨h x a,a⟩,λa=>a.2⟩
 rw[e];exact mB _ _
theorem yD{v:Int}(b:bh c)(h:lk k c=af):(ins k v c).length=c.length+1:=by
 have o:=oZ k v c b;have p:c.length<(ins k v c).length:=by
  have l:bh (ins k v c):=iw b;have:((ins k v c).filter λe=>aM (e.1≠k))=c:=by
   refine(bh.ext (sQ _ l) b λe=> ?_);rw[gK,iT,decide_eq_true_iff];constructor
   ·rintro⟨rfl|h,j⟩;·exact absurd rfl j
    ·exact h.1
   ·intro a;exact⟨.inr ⟨a,Bn.1 h e a⟩,Bn.1 h e a⟩
  have f:((ins k v c).filter λe=>aM (e.1≠k)).length<(ins k v c).length:=by
   refine O7 (mB _ _) λe=> ?_;have:=NB.1 e (k,v) (iT.2 (.inl rfl));simp at this
  rw[this]at f;exact f
 omega
theorem EK(f:bh c)(h:(lk k c).isSome=aq):(ins k o c).length=c.length:=by
 obtain⟨u,H⟩:=sO.1 h;have v:=yE H;refine Nat.le_antisymm ?_ ?_
 ·have e:ins k o c=c.map (λe=>if e.1=k then(k,o)else e):=by
   refine bh.ext (iw f) ?_ λe=> ?_
   ·unfold bh;rw[GZ];refine aL5 (λ{a b} l=> ?_) f;by_cases s:a.1=k<;>by_cases t:b.1=k<;>simp[s,t]<;>first|exact l|skip
    ·rw[s,t]at l;exact l
    ·rw[s]at l;exact l
    ·rw[t]at l;exact l
   ·rw[iT,iL];constructor
    ·rintro(rfl|⟨r,j⟩);·exact⟨(k,u),v,az⟩
     ·exact⟨e,r,by simp[j]⟩
    ·rintro⟨a,B,rfl⟩;by_cases j:a.1=k;·left;simp[j]
     ·right;simp[j,B]
  rw[e];simp
 ·have:=oZ k o c f;have x:((ins k o c).filter λe=>aM (e.1≠k)).length+1<=(ins k o c).length:=by
   have:((ins k o c).filter λe=>aM (e.1≠k)).length<(ins k o c).length:=by
    refine O7 (mB _ _) λe=> ?_;have:=NB.1 e (k,o) (iT.2 (.inl rfl));simp at this
   omega
  have y:((ins k o c).filter λe=>aM (e.1≠k))=c.filter λe=>aM (e.1≠k):=by
   refine bh.ext (sQ _ (iw f)) (sQ _ f) λe=> ?_;rw[gK,gK,iT,decide_eq_true_iff];constructor
   ·rintro⟨rfl|h,p⟩;·exact absurd rfl p
    ·exact⟨h.1,p⟩
   ·rintro⟨p,w⟩;exact⟨.inr ⟨p,w⟩,w⟩
  have p:c.length<=(c.filter λe=>aM (e.1≠k)).length+1:=by
   have e:c=ins k u (c.filter λe=>aM (e.1≠k)):=rh (sQ _ f) f λe=>by
    rw[gK,decide_eq_true_iff];constructor
    ·intro r;by_cases j:e.1=k;·left;exact f.inj r v j
     ·right;exact⟨⟨r,j⟩,j⟩
    ·rintro(rfl|h);·exact v
     ·exact h.1.1
   have:=oZ k u _ (sQ (λe:KV=>aM (e.1≠k)) f);rw[<-e]at this;exact this
  rw[y]at x;omega
theorem KC{k:List UInt8}{v:Int}(a:bh c):c.length<=(ins k v c).length:=by
 cases h:lk k c with
 |none=>rw[yD a h];omega
 |some u=>rw[EK a (by rw[h];rfl)];exact aL _
theorem EL:∀(m:List KV) {l:List KV},bh l->l.length<=(aW l m).length
 |[],l,h=>aL _
 |e::m,l,h=>bT (KC (k:=e.1) (v:=e.2) h) (EL m (iw h))
theorem KE{m:List KV}(f:bh c)(a:bh m):m.length<=(aW c m).length:=am3 a (qy f) λe b=>(ug a).2 (.inl b)
theorem KD:∀(m:List KV) {l:List KV},bh l->bh m->(aW l m).length=l.length+(m.filter λe=>(lk e.1 l).isNone).length
 |[],l,h,_=>rfl
 |e::m,l,h,c=>by
  have f:=kZ.1 c;have key:=KD m (l:=ins e.1 e.2 l) (iw h) f.2;have r:∀q∈m,lk q.1 (ins e.1 e.2 l)=lk q.1 l:=λq b=>KI (iw h) h λv=>by
   rw[iT];have j:q.1≠e.1:=λk=>by
    have:=f.1 q b;exact absurd (c.inj (jD _ b) (gq ..) k) (λo=>by rw[o]at this;exact kx _ this)
   constructor
   ·rintro(a|a);·exact absurd (congrArg Po a) j
    ·exact a.1
   ·intro a;exact .inr ⟨a,j⟩
  have p:(m.filter λq=>(lk q.1 (ins e.1 e.2 l)).isNone)=m.filter λq=>(lk q.1 l).isNone:=az4 λq b=>by rw[r q b]
  rw[p]at key;show(aW (ins e.1 e.2 l) m).length=_;rw[key,CO];cases a:lk e.1 l with
  |none=>rw[yD h a];simp;omega
  |some u=>rw[EK h (by rw[a];rfl)];simp
theorem Nj:∀(b:List KV) {X a:List KV},bh X->bh a->aW X (aW a b)=aW (aW X a) b
 |[],X,a,c,f=>rfl
 |e::b,X,a,c,f=>by
  show aW X (aW (ins e.1 e.2 a) b)=aW (ins e.1 e.2 (aW X a)) b;rw[Nj b c (iw f),Nh c f]
def dJ(ps:List PP)(L:List KV):List KV:=ps.foldl (λa q=>ins (eG q.1) q.2 a) L
theorem uM:∀(ps:List PP) {L:List KV},bh L->bh (dJ ps L)
 |[],L,h=>h
 |q::ps,L,h=>uM ps (iw h)
theorem yC:∀(ps:List PP) {L:List KV},bh L->L.length<=(dJ ps L).length
 |[],L,h=>aL _
 |q::ps,L,h=>bT (KC h) (yC ps (iw h))
theorem Gw:∀(ps:List PP) {X a:List KV},bh X->bh a->aW X (dJ ps a)=dJ ps (aW X a)
 |[],X,a,b,c=>rfl
 |q::ps,X,a,b,c=>by
  show aW X (dJ ps (ins (eG q.1) q.2 a))=dJ ps (ins (eG q.1) q.2 (aW X a));rw[Gw ps b (iw c),Nh b c]
theorem Nc:∀(ps:List PP) {L:List KV},bh L->(dJ ps L).length<=3000->iH ps L=dJ ps L
 |[],L,h,_=>rfl
 |q::ps,L,h,a=>by
  unfold iH;have:L.length<=3000:=bT (yC (q::ps) h) a;rw[if_neg ag];exact Nc ps (iw h) a
theorem Nb:∀(ps:List PP) {L:List KV},(iH ps L).length<=3000->iH ps L=dJ ps L
 |[],L,_=>rfl
 |q::ps,L,a=>by
  unfold iH at a⊢;split;·rename_i h;rw[if_pos h]at a;omega
  ·rename_i h;rw[if_neg h]at a;exact Nb ps a
def r8(pss:List (List PP))(l:List KV):List KV:=pss.foldl (λL ps=>aW L (pl ps)) l
theorem Nk(f:bh c)(pss:List (List PP)):aW c (gI pss)=r8 pss c:=by
 have key:∀(pss:List (List PP)) (a:List KV),bh a->aW c (pss.foldl (λL ps=>aW L (pl ps)) a)=r8 pss (aW c a):=by
  intro pss;induction pss with
  |nil=>intro a _;rfl
  |cons ps pss h=>
   intro a b;show aW c (pss.foldl _ (aW a (pl ps)))=r8 pss (aW (aW c a) (pl ps));rw[h _ (qy b),Nj _ f b]
 have:=key pss [] nA;exact this
theorem KB:∀(pss:List (List PP)) {l:List KV},bh l->l.length<=(r8 pss l).length
 |[],l,h=>aL _
 |ps::pss,l,h=>bT (EL (pl ps) h) (KB pss (qy h))
theorem Zj{ps:List PP}(h:fI ps=ax):pl ps=iH ps []:=by unfold pl;rw[h];rfl
theorem Ep:∀(pss:List (List PP)) {l:List KV},bh l->(∀ps∈pss,fI ps=ax)->(r8 pss l).length<=3000\/(dJ pss.flatten l).length<=3000->r8 pss l=dJ pss.flatten l
 |[],l,h,_,_=>rfl
 |ps::pss,l,h,o,a=>by
  have c:=Zj (o ps az);have b:dJ (ps::pss).flatten l=dJ pss.flatten (dJ ps l):=by simp[dJ]
  have r:pl ps=dJ ps []:=by
   rcases a with a|a
   ·have j:(aW l (pl ps)).length<=3000:=bT (KB pss (qy h)) a;have k:=KE h (BI ps).1;rw[c]at k⊢;rw[c]at j;exact Nb ps ag
   ·rw[b]at a;have j:(dJ ps l).length<=3000:=bT (yC _ (uM ps h)) a;have k:(dJ ps []).length<=(dJ ps l).length:=by
     have e:=Gw ps (X:=l) (a:=[]) h nA;rw[ap9]at e;rw[<-e];exact KE h (uM ps nA)
    rw[c];exact Nc ps nA ag
  have f:aW l (pl ps)=dJ ps l:=by rw[r,Gw ps h nA];rfl
  show r8 pss (aW l (pl ps))=_;rw[b];refine(congrArg (r8 pss) f).trans (Ep pss (uM ps h) (λq p=>o q (by simp[p])) ?_);rcases a with a|a;·left;rw[<-f];exact a
  ·right;rw[<-b];exact a
theorem TP{pss:List (List PP)}(f:bh c)(j:¬16<pss.length)(b:∀ps∈pss,fI ps=ax)(h:(dJ pss.flatten c).length<=3000):jb pss c=0/\jw pss c=dJ pss.flatten c:=by
 have k:pss.any fI=false:=by
  apply CH.2;intro e;obtain⟨ps,l,a⟩:=pG.1 e;rw[b ps l]at a;cases a
 unfold jb jw;rw[if_neg j,if_neg j,k,Nk f,Ep pss f b (.inr h)];simp only[dx,if_false,full,room];rw[if_neg ag,if_neg ag];exact⟨rfl,rfl⟩
theorem Jt{pss:List (List PP)}(j:bh c)(k:¬16<pss.length)(f:∀ps∈pss,fI ps=ax)(h:3000<(dJ pss.flatten c).length):jb pss c=2/\jw pss c=c:=by
 have l:pss.any fI=false:=by
  apply CH.2;intro e;obtain⟨ps,p,b⟩:=pG.1 e;rw[f ps p]at b;cases b
 have a:3000<(r8 pss c).length:=by
  apply pC;intro o;have:=Ep pss j f (.inl ag);rw[this]at o;omega
 unfold jb jw;rw[if_neg k,if_neg k,l,Nk j];simp only[dx,if_false,full,room];rw[if_pos a,if_pos a];exact⟨rfl,rfl⟩
structure jJ(r:Nat)(g:Option Nat)(w a:ak):Prop where
 size:w.heap.size<=a.heap.size
 block:∀k,k<w.heap.size->k≠r->ae k≠g->a.heap[k]?=w.heap[k]?
 os:a.os=w.os
 output:a.output=w.output
section
variable {Post:au->ak->Prop} {O:Nat->Prop} {R:BR} {w a w1:ak} {r q:Nat} {j x:au} {l m:List KV}
theorem jJ.of{g:Option Nat}{b:Tape}{d:Nat}(h:mM r g (Sim.re w b d) a):jJ r g w a:=⟨h.size,h.block,h.os,h.output⟩
theorem jJ.re{g:Option Nat}(h:jJ r g w a)(tp:Tape)(d:Nat):jJ r g w (Sim.re a tp d):=⟨h.size,h.block,h.os,h.output⟩
theorem jJ.cv{g:Option Nat}(h:aO w a):jJ r g w a:=⟨h.size,λk b _ _=>h.block k b,h.os,h.output⟩
theorem kA(h:bQ w r j l)(b:aO w a):bQ a r j l:=⟨(b.block r (cJ h.blk)).trans h.blk,ng h.row λg e=>b.block g (h.row.lt g e).2,h.out,h.ck,h.short,h.cI⟩
theorem ze(h:bQ w r j l)(b:a.heap[r]?=w.heap[r]?)(c:∀g,j.ownBlock=ae g->a.heap[g]?=w.heap[g]?):bQ a r j l:=⟨b.trans h.blk,ng h.row c,h.out,h.ck,h.short,h.cI⟩
theorem Mu{o:dV}(h:a.heap[f]?=ae (.cells #[.slice af 0 0] 36 (0,0))):bQ a f (.slice af 0 0) []:=⟨h,CB _ _ _ _,by simp[fX],nA,λe b=>(by cases b),az⟩
theorem ah1{e:aK}{n:Nat}(h:w.ownsRow f e s y n v):w.ownsRow 0 e s y n v:=by
 obtain⟨b,a|⟨g,cap,c,a,k,j⟩⟩:=h;·exact⟨b,.inl a⟩
 ·exact⟨b,.inr ⟨g,cap,c,a,fL _,j⟩⟩
theorem TW:∀u∈flat l,u.oneCell'=true:=λu b=>by
 unfold flat at b;obtain⟨e,_,a⟩:=aA3.1 b;simp at a;rcases a with rfl|rfl<;>rfl
theorem F3(o:aI Xm O R w)(W:R r r)(h:bQ w r j l):MC Post 21 #[ptr r] O w (λa1 O' b a=>O'=O/\a1=ptr w.heap.size/\(∃yv,bQ a w.heap.size yv l/\∀g,yv.ownBlock=ae g->w.heap.size<=g)/\aO w a/\aI Xm O b a/\BR.Sub R b/\b w.heap.size w.heap.size):=by
 intro a6 cs U;have Z:¬O w.heap.size:=λhO=>by have:=o.low _ hO;omega
 have B:=o.apart r W;have y:aI Xm O (R.add w.heap.size w.heap.size) (w.alloc (.cells #[.slice af 0 0] 36)):=o.boxed (v:=.slice af 0 0) (.snil 0 0) 36;by_cases t:l=[]
 ·subst t;obtain⟨v,x,rfl⟩:∃v x,j=.slice v 0 x:=by
   rcases h.cases with⟨_,rfl⟩|⟨g,cap,rfl,_⟩;·exact⟨_,_,rfl⟩
   ·exact⟨_,_,rfl⟩
  refine Wz B h.cell rfl Z (U _ O _ _ ⟨rfl,rfl,⟨.slice af 0 0,Mu (o:=fM) (cY w _),λg hg=>by simp[fX]at hg⟩,dw w _,y,BR.gF _ _ _,.inr ⟨rfl,rfl⟩⟩)
 ·have h0:0<l.length:=by cases l<;>simp at t⊢
  obtain⟨g,cap,rfl,hp,hc⟩:∃g cap,j=.slice (ae ⟨g,0,af⟩) l.length cap/\oJ w g l/\l.length<=cap:=by
   rcases h.cases with⟨rfl,_⟩|h;·exact absurd rfl t
   ·exact h
  have hv:VR Xm.G (R.add w.heap.size w.heap.size) (.slice (ae ⟨g,0,af⟩) l.length cap) (.slice (ae ⟨g,0,af⟩) l.length cap):=(rp o W h.cell).mono (BR.gF _ _ _);refine WA (news:=flat l) B h.cell rfl Z h0 h.cI y hv (Jy l) (λa7 a1 hj=> ?_) TW λf p a b k1 k2 k3 k4 k5 k6=> ?_
  ·rw[jF,ia];exact(dw w _).cell (FB h.row hj)
  ·have a2:a.heap[w.heap.size]?=ae (.cells #[.slice af 0 0] 36 (0,0)):=(k2.block _ az).trans (cY w _);have N:f≠w.heap.size:=by rw[k6,dh];omega
   have u:∀k,k≠w.heap.size->(a.setCell ⟨w.heap.size,0,af⟩ (.slice (ae ⟨f,0,af⟩) (0+l.length) p)).heap[k]?=a.heap[k]?:=λk s=>by simp[eK,fV,jm s]
   have H:aO w (a.setCell ⟨w.heap.size,0,af⟩ (.slice (ae ⟨f,0,af⟩) (0+l.length) p)):=by
    have:=(dw w (.cells #[.slice af 0 0] 36)).trans k2;exact⟨by rw[jX];exact this.size,λk s=>(u k ag).trans (this.block k s),this.os,this.output⟩
   rw[nB,ia]at k1;rw[ia]at k4 u H⊢;refine U _ O b _ ⟨rfl,rfl,⟨.slice (ae ⟨f,0,af⟩) l.length p,⟨?_,?_,?_,h.ck,h.short,h.cI⟩,λg2 c=> ?_⟩,H,k3.set _ k4,(BR.gF _ _ _).trans k5,k5 _ _ (.inr ⟨rfl,rfl⟩)⟩;·simp[eK,fV,a2]
   ·exact ng (ah1 k1) λg2 c=>by
     simp[fX]at c;subst c;exact u _ N
   ·simp[fX];exact N
   ·simp[fX]at c;subst c;rw[k6,dh];omega
theorem Yc{S:Nat->Prop}(x:aI Xm O R w)(hx:R f f)(hy:R s s)(y:∀k,w.heap.size<=k->S k)(h:bB S w f l)(H:bB S w s m)(N:f=s->l=m):MC Post 57 #[ptr f,ptr s] O w (λu r p a=>r=O/\u=.int .i64 (full (aW l m))/\bB S a f (room l (aW l m))/\lN f w a/\aI Xm O p a/\BR.Sub R p):=by
 refine iD (kT (R:=R) (Post1:=λu a=>u=.int .i64 (full (aW l m))/\bB S a f (room l (aW l m))/\lN f w a) Ud (kS bc) x (iP (l:=[ptr f,ptr s]) ⟨kD hx,kD hy,trivial⟩) (λu a j d ⟨o,b,c⟩=>⟨o,qj b j d,c.re j d⟩) (λj=> ?_)) λu r p a Z=> ?_
 ·by_cases t:f=s
  ·subst t;have e:=N rfl;subst e;have W:bh l:=by obtain⟨n,aQ,_,B⟩:=h.tree;exact wX B
   have o:full (aW l l)=0/\room l (aW l l)=l:=by
    rw[Ni W];unfold full room;have:=h.cI;rw[if_neg ag,if_neg ag];exact⟨rfl,rfl⟩
   refine(Vb (qj h j 0)).mono ?_;rintro e a ⟨rfl,b,c⟩;rw[o.1,o.2];exact⟨_,rfl,rfl,b,.of c⟩
  ·refine(Va (w:=Sim.re w j 0) (λk U=>y k U) (qj h j 0) (qj H j 0) t).mono ?_;rintro e a ⟨rfl,b,c⟩;exact⟨_,rfl,rfl,b,.of c⟩
 ·obtain⟨rfl,⟨rfl,o,b⟩,c,_,v,_⟩:=Z;exact⟨rfl,rfl,o,b,c,v⟩
theorem Fh(b:Int)(w:ak):aE aj 33 #[.int .i64 b] w λe a=>e=.returned (.int .i64 b)/\a=w:=by
 go_enter P2,aF9
 go_wp2
 go_ret
 exact⟨rfl,rfl⟩
theorem L5(p:aI Xm O R w):MC Post 33 #[.int .i64 o] O w (λu h b a=>h=O/\u=.int .i64 o/\aO w a/\aI Xm O b a/\BR.Sub R b):=by
 refine iD (kT (R:=R) (Post1:=λu a=>u=.int .i64 o/\aO w a) U7 (kS bc) p (iP (l:=[.int .i64 o]) ⟨.int _ _,trivial⟩) (λu a f d ⟨c,j⟩=>⟨c,j.re f d⟩) (λf=>(Fh o _).mono ?_)) λu h b a r=> ?_
 ·rintro e a ⟨rfl,rfl⟩;exact⟨_,rfl,rfl,(aO.refl w).re f 0⟩
 ·obtain⟨rfl,⟨rfl,c⟩,k,_,l,_⟩:=r;exact⟨rfl,rfl,c,k,l⟩
theorem Yb(H:aI Xm O R w)(W:R r r)(h:bQ w r j l){key:ByteArray}(N:key.size<=9223372036854775807):MC Post 41 #[ptr r,.string key] O w (λu v c a=>v=O/\(∃f,u=.tuple #[.int .i64 f,.bool (lk key.data.toList l).isSome])/\aO w a/\aI Xm O c a/\BR.Sub R c):=by
 refine iD (kT (R:=R) (Post1:=λu a=>(∃f,u=.tuple #[.int .i64 f,.bool (lk key.data.toList l).isSome])/\aO w a) U9 (kS bc) H (iP (l:=[ptr r,.string key]) ⟨kD W,.string _,trivial⟩) (λu a b d ⟨s,t⟩=>⟨s,t.re b d⟩) (λb=> ?_)) λu v c a Z=> ?_
 ·have p:bQ (Sim.re w b 0) r j l:=kA h ((aO.refl w).re b 0);by_cases x:l=[]
  ·subst x;obtain⟨k,o,rfl⟩:∃k o,j=.slice k 0 o:=by
    rcases h.cases with⟨_,rfl⟩|⟨g,cap,rfl,_⟩;·exact⟨_,_,rfl⟩
    ·exact⟨_,_,rfl⟩
   refine(MF r k o key (Sim.re w b 0) p.cell).mono ?_;rintro e a ⟨rfl,n,rfl⟩;exact⟨_,rfl,⟨0,rfl⟩,aO.of (below_drewN _ n)⟩
  ·obtain⟨g,cap,rfl,U,hc⟩:∃g cap,j=.slice (ae ⟨g,0,af⟩) l.length cap/\oJ (Sim.re w b 0) g l/\l.length<=cap:=by
    rcases p.cases with⟨rfl,_⟩|h;·exact absurd rfl x
    ·exact h
   have:=h.cI;refine(MG r g cap l key (Sim.re w b 0) p.cell U h.ck h.short N ag).mono ?_;rintro e a ⟨rfl,n,rfl⟩;exact⟨_,rfl,⟨_,rfl⟩,aO.of (below_drewN _ n)⟩
 ·obtain⟨rfl,⟨s,t⟩,y,_,B,_⟩:=Z;exact⟨rfl,s,t,y,B⟩
theorem Y7(B:aI Xm O R w)(N:R r r)(h:bQ w r j l)(H:t.size<=9223372036854775807):MC Post 32 #[ptr r,.string t,.int .i64 o] O w (λu x s a=>x=O/\u=lD t l/\(∃b,bQ a r b (iE t o l)/\(b.ownBlock=j.ownBlock\/∃g,b.ownBlock=ae g/\w.heap.size<=g))/\jJ r j.ownBlock w a/\aI Xm O s a/\BR.Sub R s):=by
 refine iD (kT (R:=R) (Post1:=λu a=>u=lD t l/\(∃b,bQ a r b (iE t o l)/\(b.ownBlock=j.ownBlock\/∃g,b.ownBlock=ae g/\w.heap.size<=g))/\jJ r j.ownBlock w a) U6 (kS bc) B (iP (l:=[ptr r,.string t,.int .i64 o]) ⟨kD N,.string _,.int _ _,trivial⟩) (λu a p d ⟨c,⟨b,f,k⟩,v⟩=>⟨c,⟨b,kA f ((aO.refl a).re p d),k⟩,v.re p d⟩) (λp=> ?_)) λu x s a U=> ?_
 ·refine(MH (kA h ((aO.refl w).re p 0)) H).mono ?_;rintro e a ⟨rfl,b,c,f,k⟩;exact⟨_,rfl,rfl,⟨b,c,k⟩,.of f⟩
 ·obtain⟨rfl,⟨c,f,y⟩,k,_,v,_⟩:=U;exact⟨rfl,c,f,y,k,v⟩
end
structure tI(O:Nat->Prop)(R:BR)(w:ak)(r:Nat)(j:au)(B:Nat)(h:BR)(W:ak)(L:List KV):Prop where
 known:aI Xm O h W
 sub:BR.Sub R h
 but:jJ r j.ownBlock w W
 low:B<=W.heap.size
 MD:∀g,j.ownBlock=ae g->g<w.heap.size
 ref:∃v,bQ W r v L/\(v.ownBlock=j.ownBlock\/∃g,v.ownBlock=ae g/\B<=g)
section
variable {Post:au->ak->Prop} {O:Nat->Prop} {R h:BR} {w W:ak} {r q:Nat} {j x:au} {l m L:List KV} {B:Nat}
theorem jJ.trans{g c:Option Nat}{w1 l:ak}(h:jJ r g w w1)(k:jJ r c w1 l)(o:∀b,b<w.heap.size->ae b≠g->ae b≠c):jJ r g w l:=⟨bT h.size k.size,λb a f j=>(k.block b (dG a h.size) f (o b a j)).trans (h.block b a f j),k.os.trans h.os,k.output.trans h.output⟩
theorem tI.put(c:tI O R w r j B h W L)(hr:R r r)(hB:w.heap.size<=B)(H:t.size<=9223372036854775807):MC Post 32 #[ptr r,.string t,.int .i64 o] O W λu v l p=>v=O/\u=lD t L/\tI O R w r j B l p (iE t o L)/\(∀k,k<B->w.heap.size<=k->k≠r->p.heap[k]?=W.heap[k]?)/\BR.Sub h l:=by
 obtain⟨aa,N,a⟩:=c.ref;refine iD (Y7 c.known (c.sub _ _ hr) N H) λu v l p hu=> ?_;obtain⟨rfl,hv,⟨a7,U,f⟩,s,Z,x⟩:=hu;have a2:=c.low;refine⟨rfl,hv,⟨Z,c.sub.trans x,c.but.trans s λb hb a6=> ?_,bT a2 s.size,c.MD,a7,U,?_⟩,λk H a8 a1=> ?_,x⟩
 ·rcases a with a|⟨g,a,y⟩;·rw[a];exact a6
  ·rw[a];intro e;cases e;omega
 ·rcases f with f|⟨g,f,y⟩;·rw[f];exact a
  ·exact .inr ⟨g,f,ag⟩
 ·refine s.block k ag a1 λe=> ?_;rcases a with a|⟨g,a,y⟩
  ·rw[a]at e;have:=c.MD k e.symm;omega
  ·rw[a]at e;cases e;omega
theorem EC(h:pR m)(a:u∈m):(keyOf u).size<=64:=by rw[rm];exact h u a
theorem Zu(h:u.1.length<=64)(a:(lk u.1 L).isSome=aq\/L.length<3000):iE (keyOf u) u.2 L=ins u.1 u.2 L:=by
 unfold iE;rw[rm,ud,if_neg ag,if_pos a]
theorem Yd(hK:aI Xm O R w)(hr:R r r)(hq:R q q)(c:bQ w r j l)(hQ:bQ w q x m):MC Post 58 #[ptr r,ptr q] O w (λa6 O' s a=>O'=O/\a6=.int .i64 (full (aW l m))/\(∃an,bQ a r an (room l (aW l m))/\(an.ownBlock=j.ownBlock\/∃g,an.ownBlock=ae g/\w.heap.size<=g))/\jJ r j.ownBlock w a/\aI Xm O s a/\BR.Sub R s):=by
 intro ap cs hn;have am:=hQ.cI;have be:=c.cI;have aR:=KD m c.ck hQ.ck;have bj:r<w.heap.size:=(hK.wr.lt hr).1;obtain⟨ao,ci,b1⟩:∃ao ci,j=.slice ao l.length ci:=by
  rcases c.cases with⟨rfl,rfl⟩|⟨g,cap,rfl,_⟩;·exact⟨_,_,rfl⟩
  ·exact⟨_,_,rfl⟩
 obtain⟨Z,cj,aJ⟩:∃Z cj,x=.slice Z m.length cj:=by
  rcases hQ.cases with⟨rfl,rfl⟩|⟨g,cap,rfl,_⟩;·exact⟨_,_,rfl⟩
  ·exact⟨_,_,rfl⟩
 have bd:∀(y:Nat)(yv:au) (B:Nat),w.heap.size<=y->y<B->(∀g,yv.ownBlock=ae g->w.heap.size<=g/\g<B)->(aW l m).length<=3000->∀(k i:Nat),k+i=m.length->∀(h:BR)(W:ak) (b:Nat->au),tI O R w r j B h W (aW l (m.take i))->h y y->bQ W y yv m->
   ay aj Post O (aw (FD 58 [] (il (ptr r) (ptr q) (b 5) (b 6) (b 8) (ptr y) (.int .i64 (i:Int)) b) ua) (ap::cs)) W:=by
  intro y yv B b2 b3 b9 bk k;induction k with
  |zero=>
   intro i hi h W b H a7 hY;obtain⟨Z,cj,ba⟩:∃Z cj,yv=.slice Z m.length cj:=by
    rcases hY.cases with⟨rfl,rfl⟩|⟨g,cap,rfl,_⟩;·exact⟨_,_,rfl⟩
    ·exact⟨_,_,rfl⟩
   refine Xl (bo:=Z) (m:=m.length) (cj:=cj) (H.known.apart y a7) (by rw[<-ba];exact hY.cell) ag (hn _ O h W ⟨rfl,?_,?_,H.but,H.known,H.sub⟩);·unfold full;rw[if_neg ag]
   ·obtain⟨aQ,f,u⟩:=H.ref;rw[fU ag]at f;refine⟨aQ,?_,u.imp id λ⟨g,v,h4⟩=>⟨g,v,ag⟩⟩;unfold room;rw[if_neg ag];exact f
  |succ k ih=>
   intro i hi h W b H a7 hY;have a1:i<m.length:=ag;obtain⟨e,he⟩:∃e,m[i]?=ae e:=⟨m[i],bf a1⟩;have aa:=cG he;obtain⟨g,cap,rfl,hp,hc⟩:∃g cap,yv=.slice (ae ⟨g,0,af⟩) m.length cap/\oJ W g m/\m.length<=cap:=by
    rcases hY.cases with⟨rfl,_⟩|c;·simp at a1
    ·exact c
   obtain⟨c1,c2⟩:=hp i e he;have a8:h g g:=xa (rp H.known a7 hY.cell);have aP:aW l (m.take (i+1))=ins e.1 e.2 (aW l (m.take i)):=by
    rw[mC,he];simp[aW]
   have bi:(ins e.1 e.2 (aW l (m.take i))).length<=3000:=by
    have e1:aW l m=aW (aW l (m.take (i+1))) (m.drop (i+1)):=by unfold aW;rw[<-List.foldl_append,jW]
    have:=EL (m.drop (i+1)) (l:=aW l (m.take (i+1))) (qy c.ck);rw[<-e1,aP]at this;omega
   have aU:iE (keyOf e) e.2 (aW l (m.take i))=ins e.1 e.2 (aW l (m.take i)):=Zu (hQ.short e aa) (by
    cases ab:lk e.1 (aW l (m.take i))with
    |some a6=>exact .inl rfl
    |none=>
     have:=yD (v:=e.2) (qy c.ck) ab;exact .inr ag)
   refine Xh (gb:=g) (m:=m.length) (cj:=cap) (kk:=keyOf e) (kv:=e.2) (H.known.apart y a7) hY.cell a1 am (H.known.apart g a8) c1 c2 (H.put hr ag (by have:=EC hQ.short aa;omega)) λa6 O' s U hu x'=> ?_;obtain⟨rfl,_,f,u,v⟩:=hu;rw[aU,<-aP]at f;have b6:y≠r:=ag;have aF:=b9 g (by simp[fX]);have aT:g≠r:=ag;refine ih (i+1) ag s U x' f (v _ _ a7) (ze hY (u y b3 b2 b6) λg' av=> ?_);simp[fX]at av;subst av;exact u g aF.2 aF.1 aT
 have bb:∀(k i:Nat),k+i=m.length->∀(t:Nat)(h:BR)(W:ak) (b:Nat->au),t=l.length+((m.take i).filter λe=>(lk e.1 l).isNone).length->aO w W->aI Xm O h W->BR.Sub R h->
   ay aj Post O (aw (FD 58 [] (il (ptr r) (ptr q) (.int .i64 (t:Int)) (.int .i64 (i:Int)) (b 8) (b 9) (b 10) b) oY) (ap::cs)) W:=by
  intro k;induction k with
  |zero=>
   intro i hi t h W b ht o p N;have a2:=kA hQ o;rw[fU ag,<-aR]at ht;by_cases ar:3000<t
   ·refine Xk (bo:=Z) (m:=m.length) (cj:=cj) (p.apart q (N _ _ hq)) (by rw[<-aJ];exact a2.cell) ag ar (hn _ O h W ⟨rfl,?_,⟨j,?_,.inl rfl⟩,.cv o,p,N⟩);·unfold full;rw[if_pos ag]
    ·unfold room;rw[if_pos ag];exact kA c o
   ·refine Xi (bo:=Z) (m:=m.length) (cj:=cj) (p.apart q (N _ _ hq)) (by rw[<-aJ];exact a2.cell) ag ar (F3 p (N _ _ hq) a2) λa6 O' s U hu=> ?_;obtain⟨rfl,rfl,⟨yv,f,u⟩,v,h4,h5,h6⟩:=hu;refine⟨W.heap.size,rfl,λx'=> ?_⟩;exact bd W.heap.size yv U.heap.size o.size (cJ f.blk) (λg hg=>⟨bT o.size (u g hg),(f.row.lt g hg).2⟩) ag m.length 0 ag s U x' ⟨h4,N.trans h5,.cv (o.trans v),aL _,λg hg=>(c.row.lt g hg).2,j,kA c (o.trans v),.inl rfl⟩ h6 f
  |succ k ih=>
   intro i hi t h W b ht o p N;have a1:i<m.length:=ag;obtain⟨e,he⟩:∃e,m[i]?=ae e:=⟨m[i],bf a1⟩;have aa:=cG he;have a2:=kA hQ o;obtain⟨g,cap,b0,hp,hc⟩:∃g cap,x=.slice (ae ⟨g,0,af⟩) m.length cap/\oJ W g m/\m.length<=cap:=by
    rcases a2.cases with⟨rfl,_⟩|c;·simp at a1
    ·exact c
   have ai:=N _ _ hq;have al:W.cell? ⟨q,0,af⟩=ae (.slice (ae ⟨g,0,af⟩) m.length cap):=by rw[<-b0];exact a2.cell
   have a8:h g g:=xa (rp p ai al);obtain⟨c1,c2⟩:=hp i e he;have ac:(((m.take (i+1)).filter λe=>(lk e.1 l).isNone)).length=((m.take i).filter λe=>(lk e.1 l).isNone).length+(if(lk e.1 l).isNone=aq then 1 else 0):=by
    rw[mC,he,uV];simp only[Option.toList_some,CO,List.filter_nil,gJ];split<;>simp
   have bg:((m.take i).filter λe=>(lk e.1 l).isNone).length<=3000:=by
    have:=mB (λe:KV=>(lk e.1 l).isNone) (m.take i);simp at this;omega
   have hB:=Yb (Post:=Post) (key:=keyOf e) p (N _ _ hr) (kA c o) (by have:=EC hQ.short aa;omega);rw[ud]at hB;cases ab:lk e.1 l with
   |some aQ=>
    rw[ab]at hB ac;refine Xg (gb:=g) (m:=m.length) (cj:=cap) (kk:=keyOf e) (t:=t) (p.apart q ai) al a1 am ag (p.apart g a8) c1 hB λa6 O' s U hu=> ?_;obtain⟨rfl,⟨ad,rfl⟩,f,u,v⟩:=hu;exact⟨ad,rfl,λx'=>ih (i+1) ag t s U x' (by rw[ac];simpa using ht) (o.trans f) u (N.trans v)⟩
   |none=>
    rw[ab]at hB ac;refine Xf (gb:=g) (m:=m.length) (cj:=cap) (kk:=keyOf e) (t:=t) (p.apart q ai) al a1 am ag (p.apart g a8) c1 hB λa6 O' s U hu=> ?_;obtain⟨rfl,⟨ad,rfl⟩,f,u,v⟩:=hu;exact⟨ad,rfl,λx'=>ih (i+1) ag (t+1) s U x' (by rw[ac];simp;omega) (o.trans f) u (N.trans v)⟩
 refine Xj (ao:=ao) (n:=l.length) (ci:=ci) (hK.apart r hr) (by rw[<-b1];exact c.cell) λb=> ?_;exact bb m.length 0 ag l.length R w b az (aO.refl w) hK (BR.Sub.refl R)
end
def sc(O:Nat->Prop)(w:ak)(pa:Option aH)(pss:List (List PP)):Prop:=∀(i:Nat) ps,pss[i]?=ae ps->∃c po f h,pa=ae ⟨c,po,af⟩/\¬O c/\w.cell? ⟨c,po+i,af⟩=ae (.slice f ps.length h)/\∀(k:Nat) q,ps[k]?=ae q->∃a b,f=ae ⟨a,b,af⟩/\¬O a/\w.cell? ⟨a,b+k*2,af⟩=ae (.string q.1)/\w.cell? ⟨a,b+k*2+1,af⟩=ae (.int .i64 q.2)
theorem sc.on{O:Nat->Prop}{w a:ak}{pa:Option aH}{pss:List (List PP)}(h:sc O w pa pss)(b:aO w a):sc O a pa pss:=λi ps u=>by
 obtain⟨B,po,c,f,e,s,l,o⟩:=h i ps u;exact⟨B,po,c,f,e,s,b.cell l,λk q v=>by
  obtain⟨x,y,j,t,p,r⟩:=o k q v;exact⟨x,y,j,t,b.cell p,b.cell r⟩⟩
theorem Ki(a b:List PP)(L:List KV):dJ (a++b) L=dJ b (dJ a L):=by simp[dJ]
theorem UU(a:List PP)(q:PP)(L:List KV):dJ (a++[q]) L=ins (eG q.1) q.2 (dJ a L):=by simp[dJ]
section
variable {Post:au->ak->Prop} {O:Nat->Prop} {R:BR} {w:ak} {r:Nat} {j:au} {l:List KV} {pa:Option aH} {pc:Nat} {pss:List (List PP)}
theorem Ye(hK:aI Xm O R w)(hr:R r r)(u:bQ w r j l)(hP:sc O w pa pss)(bw:pss.length<=1048576)(bd:∀ps∈pss,ps.length<=1048576):MC Post 60 #[ptr r,.slice pa pss.length pc] O w (λaP O' H a=>O'=O/\aP=.int .i64 (jb pss l)/\(∃bi,bQ a r bi (jw pss l)/\∀g,bi.ownBlock=ae g->j.ownBlock=ae g\/w.heap.size<=g)/\jJ r j.ownBlock w a/\aI Xm O H a/\BR.Sub R H):=by
 intro a7 cs hn;have bE:r<w.heap.size:=(hK.wr.lt hr).1;have b2:∀e,jb pss l=e->jw pss l=l->ay aj Post O (aw (a7.finish (.int .i64 e)) cs) w:=λe c h2=>hn _ O R w ⟨rfl,by rw[c],⟨j,by rw[h2];exact u,λg o=>.inl o⟩,.cv (aO.refl w),hK,BR.Sub.refl R⟩;by_cases Z:16<pss.length
 ·refine XA Z (b2 6 ?_ ?_);·unfold jb;rw[if_pos Z]
  ·unfold jw;rw[if_pos Z]
 have bs:(∀ps∈pss,fI ps=ax)->∀(U:ak)(y:Nat)(yv:au) (R0:BR),aO w U->w.heap.size=y->y<U.heap.size->(∀g,yv.ownBlock=ae g->w.heap.size<=g)->R0 y y->BR.Sub R R0-> ∀(s i:Nat),s+i=pss.length->∀(h:BR)(W:ak) (x:Nat->au),tI O R0 U y yv U.heap.size h W (dJ (pss.take i).flatten l)->(dJ (pss.take i).flatten l).length<=3000->
    ay aj Post O (aw (FD 60 [] (T6 (ptr r) (.slice pa pss.length pc) (x 5) (x 6) (ptr y) (.int .i64 (i:Int)) (x 9) (x 12) x) tV) (a7::cs)) W:=by
  intro ar U y yv R0 a8 hy bM bg b3 b0;have bv:∀(s b:List PP),pss.flatten=s++b->3000<(dJ s l).length->ay aj Post O (aw (a7.finish (.int .i64 2)) cs) w:=λs b e bl=>by
   have c:3000<(dJ pss.flatten l).length:=by
    rw[e,Ki];exact dG bl (yC b (uM s u.ck))
   have:=Jt u.ck Z ar c;exact b2 2 this.1 this.2
  have av:∀(h:BR)(W:ak) (L:List KV),tI O R0 U y yv U.heap.size h W L->aO w W:=λh W L f=>by
   refine⟨bT a8.size f.but.size,λk N=>(f.but.block k (dG N a8.size) ag λe=> ?_).trans (a8.block k N),f.but.os.trans a8.os,f.but.output.trans a8.output⟩;have:=bg k e.symm;omega
  intro s;induction s with
  |zero=>
   intro i hi h W x f a2;obtain⟨ad,c,h2⟩:=f.ref;have v:=av h W _ f;rw[fU ag]at c a2;have hf:=TP u.ck Z ar a2;have bk:h r r:=f.sub _ _ (b0 _ _ hr);have b6:h y y:=f.sub _ _ b3;have aQ:=kA u v;have br:VR Xm.G h ad ad:=rp f.known b6 c.cell;have aT:∀g,ad.ownBlock=ae g->w.heap.size<=g:=λg o=>by
    rcases h2 with h2|⟨g',h2,h3⟩;·exact bg g (h2▸o)
    ·rw[h2]at o;cases o;exact bT a8.size h3
   have be:∀k,k≠r->(W.setCell ⟨r,0,af⟩ ad).heap[k]?=W.heap[k]?:=λk N=>by simp[eK,fV,jm N]
   refine Xz (yv:=ad) (ov:=j) ag (f.known.apart y b6) c.cell (by
    rcases c.cases with⟨_,rfl⟩|⟨g,cap,rfl,_⟩<;>rfl) (f.known.apart r bk) aQ.cell aQ.free (hn _ O h _ ⟨rfl,by rw[hf.1],⟨ad,?_,λg o=>.inr (aT g o)⟩,⟨by rw[jX];exact v.size,λk N c _=>(be k c).trans (v.block k N),v.os,v.output⟩,f.known.set _ br,b0.trans f.sub⟩)
   rw[hf.2];refine⟨?_,ng c.row λg o=>be g (by have:=aT g o;omega),λe=>by have:=aT r e;omega,c.ck,c.short,c.cI⟩;simp[eK,fV,aQ.blk]
  |succ s ih=>
   intro i hi h W x f a2;have t:i<pss.length:=ag;obtain⟨ps,a1⟩:∃ps,pss[i]?=ae ps:=⟨pss[i],bf t⟩;have al:=cG a1;have bm:pss.flatten=(pss.take i).flatten++(ps++(pss.drop (i+1)).flatten):=by
    conv=>lhs;rw[<-jW i pss]
    rw[Cy,lG t];have:pss[i]=ps:=by rw[bf t]at a1;cases a1;rfl
    rw[this];simp
   obtain⟨pb,po,ai,ci,rfl,cR,aa,aR⟩:=hP i ps a1;refine Xt t λx=> ?_
   have part:∀(b k:Nat),b+k=ps.length->∀(h:BR)(W:ak) (x:Nat->au),tI O R0 U y yv U.heap.size h W (dJ ((pss.take i).flatten++ps.take k) l)->(dJ ((pss.take i).flatten++ps.take k) l).length<=3000->
     ay aj Post O (aw (FD 60 [] (T6 (ptr r) (.slice (ae ⟨pb,po,af⟩) pss.length pc) (x 5) (x 6) (ptr y) (.int .i64 (i:Int)) (.int .i64 (k:Int)) (x 12) x) tW) (a7::cs)) W:=by
    intro b;induction b with
    |zero=>
     intro k N h W x f a2;have v:=av h W _ f;have ek:ps.take k=ps:=fU ag;rw[ek]at f a2;refine Xu cR (v.cell aa) ag t ag λx=> ?_;have e:dJ (pss.take (i+1)).flatten l=dJ ((pss.take i).flatten++ps) l:=by rw[mC,a1];simp
     exact ih (i+1) ag h W x (by rw[e];exact f) (by rw[e];exact a2)
    |succ b aF=>
     intro k N h W x f a2;have v:=av h W _ f;have ab:k<ps.length:=ag;obtain⟨q,B⟩:∃q,ps[k]?=ae q:=⟨ps[k],bf ab⟩;obtain⟨kb,ko,rfl,ao,ap,bb⟩:=aR k q B;have am:q.1.size<=64:=by
      have:=ar ps al;unfold fI at this;rw[List.any_eq_false]at this;have:=this q (cG B);simpa using this
     have an:dJ ((pss.take i).flatten++ps.take (k+1)) l=ins (eG q.1) q.2 (dJ ((pss.take i).flatten++ps.take k) l):=by
      rw[mC,B,<-sU];exact UU _ q l
     have bo:=bd ps al;refine Xx (kk:=q.1) (kv:=q.2) cR (v.cell aa) ag t ao (v.cell ap) ag ab (v.cell bb) (f.put b3 (aL _) ag) λaP O' H W' hu=> ?_;obtain⟨rfl,rfl,c,_,_⟩:=hu;have b1:bh (dJ ((pss.take i).flatten++ps.take k) l):=uM _ u.ck;generalize hD:dJ ((pss.take i).flatten++ps.take k) l=D at*;have a6:¬64<q.1.size:=ag;have aU:eG q.1=q.1.data.toList:=rfl;cases ac:lk q.1.data.toList D with
     |some aP=>
      obtain⟨e1,e2⟩:=yY (v:=q.2) a6 ac;rw[e1];rw[e2]at c;refine⟨_,_,0,rfl,λx=> ?_⟩;refine KS ag λx=> ?_;exact aF (k+1) ag H W' x (by rw[an];exact c) (by rw[an,aU,EK b1 (by rw[ac];rfl)];exact a2)
     |none=>
      by_cases h3:3000<=D.length
      ·obtain⟨e1,e2⟩:=yX (v:=q.2) a6 ac h3;rw[e1];refine⟨_,_,2,rfl,λx=> ?_⟩;have ba:=av H W' _ c;refine Xy bc ?_;have bj:3000<(dJ pss.flatten l).length:=by
        have e:pss.flatten=((pss.take i).flatten++ps.take (k+1))++(ps.drop (k+1)++(pss.drop (i+1)).flatten):=by
         rw[bm,sU,<-sU (ps.take (k+1)),jW]
        rw[e,Ki];refine dG ?_ (yC _ (uM _ u.ck));rw[an,aU,yD b1 ac];omega
       have hf:=Jt u.ck Z ar bj;exact hn _ O' H W' ⟨rfl,by rw[hf.1],⟨j,by rw[hf.2];exact kA u ba,λg o=>.inl o⟩,.cv ba,c.known,b0.trans c.sub⟩
      ·obtain⟨e1,e2⟩:=yW (v:=q.2) a6 ac h3;rw[e1];rw[e2]at c;refine⟨_,_,0,rfl,λx=> ?_⟩;refine KS ag λx=> ?_;exact aF (k+1) ag H W' x (by rw[an];exact c) (by rw[an,aU,yD b1 ac];omega)
   exact part ps.length 0 ag h W x (by simpa using f) (by simpa using a2)
 have keys:∀(s i:Nat),s+i=pss.length->∀(x:Nat->au),(∀ps∈pss.take i,fI ps=ax)->ay aj Post O (aw (FD 60 [] (T6 (ptr r) (.slice pa pss.length pc) (.int .i64 (i:Int)) (x 6) (x 7) (x 8) (x 9) (x 12) x) tU) (a7::cs)) w:=by
  intro s;induction s with
  |zero=>
   intro i hi x o;rw[fU ag]at o;refine Xs ag (F3 hK hr u) λaP O' H W' hu=> ?_;obtain⟨rfl,rfl,⟨yv,c,h2⟩,h3,h4,h5,h6⟩:=hu;refine⟨w.heap.size,rfl,λx=> ?_⟩;exact bs o W' w.heap.size yv H h3 rfl (cJ c.blk) h2 h6 h5 pss.length 0 ag H W' x ⟨h4,BR.Sub.refl _,.cv (aO.refl _),aL _,λg o=>(c.row.lt g o).2,yv,c,.inl rfl⟩ u.cI
  |succ s ih=>
   intro i hi x o;have t:i<pss.length:=ag;obtain⟨ps,a1⟩:∃ps,pss[i]?=ae ps:=⟨pss[i],bf t⟩;have al:=cG a1;obtain⟨pb,po,ai,ci,rfl,cR,aa,aR⟩:=hP i ps a1;refine Xo t λx=> ?_;have part:∀(b k:Nat),b+k=ps.length->∀(x:Nat->au),(∀q∈ps.take k,q.1.size<=64)->ay aj Post O (aw (FD 60 [] (T6 (ptr r) (.slice (ae ⟨pb,po,af⟩) pss.length pc) (.int .i64 (i:Int)) (.int .i64 (k:Int)) (x 7) (x 8) (x 9) (x 12) x) ss) (a7::cs)) w:=by
    intro b;induction b with
    |zero=>
     intro k N x a6;rw[fU ag]at a6;refine Xp cR aa ag t ag λx=>ih (i+1) ag x λaJ p=> ?_;rw[mC,a1,dU]at p;rcases p with p|p;·exact o aJ p
     ·simp at p;subst p;exact Iz λbP q hj B=>a6 q (cG B)
    |succ b aF=>
     intro k N x a6;have ab:k<ps.length:=ag;obtain⟨q,B⟩:∃q,ps[k]?=ae q:=⟨ps[k],bf ab⟩;obtain⟨kb,ko,rfl,ao,ap,bb⟩:=aR k q B;have bo:=bd ps al;by_cases am:q.1.size<=64
     ·refine Xq cR aa ag t ao ap ag ab am λx=>aF (k+1) ag x λaJ p=> ?_;rw[mC,B,dU]at p;rcases p with p|p;·exact a6 aJ p
      ·simp at p;subst p;exact am
     ·have b9:pss.any fI=true:=pG.2 ⟨ps,al,IA B am⟩;refine Xr cR aa ag t ao ap ag ab am (b2 1 ?_ ?_);·unfold jb;rw[if_neg Z,b9];rfl
      ·unfold jw;rw[if_neg Z,b9];rfl
   exact part ps.length 0 ag x (λq B=>by simp at B)
 exact Xv Z λx=>keys pss.length 0 ag x (λaJ p=>by simp at p)
end
def eS(w:ak)(b:Nat)(e:aK)(xs:List au):Prop:=w.heap[b]?=ae (.cells xs.toArray e (0,0))
section
variable {w a:ak} {b:Nat} {e:aK} {xs:List au} {O:Nat->Prop} {R:BR}
theorem eS.lt(h:eS w b e xs):b<w.heap.size:=(cq.1 h).1
theorem eS.cell(h:eS w b e xs){o:Nat}{v:au}(a:xs[o]?=ae v):w.cell? ⟨b,o,af⟩=ae v:=by
 unfold bL;rw[h];simpa using a
theorem eS.free(h:eS w b e xs)(o:Nat):w.frozen? ⟨b,o,af⟩=false:=by
 unfold gu;rw[h];simp
theorem eS.set(h:eS w b e xs)(o:Nat)(v:au):eS (w.setCell ⟨b,o,af⟩ v) b e (xs.set o v):=by
 unfold eS at*;simp[eK,fV,h]
theorem eS.bK(h:eS w b e xs)(c:a.heap[b]?=w.heap[b]?):eS a b e xs:=c.trans h
theorem uI(a:s≠b):(w.setCell ⟨b,f,af⟩ y).heap[s]?=w.heap[s]?:=by simp[eK,fV,jm a]
theorem eS.new(w:ak)(e:aK)(xs:List au):eS (w.alloc (.cells xs.toArray e)) w.heap.size e xs:=cY w _
theorem aI.cells(f:aI Xm O R w){xs:List au}(j:∀v∈xs,VR Xm.G R v v)(e:aK):aI Xm O (R.add w.heap.size w.heap.size) (w.alloc (.cells xs.toArray e)):=
 f.add (o:=.cells xs.toArray e) (λb h=>xu w _ h) (cY w _) (sk ⟨aL _,λi v k a c=>by
  rw[a]at c;cases c;exact(j v (cG (by simpa using a))).mono (BR.gF _ _ _)⟩) (by rw[dh];omega)
end
def ll(ps:List PP):List Value:=ps.flatMap λq=>[.string q.1,.int .i64 q.2]
def zP(n:Nat):List Value:=(rR n [zX ⟨#[]⟩,.int .i64 0]).flatten
theorem tQ(ps:List PP):(ll ps).length=ps.length*2:=by
 induction ps with
 |nil=>rfl
 |cons q ps a=>simp only[ll,List.flatMap_cons,gJ,rM,zV]at a⊢;omega
theorem TU{ps:List PP}(h:ps[f]?=ae p):ll (ps.take (f+1))=ll (ps.take f)++[.string p.1,.int .i64 p.2]:=by
 rw[mC,h];simp[ll]
theorem Jv:∀(ps:List PP)(k:Nat) (q:PP),ps[k]?=ae q->(ll ps)[k*2]?=ae (.string q.1)/\(ll ps)[k*2+1]?=ae (.int .i64 q.2)
 |[],k,q,h=>by simp at h
 |p::ps,0,q,h=>by simp at h;subst h;exact⟨rfl,rfl⟩
 |p::ps,k+1,q,h=>by
  have:=Jv ps k q (by simpa using h);rw[show(k+1)*2=k*2+1+1 by omega];exact this
theorem xc(n:Nat):zP (n+1)=.string ⟨#[]⟩:: .int .i64 0::zP n:=by simp[zP,NS]
theorem XU(z:au)(n:Nat):kg #[z] n=(rR n z).toArray:=by
 unfold kg;apply Pa;simp only[H5,ay8,ay2];apply mD;intro i;simp only[iI,aw2];by_cases h:i<n;·simp[NU h,h,aK6]
 ·simp[h,lI (show(dn n).length<=i by simp;omega)]
theorem GL:∀(n i:Nat),(zP n)[i]?=if i<n*2 then ae (if i%2=0 then .string ⟨#[]⟩else .int .i64 0)else af
 |0,i=>by simp[zP]
 |n+1,0=>by rw[xc,if_pos ag];rfl
 |n+1,1=>by rw[xc,if_pos ag];rfl
 |n+1,i+2=>by
  rw[xc];show(zP n)[i]?=_;rw[GL n i,show(i+2)%2=i%2 by omega];by_cases h:i<n*2
  ·have a:i+2<(n+1)*2:=ag;simp only[h,a,if_true]
  ·have a:¬i+2<(n+1)*2:=ag;simp only[h,a,if_false]
theorem XV(n:Nat):Bs n=(zP n).toArray:=by
 unfold Bs kg;apply Pa;simp only[H5,ay8,ay2];apply mD;intro i;rw[GL,iI];by_cases h:i<n*2
 ·rw[NU h,if_pos h];simp only[hZ,CE,rM,zV,ia,OK];congr 1;by_cases a:i%2=0;·rw[if_pos a,a];rfl
  ·have:i%2=1:=ag;rw[if_neg a,this];rfl
 ·rw[lI (show(dn (n*2)).length<=i by simp;omega),if_neg h];rfl
theorem G7{z:List au}{q s t:au}{n:Nat}(a:v.length=n):((v++y::q::z).set n s).set (n+1) t=(v++[s,t])++z:=by
 subst a;rw[NJ _ _ (aL _),xC,O5,NJ _ _ ag,show v.length+1-v.length=1 by omega,List.set_cons_succ,O5];simp
def lay(ps:List PP)(k:Nat):List Value:=ll (ps.take k)++zP (ps.length+1-k)
theorem VF(ps:List PP):lay ps 0=zP (ps.length+1):=by simp[lay,ll]
theorem Kq{ps:List PP}{k:Nat}(b:k<=ps.length):(lay ps k)[k*2]?=ae (.string ⟨#[]⟩)/\(lay ps k)[k*2+1]?=ae (.int .i64 0):=by
 have a:(ll (ps.take k)).length=k*2:=by rw[tQ,sW];rw[Oo b]
 unfold lay;rw[show ps.length+1-k=(ps.length-k)+1 by omega,xc];constructor;·rw[np ag,a,xC];rfl
 ·rw[np ag,a,show k*2+1-k*2=1 by omega];rfl
theorem VE{ps:List PP}(h:ps[f]?=ae p):((lay ps f).set (f*2) (.string p.1)).set (f*2+1) (.int .i64 p.2)=lay ps (f+1):=by
 have a:=(cu.1 h).1;unfold lay;rw[show ps.length+1-f=(ps.length+1-(f+1))+1 by omega,xc,G7 (by rw[tQ,sW,Oo ag]),TU h]
def laid(ps:List PP):List Value:=ll ps++[.string lW,.int .i64 0]
theorem VD{ps:List PP}:((lay ps ps.length).set (ps.length*2) (.string lW)).set (ps.length*2+1) (.int .i64 0)=laid ps:=by
 unfold lay laid;rw[show ps.length+1-ps.length=0+1 by omega,xc,G7 (by rw[tQ,zK]),zK];simp[zP]
theorem VB{ps:List PP}(h:ps[f]?=ae p):(laid ps)[f*2]?=ae (.string p.1)/\(laid ps)[f*2+1]?=ae (.int .i64 p.2):=by
 obtain⟨a,b⟩:=Jv ps f p h;have c:=(cu.1 h).1;unfold laid;rw[nu (by rw[tQ];omega),nu (by rw[tQ];omega)];exact⟨a,b⟩
theorem VC(ps:List PP):(laid ps)[ps.length*2]?=ae (.string lW):=by
 unfold laid;rw[np (by rw[tQ];omega),tQ,xC];rfl
def over(ps:List PP)(k:Nat):List Value:=(rR k [zX wh,.int .i64 (-7)]).flatten++(ll (ps.drop k)++[.string lW,.int .i64 0])
theorem Z5(ps:List PP):over ps 0=laid ps:=by simp[over,laid]
theorem zf(k:Nat)(a b:au):(rR k [a,b]).flatten.length=k*2:=by
 induction k with
 |zero=>rfl
 |succ k c=>rw[NS,uX,gJ,c];simp;omega
theorem LG{ps:List PP}(h:ps[f]?=ae p):over ps f=(rR f [zX wh,.int .i64 (-7)]).flatten++ .string p.1:: .int .i64 p.2::(ll (ps.drop (f+1))++[.string lW,.int .i64 0]):=by
 obtain⟨a,e⟩:=cu.1 h;unfold over;rw[lG a,e];simp[ll]
theorem Z3{ps:List PP}(h:ps[f]?=ae p):(over ps f)[f*2]?=ae (.string p.1)/\(over ps f)[f*2+1]?=ae (.int .i64 p.2):=by
 rw[LG h];constructor;·rw[np (by rw[zf];omega),zf,xC];rfl
 ·rw[np (by rw[zf];omega),zf,show f*2+1-f*2=1 by omega];rfl
theorem Z4{ps:List PP}(h:ps[f]?=ae p):((over ps f).set (f*2) (.string wh)).set (f*2+1) (.int .i64 (-7))=over ps (f+1):=by
 rw[LG h,G7 (zf f _ _)];unfold over;rw[List.replicate_succ',Cy];simp
