/- Own texts: FjT, FjU, FjB, FjC, FjD, FjE. -/
import Derived.Test.YtcgjppacnhmjlaaGreatMG
import Derived.Conc.CrowdTrace
import Derived.Conc.WrSpec
import Derived.Conc.CrowdSpec
set_option linter.all false
open Array renaming getElem?_eq_some_iff->cq,getElem?_eq_getElem->jV,getElem?_setIfInBounds_ne->nk,mem_of_getElem?->lH,getElem?_map->qB,mem_append->pE,getElem?_setIfInBounds_self_of_lt->NA,mem_iff_getElem->NI,getElem?_append_right->av4,getElem?_eq_none_iff->av5
open Bool renaming true->aq,false->ax
open Go renaming World->ak,Value->au,Goroutine->aX,TypeId->aK,Program->aV,Addr->aH,stepG->aZ,Event->bX,deafBehind->jl,Trace->gN,MemOp->tB,HappensBefore->P8
open Go.Conc renaming woken->jI,Goes->ie,Deaf_other->xO,Deaf_own->vj,QuitsD->vo,ofEvents_eq->Hy,Deaf->oq,touchAt->Dm,goes_go->Dn,touchAt_old->Pn,touchAt_of->Pu,deafBehind_still->aK3
open Go.Conc.Goes renaming rely->Aa
open Go.ConcN renaming WgLive->vn,AtR0->vy
open Go.ConcR renaming Payload->qK,stA->dB,DC0->nL
open Go.ConcR.Payload renaming ety->aD3
open Go.MemAct renaming ofEvent->fD,touch?->mF,low_mono->Ol
open Go.MemOp renaming ofEvents->l7
open Go.Trace renaming g?->oj,act?->De
open Go.World renaming cell?->bL
open Iff renaming rfl->xR
open Inhabited renaming default->fM
open List renaming mem_singleton->xn,mem_toArray->zL
open Nat renaming le_refl->aL,le_trans->bT,lt_of_lt_of_le->dG,lt_or_ge->l9,le_of_not_lt->aB3
open Ne renaming symm->jm
open Option renaming some->ae,none->af,map_eq_some_iff->ji
open Option.some renaming injEq->iY
namespace Go.Proofs.YtcgjppacnhmjlaaGreat
open Go Go.Conc Go.ConcN
open Go.ConcR (KK wgBlock WgAt stA smA rd wr mk Payload DC0)
namespace Sim
variable {b v:Nat} {s:gN} {p W:ak} {N:ak->ak->Prop} {B:aX->ak->Prop} {H:aX} {R U:Nat->Prop}
theorem N9{a:MemAct}{x:Touch}(h:a.low b)(c:a.touch?=ae x):x.loc.low b:=by
 cases a with
 |access e=>simp only[mF,iY]at c;subst c;exact h
 |mark m=>cases m<;>simp only[mF,iY]at c<;>first|(cases c;done)|(subst c;exact h)
 |_=>cases c
theorem aq6(h:∀op∈s,op.act.low b){l:Loc}(f:¬l.low b):∀i a,Dm s i=ae a->a.loc≠l:=by
 intro i a c e;obtain⟨op,j,k⟩:=touch_of c;exact f (e▸N9 (h op (lH j)) k)
section
variable {Sh:Loc->Prop} {Own Z Rd Ik:Nat->Loc->Prop} {t:gN} {j:Nat}
theorem J5(h:CT Sh Own Rd t j)(p:∀k,1<=k->k<=j->∀l,Own k l->Z k l)(v:∀k,1<=k->k<=j->∀l,Z k l->¬Own k l->∀i a,Dm t i=ae a->a.loc≠l)(r:∀k,1<=k->k<=j->∀l,Ik k l↔Rd k l):CT Sh Z Ik t j:=by
 refine⟨h.quiet,λk b c l f=> ?_,λk b c l f=>h.rd k b c l ((r k b c l).1 f),λl o f=>h.free l o λk b c=>⟨λx=>(f k b c).1 (p k b c l x),λx=>(f k b c).2 ((r k b c l).2 x)⟩,λl o f=>h.mine l o λk b c x=>f k b c (p k b c l x),h.nr,h.gs⟩;by_cases s:Own k l;·exact h.own k b c l s
 ·exact λi a u e=>absurd e (v k b c l f s i a u)
theorem QX{O:Nat->Prop}{Wg:Nat}(h:PQ O b v t)(U:v=j+1)(W:b<=Wg)(o:∀k,1<=k->k<=j->∀l,¬Own k l)(N:∀k,1<=k->k<=j->∀l,¬Rd k l):CT (oK λf=>O f\/f=Wg) Own Rd t j:=by
 have H:∀l,¬oK (λf=>O f\/f=Wg) l->Perm t 0 l:=by
  intro l c i a s e;have w:a.loc.isMemory=true:=by
   cases w:a.loc.isMemory with
   |true=>rfl
   |false=>exact absurd (.inr (e▸w)) c
  rcases h.qt.known i a s w with R|⟨⟨x,r,o⟩,_⟩;·exact R
  ·exact absurd (.inl ⟨x,by rw[<-e];exact r,.inl o⟩) c
 refine⟨λi op x p r c=> ?_,λk y B l u=>absurd u (o k y B l),λk y B l u=>absurd u (N k y B l),λl c _=>H l c,λl c _=>PermW.of (H l c),h.qt.clean,λi op p=> ?_⟩
 ·rcases c with⟨a,s,o|Z⟩|c;·exact h.quiet i op x p r (.inl ⟨a,s,o⟩)
  ·have:=N9 (h.qt.seen op (lH p)) r;rw[s]at this;have:a.block<b:=this;omega
  ·exact h.quiet i op x p r (.inr c)
 ·have:=h.gs op (lH p);omega
end
structure sf(O:Nat->Prop)(a:aH)(t:gN)(x r:Nat):Prop where
 rel:RelBy a t x r
 late:∀i b,r<i->t.g? i=ae x->Dm t i=ae b->b.loc.isMemory=aq->vC O b.loc/\b.kind=.atomic
structure y4(O:Nat->Prop)(m:Nat)(t:gN):Prop where
 known:∀i a g,Dm t i=ae a->a.loc.isMemory=aq->t.g? i=ae g->g<m->Knows t 0 i\/(vC O a.loc/\a.kind=.atomic)
 over:∀i g,t.g? i=ae g->g≠0->g<m->t.counts i->∃j,t.g? j=ae 0/\P8 t i j
theorem Zo{Own Rd:Nat->Loc->Prop}{O:Nat->Prop}{m q:Nat}{a:aH}(l:CT (oK O) Own Rd s v)(Z:y4 O m s)(a1:∀x,m<=x->x<=v->∃r,sf O a s x r/\r<q)(W:∀op∈s,∀a,op.act≠ .mark (.release a))(hq:s.act? q=ae (.mark (.acquire a)))(w:s.g? q=ae 0)(hh:s.heard q)(hd:oq s 0=0)(hl:∀op∈s,op.act.low b):PQ O b (v+1) s:=by
 have a7:NoRelease a s:=by
  intro i e;unfold De at e;obtain⟨op,f,he⟩:=ji.1 e;exact W op (lH f) a he
 have H:∀{x r i:Nat},RelBy a s x r->r<q->s.g? i=ae x->i<=r->P8 s i q:=by
  intro x r i B o c R;have e:P8 s r q:=.single (.inr ⟨.marked o (.inr B.act) hq (λac _ _=>a7 ac),B.heard,hh⟩);rcases l9 i r with h|u;·exact .trans (.single (.inl ⟨h,x,c,B.g⟩)) e
  ·obtain rfl:i=r:=ag;exact e
 have t:∃z,s[q]?=ae z/\z.g=0:=by
  unfold oj at w;obtain⟨z,t,h0⟩:=ji.1 w;exact⟨z,t,h0⟩
 obtain⟨z,t,ab⟩:=t;have a2:∀{i j},Dm s i=ae j->∃g,s.g? i=ae g/\g<=v:=by
  intro i j k;obtain⟨op,f,_⟩:=touch_of k;exact⟨op.g,by simp[oj,f],l.gs i op f⟩
 refine⟨⟨l.nr,λi j k U=> ?_,λi g c a8 N=> ?_,hd,hl⟩,l.quiet,λop f=> ?_,W⟩
 ·obtain⟨g,c,y⟩:=a2 k;rcases l9 g m with h|u;·exact Z.known i j g k U c h
  ·obtain⟨r,p,o⟩:=a1 g u y;rcases l9 r i with aa|a6;·exact .inr (p.late i j aa c k U)
   ·exact .inl ⟨q,z,t,ab,.inr (H p.rel o c a6)⟩
 ·rcases l9 g m with h|u;·exact Z.over i g c a8 h N
  ·have y:g<=v:=by
    unfold oj at c;obtain⟨op,f,rfl⟩:=ji.1 c;exact l.gs i op f
   obtain⟨r,p,o⟩:=a1 g u y;have R:i<=r:=aB3 λh=>p.rel.after i h c N;exact⟨q,w,H p.rel o c R⟩
 ·obtain⟨i,hi,rfl⟩:=NI.1 f;have:=l.gs i _ (jV hi);omega
section
variable {O:Nat->Prop} {m:Nat} {a:aH} {t u:gN} {x r:Nat}
theorem yo{i g:Nat}(h:(t++u).g? i=ae g):(i<t.size/\t.g? i=ae g)\/(t.size<=i/\∃op∈u,(t++u)[i]?=ae op/\op.g=g):=by
 unfold oj at h;obtain⟨op,b,rfl⟩:=ji.1 h;rcases getElem?_append_cases b with⟨a,c⟩|⟨a,f⟩;·exact .inl ⟨a,by simp[oj,c]⟩
 ·refine .inr ⟨?_,op,f,b,rfl⟩;exact a
theorem y4.app(h:y4 O m t)(B:∀op∈u,op.g=0\/m<=op.g\/op.act.touch?=af):y4 O m (t++u):=by
 refine⟨λi b g c N o s=> ?_,λi g o y s w=> ?_⟩
 ·rcases yo o with⟨f,p⟩|⟨f,op,v,l,rfl⟩
  ·rw[Pn f]at c;exact(h.known i b g c N p s).imp (·.app u) id
  ·have k:op.act.touch?=ae b:=by rw[<-Pu l];exact c
   rcases B op v with a|a|a
   ·have:=knows_own l;rw[a]at this;exact .inl this
   ·omega
   ·rw[a]at k;cases k
 ·rcases yo o with⟨f,p⟩|⟨f,op,v,l,rfl⟩
  ·obtain⟨j,r,c⟩:=h.over i g p y s ((counts_old f).1 w);have H:j<t.size:=by
    unfold oj at r;obtain⟨z,R,_⟩:=ji.1 r;exact lt_size_of_getElem? R
   exact⟨j,by simpa[oj,getElem?_append_old H]using r,hb_app u c⟩
  ·rcases B op v with a|a|a;·exact absurd a y
   ·omega
   ·obtain⟨x,k,_⟩:=w;have:(t++u).act? i=ae op.act:=by simp[De,l]
    rw[this]at k;simp[a]at k
theorem sf.other(h:sf O a t x r)(v:∀op∈u,op.g≠x\/op.act.touch?=af):sf O a (t++u) x r:=by
 have U:r<t.size:=lt_of_act? h.rel.act;refine⟨h.rel.app λi R j w=> ?_,λi b N j f H=> ?_⟩
 ·rcases yo j with⟨s,_⟩|⟨_,op,l,k,p⟩;·omega
  ·rcases v op l with c|c;·exact c p
   ·obtain⟨y,o,_⟩:=w;have:(t++u).act? i=ae op.act:=by simp[De,k]
    rw[this]at o;simp[c]at o
 ·rcases yo j with⟨s,B⟩|⟨_,op,l,k,p⟩
  ·rw[Pn s]at f;exact h.late i b N B f H
  ·rcases v op l with c|c;·exact absurd p c
   ·rw[Pu k,c]at f;cases f
end
section
variable [qK]
structure FC where
 P:aV
 ty:aK
 Wg:Nat
 T:Nat
 E:Nat
 n:Nat
 m:Nat
 O:Nat->Prop
 Res:Nat->au->(Nat->Prop)->ak->Prop
structure Gh where
 M:Nat->Prop
 ro:Nat->Prop
 stage:Nat
 rk:Rk
 d:Nat
 val:au
def Rk.nat:Nat->Rk
 |0=>.leaf
 |n+1=>.mk λ_=>Rk.nat n
theorem Rk.Lf(n:Nat):Rk.Lt (Rk.nat n) (Rk.nat (n+1)):=.of (λ_=>Rk.nat n) fM
def FC.z(C:FC)(x:Nat)(h:Gh):WZ:={T:=C.T,E:=C.E,i:=x-C.m,part:=h.ro}
abbrev FC.lh(C:FC)(x:Nat):ak->ak->Prop:=RW C.ty C.Wg C.T C.n 0 (x-C.m)
abbrev FC.pre(C:FC)(x:Nat)(v:au)(k:Nat)(g:aX)(w:ak):Prop:=
 ie C.P ax (C.lh x) nL (vy C.P C.ty C.Wg C.T C.n 0 (x-C.m+1) v) k g w
structure FC.Wf(C:FC)(w:ak):Prop where
 T:∃c,w.heap[C.T]?=ae (.cells c aD3)/\c.size=C.n
 E:∃c e f,w.heap[C.E]?=ae (.cells c e f)/\c.size=C.n/\f=(0,0)
 TE:C.T≠C.E/\C.T≠C.Wg/\C.E≠C.Wg
 wg:vn C.ty C.Wg w
def FC.pr(C:FC)(x:Nat):(Nat->Prop)->aX->ak->Prop:=λM g w=>g.status=.running/\(C.Wf w->∃v k,C.pre x v k g w/\C.Res x v M w)
def eD(C:FC)(w:ak)(x:Nat)(h:Gh)(g:aX):Prop:=
 match h.stage with
 |0=>∃q,h.rk=Rk.nat q/\vo C.P q h.d g
 |8=>qN C.P (C.z x h) (C.pr x) h.rk h.M g w/\h.d=0
 |7=>∃k,h.rk=Rk.nat k/\C.pre x h.val k g w/\h.d=0
 |6=>∃k,h.rk=Rk.nat k/\ie C.P ax (C.lh x) nL (AtK1 C.P C.ty C.Wg C.T C.n 0 (x-C.m+1)) k g w/\h.d=0
 |5=>∃k,h.rk=Rk.nat k/\ie C.P ax (C.lh x) nL (AtD1 C.P C.ty C.Wg C.T C.n 0 (x-C.m+1)) k g w/\h.d=1
 |4=>∃k,h.rk=Rk.nat k/\ie C.P ax (C.lh x) nL (AtD2 C.P C.ty C.Wg C.T C.n 0 (x-C.m+1)) k g w/\h.d=1
 |3=>∃k,h.rk=Rk.nat k/\ie C.P ax (C.lh x) nL (AtD3 C.P C.ty C.Wg C.T C.n 0 (x-C.m+1)) k g w/\h.d=1
 |2=>∃k,h.rk=Rk.nat k/\ie C.P ax (C.lh x) nL (AtD4 C.P C.ty C.Wg) k g w/\h.d=1
 |_=>False
def Ao(C:FC)(w:ak)(x:Nat)(h:Gh):Prop:=(x<C.m->h.stage=0/\(∀b,¬h.M b)/\∀b,¬h.ro b)/\(C.m<=x->h.stage<=7->C.Res x h.val h.M w/\(h.stage<=6->Has C.T (x-C.m) h.val w))
def Dx(C:FC)(t:gN)(x:Nat)(h:Gh):Prop:=oq t x=h.d/\(C.m<=x->h.stage<=6->∃r,sf C.O (dB C.Wg) t x r)
structure Ch(C:FC)(h:Gh)(x:Nat)(w f:ak):Prop where
 size:w.heap.size<=f.heap.size
 out:∀b,b<w.heap.size->¬h.M b->b≠C.T->b≠C.E->b≠C.Wg->¬h.ro b->f.heap[b]?=w.heap[b]?
 ro:∀b,h.ro b->iA w f b
 mj:nT C.T (x-C.m) w f
 pk:nT C.E (x-C.m) w f
 live:vn C.ty C.Wg w->vn C.ty C.Wg f
section
variable {C:FC} {w f:ak} {x y:Nat} {h o:Gh} {g:aX}
theorem cell_of_block{i:Nat}{c:Array au}{e:aK}{f:Nat×Nat}(h:p.heap[b]?=ae (.cells c e f)):p.cell? ⟨b,i,af⟩=c[i]?:=by simp[bL,h]
theorem nT.cell{B i j:Nat}(o:nT B i w f){c:Array au}{e:aK}{a:Nat×Nat}(b:w.heap[B]?=ae (.cells c e a))(l:j≠i):f.cell? ⟨B,j,af⟩=w.cell? ⟨B,j,af⟩:=by
 obtain⟨c1,h,p,k⟩:=o c e a b;rw[cell_of_block h,cell_of_block b];exact k j l
theorem nT.LN{i:Nat}(p:nT b i w f)(o:v≠i):pU b v w f:=by
 intro c e a l;obtain⟨c1,h,j,k⟩:=p c e a l;exact⟨c1,h,j,k v o⟩
theorem Ch.ry(a:Ch C h x w f)(t:y-C.m≠x-C.m)(R:∀b,o.M b->b<w.heap.size)(N:∀b,o.M b->¬h.M b/\b≠C.T/\b≠C.E/\b≠C.Wg/\¬h.ro b)(v:∀b,o.ro b->¬h.M b/\b≠C.T/\b≠C.E/\b≠C.Wg):Ry (C.z y o) o.M w f:=by
 refine⟨a.size,λb j=> ?_,λb j=> ?_,a.mj.LN t,a.pk.LN t⟩
 ·by_cases u:h.ro b;·exact a.ro b u
  ·obtain⟨k,l,p,r⟩:=v b j;intro c e B s;exact⟨⟨B,λ_=>rfl⟩,by rw[a.out b (cq.1 s).1 k l p r u];exact s⟩
 ·obtain⟨k,l,p,r,H⟩:=N b j;exact a.out b (R b j) k l p r H
theorem Ch.rw'(j:Ch C h x w f)(p:C.Wf w)(r:y-C.m≠x-C.m):C.lh y w f:=by
 refine⟨λb s=>ag,j.live,λ⟨c,a,k⟩=> ?_,?_⟩
 ·obtain⟨c1,l,o,_⟩:=j.mj c _ _ a;exact⟨c1,l,o.trans k⟩
 ·obtain⟨c,a,_⟩:=p.T;exact j.mj.cell a r
theorem RW.trans'{ty:aK}{Wg n i:Nat}{c:ak}(h:RW ty Wg b n 0 i p W)(a:RW ty Wg b n 0 i W c):RW ty Wg b n 0 i p c:=⟨λf j=>ag,a.live∘h.live,a.pay∘h.pay,a.cell.trans h.cell⟩
theorem Fz(h:eD C w y o g)(t:Ry (C.z y o) o.M w f)(r:C.lh y w f):eD C f y o g:=by
 have s:∀a b c,C.lh y a b->C.lh y b c->C.lh y a c:=λ_ _ _=>RW.trans';unfold eD at h⊢;split at h;·exact h
 ·exact⟨h.1.rely t,h.2⟩
 ·obtain⟨k,j,l,p⟩:=h;exact⟨k,j,Aa s l r,p⟩
 ·obtain⟨k,j,l,p⟩:=h;exact⟨k,j,Aa s l r,p⟩
 ·obtain⟨k,j,l,p⟩:=h;exact⟨k,j,Aa s l r,p⟩
 ·obtain⟨k,j,l,p⟩:=h;exact⟨k,j,Aa s l r,p⟩
 ·obtain⟨k,j,l,p⟩:=h;exact⟨k,j,Aa s l r,p⟩
 ·obtain⟨k,j,l,p⟩:=h;exact⟨k,j,Aa s l r,p⟩
 ·exact h
end
end
variable {l:Gh}
section
variable [qK]
def oI(C:FC)(c:Nat->Gh)(x:Nat)(l:Loc):Prop:=
 (∃a,l=.cell a/\((c x).M a.block\/(C.m<=x/\(a.block=C.T\/a.block=C.E)/\a.off=x-C.m)))\/∃r,l=.obj r/\(c x).M r
def mT(c:Nat->Gh)(x:Nat)(l:Loc):Prop:=(∃a,l=.cell a/\(c x).ro a.block)\/∃r,l=.obj r/\(c x).ro r
structure Inv(C:FC)(L:Nat->Prop)(J:Nat)(c:Nat->Gh)(k:Array aX)(w:ak)(t:gN):Prop where
 sz:k.size=J+1
 mJ:1<=C.m/\C.m<=J+1
 hw:∀x,1<=x->x<=J->∃g,k[x]?=ae g/\eD C w x (c x) g
 hr:∀x,1<=x->x<=J->Ao C w x (c x)
 ht:∀x,1<=x->x<=J->Dx C t x (c x)
 nx:∀x,(x=0\/J<x)->(∀b,¬(c x).M b)/\∀b,¬(c x).ro b
 ct:CT (oK C.O) (oI C c) (mT c) t J
 wG:y4 C.O C.m t
 low:∀op∈t,op.act.low w.heap.size
 qo:∀op∈t,∀a,op.act≠ .mark (.release a)
 hM:∀x b,(c x).M b->b<w.heap.size/\¬L b/\b≠C.T/\b≠C.E/\¬C.O b
 mY:∀x y b,(c x).M b->(c y).M b->x=y
 bY:∀x b,(c x).ro b->L b
 hL:∀b,L b->b<w.heap.size/\b≠C.T/\b≠C.E/\¬C.O b
 hO:C.O C.Wg/\¬C.O C.T/\¬C.O C.E
 gQ:∀b,C.O b->b<w.heap.size
 wf:C.Wf w
def FC.dy(C:FC):Prop:=∀x v M w f,(∀b,M b->f.heap[b]?=w.heap[b]?)->f.cell? ⟨C.E,x-C.m,af⟩=w.cell? ⟨C.E,x-C.m,af⟩->C.Res x v M w->C.Res x v M f
def di(c:Nat->Gh)(x:Nat)(h:Gh):Nat->Gh:=λy=>if y=x then h else c y
theorem dK(c:Nat->Gh)(x:Nat)(h:Gh):di c x h x=h:=if_pos rfl
theorem e8{c:Nat->Gh}(o:v≠b):di c b l v=c v:=if_neg o
section
variable {C:FC} {L:Nat->Prop} {J:Nat} {c:Nat->Gh} {k:Array aX} {w f:ak} {t:gN}
theorem DM(p:∀x b,(c x).M b->¬L b/\b≠C.T/\b≠C.E/\¬C.O b)(B:∀x y b,(c x).M b->(c y).M b->x=y)(s:∀x b,(c x).ro b->L b)(t:∀b,L b->b≠C.T/\b≠C.E/\¬C.O b)(w:¬C.O C.T/\¬C.O C.E):Apart (oK C.O) (oI C c) (mT c):=by
 refine⟨λk R l h f=> ?_,λk R l h f=> ?_,λk l h f=> ?_,λk l h f=> ?_⟩
 ·rcases h with⟨a,rfl,h⟩|⟨r,rfl,h⟩
  ·rcases f with⟨o,e,f⟩|⟨u,e,_⟩
   ·cases e;rcases h with h|⟨U,j,W⟩
    ·rcases f with f|⟨H,v,N⟩;·exact B _ _ _ h f
     ·exact absurd v (λx=>x.elim (p _ _ h).2.1 (p _ _ h).2.2.1)
    ·rcases f with f|⟨H,v,N⟩;·exact absurd j (λx=>x.elim (p _ _ f).2.1 (p _ _ f).2.2.1)
     ·omega
   ·cases e
  ·rcases f with⟨o,e,_⟩|⟨u,e,f⟩;·cases e
   ·cases e;exact B _ _ _ h f
 ·rcases h with⟨a,rfl,h⟩|⟨r,rfl,h⟩
  ·rcases f with⟨o,e,f⟩|⟨u,e,_⟩
   ·cases e;have:=s _ _ f;rcases h with h|⟨_,j,_⟩;·exact(p _ _ h).1 this
    ·exact j.elim (t _ this).1 (t _ this).2.1
   ·cases e
  ·rcases f with⟨o,e,_⟩|⟨u,e,f⟩;·cases e
   ·cases e;exact(p _ _ h).1 (s _ _ f)
 ·rcases h with⟨a,rfl,h⟩|⟨r,rfl,h⟩
  ·rcases f with⟨o,e,f⟩|f
   ·cases e;rcases h with h|⟨_,j,_⟩;·exact(p _ _ h).2.2.2 f
    ·rcases j with j|j<;>rw[j]at f;·exact w.1 f
     ·exact w.2 f
   ·cases f
  ·rcases f with⟨o,e,_⟩|f;·cases e
   ·cases f
 ·rcases h with⟨a,rfl,h⟩|⟨r,rfl,h⟩
  ·rcases f with⟨o,e,f⟩|f;·cases e;exact(t _ (s _ _ h)).2.2 f
   ·cases f
  ·rcases f with⟨o,e,_⟩|f;·cases e
   ·cases f
theorem Inv.apart(h:Inv C L J c k w t):Apart (oK C.O) (oI C c) (mT c):=
 DM (λx b a=>(h.hM x b a).2) h.mY h.bY (λb a=>(h.hL b a).2) h.hO.2
theorem lq{P:aV}{D:ak->ak->Array bX->Prop}{n:Nat}{g:aX}(a:N p p)(b:∀g p,B g p->g.status=.running)(h:ie P ax N D B n g p):g.status=.running:=by
 cases n with
 |zero=>exact b _ _ (h p a)
 |succ n=>exact h.elim (λx=>b _ _ (x p a)) (·.1)
theorem RW.jU(ty:aK)(Wg T n i:Nat)(w:ak):RW ty Wg T n 0 i w w:=⟨λ_ _ _ _=>rfl,id,id,rfl⟩
theorem LB{g:aX}(c:eD C w b l g):g.status=.running\/g.status=.finished:=by
 unfold eD at c;split at c;·obtain⟨q,_,p⟩:=c;exact p.status
 ·left;obtain⟨h,_⟩:=c;have o:C.pr b l.M g w->g.status=.running:=λa=>a.1;cases j:l.rk with
  |leaf=>rw[j]at h;exact o (h w (Ry.refl _ _ _))
  |mk f=>rw[j]at h;exact h.elim (λb=>o (b w (Ry.refl _ _ _))) (·.1)
 ·obtain⟨k,_,a,_⟩:=c;exact .inl (lq (RW.jU ..) (λ_ _ b=>b.1) a)
 ·obtain⟨k,_,a,_⟩:=c;exact .inl (lq (RW.jU ..) (λ_ _ b=>b.1) a)
 ·obtain⟨k,_,a,_⟩:=c;exact .inl (lq (RW.jU ..) (λ_ _ b=>b.1) a)
 ·obtain⟨k,_,a,_⟩:=c;exact .inl (lq (RW.jU ..) (λ_ _ b=>b.1) a)
 ·obtain⟨k,_,a,_⟩:=c;exact .inl (lq (RW.jU ..) (λ_ _ b=>b.1) a)
 ·obtain⟨k,_,a,_⟩:=c;exact .inl (lq (RW.jU ..) (λ_ _ b=>b.1) a)
 ·exact c.elim
theorem Nx{P:aV}{g a:aX}(c:eD C w b l g):jI P H a f g=g:=by
 unfold jI;split;·exact again_running _ (LB c)
 ·rfl
theorem Ch.wf(h:Ch C l b w f)(a:C.Wf w):C.Wf f:=by
 obtain⟨c,p,r⟩:=a.T;obtain⟨c1,s,t,_⟩:=h.mj c _ _ p;obtain⟨d,e,j,u,k⟩:=a.E;obtain⟨o,v,x,_⟩:=h.pk d e j u;exact⟨⟨c1,s,t.trans r⟩,⟨o,e,j,v,x.trans k.1,k.2⟩,a.TE,h.live a.wg⟩
theorem vT(hS:C.dy)(I:Inv C L J c k w t){g:aX}{es:Array bX}(bE:1<=b)(bP:b<=J)(hg:k[b]?=ae g)(hm:C.m<=b\/(f=w/\∀e∈es,(fD e).touch?=af))(N:Ch C (c b) b w f)(a8:l.M=grow (c b).M w f)(aJ:l.ro=(c b).ro)(aa:∀e∈es,(∀y,(fD e).touch?=ae y->(oK C.O y.loc/\y.kind≠ .plain/\y.kind≠ .said)\/oI C (di c b l) b y.loc\/(mT (di c b l) b y.loc/\y.write=ax))/\(fD e).low f.heap.size/\∀a,e.loc≠ .mark (.release a))(ho:eD C f b l H)(aF:Ao C f b l)(aP:Dx C (t++l7 b g.frame.fn g.frame.place es) b l):Inv C L J (di c b l) ((k.map (jI C.P g H f)).setIfInBounds b H) f (t++l7 b g.frame.fn g.frame.place es):=by
 have av:b<k.size:=by rw[I.sz];omega
 have aR:C.T<w.heap.size:=by obtain⟨ai,u,_⟩:=I.wf.T;exact(cq.1 u).1
 have aQ:C.E<w.heap.size:=by obtain⟨ai,e,an,u,_⟩:=I.wf.E;exact(cq.1 u).1
 have nM:∀y j,(di c b l y).M j->(c y).M j\/(y=b/\w.heap.size<=j/\j<f.heap.size):=by
  intro y j p;by_cases e:y=b
  ·subst e;rw[dK,a8]at p;exact p.imp id λh=>⟨rfl,h⟩
  ·rw[e8 e]at p;exact .inl p
 have ad:∀y,(di c b l y).ro=(c y).ro:=by
  intro y;by_cases e:y=b;·subst e;rw[dK,aJ]
  ·rw[e8 e]
 have am:∀y j,(di c b l y).M j->j<f.heap.size/\¬L j/\j≠C.T/\j≠C.E/\¬C.O j:=by
  intro y j p;have:=N.size;rcases nM y j p with h|⟨_,u,s⟩;·obtain⟨a1,a2⟩:=I.hM y j h;exact⟨ag,a2⟩
  ·exact⟨s,λhl=>by have:=(I.hL j hl).1;omega,ag,ag,λao=>by have:=I.gQ j ao;omega⟩
 have al:∀y z j,(di c b l y).M j->(di c b l z).M j->y=z:=by
  intro y z j o hz;rcases nM y j o with u|⟨rfl,u,_⟩<;>rcases nM z j hz with s|⟨rfl,s,_⟩;·exact I.mY y z j u s
  ·have:=(I.hM y j u).1;omega
  ·have:=(I.hM z j s).1;omega
  ·rfl
 have ar:Apart (oK C.O) (oI C (di c b l)) (mT (di c b l)):= DM (L:=L) (λy j p=>(am y j p).2) al (λy j p=>I.bY y j (by rw[<-ad y];exact p)) (λj p=>(I.hL j p).2) I.hO.2;have ap:∀x U,mT (di c b l) x U↔mT c x U:=λx U=>by unfold mT;rw[ad x]
 have sub:∀y,y≠b->Ry (C.z y (c y)) (c y).M w f/\((C.m<=y->C.lh y w f)/\(C.m<=y->f.cell? ⟨C.T,y-C.m,af⟩=w.cell? ⟨C.T,y-C.m,af⟩/\f.cell? ⟨C.E,y-C.m,af⟩=w.cell? ⟨C.E,y-C.m,af⟩))\/y<C.m:=by
  intro y o;rcases l9 y C.m with v|v;·exact .inr v
  ·left;rcases hm with cM|⟨rfl,_⟩
   ·have a7:y-C.m≠b-C.m:=ag;obtain⟨ai,u,_⟩:=I.wf.T;obtain⟨d,e,an,s,_⟩:=I.wf.E
    exact⟨N.ry a7 (λj p=>(I.hM y j p).1) (λj p=>⟨λh=>o (I.mY y b j p h),(I.hM y j p).2.2.1,(I.hM y j p).2.2.2.1,λe=>(I.hM y j p).2.2.2.2 (e▸I.hO.1),λh=>(I.hM y j p).2.1 (I.bY b j h)⟩)
     (λj p=>⟨λh=>(I.hM b j h).2.1 (I.bY y j p),(I.hL j (I.bY y j p)).2.1,(I.hL j (I.bY y j p)).2.2.1,λe=>(I.hL j (I.bY y j p)).2.2.2 (e▸I.hO.1)⟩),λ_=>N.rw' I.wf a7,λ_=>⟨N.mj.cell u a7,N.pk.cell s a7⟩⟩
   ·exact⟨Ry.refl _ _ _,λ_=>RW.jU ..,λ_=>⟨rfl,rfl⟩⟩
 refine⟨by simp[I.sz],I.mJ,λy W Z=> ?_,λy W Z=> ?_,λy W Z=> ?_,λy o=> ?_,?_,I.wG.app λop B=> ?_,λop B=> ?_,λop B a=> ?_,am,al,λy j p=>I.bY y j (by rw[<-ad y];exact p),λj p=>⟨by have:=(I.hL j p).1;have:=N.size;omega,(I.hL j p).2⟩,I.hO,λj p=>by have:=I.gQ j p;have:=N.size;omega,N.wf I.wf⟩
 ·by_cases e:y=b
  ·subst e;exact⟨H,by rw[NA (by simpa using av)],by rw[dK];exact ho⟩
  ·obtain⟨gy,u,s⟩:=I.hw y W Z;refine⟨gy,by rw[nk (jm e),qB,u];simp[Nx s],?_⟩;rw[e8 e];rcases sub y e with⟨a1,a2,_⟩|v
   ·rcases l9 y C.m with v|v
    ·have h0:=((I.hr y W Z).1 v).1;unfold eD at s⊢;rw[h0]at s⊢;exact s
    ·exact Fz s a1 (a2 v)
   ·have h0:=((I.hr y W Z).1 v).1;unfold eD at s⊢;rw[h0]at s⊢;exact s
 ·by_cases e:y=b;·subst e;rw[dK];exact aF
  ·rw[e8 e];have u:=I.hr y W Z;refine⟨u.1,λv ac=> ?_⟩;rcases sub y e with⟨a1,a2,a3⟩|aT
   ·obtain⟨b1,b2⟩:=u.2 v ac;refine⟨hS y _ _ w f (λj p=>a1.own j p) (a3 v).2 b1,λh6=> ?_⟩;exact(a3 v).1.trans (b2 h6)
   ·omega
 ·by_cases e:y=b;·subst e;rw[dK];exact aP
  ·rw[e8 e];obtain⟨u,s⟩:=I.ht y W Z;refine⟨by rw[xO t (g':=b) (jm e) _ (λop B=>od B)];exact u,λv ac=> ?_⟩;obtain⟨r,hs⟩:=s v ac;exact⟨r,hs.other λop B=>.inl (by rw[od B];exact λz=>e z.symm)⟩
 ·have e:y≠b:=ag;rw[e8 e];exact I.nx y o
 ·refine CT.appW ar (J5 I.ct (λx k1 kj U hl=> ?_) (λx k1 kj U hl ab=> ?_) λx k1 kj U=>ap x U) bE bP λop B=> ?_
  ·rcases hl with⟨a,rfl,h⟩|⟨r,rfl,h⟩
   ·refine .inl ⟨a,rfl,h.imp (λh=> ?_) id⟩;by_cases e:x=b;·subst e;rw[dK,a8];exact .inl h
    ·rw[e8 e];exact h
   ·refine .inr ⟨r,rfl,?_⟩;by_cases e:x=b;·subst e;rw[dK,a8];exact .inl h
    ·rw[e8 e];exact h
  ·refine aq6 I.low ?_;rcases hl with⟨a,rfl,h⟩|⟨r,rfl,h⟩
   ·intro a6;have a6:a.block<w.heap.size:=a6;rcases h with h|h
    ·rcases nM x _ h with h|⟨_,h,_⟩;·exact ab (.inl ⟨a,rfl,.inl h⟩)
     ·omega
    ·exact ab (.inl ⟨a,rfl,.inr h⟩)
   ·intro a6;have a6:r<w.heap.size:=a6;rcases nM x _ h with h|⟨_,h,_⟩;·exact ab (.inr ⟨r,rfl,h⟩)
    ·omega
  ·obtain⟨e,R,rfl⟩:=lC B;exact⟨rfl,(aa e R).1⟩
 ·obtain⟨e,R,rfl⟩:=lC B;rcases hm with hm|⟨_,hm⟩;·exact .inr (.inl hm)
  ·exact .inr (.inr (hm e R))
 ·rcases pE.1 B with h|h;·exact Ol N.size (I.low op h)
  ·obtain⟨e,R,rfl⟩:=lC h;exact(aa e R).2.1
 ·rcases pE.1 B with h|h;·exact I.qo op h a
  ·obtain⟨e,R,rfl⟩:=lC h;exact BA (aa e R).2.2
end
end
section
variable [qK]
structure Rl(S L:Nat->Prop)(w f:ak):Prop where
 size:w.heap.size<=f.heap.size
 same:∀b,L b->iA w f b
 exact:∀b,L b->¬S b->f.heap[b]?=w.heap[b]?
 os:f.os=w.os
 output:f.output=w.output
theorem Rl.refl(S L:Nat->Prop)(w:ak):Rl S L w w:=⟨aL _,λ_ _=>.of_eq rfl,λ_ _ _=>rfl,rfl,rfl⟩
theorem Rl.trans{w w1:ak}(h:Rl R U w w1)(a:Rl R U w1 p):Rl R U w p:=⟨bT h.size a.size,λb c=>(h.same b c).trans (a.same b c),λb c f=>(a.exact b c f).trans (h.exact b c f),a.os.trans h.os,a.output.trans h.output⟩
theorem Rl.at(S L:Nat->Prop)(w:ak)(d:Nat):Rl S L w (w.at d):=⟨aL _,λ_ _=>.of_eq rfl,λ_ _ _=>rfl,rfl,rfl⟩
theorem Rl.mono{L:Nat->Prop}(h:Rl R L p W)(a:∀b,R b->U b):Rl U L p W:=⟨h.size,h.same,λb c f=>h.exact b c λx=>f (a b x),h.os,h.output⟩
def pS(a b:Gh):Prop:=a.stage<b.stage\/(a.stage=b.stage/\Rk.Lt a.rk b.rk)
section
variable {C:FC} {L:Nat->Prop} {J:Nat} {c:Nat->Gh} {k:Array aX} {w f:ak} {t:gN}
theorem Ch.idle(C:FC)(h:Gh)(x:Nat)(w:ak):Ch C h x w w:=⟨aL _,λ_ _ _ _ _ _ _=>rfl,λ_ _=>.of_eq rfl,.of_eq rfl,.of_eq rfl,id⟩
theorem oT(M:Nat->Prop)(w:ak):M=grow M w w:=funext λb=>propext (yr M w b).symm
theorem V8(y:C.dy)(I:Inv C L J c k w t){g:aX}(f:1<=b)(h:b<=J)(x:C.m<=b)(N:k[b]?=ae g)(o:l.M=(c b).M)(s:l.ro=(c b).ro)(u:l.stage=(c b).stage)(B:l.d=(c b).d)(Z:l.val=(c b).val)(R:eD C w b l H):Inv C L J (di c b l) ((k.map (jI C.P g H w)).setIfInBounds b H) w (t++l7 b g.frame.fn g.frame.place #[]):=by
 refine vT y I f h N (.inl x) (Ch.idle C _ b w) (o.trans (oT _ w)) s (λe j=>by simp at j) R ?_ ?_
 ·have:=I.hr b f h;unfold Ao at this⊢;rw[o,s,u,Z];exact this
 ·have p:=I.ht b f h;refine⟨by rw[vj,B];exact p.1,λa v=> ?_⟩;obtain⟨r,W⟩:=p.2 a (by rw[<-u];exact v);exact⟨r,W.other λop U=>by obtain⟨e,j,_⟩:=lC U;simp at j⟩
theorem ak1{P:aV}{g:aX}(c:N p p)(h:ie P ax N nL B b g p):B g p\/∃k a,b=k+1/\aZ P ax g p=.go a p #[]/\ie P ax N nL B k a p:=by
 cases b with
 |zero=>exact .inl (h p c)
 |succ b=>
  rcases h with h|⟨_,h⟩;·exact .inl (h p c)
  ·have:=h p c;cases j:aZ P ax g p with
   |go a f o=>
    rw[j,Dn]at this;obtain⟨⟨rfl,rfl⟩,l⟩:=this;exact .inr ⟨b,a,rfl,rfl,l⟩
   |_=>rw[j]at this;exact this.elim
def Next(C:FC)(L:Nat->Prop)(J:Nat)(c:Nat->Gh)(k:Array aX)(w:ak)(t:gN)(x:Nat)(g:aX):Prop:=
 ∃b f h a,aZ C.P ax g w=.go b f h/\Inv C L J (di c x a) ((k.map (jI C.P g b f)).setIfInBounds x b) f (t++l7 x g.frame.fn g.frame.place h)/\pS a (c x)/\f.heap[C.Wg]?=w.heap[C.Wg]?/\Rl (c x).ro L w f/\(5<=a.stage↔5<=(c x).stage)/\((c x).stage<=4->a.stage=(c x).stage)/\a.ro=(c x).ro
theorem wo(x:C.dy)(I:Inv C L J c k w t){g:aX}(j:1<=b)(l:b<=J)(o:C.m<=b)(y:k[b]?=ae g)(H:(c b).rk=Rk.nat v)(s:ie C.P ax (C.lh b) nL B v g w)(u:∀a f,ie C.P ax (C.lh b) nL B a f w->eD C w b {c b with rk:=Rk.nat a} f):B g w\/Next C L J c k w t b g:=by
 rcases ak1 (RW.jU ..) s with h|⟨a,f,rfl,p,r⟩;·exact .inl h
 ·refine .inr ⟨f,w, #[],{c b with rk:=Rk.nat a},p,V8 x I j l o y rfl rfl rfl rfl rfl (u a f r),.inr ⟨rfl,?_⟩,rfl,.refl _ L w,xR,λ_=>rfl,rfl⟩;rw[H];exact Rk.Lf a
theorem yM{e:bX}(h:e.mute=aq):(fD e).touch?=af/\(∀B,(fD e).low B)/\∀a,e.loc≠ .mark (.release a):=by
 refine⟨touch_mute h,low_mute h,λa x=> ?_⟩;obtain⟨b,wr,c⟩:=e;dsimp only at x;subst x;cases h
theorem Lj(U:C.dy)(I:Inv C L J c k w t){g:aX}(l:1<=b)(p:b<=J)(Z:k[b]?=ae g)(j:g.status=.running)(x:(c b).stage=0)(s:eD C w b (c b) g):Next C L J c k w t b g:=by
 unfold eD at s;rw[x]at s;obtain⟨q,hk,v⟩:=s;cases q with
 |zero=>rw[v.1]at j;cases j
 |succ q=>
  rcases v with⟨W,_⟩|⟨_,H,u,h,a6,a2⟩;·rw[W]at j;cases j
  refine⟨H,w,u,{c b with rk:=Rk.nat q,d:=jl (c b).d u},a6 w,?_,.inr ⟨rfl,by rw[hk];exact Rk.Lf q⟩,rfl,.refl _ L w,xR,λ_=>rfl,rfl⟩;refine vT U I l p Z (.inr ⟨rfl,λe f=>(yM (h e f)).1⟩) (Ch.idle C _ b w) (oT _ w) rfl (λe f=>⟨λy o=>by(rw[(yM (h e f)).1]at o;cases o),(yM (h e f)).2.1 _,(yM (h e f)).2.2⟩) ?_ (I.hr b l p) ?_
  ·unfold eD;show match (c b).stage with|0=>_|8=>_|7=>_|6=>_|5=>_|4=>_|3=>_|2=>_|_=>_
   rw[x];exact⟨q,rfl,a2⟩
  ·obtain⟨N,R⟩:=I.ht b l p;refine⟨by rw[vj,N],λa B=> ?_⟩;obtain⟨r,hs⟩:=R a B;exact⟨r,hs.other λop a1=>.inr (by obtain⟨e,f,rfl⟩:=lC a1;exact(yM (h e f)).1)⟩
theorem Yu(Z:C.dy)(I:Inv C L J c k w t){g:aX}(j:1<=b)(l:b<=J)(s:C.m<=b)(hg:k[b]?=ae g)(ab:(c b).stage=7)(p:(c b).d=0)(U:vy C.P C.ty C.Wg C.T C.n 0 (b-C.m+1) (c b).val g w):Next C L J c k w t b g:=by
 obtain⟨aa,a2,N,a6,B,R⟩:=U;have a1:C.Wg<w.heap.size:=I.gQ _ I.hO.1;have hT:=I.ht b j l;have W:=I.hr b j l;refine⟨N,w,_,{c b with stage:=6,rk:=Rk.nat B},a6,?_,.inl (by show 6<(c b).stage;omega),rfl,.refl _ L w,⟨λ_=>ag,λ_=>by show 5<=6;omega⟩,λ_=>ag,rfl⟩;refine vT Z I j l hg (.inl s) (Ch.idle C _ b w) (oT _ w) rfl (λe v=> ?_) ?_ ?_ ?_
 ·simp only[zL,xn]at v;subst v;exact⟨λy o=>by(cases o),a1,λa b=>by(cases b)⟩
 ·exact⟨B,rfl,R,p⟩
 ·refine⟨λa8=>ag,λ_ _=>⟨(W.2 s ag).1,λ_=>a2⟩⟩
 ·have u:oq t b=0:=hT.1.trans p;refine⟨by rw[vj,u];exact p.symm,λ_ _=>⟨t.size,?_⟩⟩;have H:l7 b g.frame.fn g.frame.place #[mk (.releaseMerge (dB C.Wg))]= #[{g:=b,fn:=g.frame.fn,pos:=g.frame.place,act:=.mark (.releaseMerge (dB C.Wg))}]:=by simp[Hy,mk,fD]
  rw[H];have r:(t++ #[({g:=b,fn:=g.frame.fn,pos:=g.frame.place,act:=.mark (.releaseMerge (dB C.Wg))}:tB)])[t.size]?=ae {g:=b,fn:=g.frame.fn,pos:=g.frame.place,act:=.mark (.releaseMerge (dB C.Wg))}:=by rw[av4 (aL _)];simp
  have x:∀i,t.size<i->(t++ #[({g:=b,fn:=g.frame.fn,pos:=g.frame.place,act:=.mark (.releaseMerge (dB C.Wg))}:tB)])[i]?=none:=by
   intro i h;rw[av5];simp;omega
  refine⟨⟨by simp[De,r],by simp[oj,r],⟨b,by simp[oj,r],by rw[deaf_old (aL _)];exact u⟩,λi h f=> ?_⟩,λi a7 h f=> ?_⟩;·unfold oj at f;rw[x i h]at f;cases f
  ·unfold oj at f;rw[x i h]at f;cases f
theorem Yt(H:C.dy)(I:Inv C L J c k w t){g:aX}(j:1<=b)(l:b<=J)(h:C.m<=b)(U:k[b]?=ae g)(a7:(c b).stage=6)(N:(c b).d=0)(B:AtK1 C.P C.ty C.Wg C.T C.n 0 (b-C.m+1) g w):Next C L J c k w t b g:=by
 obtain⟨a6,v,a1,u,x⟩:=B;have s:=I.ht b j l;have p:=I.hr b j l;refine⟨v,w,_,{c b with stage:=5,rk:=Rk.nat u,d:=1},a1,?_,.inl (by show 5<(c b).stage;omega),rfl,.refl _ L w,⟨λ_=>ag,λ_=>by show 5<=5;omega⟩,λ_=>ag,rfl⟩;refine vT H I j l U (.inl h) (Ch.idle C _ b w) (oT _ w) rfl (λe f=> ?_) ?_ ?_ ?_
 ·simp only[zL,xn]at f;subst f;exact⟨λy o=>by(cases o),trivial,λa b=>by(cases b)⟩
 ·exact⟨u,rfl,x,rfl⟩
 ·exact⟨λa2=>ag,λ_ _=>⟨(p.2 h ag).1,λ_=>(p.2 h ag).2 ag⟩⟩
 ·have R:oq t b=0:=s.1.trans N;refine⟨by rw[vj,R];rfl,λ_ _=> ?_⟩;obtain⟨r,Z⟩:=s.2 h ag;refine⟨r,Z.other λop W=>.inr ?_⟩;obtain⟨e,f,rfl⟩:=lC W;simp only[zL,xn]at f;subst f;rfl
end
end
section
variable [qK]
section
variable {C:FC} {L:Nat->Prop} {J:Nat} {c:Nat->Gh} {k:Array aX} {w f:ak} {t:gN}
theorem V7(I:Inv C L J c k w t){g:aX}(Z:1<=b)(bP:b<=J)(v:k[b]?=ae g)(s:l.M=(c b).M)(H:l.ro=(c b).ro)(x:eD C w b l g)(B:Ao C w b l)(N:Dx C t b l):Inv C L J (di c b l) k w t:=by
 have f:∀y,(di c b l y).M=(c y).M:=by
  intro y;by_cases e:y=b;·subst e;rw[dK,s]
  ·rw[e8 e]
 have r:∀y,(di c b l y).ro=(c y).ro:=by
  intro y;by_cases e:y=b;·subst e;rw[dK,H]
  ·rw[e8 e]
 have U:oI C (di c b l)=oI C c:=by funext y W;unfold oI;rw[f y]
 have u:mT (di c b l)=mT c:=by funext y W;unfold mT;rw[r y]
 refine⟨I.sz,I.mJ,λy h j=> ?_,λy h j=> ?_,λy h j=> ?_,λy o=>by rw[f y,r y];exact I.nx y o,by rw[U,u];exact I.ct,I.wG,I.low,I.qo,λy a p=>I.hM y a (by rw[<-f y];exact p),λy z a o R=>I.mY y z a (by rw[<-f y];exact o) (by rw[<-f z];exact R),λy a p=>I.bY y a (by rw[<-r y];exact p),I.hL,I.hO,I.gQ,I.wf⟩
 ·by_cases e:y=b;·subst e;rw[dK];exact⟨g,v,x⟩
  ·rw[e8 e];exact I.hw y h j
 ·by_cases e:y=b;·subst e;rw[dK];exact B
  ·rw[e8 e];exact I.hr y h j
 ·by_cases e:y=b;·subst e;rw[dK];exact N
  ·rw[e8 e];exact I.ht y h j
theorem Yv(hS:C.dy)(I:Inv C L J c k w t){g:aX}(bE:1<=b)(bP:b<=J)(cM:C.m<=b)(hg:k[b]?=ae g)(av:(c b).stage=8)(hd:(c b).d=0)(u:qN C.P (C.z b (c b)) (C.pr b) (c b).rk (c b).M g w):(∃p,p.stage=7/\p.d=0/\p.ro=(c b).ro/\eD C w b p g/\Inv C L J (di c b p) k w t)\/Next C L J c k w t b g:=by
 have N:=I.ht b bE bP;have fin:C.pr b (c b).M g w->∃p,p.stage=7/\p.d=0/\p.ro=(c b).ro/\eD C w b p g/\Inv C L J (di c b p) k w t:=by
  rintro⟨_,hp⟩;obtain⟨ad,a7,v,l⟩:=hp I.wf;have ho:eD C w b {c b with stage:=7,rk:=Rk.nat a7,val:=ad} g:=⟨a7,rfl,v,hd⟩;refine⟨{c b with stage:=7,rk:=Rk.nat a7,val:=ad},rfl,hd,rfl,ho,V7 I bE bP hg rfl rfl ho ⟨λar=>ag,λ_ _=>⟨l,λH=>absurd H (by show¬7<=6;omega)⟩⟩ ⟨N.1,λ_ H=>absurd H (by show¬7<=6;omega)⟩⟩
 cases hk:(c b).rk with
 |leaf=>rw[hk]at u;exact .inl (fin (u w (Ry.refl _ _ _)))
 |mk a6=>
  rw[hk]at u;rcases u with u|⟨aF,u⟩;·exact .inl (fin (u w (Ry.refl _ _ _)))
  ·right;obtain⟨g',f,es,v,l,h3⟩:=u w (Ry.refl _ _ _);have an:C.T<w.heap.size:=by obtain⟨ai,v,_⟩:=I.wf.T;exact(cq.1 v).1
   have al:C.E<w.heap.size:=by obtain⟨ai,e,a6,v,_⟩:=I.wf.E;exact(cq.1 v).1
   have ao:C.Wg<w.heap.size:=I.gQ _ I.hO.1;have aa:f.heap[C.Wg]?=w.heap[C.Wg]?:=l.out _ ao (λh=>(I.hM b _ h).2.2.2.2 I.hO.1) I.wf.TE.2.1.symm I.wf.TE.2.2.symm λh=>(I.hL _ (I.bY b _ h)).2.2.2 I.hO.1;have ap:Ch C (c b) b w f:=⟨l.size,λj s am N hE _ x=>l.out j s am N hE x,l.part,l.mj,l.pk,λ⟨st,sm,h⟩=>⟨st,sm,aa.trans h⟩⟩;have ab:=l.size;have a8:∀j,grow (c b).M w f j->j<f.heap.size:=λj s=>s.elim (λh=>by have:=(I.hM b j h).1;omega) (·.2);have ac:∀j,(c b).ro j->j<f.heap.size:=λj s=>by have:=(I.hL j (I.bY b j s)).1;omega
   refine⟨g',f,es,{c b with M:=grow (c b).M w f,rk:=a6 w},v,?_,.inr ⟨rfl,by rw[hk];exact .of a6 w⟩,aa,⟨l.size,λj s=> ?_,λj s x=> ?_,l.os,l.output⟩,xR,λh4=>ag,rfl⟩
   ·refine vT hS I bE bP hg (.inl cM) ap rfl rfl (λe he=> ?_) ?_ ⟨λar=>ag,λ_ h7=>absurd h7 (by show¬(c b).stage<=7;omega)⟩ ⟨?_,λ_ H=>absurd H (by show¬(c b).stage<=6;omega)⟩
    ·obtain⟨aJ,wr,sy⟩:=e;rcases l.ev _ he with⟨a,R,h⟩|⟨r,U,h,B⟩|h|⟨ff,h⟩
     ·dsimp only at R;subst R;refine⟨λy o=> ?_,?_,λa b=>by(cases b)⟩
      ·simp only[fD,mF,iY]at o;subst o;right;rcases h with h|⟨h,hi⟩|⟨h,B⟩;·exact .inl (.inl ⟨a,rfl,.inl (by rw[dK];exact h)⟩)
       ·exact .inl (.inl ⟨a,rfl,.inr ⟨cM,h,hi⟩⟩)
       ·exact .inr ⟨.inl ⟨a,rfl,by rw[dK];exact h⟩,B⟩
      ·show a.block<f.heap.size;rcases h with h|⟨h,hi⟩|⟨h,B⟩;·exact a8 _ h
       ·rcases h with h|h<;>rw[h];·exact dG an ab
        ·exact dG al ab
       ·exact ac _ h
     ·dsimp only at U B;subst U B;refine⟨λy o=> ?_,?_,λa b=>by(cases b)⟩
      ·simp only[fD,mF,iY]at o;subst o;right;rcases h with h|h;·exact .inl (.inr ⟨r,rfl,by rw[dK];exact h⟩)
       ·exact .inr ⟨.inr ⟨r,rfl,by rw[dK];exact h⟩,rfl⟩
      ·show r<f.heap.size;rcases h with h|h;·exact a8 _ h
       ·exact ac _ h
     ·dsimp only at h;subst h;exact⟨λy o=>by(cases o),trivial,λa b=>by(cases b)⟩
     ·dsimp only at h;subst h;exact⟨λy o=>by(cases o),trivial,λa b=>by(cases b)⟩
    ·unfold eD;show match (c b).stage with|0=>_|8=>_|7=>_|6=>_|5=>_|4=>_|3=>_|2=>_|_=>_
     rw[av];exact⟨h3,hd⟩
    ·rw[vj];show jl (oq t b) es=(c b).d;rw[N.1,aK3 λe he=> ?_];rcases l.ev e he with⟨a,R,h⟩|⟨r,U,h,B⟩|h|⟨ff,h⟩;·rw[R];simp
     ·rw[U];simp
     ·rw[h];simp
     ·rw[h];simp
   ·by_cases x:(c b).ro j;·exact l.part j x
    ·obtain⟨W,Z,a3,a4⟩:=I.hL j s;exact .of_eq (l.out j W (λh=>(I.hM b j h).2.1 s) Z a3 x)
   ·obtain⟨W,Z,a3,a4⟩:=I.hL j s;exact l.out j W (λh=>(I.hM b j h).2.1 s) Z a3 x
theorem ak3(c:Nat->Gh)(x:Nat)(a b:Gh):di (di c x a) x b=di c x b:=by
 funext y;unfold di;split<;>rfl
theorem Next.relabel{g:aX}(B:(c b).stage=8)(y:l.stage=7)(p:l.ro=(c b).ro)(h:Next C L J (di c b l) k w t b g):Next C L J c k w t b g:=by
 obtain⟨v,f,u,x,r,a,a3,a4,a5,j,s,o⟩:=h;rw[ak3]at a;rw[dK]at a3 a5 j s o;rw[p]at a5;refine⟨v,f,u,x,r,a,.inl ?_,a4,a5,?_,λh=>ag,o.trans p⟩
 ·rcases a3 with a3|a3;·omega
  ·have:=a3.1;omega
 ·rw[j,y,B];omega
theorem LD(v:C.dy)(I:Inv C L J c k w t){g:aX}(j:1<=b)(l:b<=J)(r:k[b]?=ae g)(W:g.status=.running):Next C L J c k w t b g\/(C.m<=b/\(((c b).stage=5/\AtD1 C.P C.ty C.Wg C.T C.n 0 (b-C.m+1) g w)\/((c b).stage=4/\AtD2 C.P C.ty C.Wg C.T C.n 0 (b-C.m+1) g w)\/((c b).stage=3/\AtD3 C.P C.ty C.Wg C.T C.n 0 (b-C.m+1) g w)\/((c b).stage=2/\AtD4 C.P C.ty C.Wg g w))):=by
 obtain⟨g1,R,f⟩:=I.hw b j l;rw[r]at R;cases R;have hR:=I.hr b j l;rcases l9 b C.m with a1|o;·exact .inl (Lj v I j l r W (hR.1 a1).1 f)
 have U:=f;have Z:∀{c:Nat->Gh} (I:Inv C L J c k w t),(c b).stage=7->eD C w b (c b) g->Next C L J c k w t b g:=by
  intro c I a f;unfold eD at f;rw[a]at f;obtain⟨H,x,s,p⟩:=f;rcases wo v I j l o r x s (λy B u=>by
   unfold eD;show match (c b).stage with|0=>_|8=>_|7=>_|6=>_|5=>_|4=>_|3=>_|2=>_|_=>_
   rw[a];exact⟨y,rfl,u,p⟩)with h|h
  ·exact Yu v I j l o r a p h
  ·exact h
 unfold eD at f;split at f;·rename_i a;exact .inl (Lj v I j l r W a U)
 ·rename_i a;rcases Yv v I j l o r a f.2 f.1 with⟨h',N,e2,e0,e3,e4⟩|h;·exact .inl (Next.relabel a N e0 (Z e4 (by rw[dK];exact N) (by rw[dK];exact e3)))
  ·exact .inl h
 ·rename_i a;exact .inl (Z I a U)
 ·rename_i a;obtain⟨H,x,s,p⟩:=f;rcases wo v I j l o r x s (λy B u=>by
   unfold eD;show match (c b).stage with|0=>_|8=>_|7=>_|6=>_|5=>_|4=>_|3=>_|2=>_|_=>_
   rw[a];exact⟨y,rfl,u,p⟩)with h|h
  ·exact .inl (Yt v I j l o r a p h)
  ·exact .inl h
 ·rename_i a;obtain⟨H,x,s,p⟩:=f;rcases wo v I j l o r x s (λy B u=>by
   unfold eD;show match (c b).stage with|0=>_|8=>_|7=>_|6=>_|5=>_|4=>_|3=>_|2=>_|_=>_
   rw[a];exact⟨y,rfl,u,p⟩)with h|h
  ·exact .inr ⟨o,.inl ⟨a,h⟩⟩
  ·exact .inl h
 ·rename_i a;obtain⟨H,x,s,p⟩:=f;rcases wo v I j l o r x s (λy B u=>by
   unfold eD;show match (c b).stage with|0=>_|8=>_|7=>_|6=>_|5=>_|4=>_|3=>_|2=>_|_=>_
   rw[a];exact⟨y,rfl,u,p⟩)with h|h
  ·exact .inr ⟨o,.inr (.inl ⟨a,h⟩)⟩
  ·exact .inl h
 ·rename_i a;obtain⟨H,x,s,p⟩:=f;rcases wo v I j l o r x s (λy B u=>by
   unfold eD;show match (c b).stage with|0=>_|8=>_|7=>_|6=>_|5=>_|4=>_|3=>_|2=>_|_=>_
   rw[a];exact⟨y,rfl,u,p⟩)with h|h
  ·exact .inr ⟨o,.inr (.inr (.inl ⟨a,h⟩))⟩
  ·exact .inl h
 ·rename_i a;obtain⟨H,x,s,p⟩:=f;rcases wo v I j l o r x s (λy B u=>by
   unfold eD;show match (c b).stage with|0=>_|8=>_|7=>_|6=>_|5=>_|4=>_|3=>_|2=>_|_=>_
   rw[a];exact⟨y,rfl,u,p⟩)with h|h
  ·exact .inr ⟨o,.inr (.inr (.inr ⟨a,h⟩))⟩
  ·exact .inl h
 ·exact f.elim
end
end
