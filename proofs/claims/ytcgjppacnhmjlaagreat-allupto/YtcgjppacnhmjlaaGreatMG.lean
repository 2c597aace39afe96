/- Own texts: SimQ, SimR, SimS, SimV, FjA. -/
import Derived.Test.YtcgjppacnhmjlaaGreatMF
import Derived.Conc.Beside
import Derived.Conc.Own4
set_option linter.all false
open Array renaming getElem?_eq_some_iff->cq,getElem?_eq_getElem->jV,getElem?_setIfInBounds_ne->nk,getElem?_map->qB,mem_append->pE,getElem?_setIfInBounds_self_of_lt->NA,mem_iff_getElem->NI,mem_map->OE,ext'->Pa,mem_push->aC3
open Bool renaming true->aq,false->ax
open Classical renaming choose->l6,choose_spec->uS
open Go renaming World->ak,Value->au,Frame->aC,Goroutine->aX,Calls->aE,TypeId->aK,Program->aV,Addr->aH,Operand->bC,stepG->aZ,FuncId->bW,Event->bX,Oper->bR,yielded->fN,results->ga,Code->du,Item->dP,Trace->gN,seen->jo,exitTo->qL,unwind->rY,doReturn->xP,runN->lM,Act->gx,Machine->Ag,MemOp->tB,step->pN,Func->pO,Exit->s8,runT->vv
open Go.Conc renaming runT_crowd_go->oh,woken->jI,crowd->kI,Deaf_other->xO,Deaf_own->vj,Leavers->vk,awake_of->Ad,Good->OB,ofEvents_eq->Hy,awake->Hz,woken_run->I4,goes_go->Dn
open Go.ConcN renaming sumTo->nJ
open Go.Frame renaming enter->bG
open Go.GStep renaming after->jG
open Go.MemAct renaming ofEvent->fD,touch?->mF
open Go.MemOp renaming ofEvents->l7
open Go.Region renaming wanted->iJ
open Go.Sem renaming runT_fst->fE,runT_eq->nE
open Go.Value renaming pointer->tg,int->tk
open List renaming mem_cons->dk,ext_getElem?->mD,nil_append->nB,cons_append->pF,foldl_cons->aB6
open Nat renaming le_refl->aL,le_trans->bT,eq_zero_or_pos->pD,strongRecOn->rN
open Ne renaming symm->jm
open Option renaming some->ae,none->af,map_eq_some_iff->ji
open Option.some renaming inj->er,injEq->iY
open Pure renaming pure->bN
namespace Go.Proofs.YtcgjppacnhmjlaaGreat
open Go Go.Conc
open Go.ConcN (sumTo upd sumTo_upd upd_ne upd_same)
namespace Sim
variable {f:BR} {h:Nat->Nat->Prop} {a:LS} {j y:Nat} {p:aC} {u:List aC} {b o v:ak} {c:bX} {s N:Array bX} {W:Tape} {H:LS->Prop} {R:tB} {r:Nat->Nat} {l:aX} {U:au->ak->Prop} {B:du}
def iA(w w1:ak)(b:Nat):Prop:=∀c e f,w.heap[b]?=ae (.cells c e f)->∃a:{p:Nat×Nat//e=103->p=f},w1.heap[b]?=ae (.cells c e a.1)
def PF(B i:Nat)(w w1:ak):Prop:=∀c e f,w.heap[B]?=ae (.cells c e f)->∃c1,w1.heap[B]?=ae (.cells c1 e f)/\c1.size=c.size/\c1[i]?=c[i]?/\∀(j:Nat) (v:au),c1[j]?=ae v->(∃a,v=tg a)\/∃k n,v=tk k n
structure qT where
 ro:Nat->Prop
 Y:Nat->Prop
 i:Nat
structure y9(z:qT)(M:Nat->Prop)(w w1:ak):Prop where
 size:w.heap.size<=w1.heap.size
 ro:∀b,z.ro b->iA w w1 b
 own:∀b,M b->w1.heap[b]?=w.heap[b]?
 pay:∀b,z.Y b->PF b z.i w w1
def grow(M:Nat->Prop)(w w1:ak):Nat->Prop:=λb=>M b\/(w.heap.size<=b/\b<w1.heap.size)
def PD(z:qT)(M:Nat->Prop)(e:bX):Prop:=
 (∃a,e.loc=.cell a/\(M a.block\/(z.Y a.block/\(e.write=aq->a.off=z.i))\/(z.ro a.block/\e.write=ax)))\/(∃r,e.loc=.obj r/\(M r\/z.Y r\/z.ro r)/\e.write=ax)\/e.loc=.mark .noRoom\/∃f,e.loc=.mark (.extern f)
structure Ig(z:qT)(M:Nat->Prop)(w w1:ak)(es:Array bX):Prop where
 size:w.heap.size<=w1.heap.size
 ro:∀b,z.ro b->iA w w1 b
 pay:∀b,z.Y b->∀c e f,w.heap[b]?=ae (.cells c e f)->∃c1 f1,w1.heap[b]?=ae (.cells c1 e f1)/\c1.size=c.size/\∀j,j≠z.i->c1[j]?=c[j]?
 out:∀b,b<w.heap.size->¬M b->¬z.ro b->¬z.Y b->w1.heap[b]?=w.heap[b]?
 tape:w1.tape=w.tape
 os:w1.os=w.os
 output:w1.output=w.output
 ev:∀e∈es,PD z (grow M w w1) e
inductive xW (P:aV) (z:qT) (Q:(Nat->Prop)->aC->ak->Prop):(Nat->Prop)->aC->List aC->ak->Prop
 |done {M:Nat->Prop} {fr:aC} {w:ak}:(∀w1,y9 z M w w1->Q M fr w1)->xW P z Q M fr [] w
 |step {M:Nat->Prop} {fr:aC} {fs:List aC} {w:ak}:Plain fr->(∀w1,y9 z M w w1->∃p w' es,(dA P fr fs).runT P w1 #[]=(.ok p w',es)/\Ig z M w1 w' es)->
   (∀w1 p w' es,y9 z M w w1->(dA P fr fs).runT P w1 #[]=(.ok p w',es)->xW P z Q (grow M w1 w') p.1 p.2 w')->xW P z Q M fr fs w
section
variable {X:Ctx} {P:aV} {fs vs:List Nat} {fz:Bool}
theorem MU(G:Good X P fs fz vs)(Z:X.vw=λ_=>False)(W:X.fz=ax){s1:LS}(v:WR X.vw X.P.globals.size X.G f h a.w b)(t:kL X P fs fz vs f (a.fr,a.fs) (p,u))(l:fx X.P a b.tape b.drawn=ae (s1,j)):∃c r w1 k R o,(dA X.P p u).runT X.P b #[]=(.ok r k,o)/\kL X P fs fz vs c (s1.fr,s1.fs) r/\s1.w=gE w1/\WR X.vw X.P.globals.size X.G c h w1 k/\jr (mN X.P) h f c (re a.w b.tape b.drawn) b w1 k/\EvA h c R o:=by
 unfold fx at l;cases s:(dA X.P a.fr a.fs).run X.P (re a.w b.tape b.drawn)with
 |halt a7 w1=>rw[s]at l;cases l
 |ok a2 w1=>
  rw[s]at l;cases l;have U:(dA X.P a.fr a.fs).runT X.P (re a.w b.tape b.drawn) #[]=(.ok a2 w1,((dA X.P a.fr a.fs).runT X.P (re a.w b.tape b.drawn) #[]).2):=by rw[<-s,<-fE X.P _ _ #[]]
  have a1:WR X.vw X.P.globals.size X.G f h (re a.w b.tape b.drawn) b:=by
   have:=lE v b.tape b.tape b.drawn b.drawn;rwa[uE]at this
  obtain⟨c,r,k,o,x,y,B,H,N⟩:=(BQ G v.dC t.1 t.2).sound Z a1 (λe=>by rw[W]at e;cases e) (es:= #[]) (es':= #[]) .nil U (λa6 q _=>rfl);exact⟨c,r,w1,k,_,o,x,y,rfl,B,H,N⟩
def Class(z:qT)(M:Nat->Prop)(R:BR)(S:Nat->Nat->Prop)(w:ak):Prop:=
 ∀a b,R a b->(z.ro b/\(∀j,S a j))\/(M b/\∀j,¬S a j)
theorem Class.rely{z:qT}{M:Nat->Prop}(R:Class z M f h b)(l:WR X.vw X.P.globals.size X.G f h b o)(r:y9 z M o v):WR X.vw X.P.globals.size X.G f h b v:=by
 refine⟨l.dC,⟨l.low.1,bT l.low.2 r.size⟩,l.sl,λa p w=> ?_⟩;obtain⟨W,Z,s,t,u⟩:=l.blk a p w;rcases R a p w with⟨x,c⟩|⟨N,c⟩
 ·cases u with
  |number _ k=>exact absurd (c 0) (k 0)
  |view _ _ k=>exact absurd (c 0) (k 0)
  |cells y h5 h6 B=>
   obtain⟨f1,H⟩:=r.ro p x _ _ _ t;exact⟨_,_,s,H,.cells y (λ⟨j,U⟩=>absurd (c j) U) (λk=>absurd (c 0) (k 0)) B⟩
 ·exact⟨W,Z,s,by rw[r.own p N];exact t,u⟩
theorem Ji{l b:List bX}(j:mP h f l b)(a:c∈b):∃e,lf h f e c:=by
 induction j with
 |nil=>cases a
 |cons k _ o=>
  rcases dk.1 a with rfl|a;·exact⟨_,k⟩
  ·exact o a
theorem aj5{B:aK->Prop}(l:Kept h j b o y)(H:∀k,h j k)(x:¬B 103)(R:∀c t f,b.heap[y]?=ae (.cells c t f)->∃c1 a,o.heap[y]?=ae (.cells c1 t a)/\c1.size=c.size/\(a=f\/B t)):iA b o y:=by
 intro c e f u;obtain⟨c0,U,W,c1,a,p,r,h3,v⟩:=l;obtain⟨c2,Z,s,_,w⟩:=R c e f u;rw[u]at p;cases p;rw[r]at s;cases s;refine⟨⟨a,λN=>w.elim id λl=>absurd (N▸l) x⟩,?_⟩;rw[r];have:c1=c:=Pa (mD λk=>by simpa using v k (H k));rw[this]
theorem UC(ac:¬mN X.P 103){z:qT}{M:Nat->Prop}{R1:BR}{cS a7:ak}(R:Class z M f h b)(hw:WR X.vw X.P.globals.size X.G R1 h a7 cS)(hd:∀c,(z.ro c->¬M c/\¬z.Y c)/\(z.Y c->¬M c))(p:jr (mN X.P) h f R1 o v a7 cS)(ab:EvA h R1 s N):Ig z M v cS N:=by
 refine⟨p.wZ,λc hb=> ?_,λc hb a1 e B U=> ?_,λc W r u hY=> ?_,p.Gs,p.Fy,p.FA,λy aa=> ?_⟩
 ·by_cases l:∃a,f a c
  ·obtain⟨a,l⟩:=l;rcases R a c l with⟨_,H⟩|⟨r,_⟩;·exact aj5 (p.C4 a c 0 l (H 0)).1 H ac (p.ty a c l)
   ·exact absurd r ((hd c).1 hb).1
  ·intro a1 e B U;have W:c<v.heap.size:=(cq.1 U).1;exact⟨⟨B,λ_=>rfl⟩,by rw[p.out c W λa Z=>l ⟨a,Z⟩];exact U⟩
 ·by_cases l:∃a,f a c
  ·obtain⟨a,l⟩:=l;rcases R a c l with⟨u,_⟩|⟨r,_⟩;·exact absurd hb ((hd c).1 u).2
   ·exact absurd r ((hd c).2 hb)
  ·have W:c<v.heap.size:=(cq.1 U).1;exact⟨a1,B,by rw[p.out c W λa Z=>l ⟨a,Z⟩];exact U,rfl,λ_ _=>rfl⟩
 ·exact p.out c W λa l=>by
   rcases R a c l with⟨w,_⟩|⟨w,_⟩;·exact u w
   ·exact r w
 ·obtain⟨e,w⟩:=Ji ab (by simpa using aa);have a6:∀{a c},R1 a c->f a c\/grow M v cS c:=λ{a c} a2=>(p.new a c a2).imp id λZ=>.inr ⟨Z.2,(hw.lt a2).2⟩;have j:=w.loc;cases t:e.loc with
  |cell a=>
   cases k:y.loc with
   |cell a'=>
    rw[t,k]at j;obtain⟨a8,ad⟩:=j;refine .inl ⟨a',k,?_⟩;rcases a6 a8.1 with hR|hg
    ·rcases R _ _ hR with⟨u,H⟩|⟨r,_⟩
     ·refine .inr (.inr ⟨u,?_⟩);rw[w.wr];cases ai:e.write with
      |false=>rfl
      |true=>exact absurd (H _) (ad ai)
     ·exact .inl (.inl r)
    ·exact .inl hg
   |_=>rw[t,k]at j;exact j.elim
  |obj al=>
   cases k:y.loc with
   |obj r'=>
    rw[t,k]at j;refine .inr (.inl ⟨r',k,?_,by rw[w.wr];exact j.2⟩);rcases a6 j.1 with hR|hg
    ·rcases R _ _ hR with⟨u,H⟩|⟨r,_⟩;·exact .inr (.inr u)
     ·exact .inl (.inl r)
    ·exact .inl hg
   |_=>rw[t,k]at j;exact j.elim
  |mark m=>
   cases k:y.loc with
   |mark x=>
    rw[t,k]at j;obtain⟨rfl,rfl|⟨B,rfl⟩⟩:=j;·exact .inr (.inr (.inl k))
    ·exact .inr (.inr (.inr ⟨B,k⟩))
   |_=>rw[t,k]at j;exact j.elim
  |output=>rw[t]at j;cases k:y.loc<;>(rw[k]at j;exact j.elim)
  |goroutines=>rw[t]at j;cases k:y.loc<;>(rw[k]at j;exact j.elim)
theorem QJ{z:qT}{M:Nat->Prop}{R:BR}{d:Nat}(y:Class z M R h a.w)(H:∀c i,h c i->c<a.w.heap.size)(N:WR X.vw X.P.globals.size X.G f h v o)(B:jr (mN X.P) h R f (re a.w W d) b v o):Class z (grow M b o) f h (gE v):=by
 intro c l p;rcases B.new c l p with x|⟨s,t⟩
 ·rcases y c l x with r|⟨u,k⟩;·exact .inl r
  ·exact .inr ⟨.inl u,k⟩
 ·exact .inr ⟨.inr ⟨t,(N.lt p).2⟩,λj k=>by have:=H c j k;exact absurd s (by show¬a.w.heap.size<=c;omega)⟩
theorem QW(G:Good X P fs fz vs)(a7:X.vw=λ_=>False)(a6:X.fz=ax)(ac:¬mN X.P 103){z:qT}{S:Nat->Nat->Prop}(N:∀a,H a->a.fs=[]){Q:(Nat->Prop)->aC->ak->Prop}{R0:BR}(hQ:∀R M a fr' w',BR.Sub R0 R->H a->WR X.vw X.P.globals.size X.G R S a.w w'->fP X P fs fz vs R a.fr fr'->Class z M R S a.w->Q M fr' w')(hE:Ev (fx X.P) H a):∀{R:BR} {M:Nat->Prop} {fr':aC} {fs':List aC} {w':ak},BR.Sub R0 R->WR X.vw X.P.globals.size X.G R S a.w w'->kL X P fs fz vs R (a.fr,a.fs) (fr',fs')->Class z M R S a.w->(∀b,(z.ro b->¬M b/\¬z.Y b)/\(z.Y b->¬M b))->(∀b,z.ro b\/z.Y b->b<w'.heap.size)->xW X.P z Q M fr' fs' w':=by
 induction hE with
 |@stop a hs=>
  intro R M fr' fs' w' x p j h o t;have N:fs'=[]:=by
   have:=j.2;rw[show(a.fr,a.fs).2=[]from N _ hs]at this;cases this;rfl
  subst N;exact .done λw1 f=>hQ R M a fr' w1 x hs (h.rely p f) j.1 h
 |@step a h1 h2 ih=>
  intro R M fr' fs' w' x p j h o t;refine .step j.1.p' (λw1 f=> ?_) λw1 am U es f ad=> ?_
  ·obtain⟨⟨s1,k⟩,u⟩:=h1 w1.tape w1.drawn;obtain⟨W,a8,al,Z,aa,a1,r,e2,v,s,l,e6⟩:=MU G a7 a6 (h.rely p f) j u;exact⟨a8,Z,a1,r,UC ac h s o l e6⟩
  ·obtain⟨⟨s1,k⟩,u⟩:=h1 w1.tape w1.drawn;have ai:=h.rely p f;obtain⟨W,a8,al,Z,aa,a1,r,e2,v,s,l,e6⟩:=MU G a7 a6 ai j u;rw[ad]at r;cases r;have a2:=QJ (X:=X) h p.sl s l;rw[<-v]at a2;refine ih _ _ _ _ u (R:=W) (M:=grow M w1 U) (x.trans l.sub) (by rw[v];have:=lE s T0 U.tape 0 U.drawn;rwa[uE]at this) e2 a2 (λb=>⟨λc=> ?_,λc=> ?_⟩) λb c=> ?_
   ·refine⟨λB=> ?_,((o b).1 c).2⟩;rcases B with y|⟨ab,_⟩;·exact((o b).1 c).1 y
    ·have:=t b (.inl c);have:=f.size;omega
   ·intro B;rcases B with y|⟨ab,_⟩;·exact(o b).2 c y
    ·have:=t b (.inr c);have:=f.size;omega
   ·have:=t b c;have:=f.size;have:=l.wZ;omega
end
theorem lC{g:Nat}{fn:bW}{pos:String}(h:R∈l7 g fn pos s):∃e∈s,R={g,fn,pos,act:=.ofEvent e}:=by
 rw[Hy]at h;obtain⟨e,a,rfl⟩:=OE.1 h;exact⟨e,a,rfl⟩
theorem od{g:Nat}{fn:bW}{pos:String}(h:R∈l7 g fn pos s):R.g=g:=by
 rw[Hy]at h;obtain⟨e,a,rfl⟩:=OE.1 h;rfl
def vC(O:Nat->Prop):Loc->Prop:=λl=>∃a,l=.cell a/\O a.block
def oK(O:Nat->Prop):Loc->Prop:=λl=>vC O l\/l.isMemory=ax
structure PQ(O:Nat->Prop)(B N:Nat)(t:gN):Prop where
 qt:Past (vC O) B t
 quiet:Quiet (oK O) t
 gs:∀op∈t,op.g<N
 qo:∀op∈t,∀a,op.act≠ .mark (.release a)
structure nQ(O:Nat->Prop)(B:Nat)(e:bX):Prop where
 el:EvL (vC O) B e
 rel:∀a,e.loc≠ .mark (.release a)
 out:e.loc≠ .output
 aw:e.loc≠ .goroutines
theorem nQ.quiet{O:Nat->Prop}(h:nQ O j c){x:Touch}(b:(fD c).touch?=ae x)(f:oK O x.loc):x.kind≠ .plain:=by
 rcases f with f|f;·exact h.el.1 x b f
 ·obtain⟨o,wr,p⟩:=c;have l:=h.out;have k:=h.aw;cases o with
  |cell a=>simp only[fD,mF,iY]at b;subst b;cases f
  |obj r=>
   cases wr<;>cases p<;>simp only[fD,mF,iY]at b<;>first|(cases b;done)|(cases b;cases f)
  |mark m=>cases m<;>simp only[fD,mF,iY]at b<;>first|(cases b;done)|(cases b;intro c;cases c)
  |output=>exact absurd rfl l
  |goroutines=>exact absurd rfl k
theorem BA{a:aH}(h:∀a,c.loc≠ .mark (.release a)):fD c≠ .mark (.release a):=by
 obtain⟨b,wr,f⟩:=c;cases b with
 |obj r=>cases wr<;>cases f<;>simp[fD]
 |mark m=>intro x;simp only[fD]at x;cases x;exact h a rfl
 |_=>simp[fD]
def Fin(P:aV)(Post:au->ak->Prop)(m:Ag)(t:gN):Prop:=
 ∃N last o a b,runNT P (N+1) m t=(.ended o a,b)/\lM P N m=.next last/\pN P last=.ended o a/\OB P Post last o a b
section
variable {P:aV} {Post:au->ak->Prop} {m x:Ag} {t:gN} {ops:Array tB}
theorem Fin.next(h:stepT P m=(.next x,ops))(j:Fin P Post x (t++ops)):Fin P Post m t:=by
 obtain⟨N,last,o,p,l,a,b,c,f⟩:=j;have k:pN P m=.next x:=by rw[pN,h]
 refine⟨N+1,last,o,p,l,?_,?_,c,f⟩;·rw[runNT,h];exact a
 ·simp only[lM,k];exact b
theorem Fin.end{o:Outcome}(h:stepT P m=(.ended o b,ops))(a:OB P Post m o b (t++ops)):Fin P Post m t:=⟨0,m,o,b,t++ops,by simp[runNT,h],rfl,by simp[pN,h],a⟩
variable {gs:Array aX} {w:ak} {sl:Option (Nat×Nat)}
theorem Fin.pick(k:∀g∈gs,Hz g)(r:∃(i:Nat) (g:aX),gs[i]?=ae g/\g.status=.running)(h:∀i g d a,gs[i]?=ae g->g.status=.running->(∃x ops,vv P (kI gs (w.at d) a) i=(.next x,ops)/\Fin P Post x (t++ops))\/∃o f ops,vv P (kI gs (w.at d) a) i=(.ended o f,ops)/\OB P Post (kI gs w sl) o f (t++ops)):Fin P Post (kI gs w sl) t:=by
 obtain⟨i,g,d,a,p,l,j⟩:=crowd_pick (P:=P) (w:=w) (sl:=sl) k r;rcases h i g d a p l with⟨x,ops,b,c⟩|⟨o,f,ops,b,c⟩;·exact Fin.next (j.trans b) c
 ·exact Fin.end (j.trans b) c
theorem AD(w:ak)(b:Tape)(d a:Nat):(re w b d).at a=re w b a:=rfl
theorem EI{O:Nat->Prop}(y:vk P t gs r)(f:PQ O j gs.size t){i:Nat}{g:aX}(a6:0<i)(H:gs[i]?=ae g)(o:g.status=.running)(h0:gs[0]?=ae l)(ha:l.status=.running):∃c ops q',vv P (kI gs w sl) i=(.next (kI c w sl),ops)/\c[0]?=ae l/\vk P (t++ops) c q'/\PQ O j c.size (t++ops)/\nJ c.size q'<nJ gs.size r/\c.size=gs.size:=by
 have u:=y.old i g a6 H;have a2:(i==0)=false:=by simp;omega
 have N:i<gs.size:=(cq.1 H).1;cases U:r i with
 |zero=>rw[U]at u;rw[u.1]at o;cases o
 |succ k=>
  rw[U]at u;rcases u with⟨hf,_⟩|⟨_,Z,es,R,aa,a7⟩;·rw[hf]at o;cases o
  have a8:=oh (P:=P) (sl:=sl) (i:=i) H (by rw[a2];exact aa w);have ac:nJ gs.size (upd r i k)+(k+1)=nJ gs.size r+k:=by
   have:=sumTo_upd r k id N;simpa[U]using this
  have W:((gs.map (jI P g Z w)).setIfInBounds i Z).size=gs.size:=az;refine⟨_,_,upd r i k,a8,?_,⟨λv x p b=> ?_,λv p=> ?_⟩,⟨f.qt.mute ag R,f.quiet.app λop a x b _=>by(obtain⟨e,B,rfl⟩:=lC a;rw[touch_mute (R e B)]at b;cases b),λop a=>by(rw[W];rcases pE.1 a with h|h;exact f.gs op h;rw[od h];exact N),λop a l=>by(rcases pE.1 a with h|h;exact f.qo op h l;(obtain⟨e,B,rfl⟩:=lC h;exact BA λl x=>by(have:=R e B;obtain⟨ad,wr,sy⟩:=e;dsimp only at x;subst x;cases this)))⟩,by rw[W];omega,W⟩
  ·rw[nk ag,qB,h0];simp[I4 ha]
  ·by_cases s:i=v
   ·subst s;rw[NA (by simpa using N)]at b;obtain rfl:=er b;rw[upd_same,vj];exact a7
   ·rw[nk s,qB]at b;obtain⟨ab,hy,rfl⟩:=ji.1 b;have a1:=y.old v ab p hy;rw[woken_quitsD a1,upd_ne r k (jm s),xO t s _ (λop a=>od a)];exact a1
  ·rw[xO t (g':=i) (by simp at p;omega) _ (λop a=>od a)];exact y.above v (by simpa using p)
theorem GM{O:Nat->Prop}(N:vk P t gs r)(o:PQ O j gs.size t)(Z:j<=y){k:aX}(H:gs[0]?=ae l)(x:aZ P aq l w=.go k b s)(v:∀e∈s,nQ O y e):∃c ops,vv P (kI gs w sl) 0=(.next (kI c b sl),ops)/\c[0]?=ae k/\vk P (t++ops) c r/\PQ O y c.size (t++ops)/\c.size=gs.size:=by
 have R:0<gs.size:=(cq.1 H).1;have a1:=oh (P:=P) (sl:=sl) (i:=0) H (show aZ P (0==0) l w=_ from x);have W:((gs.map (jI P l k b)).setIfInBounds 0 k).size=gs.size:=az;refine⟨_,_,a1,by simp[R],⟨λB a2 p u=> ?_,λB p=> ?_⟩,⟨(o.qt.mono Z).own λe f=>(v e f).el,o.quiet.app λop a a2 u x=>by(obtain⟨e,f,rfl⟩:=lC a;exact⟨(v e f).quiet u x,λ_=>rfl⟩),λop a=>by(rw[W];rcases pE.1 a with h|h;exact o.gs op h;rw[od h];exact R),λop a l=>by(rcases pE.1 a with h|h;exact o.qo op h l;(obtain⟨e,f,rfl⟩:=lC h;exact BA (v e f).rel))⟩,W⟩
 ·rw[nk ag,qB]at u;obtain⟨a6,hy,rfl⟩:=ji.1 u;have U:=N.old B a6 p hy;rw[woken_quitsD U,xO t (g':=0) ag _ (λop a=>od a)];exact U
 ·rw[xO t (g':=0) (by simp at p;omega) _ (λop a=>od a)];exact N.above B (by simpa using p)
end
def ig(P:aV)(Post:au->ak->Prop)(O:Nat->Prop)(b:aC)(a:List aC)(w:ak):Prop:=
 ∀c d gs sl t q,gs[0]?=ae (aw b a)->vk P t gs q->PQ O w.heap.size gs.size t->Fin P Post (kI gs (re w c d) sl) t
theorem DO{P:aV}{t:gN}{gs:Array aX}(c:vk P t gs r)(b:gs[0]?=ae l)(f:l.status=.running):∀g∈gs,Hz g:=by
 intro g h;obtain⟨i,a,rfl⟩:=NI.1 h;rcases pD i with rfl|j
 ·have:gs[0]=l:=by simpa[jV a]using b
  rw[this];exact Ad (.inl f)
 ·exact Ad ((c.old i _ j (jV a)).status.elim .inl λx=>.inr (.inr x))
theorem ig.BC{P:aV}{O:Nat->Prop}(h:∀j d,∃r k a o,aZ P aq (aw p u) (re b j d)=.go (aw r k) a o/\b.heap.size<=a.heap.size/\(∀e∈o,nQ O a.heap.size e)/\ig P U O r k a):ig P U O p u b:=by
 intro j d gs sl t q c v N;generalize a2:nJ gs.size q=W;induction W using rN generalizing d gs sl t q with
 |_ W ih=>
  refine Fin.pick (DO v c rfl) ⟨0,_,c,rfl⟩ λi g l f w hg=>.inl ?_;rw[AD];rcases pD i with rfl|a1
  ·obtain rfl:g=aw p u:=by rw[c]at w;exact(er w).symm
   obtain⟨r,k,a,o,Z,h2,h3,h4⟩:=h j l;obtain⟨s,ops,x,y,B,H,R⟩:=GM (sl:=f) v N h2 c Z h3;refine⟨_,_,x,?_⟩;have:=h4 a.tape a.drawn s f (t++ops) q y B H;rwa[uE]at this
  ·obtain⟨s,ops,q',x,y,B,H,R,r6⟩:=EI (w:=re b j l) (sl:=f) v N a1 w hg c rfl;exact⟨_,_,x,ih _ (by rw[<-a2];exact R) l s f (t++ops) q' y B H rfl⟩
section
variable {X:Ctx} {P:aV} {fs vs:List Nat} {fz:Bool} {Post:au->ak->Prop} {O:Nat->Prop}
theorem qx{P:aV}{fn:bW}(h:c∈jo P fn s):c∈s:=by
 unfold jo at h;obtain⟨l⟩:=s;simp only[List.foldl_toArray]at h
 have key:∀(l:List bX)(q:Bool) (kept:Array bX),c∈(l.foldl (λ(x:Bool×Array bX) c=>match c.loc with
   | .mark (.extern f)=>((P.funcs[f]?).any (·.norace),x.2)
   |_=>(x.1,if x.1&& ! c.sync then x.2 else x.2.push c)) (q,kept)).2->c∈kept\/c∈l:=by
  intro l;induction l with
  |nil=>intro q kept h;exact .inl h
  |cons y l o=>
   intro q kept h;rw[aB6]at h
   have:∃b a,(match y.loc with
    | .mark (.extern f)=>((P.funcs[f]?).any (·.norace),kept)
    |_=>(q,if q&& ! y.sync then kept else kept.push y))=(b,a)/\(a=kept\/a=kept.push y):=by
    split;·exact⟨_,_,rfl,.inl rfl⟩
    ·refine⟨_,_,rfl,?_⟩;split;·exact .inl rfl
     ·exact .inr rfl
   obtain⟨b,a,j,k⟩:=this;dsimp only at h;rw[j]at h;rcases o b a h with h|h
   ·rcases k with rfl|rfl;·exact .inl h
    ·rcases aC3.1 h with h|rfl;·exact .inl h
     ·exact .inr az
   ·exact .inr (by simp[h])
 rcases key l _ _ h with h|h;·simp at h
 ·simpa using h
structure aI(X:Ctx)(O:Nat->Prop)(R:BR)(w:ak):Prop where
 diag:∀a b,R a b->a=b
 wr:WR X.vw X.P.globals.size X.G R (λ_ _=>False) w w
 apart:∀a,R a a->¬O a
 low:∀a,O a->a<w.heap.size
theorem aI.step{R c:BR}{w w1:ak}{o:Tape}{d:Nat}(f:aI X O R w)(p:∀a b,c a b->a=b)(r:WR X.vw X.P.globals.size X.G c (λ_ _=>False) w1 w1)(k:jr (mN X.P) (λ_ _=>False) R c (re w o d) (re w o d) w1 w1):aI X O c (gE w1):=by
 refine⟨p,lE r _ _ _ _,λa j l=> ?_,λa j=> ?_⟩
 ·rcases k.new a a j with h|⟨h,_⟩;·exact f.apart a h l
  ·have:=f.low a l;exact absurd h (by show¬w.heap.size<=a;omega)
 ·have:=f.low a j;have s:w.heap.size<=w1.heap.size:=k.sz;show a<w1.heap.size;omega
theorem AP(W:aI X O f o)(U:WR X.vw X.P.globals.size X.G f (λ_ _=>False) b b)(e5:EvA (λ_ _=>False) f s N)(he:c∈N):nQ O b.heap.size c:=by
 have e1:=W.diag;obtain⟨e0,a1⟩:=Ji e5 (by simpa using he);have k:=a1.loc;have a6:∀a,c.loc=.cell a->f a.block a.block->nQ O b.heap.size c:=by
  intro a l hR;refine⟨⟨λa2 r v=> ?_,by rw[l];simp,by rw[l];simp,?_⟩,by rw[l];simp,by rw[l];simp,by rw[l];simp⟩
  ·obtain⟨y,wr,B⟩:=c;dsimp only at l;subst l;simp only[fD,mF,iY]at r;subst r;obtain⟨H,R,Z⟩:=v;cases R;exact absurd Z (W.apart _ hR)
  ·obtain⟨y,wr,B⟩:=c;dsimp only at l;subst l;exact(U.lt hR).1
 cases p:e0.loc with
 |cell a=>
  cases j:c.loc with
  |cell H=>
   rw[p,j]at k;have:=e1 _ _ k.1.1;exact a6 H j (by have h:=k.1.1;rw[this]at h;exact h)
  |_=>rw[p,j]at k;exact k.elim
 |obj a7=>
  cases j:c.loc with
  |obj r'=>
   rw[p,j]at k;have:=(U.lt k.1).2;have w:c.write=false:=a1.wr.trans k.2;refine⟨⟨λa2 r v=> ?_,by rw[j];simp,by rw[j];simp,?_⟩,by rw[j];simp,by rw[j];simp,by rw[j];simp⟩
   ·obtain⟨y,wr,B⟩:=c;dsimp only at j w;subst j w;simp only[fD,mF,iY]at r;subst r;obtain⟨H,R,Z⟩:=v;cases R
   ·obtain⟨y,wr,B⟩:=c;dsimp only at j w;subst j w;exact this
  |_=>rw[p,j]at k;exact k.elim
 |mark m=>
  cases j:c.loc with
  |mark x=>
   rw[p,j]at k;obtain⟨rfl,t⟩:=k;obtain⟨y,wr,B⟩:=c;dsimp only at j;subst j;refine⟨⟨λa2 r v=> ?_,?_,?_,?_⟩,λa c=> ?_,az,az⟩;·rcases t with rfl|⟨u,rfl⟩<;>cases r
   ·rcases t with rfl|⟨u,rfl⟩<;>simp
   ·rcases t with rfl|⟨u,rfl⟩<;>simp
   ·rcases t with rfl|⟨u,rfl⟩<;>trivial
   ·rcases t with rfl|⟨u,rfl⟩<;>cases c
  |_=>rw[p,j]at k;exact k.elim
 |output=>rw[p]at k;cases j:c.loc<;>(rw[j]at k;exact k.elim)
 |goroutines=>rw[p]at k;cases j:c.loc<;>(rw[j]at k;exact k.elim)
theorem KU(G:Good X P fs fz vs)(hV:∀u,X.vw u->gP X.P u){tl:List aC}{R0:BR}{w0:ak}(hk:∀a R,H a->aI X O R a.w->kL X P fs fz vs R (a.fr,a.fs) (a.fr,a.fs)->BR.Sub R0 R->w0.heap.size<=a.w.heap.size->ig X.P Post O a.fr (a.fs++tl) a.w)(hE:Ev (fx X.P) H a):∀{R:BR},aI X O R a.w->kL X P fs fz vs R (a.fr,a.fs) (a.fr,a.fs)->BR.Sub R0 R->w0.heap.size<=a.w.heap.size->ig X.P Post O a.fr (a.fs++tl) a.w:=by
 induction hE with
 |stop hs=>intro R f j r o;exact hk _ R hs f j r o
 |@step a h1 h2 ih=>
  intro R f j r o;refine .BC λc d=> ?_;obtain⟨⟨s1,k⟩,h⟩:=h1 c d;have a2:=h;unfold fx at h;cases s:(dA X.P a.fr a.fs).run X.P (re a.w c d)with
  |halt a6 w1=>rw[s]at h;cases h
  |ok v w1=>
   rw[s]at h;cases h;have B:(dA X.P a.fr a.fs).runT X.P (re a.w c d) #[]=(.ok v w1,((dA X.P a.fr a.fs).runT X.P (re a.w c d) #[]).2):=by rw[<-s,<-fE X.P _ _ #[]]
   have:=(BQ G f.wr.dC j.1 j.2).uL hV rfl f.diag (lE f.wr c c d d) (es:= #[]) .nil B;obtain⟨U,e1,e2,x,l,e5⟩:=this;have y:aI X O U (gE w1):=f.step e1 x l;have N:a.w.heap.size<=w1.heap.size:=l.sz;refine⟨v.1,v.2++tl,w1,_,Ca (main:=aq) j.1.p tl B,N,λe he=> ?_,?_⟩;·exact AP y x e5 (qx he)
   ·have:=ih c d _ _ a2 y e2 (r.trans l.sub) (bT o N);exact λZ d' gs sl t q W b a1=>by have:=this Z d' gs sl t q W b a1;exact this
end
theorem E4{id:Nat}{k:List dP}:∀{l a:List dP},qL id l=ae a->qL id (l++k)=ae (a++k)
 |[],_,h=>by cases h
 |i::l,a,h=>by
  cases i<;>simp only[qL,pF]at h⊢<;>first|exact E4 h|skip
  split at h;·rename_i e;cases h;rw[if_pos e]
  ·rename_i e;rw[if_neg e];exact E4 h
section
variable {X:Ctx} {P:aV} {fs vs:List Nat} {fz:Bool} {k:List dP}
def Ak(s:LS):Prop:=s.fs=[]/\s.fr.mode=.run/\s.fr.todo=[]
open Classical in
noncomputable def qO(P:aV)(s:LS)(a:Tape)(d:Nat):Option (LS×Nat):=if Ak s then af else fx P s a d
theorem EU{P:aV}{d:Nat}{x:LS×Nat}(h:qO P a W d=ae x):¬Ak a/\fx P a W d=ae x:=by
 unfold qO at h;split at h;·cases h
 ·rename_i b;exact⟨b,h⟩
end
section
variable {X:Ctx} {P:aV} {fs vs:List Nat} {fz:Bool} {k:List dP}
theorem Iv{b:aV}:∀(n:Nat){s c:LS} {a:Tape} {d f:Nat},mr (fx b) n s a d=ae (c,f)->Ak c->mr (qO b) n s a d=ae (c,f)
 |0,s,c,a,d,f,h,_=>h
 |n+1,s,c,a,d,f,h,t=>by
  by_cases r:Ak s
  ·exfalso;obtain⟨j,l,w⟩:=s;obtain⟨k,o,p⟩:=r;dsimp only at k o p;subst k;have u:fx b ⟨j,[],w⟩ a d=ae (⟨{j with mode:=.returning},[],gE (re w a d)⟩,0):=by
    unfold fx dA;dsimp only;rw[o];dsimp only;rw[p];simp[bN,re]
   simp only[mr,u]at h;cases n with
   |zero=>cases h;cases t.2.1
   |succ n=>
    have v:fx b ⟨{j with mode:=.returning},[],gE (re w a d)⟩ a (d+0)=none:=by
     unfold fx dA;rfl
    simp only[mr,v]at h;cases h
  ·simp only[mr]at h⊢;have:qO b s a d=fx b s a d:=by unfold qO;rw[if_neg r]
   rw[this];split at h;·rename_i s1 y x;exact Iv n h t
   ·cases h
theorem Ti(G:Good X P fs fz vs)(v:∀u,X.vw u->gP X.P u){b:aC}{a:gx}{w:ak}{Q:s8->gx->ak->Prop}{r:gx->ak->Prop}(j:iz X P fs fz vs ⟨b.at a [.code B],[],w⟩)(hp:∀a w f d,r a w->r a (re w f d))(Z:∀e c p,Q e c p->e=.normal/\r c p)(hc:∀f,B.wp X.P Q a (re w f 0)):Ev (qO X.P) (λo=>o.fs=[]/\∃c,o.fr=b.at c []/\r c o.w) ⟨b.at a [.code B],[],w⟩:=by
 refine E0 (Inv:=iz X P fs fz vs) (λs f d s1 k j l H t x=> ?_) (λs f d j l=> ?_) (λs f d s1 k j l=>Bq G v j (EU l).2) j λf=> ?_
 ·obtain⟨U,W⟩:=EU l;unfold qO;rw[if_neg U];exact EX G v j W x
 ·unfold qO at l⊢;split at l;·rename_i h;exact⟨0,λ_ _ _=>if_pos h⟩
  ·rename_i h;obtain⟨k,hk⟩:=EW G v j l;exact⟨k,λH t x=>by rw[if_neg h];exact hk H t x⟩
 ·obtain⟨e,c,p,hq,a1⟩:=hc f b [] [c0 X.P];obtain⟨rfl,a2⟩:=Z e c p hq;obtain⟨n,hn⟩:=a1;obtain⟨N,o,t,r1,R,y,r4⟩:=ES G v (frE:=b.at c []) (λch e=>by cases e) n ⟨b.at a [.code B],[],w⟩ f 0 j (by exact hn);refine⟨N,o,t,Iv N r1 ⟨R,by rw[y];rfl,by rw[y];rfl⟩,R,c,y,?_⟩;rw[yO r4];exact hp c p _ _ a2
variable {Post:au->ak->Prop} {O:Nat->Prop}
theorem aI.re{R:BR}{w:ak}(h:aI X O R w)(tp:Tape)(d:Nat):aI X O R (re w tp d):=⟨h.diag,lE h.wr _ _ _ _,h.apart,h.low⟩
theorem KW(hV:∀y,X.vw y->gP X.P y){s:LS}(hs:Am X.P U s)(c:aI X O f s.w)(k:kL X P fs fz vs f (s.fr,s.fs) (s.fr,s.fs))(hn:∀v b,U v s.w->aI X O b s.w->BR.Sub f b->VR X.G b v v->ig X.P Post O (p.finish v) u s.w):ig X.P Post O s.fr (p::u) s.w:=by
 obtain⟨h1,W,v,fn,Z,h4,h5⟩:=hs;refine .BC λa d=> ?_;have r:=k.1.p.defers;have x:=k.1.p.kind;dsimp only at r x;have l:(ga fn s.fr.tmps).runT X.P (Sim.re s.w a d) #[]=(.ok v (Sim.re s.w a d),((ga fn s.fr.tmps).runT X.P (Sim.re s.w a d) #[]).2):=by rw[<-h5 a d,<-fE X.P _ _ #[]]
 obtain⟨b,o,N,h,j,R⟩:=(BP fn k.1.tmps).uL hV rfl c.diag (lE c.wr a a d d) (es:= #[]) .nil l;refine⟨p.finish v,u,Sim.re s.w a d,jo X.P s.fr.fn ((ga fn s.fr.tmps).runT X.P (Sim.re s.w a d) #[]).2,?_,aL _,λe he=> ?_,?_⟩
 ·generalize ((ga fn s.fr.tmps).runT X.P (Sim.re s.w a d) #[]).2=es at l;simp[aZ,rY,aw,W,r,h4,l,x,xP,jG, -nE]
 ·exact AP (c.step o h j) h R (qx he)
 ·have a1:=(c.step o h j).re s.w.tape s.w.drawn;exact λB H gs sl t q a2 a6 z=>hn v b Z a1 j.sub N B H gs sl t q a2 a6 z
theorem XW(x:Good X P fs fz vs)(H:∀a2,X.vw a2->gP X.P a2){b:aC}{a:gx}{cs:List aC}{w:ak}{R:BR}{ops:Array bR}{i:Nat}{rest:List Nat}{o:bR}{f:bW}{fn:pO}{args:Array bC}{a6:Array aK}{Post1:au->ak->Prop}(Z:ops[i]?=ae o)(hw:iJ o (fN ops a.tmps)=aq)(hb:b.kind=.normal)(ac:o.op=.call {callee:=.value (.func f),args,argTypes:=a6})(u:X.P.funcs[f]?=ae fn)(ab:(fn.name== "runtime.NumGoroutine")=ax)(s:fn.body=ae B)(W:X.G f)(y:aI X O R w)(U:bq X.G R (args.map a.eval) (args.map a.eval))(hp:∀v w c d,Post1 v w->Post1 v (Sim.re w c d))(hc:∀c,aE X.P f (args.map a.eval) (Sim.re w c 0) λe h=>∃v,e=.returned v/\Post1 v h)(hn:∀v h r,Post1 v h->aI X O r h->VR X.G r v v->BR.Sub R r->w.heap.size<=h.heap.size->ig X.P Post O (b.at (a.put o.dst v) (.inRegion ops rest::k)) cs h):ig X.P Post O (b.at a (.inRegion ops (i::rest)::k)) cs w:=by
 refine .BC λc d=> ?_;have aa:=goes_call (P:=X.P) (main:=aq) (b:=b) (a:=a) (k:=k) (cs:=cs) (rest:=rest) (w:=Sim.re w c d) (K:=λg w1 j=>g=aw (bG X.P f (args.map a.eval) .normal) (b.at a (.inRegion ops (i::rest)::k)::cs)/\w1=Sim.re w c d/\j= #[]) Z hw (by rw[hb];decide) ac u ab s ⟨by simp[aw,G,bG,u,s,Frame.at,base],rfl,rfl⟩;have N:∃j,aZ X.P aq (aw (b.at a (.inRegion ops (i::rest)::k)) cs) (Sim.re w c d)=.go (aw (bG X.P f (args.map a.eval) .normal) (b.at a (.inRegion ops (i::rest)::k)::cs)) (Sim.re w c d) j/\j= #[]:=by
  have l:(aZ X.P aq (aw (b.at a (.inRegion ops (i::rest)::k)) cs) (Sim.re w c d)).goes _:=aa;cases p:aZ X.P aq (aw (b.at a (.inRegion ops (i::rest)::k)) cs) (Sim.re w c d)with
  |go g' h j=>
   rw[p,Dn]at l;obtain⟨rfl,rfl,rfl⟩:=l;exact⟨_,rfl,rfl⟩
  |_=>rw[p]at l;exact l.elim
 obtain⟨j,N,rfl⟩:=N;refine⟨_,_,_,_,N,aL _,λe he=>by simp at he,?_⟩;have hE:=Jh x H W ⟨fn,B,u,s⟩ y.diag y.wr U hp hc;have hS:kL X P fs fz vs R (bG X.P f (args.map a.eval) .normal,[]) (bG X.P f (args.map a.eval) .normal,[]):=⟨fP.enter x W U ⟨fn,B,u,s⟩,.nil⟩;have:=KU (tl:=b.at a (.inRegion ops (i::rest)::k)::cs) (R0:=R) (w0:=w) (Post:=Post) (O:=O) x H (λa1 r p a7 a8 hR h0=> ?_) hE (y.re T0 0) hS (BR.Sub.refl R) (aL _);·exact λaQ d' gs sl t q ai al z=>this aQ d' gs sl t q ai al z
 ·have ad:=p.1;rw[ad,nB];refine KW (s:=a1) H p a7 a8 λv R1 h1 l h3 h4=> ?_;have e:(b.at a (.inRegion ops (i::rest)::k)).finish v=b.at (a.put o.dst v) (.inRegion ops rest::k):=by rw[Frame.finish_at,Z];rfl
  rw[e];exact hn v a1.w R1 h1 l h4 (hR.trans h3) h0
end
inductive Rk where
 |leaf
 |mk (f:ak->Rk)
inductive Rk.Lt:Rk->Rk->Prop
 |of (f:ak->Rk) (w:ak):Rk.Lt (f w) (.mk f)
theorem Rk.acc:∀r:Rk,Acc Rk.Lt r
 | .leaf=>⟨_,λy h=>by cases h⟩
 | .mk f=>⟨_,λy h=>by cases h with|of _ w=>exact Rk.acc (f w)⟩
structure WZ where
 T:Nat
 E:Nat
 i:Nat
 part:Nat->Prop
def WZ.all(z:WZ)(b:Nat):Prop:=b=z.T\/b=z.E\/z.part b
def pU(B i:Nat)(w w1:ak):Prop:=∀c e f,w.heap[B]?=ae (.cells c e f)->∃c1,w1.heap[B]?=ae (.cells c1 e f)/\c1.size=c.size/\c1[i]?=c[i]?
def nT(B i:Nat)(w w1:ak):Prop:=∀c e f,w.heap[B]?=ae (.cells c e f)->∃c1,w1.heap[B]?=ae (.cells c1 e f)/\c1.size=c.size/\∀j,j≠i->c1[j]?=c[j]?
structure Ry(z:WZ)(M:Nat->Prop)(w w1:ak):Prop where
 size:w.heap.size<=w1.heap.size
 part:∀b,z.part b->iA w w1 b
 own:∀b,M b->w1.heap[b]?=w.heap[b]?
 mj:pU z.T z.i w w1
 pk:pU z.E z.i w w1
def Ie(z:WZ)(M:Nat->Prop)(e:bX):Prop:=
 (∃a,e.loc=.cell a/\(M a.block\/((a.block=z.T\/a.block=z.E)/\a.off=z.i)\/(z.part a.block/\e.write=ax)))\/(∃r,e.loc=.obj r/\(M r\/z.part r)/\e.write=ax)\/e.loc=.mark .noRoom\/∃f,e.loc=.mark (.extern f)
structure Gu(z:WZ)(M:Nat->Prop)(w w1:ak)(es:Array bX):Prop where
 size:w.heap.size<=w1.heap.size
 out:∀b,b<w.heap.size->¬M b->b≠z.T->b≠z.E->¬z.part b->w1.heap[b]?=w.heap[b]?
 part:∀b,z.part b->iA w w1 b
 mj:nT z.T z.i w w1
 pk:nT z.E z.i w w1
 tape:w1.tape=w.tape
 os:w1.os=w.os
 output:w1.output=w.output
 ev:∀e∈es,Ie z (grow M w w1) e
theorem iA.trans{w w1:ak}(h:iA w w1 j)(l:iA w1 b j):iA w b j:=by
 intro c e f r;obtain⟨a,o⟩:=h c e f r;obtain⟨k,p⟩:=l c e a.1 o;exact⟨⟨k.1,λx=>(k.2 x).trans (a.2 x)⟩,p⟩
theorem iA.of_eq(h:o.heap[j]?=b.heap[j]?):iA b o j:=λc e f a=>⟨⟨f,λ_=>rfl⟩,by rw[h];exact a⟩
theorem pU.trans{B i:Nat}{w w1 a:ak}(h:pU B i w w1)(b:pU B i w1 a):pU B i w a:=by
 intro c e f s;obtain⟨c1,j,k,l⟩:=h c e f s;obtain⟨c2,o,p,r⟩:=b c1 e f j;exact⟨c2,o,p.trans k,r.trans l⟩
theorem pU.of_eq{i:Nat}(h:o.heap[j]?=b.heap[j]?):pU j i b o:=λc e f a=>⟨c,by rw[h];exact a,rfl,rfl⟩
theorem nT.of_eq{i:Nat}(h:o.heap[j]?=b.heap[j]?):nT j i b o:=λc e f a=>⟨c,by rw[h];exact a,rfl,λ_ _=>rfl⟩
theorem Ry.refl(z:WZ)(M:Nat->Prop)(w:ak):Ry z M w w:=⟨aL _,λ_ _=>.of_eq rfl,λ_ _=>rfl,.of_eq rfl,.of_eq rfl⟩
theorem Ry.trans{z:WZ}{M:Nat->Prop}{w w1 f:ak}(h:Ry z M w w1)(a:Ry z M w1 f):Ry z M w f:=⟨bT h.size a.size,λb c=>(h.part b c).trans (a.part b c),λb c=>(a.own b c).trans (h.own b c),h.mj.trans a.mj,h.pk.trans a.pk⟩
theorem Ry.at(z:WZ)(M:Nat->Prop)(w:ak)(d:Nat):Ry z M w (w.at d):=⟨aL _,λ_ _=>.of_eq rfl,λ_ _=>rfl,.of_eq rfl,.of_eq rfl⟩
def qN(P:aV)(z:WZ)(Q:(Nat->Prop)->aX->ak->Prop):Rk->(Nat->Prop)->aX->ak->Prop
 | .leaf,M,g,w=>∀w1,Ry z M w w1->Q M g w1
 | .mk f,M,g,w=>(∀w1,Ry z M w w1->Q M g w1)\/(g.status=.running/\∀w1,Ry z M w w1->∃c a b,aZ P ax g w1=.go c a b/\Gu z M w1 a b/\qN P z Q (f w1) (grow M w1 a) c a)
def cW(P:aV)(z:WZ)(Q:(Nat->Prop)->aX->ak->Prop)(M:Nat->Prop)(g:aX)(w:ak):Prop:=∃r,qN P z Q r M g w
section
variable {P:aV} {z:WZ} {Q:(Nat->Prop)->aX->ak->Prop} {M:Nat->Prop} {g:aX} {w w1:ak}
theorem qN.rely:∀{r:Rk},qN P z Q r M g w->Ry z M w w1->qN P z Q r M g w1
 | .leaf,h,c=>λb a=>h b (c.trans a)
 | .mk f,h,c=>h.imp (λh b a=>h b (c.trans a)) λh=>⟨h.1,λb a=>h.2 b (c.trans a)⟩
theorem cW.rely(h:cW P z Q M g w)(a:Ry z M w w1):cW P z Q M g w1:=let ⟨r,h⟩:=h;⟨r,h.rely a⟩
theorem cW.done(h:∀w1,Ry z M w w1->Q M g w1):cW P z Q M g w:=⟨.leaf,h⟩
open Classical in
theorem cW.step(o:g.status=.running)(h:∀w1,Ry z M w w1->∃c a b,aZ P ax g w1=.go c a b/\Gu z M w1 a b/\cW P z Q (grow M w1 a) c a):cW P z Q M g w:=by
 have:∀w1,∃r,Ry z M w w1->∃c a b,aZ P ax g w1=.go c a b/\Gu z M w1 a b/\qN P z Q r (grow M w1 a) c a:=by
  intro w1;by_cases f:Ry z M w w1
  ·obtain⟨c,a,b,j,k,r,l⟩:=h w1 f;exact⟨r,λ_=>⟨c,a,b,j,k,l⟩⟩
  ·exact⟨.leaf,λx=>absurd x f⟩
 refine⟨.mk λw1=>l6 (this w1),.inr ⟨o,λw1 f=> ?_⟩⟩;exact uS (this w1) f
theorem yr(M:Nat->Prop)(w:ak):∀b,grow M w w b↔M b:=λb=>⟨λh=>h.elim id λx=>absurd x.2 ag,.inl⟩
theorem cW.congr{a:Nat->Prop}(c:∀b,M b↔a b)(h:cW P z Q M g w):cW P z Q a g w:=by
 have:M=a:=funext λb=>propext (c b);exact this▸h
theorem Gu.idle(w:ak):Gu z M w w #[]:=⟨aL _,λ_ _ _ _ _ _=>rfl,λ_ _=>.of_eq rfl,.of_eq rfl,.of_eq rfl,rfl,rfl,rfl,λe a=>by simp at a⟩
theorem cW.ctl{g':aX}(f:g.status=.running)(h:∀w,aZ P ax g w=.go g' w #[])(a:cW P z Q M g' w):cW P z Q M g w:=
 .step f λw1 c=>⟨g',w1, #[],h w1,.idle w1,(a.rely c).congr λb=>(yr M w1 b).symm⟩
theorem cW.look(o:g.status=.running)(h:∀w1,Ry z M w w1->∃a,aZ P ax g w1=.go l w1 a/\∀e∈a,Ie z M e)(k:cW P z Q M l w):cW P z Q M g w:=
 .step o λw1 c=>by
  obtain⟨a,f,j⟩:=h w1 c;have e:grow M w1 w1=M:=funext λb=>propext (yr M w1 b);exact⟨l,w1,a,f,⟨aL _,λ_ _ _ _ _ _=>rfl,λ_ _=>.of_eq rfl,.of_eq rfl,.of_eq rfl,rfl,rfl,rfl,by rw[e];exact j⟩,(k.rely c).congr λb=>(yr M w1 b).symm⟩
theorem QQ(y:¬z.part z.T/\¬z.part z.E){Z:(Nat->Prop)->aC->ak->Prop}{N:List aC}(h:xW P {ro:=z.part,Y:=λ_=>False,i:=0} Z M p u w):(∀b,M b->¬z.all b)->(∀b,z.all b->b<w.heap.size)->(∀o t k,(∀b,o b->¬z.all b)->(∀b,z.all b->b<k.heap.size)->(∀b,M b->o b)->Ry z (λ_=>False) w k->(∀w1,Ry z o k w1->Z o t w1)->cW P z Q o (aw t N) k)->cW P z Q M (aw p (u++N)) w:=by
 induction h with
 |@done M p w hd=>
  intro v r R;rw[nB];exact R M p w v r (λ_=>id) (Ry.refl _ _ _) λw1 f=>hd w1 ⟨f.size,f.part,f.own,λb c=>c.elim⟩
 |@step M p u w hp h1 h2 ih=>
  intro v r R;refine .step rfl λw1 f=> ?_;have hR:y9 {ro:=z.part,Y:=λ_=>False,i:=0} M w w1:=⟨f.size,f.part,f.own,λb c=>c.elim⟩;obtain⟨s,k,es,e1,j⟩:=h1 w1 hR;have aa:∀b,grow M w1 k b->¬z.all b:=by
   intro b c l;rcases c with c|⟨c,_⟩;·exact v b c l
   ·have:=r b l;have:=f.size;omega
  have W:∀b,z.all b->¬z.part b->k.heap[b]?=w1.heap[b]?:=λb l U=>j.out b (by have:=r b l;have:=f.size;omega) (λh=>v b h l) U λx=>x;have a7:∀B,z.all B->¬z.part B->nT B z.i w1 k:=λB hB U=>.of_eq (W B hB U);refine⟨aw s.1 (s.2++N),k,jo P p.fn es,Ca (fr1:=s.1) (fs1:=s.2) hp N (by rw[e1]),⟨j.size,λb c ab hT hE ac=>j.out b c ab ac λx=>x,j.ro,a7 z.T (.inl rfl) y.1,a7 z.E (.inr (.inl rfl)) y.2,j.tape,j.os,j.output,λe he=> ?_⟩,?_⟩
  ·rcases j.ev e (qx he)with⟨a,l,h|⟨h,_⟩|⟨h,H⟩⟩|⟨a8,a6,h|h|h,H⟩|h|h;·exact .inl ⟨a,l,.inl h⟩
   ·exact h.elim
   ·exact .inl ⟨a,l,.inr (.inr ⟨h,H⟩)⟩
   ·exact .inr (.inl ⟨a8,a6,.inl h,H⟩)
   ·exact h.elim
   ·exact .inr (.inl ⟨a8,a6,.inr h,H⟩)
   ·exact .inr (.inr (.inl h))
   ·exact .inr (.inr (.inr h))
  ·refine ih w1 s k es hR e1 aa (λb c=>by have:=r b c;have:=f.size;have:=j.size;omega) λo t w2 a1 a2 a3 a4 a5=> ?_;exact R o t w2 a1 a2 (λb c=>a3 b (.inl c)) ((⟨f.size,f.part,λb c=>c.elim,f.mj,f.pk⟩:Ry z (λ_=>False) w w1).trans ((⟨j.size,j.ro,λb c=>c.elim,.of_eq (W z.T (.inl rfl) y.1),.of_eq (W z.E (.inr (.inl rfl)) y.2)⟩:Ry z (λ_=>False) w1 k).trans a4)) a5
end
