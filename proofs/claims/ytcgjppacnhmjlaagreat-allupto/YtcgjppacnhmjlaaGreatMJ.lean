/- Own texts: FjI, FjJ, FwA, FwB, FwC, FwD. -/
import Derived.Test.YtcgjppacnhmjlaaGreatMI
import Derived.Test.YtcgjppacnhmjlaaGreatProg
import Derived.Conc.WgGenW
import Derived.Conc.WgArith
import Derived.Conc.SmallLaws
set_option linter.all false
set_option maxRecDepth 100000
open Array renaming getElem?_eq_some_iff->cq,getElem?_eq_getElem->jV,getElem?_setIfInBounds_ne->nk,getElem?_map->qB,mem_append->pE,getElem?_push->xk,getElem?_append_right->av4
open Bool renaming true->aq,false->ax
open Classical renaming byContradiction->pC,choose->l6,choose_spec->uS
open Decidable renaming decide->aM
open Go renaming World->ak,Value->au,Frame->aC,Goroutine->aX,TypeId->aK,Program->aV,Addr->aH,undef->aN,Operand->bC,execOp->bp,stepG->aZ,FuncId->bW,Event->bX,deafBehind->jl,Oper->bR,yielded->fN,Trace->gN,IntKind->mK,seen->jo,MemOp->tB,Func->pO,bits->tC,mayWake->I8,runT->vv
open Go.Conc renaming runT_crowd_go->oh,listed->ic,woken->jI,semEvents->pJ,crowd->kI,Leavers->vk,awake_of->Ad,QuitsD->vo,ofEvents_eq->Hy,Deaf->oq,woken_run->I4
open Go.ConcN renaming sumTo->nJ,WgLive->vn
open Go.ConcR renaming WgAt->gO,Payload->qK,stA->dB
open Go.ConcR.Payload renaming ety->aD3
open Go.Extern renaming findNext->zQ,find->uZ
open Go.Extern.Atomic renaming casT->sR,loadT->zH,update->aL7
open Go.Frame renaming enter->bG
open Go.IntKind renaming i32->Hl,u64->OM,wrap_u64->ay4,wrap_i32->ay5
open Go.MemAct renaming ofEvent->fD,low_mono->Ol
open Go.MemOp renaming ofEvents->l7
open Go.Op renaming intArith->Pf
open Go.Proofs.Tryz renaming prog->aj,isAgg3->ib,isAgg9->lL,underlying60->CF,underlying9->Oi,underlying3->Oj,isAgg140->OI,sizeOf3->ON,underlying4->aA7,underlying0->aA8,zeroValue9->aB8,zeroValue4->aB9,zeroValue3->aC0,zeroValue0->aC1,sizeOf9->aE0,sizeOf4->aE1,sizeOf0->aE2,isAgg4->aH6,isAgg0->aH7
open Go.Region renaming wanted->iJ
open Go.Trace renaming g?->oj,act?->De
open Inhabited renaming default->fM
open Int renaming fdiv_eq_ediv_of_nonneg->av9
open List renaming mem_cons->dk,mem_toArray->zL,not_mem_nil->CL
open Nat renaming le_refl->aL,eq_zero_or_pos->pD,lt_or_ge->l9,strongRecOn->rN
open Option renaming some->ae,none->af
open Option.some renaming inj->er
namespace Go.Proofs.YtcgjppacnhmjlaaGreat
open Go Go.Conc Go.ConcN Go.ConcR Go.RowKit Go.Conc.Lib Go.ConcR.Gen
open Go.ConcR (KK wgBlock WgAt stA smA rd wr mk Payload DC0)
namespace Sim
variable {o:aX} {k:Nat} {v:Array bC} {l s:bC} {r:au} {u:aH} {x:ak}
section
variable [qK]
section
variable {C:FC} {S L:Nat->Prop} {J:Nat} {b:Nat->Gh} {a:Array aX} {w w':ak} {t:gN} {p j d0:Nat} {h:(Nat->Gh)->Int->Int->Prop}
 {Post:au->ak->Prop} {fr:aC} {cs:List aC} {w0:ak}
def blk(fr:aC)(cs:List aC):Goroutine:={aw fr cs with status:=.blocked}
theorem at5{P:aV}{g g':aX}:jI P g g' w' (blk fr cs)=blk fr cs\/jI P g g' w' (blk fr cs)=aw fr cs:=by
 unfold jI;split;·exact .inr rfl
 ·exact .inl rfl
theorem at6{P:aV}{g:aX}(h:I8 P g=aq)(a:o.status=.running):jI P g o w' (blk fr cs)=aw fr cs:=by
 unfold jI;rw[h,a];rfl
theorem eV.uH{fr':aC}{cs':List aC}(y:C.dy)(hn:J+1-C.m<2147483600)(hb:∀w,Rl S L w0 w->(∃st,gO C.ty C.Wg w st 0)->aZ C.P aq (aw fr cs) w=.go (blk fr cs) w #[])(hu:∀w,Rl S L w0 w->gO C.ty C.Wg w 0 1->aZ C.P aq (aw fr cs) w=.go (aw fr' cs') (w.setCell (smA C.Wg) (.int .u32 0)) (pJ (smA C.Wg)))(ai:eV C Post S L J (en C J 0 0) d0 fr' cs' w0):eV C Post S L J (oF C J) d0 fr cs w0:=by
 have key:∀b,∀w a h t j,(j=aw fr cs\/(j=blk fr cs/\∃st,gO C.ty C.Wg w st 0))->Rl S L w0 w->a[0]?=ae j->kK C S L J (oF C J) d0 b a w t->Fin C.P Post (kI a w h) t:=by
  intro b;induction pQ.acc J b with
  |intro b _ ih=>
   have uo:∀w a h t j i g,(j=aw fr cs\/(j=blk fr cs/\∃st,gO C.ty C.Wg w st 0))->Rl S L w0 w->a[0]?=ae j->kK C S L J (oF C J) d0 b a w t->0<i->a[i]?=ae g->g.status=.running->∃N R,vv C.P (kI a w h) i=(.next N,R)/\Fin C.P Post N (t++R):=by
    intro w a h t j i g ha l c f B k s;have ad:i<=J:=by
     have:=(cq.1 k).1;have:=f.inv.sz;omega
    obtain⟨g',w',es,aa,a1,a2,a3,a4,st,sm,al,ao,b1,b2,b3⟩:=G9 (EG y hn) f B ad k s;have ac:(i==0)=false:=by simp;omega
    refine⟨_,_,oh (P:=C.P) (sl:=h) (i:=i) k (by rw[ac];exact a1),?_⟩;refine ih aa a3 w' _ h _ (jI C.P g g' w' j) ?_ (l.trans a4) ?_ a2
    ·rcases ha with rfl|⟨rfl,am,u⟩;·exact .inl (I4 rfl)
     ·rcases b3 with rfl|⟨c1,c2⟩
      ·rcases at5 (fr:=fr) (cs:=cs) (w':=w') (P:=C.P) (g:=g) (g':=g')with e|e
       ·obtain⟨_,rfl⟩:=b1.unique u;exact .inr ⟨e,al,b2⟩
       ·exact .inl e
      ·exact .inl (at6 c1 c2)
    ·rw[nk ag,qB,c];rfl
   have a7:∀w a h t,(∃st,gO C.ty C.Wg w st 0)->Rl S L w0 w->a[0]?=ae (blk fr cs)->kK C S L J (oF C J) d0 b a w t->Fin C.P Post (kI a w h) t:=by
    intro w a h t u l c f;refine Fin.pick (f.awake c (λt e=>by cases e)) ?_ λi g d o k s=>.inl ?_
    ·obtain⟨st,sm,p,m2⟩:=f.mo;obtain⟨am,m0⟩:=u;obtain⟨_,rfl⟩:=p.unique m0;have:∃x,C.m<=x/\x<=J/\(b x).stage≠0:=by
      rcases m2 with⟨W,Z,_⟩|⟨z,z1,z2,z3,_⟩|⟨_,_,h3⟩
      ·obtain⟨x,v,r,x3⟩:=Io Z;exact⟨x,v,r,ag⟩
      ·exact⟨z,z1,z2,ag⟩
      ·cases h3
     obtain⟨x,v,r,x3⟩:=this;have:=f.inv.mJ.1;obtain⟨g,g1,g2⟩:=f.inv.hw x ag r;exact⟨x,g,g1,Z2 g2 x3⟩
    ·rcases pD i with rfl|B;·rw[c]at k;cases k;cases s
     ·exact uo (w.at d) a o t _ i g (.inr ⟨rfl,u⟩) (l.trans (Rl.at S L w d)) c (f.at y d) B k s
   intro w a h t j ha l c f;rcases ha with rfl|⟨rfl,u⟩
   ·refine Fin.pick (f.awake c (Ad (.inl rfl))) ⟨0,_,c,rfl⟩ λi g d o k s=>.inl ?_;have a6:=f.at y d;have H:=l.trans (Rl.at S L w d);rcases pD i with rfl|B
    ·obtain⟨st,sm,p,m2⟩:=a6.mo;have a8:0<a.size:=(cq.1 c).1;have block:sm=0->∃N R,vv C.P (kI a (w.at d) o) 0=(.next N,R)/\Fin C.P Post N (t++R):=by
      rintro rfl;refine⟨_,_,oh (P:=C.P) (sl:=o) (i:=0) c (show aZ C.P (0==0) _ _=_ from hb _ H ⟨st,p⟩),?_⟩;have:=sI (Mo':=oF C J) y a6 c (a':=blk fr cs) (Zs.refl C.Wg S L (w.at d)) (es:= #[]) (λe he=>by simp at he) p m2;rw[<-oT]at this;exact a7 _ _ o _ ⟨st,p⟩ H (by simp[a8]) this
     rcases m2 with⟨W,Z,h3,h4⟩|⟨z,z1,z2,z3,z4,z5,z6⟩|⟨W,Z,h3⟩;·exact block h4
     ·exact block z6
     ·subst Z h3;refine⟨_,_,oh (P:=C.P) (sl:=o) (i:=0) c (show aZ C.P (0==0) _ _=_ from hu _ H p),?_⟩;have hV:Vg C.m J b=0:=by
       apply pC;intro an;obtain⟨x,v,r,x3⟩:=Io (m:=C.m) (J:=J) (gh:=b) ag;have:=W x v r;omega
      have ab:∀U,L U->U≠C.Wg:=λU hb e=>(f.inv.hL U hb).2.2.2 (e▸f.inv.hO.1);have:=sI (Mo':=en C J 0 0) y a6 c (a':=aw fr' cs') (Zs.set (.int .u32 0) rfl) (es:=pJ (smA C.Wg)) (λe he=> ?_) (p.setSm 0) ⟨λx v r=>.inl (W x v r),by rw[hV];simp,rfl,ag⟩
      ·rw[vO,show jl d0 (pJ (smA C.Wg))=d0 by simp[jl,pJ]]at this;exact ai _ _ o _ b (H.trans (uG ab _ rfl _)) (by simp[a8]) this
      ·refine .inr (.inr (.inr (.inl ?_)));simp[pJ]at he;rcases he with rfl|rfl|rfl|rfl;·exact .inl rfl
       ·exact .inr (.inr ⟨_,_,rfl,rfl⟩)
       ·exact .inr (.inr ⟨_,_,rfl,rfl⟩)
       ·exact .inr (.inl rfl)
    ·exact uo (w.at d) a o t _ i g (.inl rfl) H c a6 B k s
   ·exact a7 w a h t u l c f
 exact λw a h t b l c f=>key b w a h t _ (.inl rfl) l c f
structure oD(C:FC)(L:Nat->Prop)(J:Nat)(w:ak):Prop where
 wf:C.Wf w
 ex:∃(val:Nat->au) (M:Nat->Nat->Prop),(∀x,C.m<=x->x<=J->C.Res x (val x) (M x) w/\Has C.T (x-C.m) (val x) w)/\(∀x b,M x b->b<w.heap.size/\¬L b/\b≠C.T/\b≠C.E/\¬C.O b)/\∀x y b,M x b->M y b->x=y
open Classical in
theorem eV.acq{fr':aC}{cs':List aC}(B:C.dy)(hn:J+1-C.m<2147483600)(h:∀w,Rl S L w0 w->C.Wf w->aZ C.P aq (aw fr cs) w=.go (aw fr' cs') w #[mk (.acquire (dB C.Wg))])(an:∀w,Rl S L w0 w->oD C L J w->ig C.P Post C.O fr' cs' w):eV C Post S L J (en C J 0 0) 0 fr cs w0:=by
 refine .um B (gD B hn ag) λw a sl t b a7 y f=> ?_;obtain⟨st,sm,m1,m2,rfl,rfl,m5⟩:=f.mo;have al:0<a.size:=(cq.1 y).1;have s:∀x,1<=x->x<=J->(b x).stage=0:=by
  intro x p j;rcases l9 x C.m with hl|Z;·exact((f.inv.hr x p j).1 hl).1
  ·rcases m2 x Z j with h|h;·exact h
   ·have:=DJ (m:=C.m) Z j h;omega
 refine⟨_,_,oh (P:=C.P) (sl:=sl) (i:=0) y (show aZ C.P (0==0) _ _=_ from h w a7 f.inv.wf),?_⟩;have c:=sI (Mo':=en C J 0 0) B f y (a':=aw fr' cs') (Zs.refl C.Wg S L w) (es:= #[mk (.acquire (dB C.Wg))]) (λe he=>.inr (.inr (.inr (.inr ⟨dB C.Wg,rfl,.inr (.inr (by simpa using he))⟩)))) m1 ⟨m2,rfl,rfl,m5⟩;rw[<-oT]at c;have hd:jl 0 #[mk (.acquire (dB C.Wg))]=0:=rfl;rw[hd]at c;generalize ai:(a.map (jI C.P (aw fr cs) (aw fr' cs') w)).setIfInBounds 0 (aw fr' cs')=k at c⊢;have ab:k[0]?=ae (aw fr' cs'):=by rw[<-ai];simp[al]
 generalize u:t++l7 0 (aw fr cs).frame.fn (aw fr cs).frame.place #[mk (.acquire (dB C.Wg))]=l at c⊢;have ao:k.size=J+1:=c.inv.sz;have hJ:oD C L J w:=by
  refine⟨f.inv.wf,λx=>(b x).val,λx=>(b x).M,λx p j=> ?_,λx aa hb=>f.inv.hM x aa hb,f.inv.mY⟩;have am:=f.inv.mJ.1;have:=(f.inv.hr x ag j).2 p (by rw[s x ag j];omega);exact⟨this.1,this.2 (by rw[s x ag j];omega)⟩
 have e1:l7 0 (aw fr cs).frame.fn (aw fr cs).frame.place #[mk (.acquire (dB C.Wg))]= #[{g:=0,fn:=(aw fr cs).frame.fn,pos:=(aw fr cs).frame.place,act:=.mark (.acquire (dB C.Wg))}]:=by simp[Hy,mk,fD]
 rw[e1]at u;have N:l[t.size]?=ae {g:=0,fn:=(aw fr cs).frame.fn,pos:=(aw fr cs).frame.place,act:=.mark (.acquire (dB C.Wg))}:=by rw[<-u,av4 (aL _)];simp
 have hL:vk C.P l k λx=>if h:∃q,(b x).rk=Rk.nat q/\∃g,k[x]?=ae g/\vo C.P q (oq l x) g then l6 h else 0:=by
  refine⟨λi g o r=> ?_,λar hj=> ?_⟩
  ·have H:i<=J:=by have:=(cq.1 r).1;omega
   obtain⟨g1,R,v⟩:=c.inv.hw i o H;rw[r]at R;cases R;unfold eD at v;rw[s i o H]at v;obtain⟨q,q1,q2⟩:=v;have ad:=(c.inv.ht i o H).1;have W:∃q,(b i).rk=Rk.nat q/\∃g,k[i]?=ae g/\vo C.P q (oq l i) g:=⟨q,q1,g,r,by rw[ad];exact q2⟩;rw[dif_pos W];obtain⟨_,g2,U,b2⟩:=uS W;rw[r]at U;cases U;exact b2
  ·exact Deaf_absent λi op o e=>by have:=c.inv.ct.gs i op o;omega
 have ac:PQ C.O w.heap.size k.size l:=by
  rw[ao];refine Zo (m:=C.m) (q:=t.size) (a:=dB C.Wg) c.inv.ct c.inv.wG (λx p j=> ?_) c.inv.qo (by simp[De,N]) (by simp[oj,N]) ⟨0,by simp[oj,N],?_⟩ c.deaf c.inv.low
  ·have am:=f.inv.mJ.1;obtain⟨ap,a8⟩:=(f.inv.ht x ag j).2 p (by rw[s x ag j];omega);refine⟨ap,?_,lt_of_act? a8.rel.act⟩;rw[<-u];exact a8.other λop a6=>.inl (by simp at a6;subst a6;show(0:Nat)≠x;omega)
  ·rw[<-u,deaf_old (aL _)];exact f.deaf
 have:=an w a7 hJ w.tape w.drawn k sl l _ ab hL ac;rwa[uE]at this
end
end
section
variable [qK]
theorem Du{t:gN}{x y:tB}{j:Nat}(a:x.act=.go j)(b:y.act=.start):oq (t++ #[x,y]) k=oq t k:=by
 rw[show(#[x,y]:gN)=[x,y].toArray from rfl,Deaf_append];simp[deafStep,a,b]
section
variable {C:FC} {S L:Nat->Prop} {J:Nat} {b:Nat->Gh} {a:Array aX} {w w':ak} {t:gN} {p j d0:Nat} {h:(Nat->Gh)->Int->Int->Prop}
 {Post:au->ak->Prop} {fr:aC} {cs:List aC} {w0:ak}
theorem V6(I:Inv C L J b a w t){g':aX}{ro:Nat->Prop}{r:Rk}{x y:tB}(R:x.g=0/\x.act=.go (J+1))(U:y.g=J+1/\y.act=.start)(a7:oq t 0=0)(a6:∀c,ro c->L c)(hc:qN C.P {T:=C.T,E:=C.E,i:=J+1-C.m,part:=ro} (C.pr (J+1)) r (λ_=>False) o w):Inv C L (J+1) (di b (J+1) {M:=λ_=>False,ro:=ro,stage:=8,rk:=r,d:=0,val:=.tuple #[]}) ((a.setIfInBounds 0 g').push o) w (t++ #[x,y]):=by
 have W:=I.sz;have a8:=I.mJ;have N:∀op∈ #[x,y],op.act.touch?=af/\(∀a2,op.act.low a2)/\∀u,op.act≠ .mark (.release u):=by
  intro op j;simp only[zL,dk,CL,or_false]at j;rcases j with rfl|rfl;·rw[R.2];exact⟨rfl,λ_=>trivial,λu e=>by cases e⟩
  ·rw[U.2];exact⟨rfl,λ_=>trivial,λu e=>by cases e⟩
 have B:∀k c,(di b (J+1) {M:=λ_=>False,ro:=ro,stage:=8,rk:=r,d:=0,val:=.tuple #[]} k).M c->(b k).M c:=by
  intro k c f;by_cases e:k=J+1;·subst e;rw[dK]at f;exact f.elim
  ·rw[e8 e]at f;exact f
 have nR:∀k c,(di b (J+1) {M:=λ_=>False,ro:=ro,stage:=8,rk:=r,d:=0,val:=.tuple #[]} k).ro c->L c:=by
  intro k c f;by_cases e:k=J+1;·subst e;rw[dK]at f;exact a6 c f
  ·rw[e8 e]at f;exact I.bY k c f
 refine⟨by simp[W],ag,λk l kJ=> ?_,λk l kJ=> ?_,λk l kJ=> ?_,λk hk=> ?_,?_,I.wG.app λop j=>.inr (.inr (N op j).1),λop j=> ?_,λop j u=> ?_,λk c f=>I.hM k c (B k c f),λk H c p s=>I.mY k H c (B k c p) (B H c s),nR,I.hL,I.hO,I.gQ,I.wf⟩
 ·by_cases e:k=J+1
  ·subst e;refine⟨o,by rw[xk];simp[W],?_⟩;rw[dK];exact⟨hc,rfl⟩
  ·obtain⟨g,p,s⟩:=I.hw k l ag;refine⟨g,?_,by rw[e8 e];exact s⟩;rw[xk,if_neg (by simp[W];omega),nk ag];exact p
 ·by_cases e:k=J+1
  ·subst e;rw[dK];exact⟨λh=>ag,λ_ h=>absurd h (by show¬8<=7;omega)⟩
  ·rw[e8 e];exact I.hr k l ag
 ·by_cases e:k=J+1
  ·subst e;rw[dK];refine⟨?_,λ_ h=>absurd h (by show¬8<=6;omega)⟩;rw[Du R.2 U.2];exact Deaf_absent λi op hi e=>by have:=I.ct.gs i op hi;omega
  ·rw[e8 e];obtain⟨p,s⟩:=I.ht k l ag;refine⟨by rw[Du R.2 U.2];exact p,λh3 h4=> ?_⟩;obtain⟨r,hs⟩:=s h3 h4;exact⟨r,hs.other λop j=>.inr (N op j).1⟩
 ·rw[e8 ag];exact I.nx k ag
 ·have A:Apart (oK C.O) (oI C (di b (J+1) {M:=λ_=>False,ro:=ro,stage:=8,rk:=r,d:=0,val:=.tuple #[]})) (mT (di b (J+1) {M:=λ_=>False,ro:=ro,stage:=8,rk:=r,d:=0,val:=.tuple #[]})):=
   DM (L:=L) (λk c f=>(I.hM k c (B k c f)).2) (λk H c p s=>I.mY k H c (B k c p) (B H c s)) nR (λc f=>(I.hL c f).2) I.hO.2
  refine CT.fork A (J5 I.ct (λk l kj a1 v=> ?_) (λk l kj a1 v Z=> ?_) λk l kj a1=> ?_) R U a7;·unfold oI at v⊢;rw[e8 ag];exact v
  ·unfold oI at v Z;rw[e8 ag]at v;exact absurd v Z
  ·unfold mT;rw[e8 ag]
 ·rcases pE.1 j with h|h;·exact I.low op h
  ·exact(N op h).2.1 _
 ·rcases pE.1 j with h|h;·exact I.qo op h u
  ·exact(N op h).2.2 u
theorem eV.spawn{fr':aC}{cs':List aC}{ro:Nat->Prop}(p:C.dy)(U:J+1-C.m<2147483600)(h:∀w,Rl S L w0 w->C.Wf w->∃k,aZ C.P aq (aw fr cs) w=.spawn (aw fr' cs') k w #[]/\cW C.P {T:=C.T,E:=C.E,i:=J+1-C.m,part:=ro} (C.pr (J+1)) (λ_=>False) k w)(u:∀f,ro f->L f)(W:eV C Post (λf=>S f\/ro f) L (J+1) (en C (J+1) 0 (j+1)) 0 fr' cs' w0):eV C Post S L J (en C J 1 j) 0 fr cs w0:=by
 refine .um p (gD p U ag) λw a sl t b r o c=> ?_;obtain⟨st,sm,Z,m2,rfl,rfl,m5⟩:=c.mo;have R:0<a.size:=(cq.1 o).1;obtain⟨k,y,a1,B⟩:=h w r c.inv.wf;have s:=c.inv.sz;have a2:=c.inv.mJ;refine⟨_,_,runT_crowd_spawn (P:=C.P) (sl:=sl) (i:=0) o (show aZ C.P (0==0) _ _=_ from y),?_⟩;have v:((l7 0 (aw fr cs).frame.fn (aw fr cs).frame.place #[]).push {g:=0,fn:=(aw fr cs).frame.fn,pos:=(aw fr cs).frame.place,act:=.go a.size}|>.push {g:=a.size,fn:=k.frame.fn,pos:=(aw fr cs).frame.place,act:=.start})= (#[({g:=0,fn:=(aw fr cs).frame.fn,pos:=(aw fr cs).frame.place,act:=.go a.size}:tB),{g:=a.size,fn:=k.frame.fn,pos:=(aw fr cs).frame.place,act:=.start}]:Array tB):=rfl;rw[v];have H:=V6 c.inv (g':=aw fr' cs') (x:={g:=0,fn:=(aw fr cs).frame.fn,pos:=(aw fr cs).frame.place,act:=.go a.size}) (y:={g:=a.size,fn:=k.frame.fn,pos:=(aw fr cs).frame.place,act:=.start}) ⟨rfl,by rw[s]⟩ ⟨s,rfl⟩ c.deaf u B;have N:Vg C.m (J+1) (di b (J+1) {M:=λ_=>False,ro:=ro,stage:=8,rk:=a1,d:=0,val:=.tuple #[]})=Vg C.m J b+1:=by
  rw[PL ag,dK,Im (.inr ag)];rfl
 refine W w _ sl _ _ (r.mono λ_=>.inl) ?_ ⟨H,⟨_,_,Z,λx x1 xJ=> ?_,?_,rfl,ag⟩,?_,λx f l=> ?_⟩
 ·rw[xk,if_neg (by simp;omega)];simp[R]
 ·by_cases e:x=J+1;·subst e;rw[dK];exact .inr (by show 5<=8;omega)
  ·rw[e8 e];exact m2 x x1 ag
 ·rw[N]
 ·rw[Du rfl rfl];exact c.deaf
 ·by_cases e:x=J+1;·subst e;rw[dK]at l;exact .inr l
  ·rw[e8 e]at l;exact .inl (c.ro x f l)
end
section
variable {P:aV} {Post:au->ak->Prop} {O:Nat->Prop} {fr:aC} {cs:List aC} {w:ak}
theorem ig.begin{ty:aK}{T E n:Nat}{Res:Nat->Nat->au->(Nat->Prop)->ak->Prop}{L:Nat->Prop}(hT:∃c,w.heap[T]?=ae (.cells c aD3)/\c.size=n)(hE:∃c e f,w.heap[E]?=ae (.cells c e f)/\c.size=n/\f=(0,0))(ac:T≠E)(a2:¬O T/\¬O E)(hO:∀b,O b->b<w.heap.size)(hL:∀b,L b->b<w.heap.size/\b≠T/\b≠E/\¬O b)(ab:∀y d,∃R H w',aZ P aq (aw fr cs) (Sim.re w y d)=.go (aw R H) w' #[]/\w'.heap.size=w.heap.size+1/\gO ty w.heap.size w' 0 0/\(∀b,b<w.heap.size->w'.heap[b]?=w.heap[b]?)/\∀m,1<=m->eV {P:=P,ty:=ty,Wg:=w.heap.size,T:=T,E:=E,n:=n,m:=m,O:=λb=>O b\/b=w.heap.size,Res:=Res m} Post (λ_=>False) L (m-1) (en {P:=P,ty:=ty,Wg:=w.heap.size,T:=T,E:=E,n:=n,m:=m,O:=λb=>O b\/b=w.heap.size,Res:=Res m} (m-1) 0 0) 0 R H w'):ig P Post O fr cs w:=by
 intro y d a sl t q p U hP;generalize an:nJ a.size q=μ;induction μ using rN generalizing d a sl t q with
 |_ μ ih=>
  refine Fin.pick (DO U p rfl) ⟨0,_,p,rfl⟩ λi g N v W r=>.inl ?_;rw[AD];rcases pD i with rfl|am
  ·obtain rfl:g=aw fr cs:=by rw[p]at W;exact(er W).symm
   obtain⟨R,H,w',h1,h2,h3,h4,h5⟩:=ab y N;obtain⟨j,a1,r1,s,u,l,r5⟩:=GM (sl:=v) U hP (aL _) p h1 (λe he=>by simp at he);refine⟨_,_,r1,?_⟩;generalize t++a1=t1 at u l⊢;have a6:1<=j.size:=by have:=(cq.1 s).1;omega
   obtain⟨c,c1,c2⟩:=hT;obtain⟨e,ee,ef,e1,e2⟩:=hE;have ar:=(cq.1 c1).1;have aa:=(cq.1 e1).1;refine h5 j.size a6 w' j v t1 (λx=>{M:=λ_=>False,ro:=λ_=>False,stage:=0,rk:=Rk.nat (q x),d:=oq t1 x,val:=.tuple #[]}) (.refl _ _ _) s ⟨⟨ag,⟨a6,by show j.size<=j.size-1+1;omega⟩,λx o xJ=> ?_,λx o xJ=> ?_,λx o xJ=> ?_,λx _=>⟨λ_=>id,λ_=>id⟩,?_,⟨λi B g ha hm r ad=> ?_,λi g r ai ad hc=>l.qt.over i g r ai hc⟩,λop al=>Ol ag (l.qt.seen op al),l.qo,λx b k=>k.elim,λx av b k=>k.elim,λx b k=>k.elim,λb k=> ?_,⟨.inr rfl,λh=>h.elim a2.1 λh=>absurd h (by show T≠w.heap.size;omega),λh=>h.elim a2.2 λh=>absurd h (by show E≠w.heap.size;omega)⟩,λb k=>k.elim (λk=>by have:=hO b k;omega) (λk=>by rw[k];omega),⟨⟨c,(h4 T ar).trans c1,c2⟩,⟨e,ee,ef,(h4 E aa).trans e1,e2⟩,⟨ac,by show T≠w.heap.size;omega,by show E≠w.heap.size;omega⟩,⟨_,_,h3⟩⟩⟩,⟨_,_,h3,λx o xJ=> ?_,?_,rfl,?_⟩,l.qt.hears,λx b k=>k.elim⟩
   ·have a7:x<j.size:=ag;exact⟨j[x],jV a7,q x,rfl,u.old x _ o (jV a7)⟩
   ·exact⟨λ_=>⟨rfl,λ_=>id,λ_=>id⟩,λhx=>absurd hx (by show¬j.size<=x;omega)⟩
   ·exact⟨rfl,λhx=>absurd hx (by show¬j.size<=x;omega)⟩
   ·refine QX l ag (aL _) (λa8 k1 kj ao Z=> ?_) (λa8 k1 kj ao Z=> ?_)
    ·rcases Z with⟨B,_,h|⟨h,_⟩⟩|⟨ap,_,h⟩;·exact h
     ·exact absurd h (by show¬j.size<=a8;omega)
     ·exact h
    ·rcases Z with⟨B,_,h⟩|⟨ap,_,h⟩<;>exact h
   ·exact(l.qt.known i B ha hm).imp id λ⟨⟨x,o,x2⟩,x3⟩=>⟨⟨x,o,.inl x2⟩,x3⟩
   ·obtain⟨l1,l2,l3,l4⟩:=hL b k;exact⟨ag,l2,l3,λh=>h.elim l4 λh=>ag⟩
   ·exact absurd o (by show¬j.size<=x;omega)
   ·simp[Vg,show j.size-1+1-j.size=0 by omega,nJ]
   ·simp[Vg,show j.size-1+1-j.size=0 by omega,nJ]
  ·obtain⟨j,a1,q',r1,s,u,l,r5,r6⟩:=EI (w:=Sim.re w y N) (sl:=v) U hP am W r p rfl;exact⟨_,_,r1,ih _ (by rw[<-an];exact r5) N j v (t++a1) q' s u l rfl⟩
end
end
abbrev link:Go.Conc.Lib.WgLink:={add:=93,done:=96,wait:=91,relMerge:=107,disable:=97,enable:=99,inBubble:=105,associate:=108,fatal:=109,uOr:=110,uAdd:=111,raceRead:=112,uLoad:=98,uStore:=113,disassociate:=103,semrelease:=114,acquire:=100,isAssociated:=101,uCas:=102,raceWrite:=104,semacquire:=106,orU64:=117,addU64:=118,loadU64:=115,storeU64:=119,casU64:=116,tWgP:=140,tUP:=60,tAssoc:=149,tWg:=135,tAU:=132,tU64:=130,tUint:=138,tU32:=133,tPU32:=147,tPAU:=155,tPU64:=157,tNoCopy:=128,tANoCopy:=59,tAlign64:=129}
theorem jg:Go.Conc.Lib.WgLib aj link:=⟨Tryz.func93,Tryz.func96,Tryz.func91,Tryz.func107,Tryz.func97,Tryz.func99,Tryz.func105,Tryz.func108,Tryz.func109,Tryz.func110,Tryz.func111,Tryz.func112,Tryz.func98,Tryz.func113,Tryz.func103,Tryz.func114,Tryz.func100,Tryz.func101,Tryz.func102,Tryz.func104,Tryz.func106,Tryz.func117,Tryz.func118,Tryz.func115,Tryz.func119,Tryz.func116,Tryz.underlying140,Tryz.runUnderlying140,Tryz.sizeOf140,OI,Tryz.zeroValue140,CF,Tryz.runUnderlying60,Tryz.sizeOf60,Tryz.isAgg60,Tryz.zeroValue60,Tryz.underlying149,Tryz.runUnderlying149,Tryz.sizeOf149,Tryz.isAgg149,Tryz.zeroValue149,Tryz.underlying135,Tryz.runUnderlying135,Tryz.sizeOf135,Tryz.isAgg135,Tryz.zeroValue135,Tryz.underlying132,Tryz.runUnderlying132,Tryz.sizeOf132,Tryz.isAgg132,Tryz.zeroValue132,Tryz.underlying130,Tryz.runUnderlying130,Tryz.sizeOf130,Tryz.isAgg130,Tryz.zeroValue130,Tryz.underlying138,Tryz.runUnderlying138,Tryz.sizeOf138,Tryz.isAgg138,Tryz.zeroValue138,Tryz.underlying133,Tryz.runUnderlying133,Tryz.sizeOf133,Tryz.isAgg133,Tryz.zeroValue133,Tryz.underlying147,Tryz.runUnderlying147,Tryz.sizeOf147,Tryz.isAgg147,Tryz.zeroValue147,Tryz.underlying155,Tryz.runUnderlying155,Tryz.sizeOf155,Tryz.isAgg155,Tryz.zeroValue155,Tryz.underlying157,Tryz.runUnderlying157,Tryz.sizeOf157,Tryz.isAgg157,Tryz.zeroValue157,aA8,Tryz.runUnderlying0,aE2,aH7,aC1,Oj,Tryz.runUnderlying3,ON,ib,aC0,aA7,Tryz.runUnderlying4,aE1,aH6,aB9,Oi,Tryz.runUnderlying9,aE0,lL,aB8,Tryz.underlying20,Tryz.runUnderlying20,Tryz.sizeOf20,Tryz.isAgg20,Tryz.zeroValue20,Tryz.underlying21,Tryz.runUnderlying21,Tryz.sizeOf21,Tryz.isAgg21,Tryz.zeroValue21,ah,ah⟩
instance:Payload:=⟨56⟩
noncomputable def nxt(P:aV)(main:Bool)(g:aX):Goroutine:=match aZ P main g fM with| .go a _ _=>a|_=>g
noncomputable def nxtN(P:aV)(main:Bool):Nat->aX->aX
 |0,g=>g
 |n+1,g=>nxtN P main n (nxt P main g)
def Idle(P:aV)(main:Bool):Nat->aX->Prop
 |0,_=>True
 |n+1,g=>g.status=.running/\(∀w,aZ P main g w=.go (nxt P main g) w #[])/\Idle P main n (nxt P main g)
section
variable [qK] {C:FC} {S L:Nat->Prop} {J:Nat} {b:Nat->Gh} {a:Array aX} {w w':ak} {t:gN} {p j d0:Nat} {h:(Nat->Gh)->Int->Int->Prop}
 {Post:au->ak->Prop} {fr:aC} {cs:List aC} {w0:ak} {g:aX}
def bO(C:FC)(Post:au->ak->Prop)(S L:Nat->Prop)(J:Nat)(h:(Nat->Gh)->Int->Int->Prop)(d0:Nat)(g:aX)(w0:ak):Prop:=
 ∀w a c t b,Rl S L w0 w->a[0]?=ae g->kK C S L J h d0 b a w t->Fin C.P Post (kI a w c) t
theorem bO.zr(a:bO C Post S L J h d0 (aw fr cs) w0):eV C Post S L J h d0 fr cs w0:=a
theorem bO.um(H:C.dy)(W:Kp C J h)(j:g.status=.running)(B:∀w a l t b,Rl S L w0 w->a[0]?=ae g->kK C S L J h d0 b a w t->∃s u,vv C.P (kI a w l) 0=(.next s,u)/\Fin C.P Post s (t++u)):bO C Post S L J h d0 g w0:=by
 intro w a l t b;induction pQ.acc J b generalizing w a l t with
 |intro b _ ih=>
  intro a6 c k;refine Fin.pick (k.awake c (Ad (.inl j))) ⟨0,_,c,j⟩ λi gi d o f N=>.inl ?_;have r:=k.at H d;have p:=a6.trans (Rl.at S L w d);rcases pD i with rfl|Z;·exact B (w.at d) a o t b p c r
  ·have U:i<=J:=by
    have:=(cq.1 f).1;have:=k.inv.sz;omega
   obtain⟨g',w',es,y,v,x,a3,a4,_⟩:=G9 W r Z U f N;have R:(i==0)=false:=by simp;omega
   refine⟨_,_,oh (P:=C.P) (sl:=o) (i:=i) f (by rw[R];exact v),?_⟩;refine ih y a3 w' _ o _ (p.trans a4) ?_ x;rw[nk ag,qB,c];simp[I4 j]
theorem bO.step(o:C.dy)(H:Kp C J h)(U:g.status=.running)(s:∀w,Rl S L w0 w->C.Wf w->(∀c,L c->c<w.heap.size/\¬C.O c)->∃k w' j,aZ C.P aq g w=.go k w' j/\Zs C.Wg S L w w'/\w'.heap[C.Wg]?=w.heap[C.Wg]?/\(∀e∈j,xX C.Wg S (grow L w w') e)/\bO C Post S (grow L w w') J h (jl d0 j) k w'):bO C Post S L J h d0 g w0:=by
 refine .um o H U λw a r t b R l f=> ?_;obtain⟨k,w',j,u,v,x,y,B⟩:=s w R f.inv.wf λc p=>⟨(f.inv.hL c p).1,(f.inv.hL c p).2.2.2⟩;obtain⟨st,sm,W,Z⟩:=f.mo;have N:0<a.size:=(cq.1 l).1;refine⟨_,_,oh (P:=C.P) (sl:=r) (i:=0) l (show aZ C.P (0==0) _ _=_ from u),?_⟩;exact B w' _ r _ b (.refl _ _ _) (by simp[N]) (sI o f l v y (W.of_block x) Z)
theorem bO.base(c:bO C Post S L J h d0 g w0)(l:Rl S L w0 w):bO C Post S L J h d0 g w:=λp a o t b f j k=>c p a o t b (l.trans f) j k
theorem bO.look(p:C.dy)(s:Kp C J h)(u:g.status=.running)(c:∀w,Rl S L w0 w->C.Wf w->∃a,aZ C.P aq g w=.go o w a/\(∀e∈a,xX C.Wg S L e)/\jl d0 a=k)(t:bO C Post S L J h k o w0):bO C Post S L J h d0 g w0:=
 .step p s u λw b r _=>by
  obtain⟨a,f,j,l⟩:=c w b r;exact⟨o,w,a,f,.refl ..,rfl,by rw[<-oT L w];exact j,by rw[<-oT L w,l];exact t.base b⟩
theorem bO.idle(j:C.dy)(o:Kp C J h)(r:g.status=.running)(b:∀w,C.Wf w->∃a,aZ C.P aq g w=.go a w #[]/\bO C Post S L J h d0 a w0):bO C Post S L J h d0 g w0:=
 .step j o r λw p l _=>by
  obtain⟨a,c,f⟩:=b w l;exact⟨a,w, #[],c,.refl ..,rfl,λe k=>by simp at k,by rw[<-oT L w];exact f.base p⟩
theorem bO.sH{e:bX}{d1:Nat}(c:C.dy)(k:Kp C J h)(o:g.status=.running)(b:∀w,aZ C.P aq g w=.go (nxt C.P aq g) w #[e])(j:xX C.Wg S L e)(f:jl d0 #[e]=d1)(l:bO C Post S L J h d1 (nxt C.P aq g) w0):bO C Post S L J h d0 g w0:=
 .look c k o (λw _ _=>⟨_,b w,λp a=>by simp at a;subst a;exact j,f⟩) l
theorem bO.uO(a:g=aw g.frame g.callers)(b:eV C Post S L J h d0 g.frame g.callers w0):bO C Post S L J h d0 g w0:=by rw[a];exact b
def dL(g:aX)(i:Nat)(v:au):Goroutine:={g with frame:={g.frame with tmps:=g.frame.tmps.setIfInBounds i v}}
theorem bO.val{i:Nat}{v v':au}(a:g=dL g i v)(c:v=v')(b:bO C Post S L J h d0 (dL g i v') w0):bO C Post S L J h d0 g w0:=by rw[a,c];exact b
theorem bO.cL(c:C.dy)(f:Kp C J h):∀{n:Nat} {g:aX},Idle C.P aq n g->bO C Post S L J h d0 (nxtN C.P aq n g) w0->bO C Post S L J h d0 g w0
 |0,_,_,a=>a
 |n+1,g,b,a=>.idle c f b.1 λw _=>⟨_,b.2.1 w,bO.cL c f b.2.2 a⟩
end
section
variable {P:aV} {z:WZ} {Q:(Nat->Prop)->aX->ak->Prop} {M:Nat->Prop} {g:aX} {w:ak}
theorem cW.cL:∀{n:Nat} {g:aX},Idle P ax n g->cW P z Q M (nxtN P ax n g) w->cW P z Q M g w
 |0,_,_,h=>h
 |n+1,g,a,h=>.ctl a.1 a.2.1 (cW.cL a.2.2 h)
theorem cW.K(n:Nat){g:aX}(b:cW P z Q M (nxtN P ax n g) w)(a:Idle P ax n g:=by((repeat (refine⟨by kernel_rfl,λ_=>by kernel_rfl,?_⟩));exact True.intro)):cW P z Q M g w:=.cL a b
theorem M4:∀{n q d:Nat} {g:aX},Idle P ax n g->vo P q d (nxtN P ax n g)->vo P (q+n) d g
 |0,_,_,_,_,h=>h
 |n+1,q,d,g,a,h=>.inr ⟨a.1,nxt P ax g, #[],λe b=>by simp at b,a.2.1,M4 a.2.2 h⟩
end
attribute [irreducible] nxt nxtN
def lB(g:aX):Array Oper:=match g.frame.todo with| .inRegion a _::_=>a|_=> #[]
def oG(g:aX):Oper:=match g.frame.todo with| .inRegion a (i::_)::_=>(a[i]?).getD fM|_=>fM
def rF(g:aX):List Nat:=match g.frame.todo with| .inRegion _ (_::r)::_=>r|_=>[]
def kG(g:aX):List Item:=match g.frame.todo with|_::k=>k|_=>[]
abbrev aG(g:aX):Act:=⟨g.frame.tmps,g.frame.defers⟩
def oN(g:aX)(i:Nat):Goroutine:=G (g.frame.at (aG g) (.inRegion (lB g) (i::rF g)::kG g)) g.callers
def bz(g:aX)(v:au):Goroutine:=G (g.frame.at ((aG g).put (oG g).dst v) (.inRegion (lB g) (rF g)::kG g)) g.callers
section
variable {f:bW} {fn:pO} {w:ak} {g:aX} {i:Nat} {ats:Array aK} {main:Bool} {P:aV}
structure nN(P:aV)(g:aX)(i:Nat)(f:bW)(aa:Array bC)(ats:Array aK)(fn:pO):Prop where
 eq:g=oN g i
 op:(lB g)[i]?=ae (oG g)
 wanted:iJ (oG g) (fN (lB g) g.frame.tmps)=aq
 kind:(g.frame.kind==.early)=ax
 call:(oG g).op=.call {callee:=.value (.func f),args:=aa,argTypes:=ats}
 func:P.funcs[f]?=ae fn
 name:(fn.name== "runtime.NumGoroutine")=ax
 body:fn.body.isNone=aq
 next:(zQ fn).isNone=aq
theorem nN.ne(h:nN P g i f v ats fn):g.frame.kind≠ .early:=by have:=h.kind;simpa using this
theorem nN.nx(h:nN P g i f v ats fn):zQ fn=none:=by simpa using h.next
theorem am5(h:nN P g i f #[l,s] ats fn)(k:mK)(b:uZ fn=ae (aL7 (Pf .add) k aq)){ad:aH}{v d:Int}(c:(aG g).eval l=.pointer (ae ad))(j:(aG g).eval s=.int k d)(a:w.cell? ad=ae (.int k v))(o:w.frozen? ad=ax):aZ P main g w=.go (bz g (.int k (k.wrap (v+d)))) (w.setCell ad (.int k (k.wrap (v+d)))) #[⟨.cell ad,ax,aq⟩,⟨.cell ad,aq,aq⟩]:=by
 rw[show aZ P main g w=aZ P main (oN g i) w by rw[<-h.eq]];exact stepG_add_atomic h.op h.wanted h.ne h.call h.func h.name h.body h.nx k b c j a o
theorem an2(h:nN P g i f #[l] ats fn)(k:mK)(b:uZ fn=ae (zH (.int k))){ad:aH}{v:Int}(c:(aG g).eval l=.pointer (ae ad))(a:w.cell? ad=ae (.int k v)):aZ P main g w=.go (bz g (.int k v)) w #[⟨.cell ad,ax,aq⟩]:=by
 rw[show aZ P main g w=aZ P main (oN g i) w by rw[<-h.eq]];exact stepG_load_atomic h.op h.wanted h.ne h.call h.func h.name h.body h.nx k b c a
theorem an1{z:bC}(h:nN P g i f #[l,s,z] ats fn)(k:mK)(b:uZ fn=ae (sR (.int k))){ad:aH}{v n:Int}(c:(aG g).eval l=.pointer (ae ad))(j:(aG g).eval s=.int k v)(p:(aG g).eval z=.int k n)(a:w.cell? ad=ae (.int k v))(o:w.frozen? ad=ax):aZ P main g w=.go (bz g (.bool aq)) (w.setCell ad (.int k n)) #[⟨.cell ad,ax,aq⟩,⟨.cell ad,aq,aq⟩]:=by
 rw[show aZ P main g w=aZ P main (oN g i) w by rw[<-h.eq]];exact stepG_cas_hit h.op h.wanted h.ne h.call h.func h.name h.body h.nx k b c j p a o
theorem an3{z:bC}(h:nN P g i f #[l,s,z] ats fn)(k:mK)(b:uZ fn=ae (sR (.int k))){ad:aH}{v old n:Int}(j:(aG g).eval l=.pointer (ae ad))(o:(aG g).eval s=.int k old)(r:(aG g).eval z=.int k n)(a:w.cell? ad=ae (.int k v))(p:w.frozen? ad=ax)(c:¬v=old):aZ P main g w=.go (bz g (.bool ax)) w #[⟨.cell ad,ax,aq⟩]:=by
 rw[show aZ P main g w=aZ P main (oN g i) w by rw[<-h.eq]];exact stepG_cas_miss h.op h.wanted h.ne h.call h.func h.name h.body h.nx k b j o r a p c
end
section
variable {C:FC} {S K:Nat->Prop} {J j d0:Nat} {h:(Nat->Gh)->Int->Int->Prop} {Post:au->ak->Prop} {w0:ak} {c:aC} {cs:List aC}
theorem yq(g:aX)(v:au):aw (bz g v).frame (bz g v).callers=bz g v:=rfl
theorem bO.put{g:aX}(a:bO C Post S K J h d0 (bz g r) w0):eV C Post S K J h d0 (bz g r).frame (bz g r).callers w0:=a
abbrev jR(Wg:Nat):Value:=.pointer (ae ⟨Wg,0,af⟩)
noncomputable abbrev qa(Wg:Nat)(c:aC)(cs:List aC):Goroutine:=aw (bG aj 111 #[jR Wg,.int .u64 4294967296] .normal) (c::cs)
theorem ap6(Wg:Nat):nN aj (nxtN aj aq 10 (qa Wg c cs)) 4 118 #[.tmp 7,.tmp 8] (match (oG (nxtN aj aq 10 (qa Wg c cs))).op with| .call c=>c.argTypes|_=> #[]) (addU64Fn link):=⟨ah,ah,ah,ah,ah,jg.f_addU64,x_addU64_n link,x_addU64_b link,ah⟩
theorem YJ(a:C.P=aj)(x:C.ty=135)(b:C.dy)(f:J+1-C.m<2147483600)(t:∀v:Nat,v<2147483600->bO C Post S K J (en C J 1 j) d0 (aw (c.finish (.int .u64 (((v:Int)+1)*KK))) cs) w0):bO C Post S K J (en C J 0 j) d0 (qa C.Wg c cs) w0:=by
 have p:=gD (C:=C) (J:=J) (p:=0) (vb:=j) b f ag;have r:=gD (C:=C) (J:=J) (p:=1) (vb:=j) b f ag;refine .cL b p (n:=10) (by rw[a];exact db) ?_;rw[a];refine .uO ah (eV.add b f λv u=> ?_);refine⟨(bz (nxtN aj aq 10 (qa C.Wg c cs)) (.int .u64 (((v:Int)+1)*KK))).frame,(bz (nxtN aj aq 10 (qa C.Wg c cs)) (.int .u64 (((v:Int)+1)*KK))).callers,λw _ h=> ?_,?_⟩
 ·have o:OM.wrap ((v:Int)*KK+4294967296)=((v:Int)+1)*KK:=by rw[ay4];simp only[KK];omega
  have k:aw (nxtN aj aq 10 (qa C.Wg c cs)).frame (nxtN aj aq 10 (qa C.Wg c cs)).callers=nxtN aj aq 10 (qa C.Wg c cs):=ah;rw[k,a];have:=am5 (main:=aq) (w:=w) (ap6 (c:=c) (cs:=cs) C.Wg) .u64 (x_addU64_f link) (ad:=dB C.Wg) (v:=(v:Int)*KK) (d:=4294967296) ah ah h.cellSt (h.thaw 0);rw[o]at this;rw[yq,this];rfl
 ·refine bO.put ?_;refine .cL b r (n:=4) (by rw[a];exact db) ?_;have:=t v u;generalize ((v:Int)+1)*KK=s at this⊢;have l:nxtN C.P aq 4 (bz (nxtN aj aq 10 (qa C.Wg c cs)) (.int .u64 s))=aw (c.finish (.int .u64 s)) cs:=by rw[a];kernel_rfl
  rw[l];exact this
noncomputable abbrev nX(Wg:Nat)(c:aC)(cs:List aC):Goroutine:=aw (bG aj 98 #[jR Wg] .normal) (c::cs)
theorem ap8(Wg:Nat):nN aj (nxtN aj aq 9 (nX Wg c cs)) 3 115 #[.tmp 5] (match (oG (nxtN aj aq 9 (nX Wg c cs))).op with| .call c=>c.argTypes|_=> #[]) (loadU64Fn link):=⟨ah,ah,ah,ah,ah,jg.f_loadU64,x_loadU64_n link,x_loadU64_b link,ah⟩
theorem Lp(a:C.P=aj)(b:C.dy)(f:J+1-C.m<2147483600)(l:∀v:Nat,v<=j->v<2147483600->bO C Post S K J (en C J 0 v) d0 (aw (c.finish (.int .u64 ((v:Int)*KK))) cs) w0):bO C Post S K J (en C J 0 j) d0 (nX C.Wg c cs) w0:=by
 refine .cL b (gD b f ag) (n:=9) (by rw[a];exact db) ?_;rw[a];refine .uO ah (eV.load b f λv p o=> ?_);refine⟨(bz (nxtN aj aq 9 (nX C.Wg c cs)) (.int .u64 ((v:Int)*KK))).frame,(bz (nxtN aj aq 9 (nX C.Wg c cs)) (.int .u64 ((v:Int)*KK))).callers,λw _ r=> ?_,?_⟩
 ·have h:aw (nxtN aj aq 9 (nX C.Wg c cs)).frame (nxtN aj aq 9 (nX C.Wg c cs)).callers=nxtN aj aq 9 (nX C.Wg c cs):=ah;rw[h,a,yq,an2 (main:=aq) (w:=w) (ap8 (c:=c) (cs:=cs) C.Wg) .u64 (x_loadU64_f link) (ad:=dB C.Wg) (v:=(v:Int)*KK) ah r.cellSt];rfl
 ·refine bO.put ?_;refine .cL b (gD b f ag) (n:=4) (by rw[a];exact db) ?_;have:=l v p o;generalize (v:Int)*KK=s at this⊢;have k:nxtN C.P aq 4 (bz (nxtN aj aq 9 (nX C.Wg c cs)) (.int .u64 s))=aw (c.finish (.int .u64 s)) cs:=by rw[a];kernel_rfl
  rw[k];exact this
noncomputable abbrev kQ(Wg:Nat)(s a:Int)(c:aC)(cs:List aC):Goroutine:=aw (bG aj 102 #[jR Wg,.int .u64 s,.int .u64 a] .normal) (c::cs)
theorem Ng(Wg:Nat)(s a:Int):nN aj (nxtN aj aq 11 (kQ Wg s a c cs)) 5 116 #[.tmp 9,.tmp 10,.tmp 11] (match (oG (nxtN aj aq 11 (kQ Wg s a c cs))).op with| .call c=>c.argTypes|_=> #[]) (casU64Fn link):=⟨ah,ah,ah,ah,ah,jg.f_casU64,x_casU64_n link,x_casU64_b link,ah⟩
theorem YK{vs:Nat}(a:C.P=aj)(b:C.dy)(h:J+1-C.m<2147483600)(t:1<=vs)(o:bO C Post S K J (oF C J) d0 (aw (c.finish (.bool aq)) cs) w0)(r:bO C Post S K J (en C J 0 (vs-1)) d0 (aw (c.finish (.bool ax)) cs) w0):bO C Post S K J (en C J 0 vs) d0 (kQ C.Wg ((vs:Int)*KK) ((vs:Int)*KK+1) c cs) w0:=by
 have p:=EG (C:=C) (J:=J) b h;refine .cL b (gD b h ag) (n:=11) (by rw[a];exact db) ?_;rw[a];refine .uO ah (eV.Qz (fr1:=(bz (nxtN aj aq 11 (kQ C.Wg ((vs:Int)*KK) ((vs:Int)*KK+1) c cs)) (.bool aq)).frame) (cs1:=(bz (nxtN aj aq 11 (kQ C.Wg ((vs:Int)*KK) ((vs:Int)*KK+1) c cs)) (.bool aq)).callers) (fr2:=(bz (nxtN aj aq 11 (kQ C.Wg ((vs:Int)*KK) ((vs:Int)*KK+1) c cs)) (.bool ax)).frame) (cs2:=(bz (nxtN aj aq 11 (kQ C.Wg ((vs:Int)*KK) ((vs:Int)*KK+1) c cs)) (.bool ax)).callers) b h t (λw _ f=> ?_) (bO.put ?_) (λw v _ u f=> ?_) (bO.put ?_))
 ·have j:aw (nxtN aj aq 11 (kQ C.Wg ((vs:Int)*KK) ((vs:Int)*KK+1) c cs)).frame (nxtN aj aq 11 (kQ C.Wg ((vs:Int)*KK) ((vs:Int)*KK+1) c cs)).callers=nxtN aj aq 11 (kQ C.Wg ((vs:Int)*KK) ((vs:Int)*KK+1) c cs):=ah;rw[j,a,yq,an1 (main:=aq) (w:=w) (Ng (c:=c) (cs:=cs) C.Wg _ _) .u64 (x_casU64_f link) (ad:=dB C.Wg) (v:=(vs:Int)*KK) (n:=(vs:Int)*KK+1) ah ah ah f.cellSt (f.thaw 0)];rfl
 ·refine .cL b p (n:=4) (by rw[a];exact db) ?_;generalize (vs:Int)*KK=s;generalize s+1=l;have k:nxtN C.P aq 4 (bz (nxtN aj aq 11 (kQ C.Wg s l c cs)) (.bool aq))=aw (c.finish (.bool aq)) cs:=by rw[a];kernel_rfl
  rw[k];exact o
 ·have j:aw (nxtN aj aq 11 (kQ C.Wg ((vs:Int)*KK) ((vs:Int)*KK+1) c cs)).frame (nxtN aj aq 11 (kQ C.Wg ((vs:Int)*KK) ((vs:Int)*KK+1) c cs)).callers=nxtN aj aq 11 (kQ C.Wg ((vs:Int)*KK) ((vs:Int)*KK+1) c cs):=ah;rw[j,a,yq,an3 (main:=aq) (w:=w) (Ng (c:=c) (cs:=cs) C.Wg _ _) .u64 (x_casU64_f link) (ad:=dB C.Wg) (v:=(v:Int)*KK) (old:=(vs:Int)*KK) (n:=(vs:Int)*KK+1) ah ah ah f.cellSt (f.thaw 0) (by simp only[KK];omega)];rfl
 ·refine .cL b (gD b h ag) (n:=4) (by rw[a];exact db) ?_;generalize (vs:Int)*KK=s;generalize s+1=l;have k:nxtN C.P aq 4 (bz (nxtN aj aq 11 (kQ C.Wg s l c cs)) (.bool ax))=aw (c.finish (.bool ax)) cs:=by rw[a];kernel_rfl
  rw[k];exact r
end
section
variable {P:aV} {g:aX} {i:Nat} {w w':ak} {main:Bool}
structure AtR(g:aX)(i:Nat):Prop where
 eq:g=oN g i
 op:(lB g)[i]?=ae (oG g)
 wanted:iJ (oG g) (fN (lB g) g.frame.tmps)=aq
 kind:(g.frame.kind==.early)=ax
theorem AtR.ne(h:AtR g i):g.frame.kind≠ .early:=by have:=h.kind;simpa using this
theorem zo(h:AtR g i)(a:(bp (aG g).eval (oG g)).run P w=.ok (.value r) w'):aZ P main g w=.go (bz g r) w' (ic P g.frame.fn (aG g) (oG g) w):=by
 rw[show aZ P main g w=aZ P main (oN g i) w by rw[<-h.eq]];exact stepG_value h.op h.wanted h.ne a
theorem N3(h:AtR g i)(a:(bp (aG g).eval (oG g)).run P w=.ok .skip w'):aZ P main g w=.go (bz g aN) w' (ic P g.frame.fn (aG g) (oG g) w):=by
 rw[show aZ P main g w=aZ P main (oN g i) w by rw[<-h.eq]];exact stepG_none h.op h.wanted h.ne a
theorem seen_none(P:aV)(fn:bW):jo P fn #[]= #[]:=by simp[jo]
theorem Tk{a:bC->au}{o:bR}{s d t:aK}(f:o.op=.convert s d l)(k:a l=.pointer (ae u))(h:P.underlying s=ae (.pointer t))(c:P.underlying d=ae .unsafePointer)(j:(P.info? t).map (λi=>aM (i.size=0))=ae ax)(b:w.cell? u=ae r):(bp a o).run P w=.ok (.value (.pointer (ae u))) w/\(bp a o).events P w #[]= #[]:=by
 have p:=run_convert_to_unsafe (w:=w) h c j b;have v:=events_convert_to_unsafe (w:=w) h c j b;exact⟨by simp[bp,f,k,go_sem,p],by simp[bp,f,k,go_sem,v]⟩
theorem zn{s d t:aK}{x:bC}(h:AtR g i)(j:(oG g).op=.convert s d x)(o:(aG g).eval x=.pointer (ae u))(k:P.underlying s=ae (.pointer t))(f:P.underlying d=ae .unsafePointer)(l:(P.info? t).map (λi=>aM (i.size=0))=ae ax)(c:w.cell? u=ae r):aZ P main g w=.go (bz g (.pointer (ae u))) w #[]:=by
 obtain⟨a,b⟩:=Tk (w:=w) j o k f l c;rw[zo h a];unfold ic;rw[b,seen_none]
end
noncomputable def dZ:List aC->aC
 |f::_=>f
 |[]=>bG aj 0 #[] .normal
def Cd:List aC->List aC
 |_::l=>l
 |[]=>[]
theorem WgLive.c0{ty:aK}{Wg:Nat}(h:vn ty Wg x):∃v,x.cell? ⟨Wg,0,af⟩=ae v:=let ⟨_,_,a⟩:=h;⟨_,a.cellSt⟩
theorem WgLive.c1{ty:aK}{Wg:Nat}(h:vn ty Wg x):∃v,x.cell? ⟨Wg,1,af⟩=ae v:=let ⟨_,_,a⟩:=h;⟨_,a.cellSm⟩
section
variable {C:FC} {S K:Nat->Prop} {J j d0:Nat} {h:(Nat->Gh)->Int->Int->Prop} {Post:au->ak->Prop} {w0:ak} {c:aC} {cs:List aC}
theorem bO.eqv{g g':aX}(a:g=g')(b:bO C Post S K J h d0 g' w0):bO C Post S K J h d0 g w0:=a▸b
noncomputable abbrev gA(Wg:Nat)(c:aC)(cs:List aC):Goroutine:=aw (bG aj 93 #[jR Wg,.int .i64 1] .normal) (c::cs)
noncomputable def AY(Wg:Nat)(c:aC)(cs:List aC):Goroutine:=nxtN aj aq 24 (nxt aj aq (nxtN aj aq 12 (gA Wg c cs)))
noncomputable def Eg(Wg:Nat)(c:aC)(cs:List aC)(s:Int):Goroutine:=aw ((dZ (AY Wg c cs).callers).finish (.int .u64 s)) (Cd (AY Wg c cs).callers)
noncomputable def Un(Wg:Nat)(c:aC)(cs:List aC):Goroutine:=nxtN aj aq 48 (Eg Wg c cs 4294967296)
theorem PS(Wg:Nat):AtR (Un Wg c cs) 3:=bI
theorem YF(a:C.P=aj)(o:C.ty=135)(b:C.dy)(f:Kp C J h)(k:bO C Post S K J h d0 (aw (c.finish (.tuple #[])) cs) w0):bO C Post S K J h (d0+1) (Eg C.Wg c cs 4294967296) w0:=by
 refine .cL b f (n:=48) (by rw[a];exact db) ?_;rw[a];refine .idle b f ah λw j=> ?_;obtain⟨v,l⟩:=WgLive.c1 j.wg;refine⟨_,by rw[a];exact zn (PS (c:=c) (cs:=cs) C.Wg) (s:=147) (d:=60) (t:=133) (x:=.tmp 70) ah ah jg.underlying_tPU32 jg.underlying_tUP jg.room_tU32 l,?_⟩;refine .sH (e:=mk (.read ⟨C.Wg,1,af⟩)) b f ah (λw=>by rw[a];kernel_rfl) (.inr (.inr (.inr (.inr ⟨_,rfl,.inl rfl⟩)))) (d1:=d0+1) rfl ?_;rw[a];refine .cL b f (n:=39) (by rw[a];exact db) ?_;rw[a];refine .sH (e:=mk .enable) b f ah (λw=>by rw[a];kernel_rfl) (.inr (.inr (.inr (.inl (.inr (.inl rfl)))))) (d1:=d0) rfl ?_;rw[a];refine .cL b f (n:=1) (by rw[a];exact db) ?_;exact .eqv (by rw[a];kernel_rfl) k
theorem YG(a:C.P=aj)(x:C.ty=135)(b:C.dy)(f:Kp C J h)(y:k<2147483600)(B:1<=k)(r:bO C Post S K J h d0 (aw (c.finish (.tuple #[])) cs) w0):bO C Post S K J h (d0+1) (Eg C.Wg c cs (((k:Int)+1)*KK)) w0:=by
 obtain⟨V,j⟩:∃V:Int,V=(k:Int)+1:=⟨_,rfl⟩;rw[<-j];have l:(V*KK).fdiv 4294967296=V:=by rw[show KK=4294967296 from rfl];rw[av9 _ ag];omega
 have o:tC .and .u64 (V*KK) 2147483648=0:=by rw[j];have:=st_flag (k+1) 0 ag ag;simpa[KK]using this
 have p:tC .and .u64 (V*KK) 2147483647=0:=by rw[j];have:=st_waiters (k+1) 0 ag ag;simpa[KK]using this
 have c1:Hl.wrap V=V:=by rw[ay5];omega
 have t:aM (V=1)=false:=decide_eq_false ag;have u:aM (V<0)=false:=decide_eq_false ag;have v:aM (V>0)=true:=decide_eq_true ag;generalize V*KK=s at l o p⊢;refine .cL b f (n:=7) (by rw[a];exact db) ?_;rw[a];refine .val (i:=45) (v:=.int .u64 (tC .and .u64 s 2147483648)) (v':=.int .u64 0) ah (by rw[o]) ?_;refine .cL b f (n:=12) (by rw[a];exact db) ?_;rw[a];refine .val (i:=53) (v:=.int .u64 (s.fdiv 4294967296)) (v':=.int .u64 V) ah (by rw[l]) ?_;refine .cL b f (n:=1) (by rw[a];exact db) ?_;rw[a];refine .val (i:=54) (v:=.int .i32 (Hl.wrap V)) (v':=.int .i32 V) ah (by rw[c1]) ?_;refine .cL b f (n:=6) (by rw[a];exact db) ?_;rw[a];refine .val (i:=56) (v:=.int .u64 (tC .and .u64 s 2147483647)) (v':=.int .u64 0) ah (by rw[p]) ?_;refine .cL b f (n:=15) (by rw[a];exact db) ?_;rw[a];refine .val (i:=66) (v:=.bool (aM (V=1))) (v':=.bool ax) ah (by rw[t]) ?_;refine .cL b f (n:=9) (by rw[a];exact db) ?_;rw[a];refine .val (i:=74) (v:=.bool (aM (V<0))) (v':=.bool ax) ah (by rw[u]) ?_;refine .cL b f (n:=26) (by rw[a];exact db) ?_;rw[a];refine .val (i:=90) (v:=.bool (aM (V>0))) (v':=.bool aq) ah (by rw[v]) ?_;refine .cL b f (n:=7) (by rw[a];exact db) ?_;rw[a];refine .sH (e:=mk .enable) b f ah (λw=>by rw[a];kernel_rfl) (.inr (.inr (.inr (.inl (.inr (.inl rfl)))))) (d1:=d0) rfl ?_;rw[a];refine .cL b f (n:=1) (by rw[a];exact db) ?_;exact .eqv (by rw[a];kernel_rfl) r
theorem YE(a:C.P=aj)(k:C.ty=135)(b:C.dy)(h:J+1-C.m<2147483600)(o:bO C Post S K J (en C J 1 j) d0 (aw (c.finish (.tuple #[])) cs) w0):bO C Post S K J (en C J 0 j) d0 (gA C.Wg c cs) w0:=by
 have f:=gD (C:=C) (J:=J) (p:=0) (vb:=j) b h ag;have l:=gD (C:=C) (J:=J) (p:=1) (vb:=j) b h ag;refine .cL b f (n:=12) (by rw[a];exact db) ?_;rw[a];refine .sH (e:=mk .disable) b f ah (λw=>by rw[a];kernel_rfl) (.inr (.inr (.inr (.inl (.inl rfl))))) (d1:=d0+1) rfl ?_;rw[a];refine .cL b f (n:=24) (by rw[a];exact db) ?_;rw[a];refine .eqv (g':=qa C.Wg (dZ (AY C.Wg c cs).callers) (Cd (AY C.Wg c cs).callers)) ah (YJ a k b h λv r=> ?_);rcases pD v with rfl|p
 ·have e:(((0:Nat):Int)+1)*KK=4294967296:=bc;rw[e];exact YF a k b l o
 ·exact YG a k b l r p o
end
