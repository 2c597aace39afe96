/- Own texts: SimX, FxB, FxC. -/
import Derived.Test.YtcgjppacnhmjlaaGreatMG
import Derived.Test.YtcgjppacnhmjlaaGreatMU
import Derived.Laws.AppendOwn
set_option linter.all false
open Array renaming all_eq_true_iff_forall_mem->jh,getElem?_setIfInBounds_ne->nk,mem_of_getElem?->lH,getD_eq_getD_getElem?->sM,mem_append->pE,ext_getElem?->rK,getElem?_setIfInBounds->GN,empty_append->O0,mem_map->OE,toList_append->ax8
open Bool renaming true->aq,false->ax,false_eq_true->dx,and_eq_true->dj,or_eq_false_iff->NP
open Go renaming World->ak,Value->au,Frame->aC,Goroutine->aX,TypeId->aK,heap_alloc_new->cY,Program->aV,Addr->aH,undef->aN,Operand->bC,execOp->bp,maxLen->cE,Event->bX,Oper->bR,yielded->fN,results->ga,Deferred->jH,Sem->bA,Code->du,heap_alloc_old->xu,Item->dP,resolve->mI,stuck->iO,TypeInfo->qI,invoke->pL,exitTo->qL,Act->gx,builtin->Af,choose->xT,Next->vu,grownCap->I6,Exit->s8
open Go.Builtin renaming zeroCells->xq,append_->H6
open Go.Conc renaming listed->ic
open Go.Frame renaming finish->qH,eval->xI
open Go.Proofs.Tryz renaming prog->aj
open Go.Question renaming forced->zN
open Go.Region renaming wanted->iJ
open Go.Result renaming andThen_ok->GX,ok->Pc
open Go.Sem renaming bind->dp,runT_fst->fE,runT->eL,run_pure->Hm,run_bind->Hn
open Go.Value renaming ownBlock->fX
open List renaming mem_cons->dk,mem_append->dU,length_append->gJ,mem_cons_of_mem->jD,nil_append->nB,cons_append->pF,append_assoc->sU,length_take->sW,map_cons->qG,mem_of_mem_take->zJ,mem_toArray->zL,size_toArray->CE,map_toArray->CM,map_nil->zZ,contains_cons->O6,take_left->aC4
open Nat renaming le_refl->aL,le_trans->bT,zero_add->ia,eq_zero_or_pos->pD,mod_lt->xK,mul_le_mul_right->ay0,add_mul->P7
open Ne renaming symm->jm
open Option renaming some->ae,none->af,map_some->hZ,bind_some->qD
open Pure renaming pure->bN
namespace Go.Proofs.YtcgjppacnhmjlaaGreat
open Go Go.Conc Go.ConcN Go.Conc.Lib Go.ConcR.Gen Go.RowKit
open Go.ConcR (KK wgBlock WgAt stA smA rd wr mk Payload DC0)
namespace Sim
variable {h o:bC->au} {l:bC} {c:aC} {f:List aC} {b p:ak} {t:au->ak->Prop} {a:List Nat} {r:au->Prop} {u x:Nat} {v:aK} {s:au} {y:List au}
def By(M:List Nat):bC->Bool
 | .tmp t=> ! M.contains t
 |_=>aq
def lx(q:bC->Bool):Op->Bool
 | .move x| .assign x| .load _ x| .fieldAddr _ x _| .extract x _| .unOp _ _ x=>q x
 | .pick c a b=>q c&&(q a&&q b)
 | .binOp _ _ x y _=>q x&&q y
 | .alloc _=>aq
 | .build _ ps| .buildSlice _ _ ps=>ps.all λp=>q p.2
 | .store _ a x| .indexAddr _ a x=>q a&&q x
 | .slice _ x l h m=>q x&&(l.all q&&(h.all q&&m.all q))
 | .call c=>(match c.callee with| .value f=>q f| .builtin _=>aq|_=>ax)&&c.args.all q
 |_=>ax
def Yy(M:List Nat)(o:Op):Bool:=lx (By M) o
def wv(M:List Nat)(o:bR):Bool:=Yy M o.op&&(match o.dst with|some d=> ! M.contains d|none=>aq)
def qm(M:List Nat):du->Bool
 | .skip| .exit _=>aq
 | .region _ f _=>f.all (wv M)
 | .seq a b=>qm M a&&qm M b
 | .cond c a b=>By M c&&qm M a&&qm M b
 | .block _ b| .loop b=>qm M b
 |_=>ax
def uj(M:List Nat):dP->Bool
 | .code c=>qm M c
 | .inBlock _=>aq
 | .inLoop b=>qm M b
 | .inRegion a _=>a.all (wv M)
 |_=>ax
theorem EZ{a c:Type}{ps:Array a}{f g:a->c}{p:a->Bool}(h:ps.all p=aq)(e:∀x,p x=aq->f x=g x):ps.map f=ps.map g:=by
 apply Array.map_congr_left;intro x b;exact e x ((jh.1 h) x b)
theorem Fw{q:bC->Bool}{l:Option bC}(b:l.all q=aq)(a:∀x,q x=aq->h x=o x):l.map h=l.map o:=by
 cases l with
 |none=>rfl
 |some x=>simp only[hZ];rw[a x (by simpa using b)]
theorem execOp_congr{q:bC->Bool}(k:∀x,q x=aq->h x=o x){v:bR}(j:lx q v.op=aq):bp h v=bp o v:=by
 unfold bp;cases r:v.op with
 |move x=>rw[r]at j;dsimp only;rw[k x j]
 |assign x=>rw[r]at j;dsimp only;rw[k x j]
 |load t x=>rw[r]at j;dsimp only;rw[k x j]
 |fieldAddr t x f=>rw[r]at j;dsimp only;rw[k x j]
 |extract x f=>rw[r]at j;dsimp only;rw[k x j]
 |unOp u t x=>rw[r]at j;dsimp only;rw[k x j]
 |pick c a b=>rw[r]at j;simp only[lx,dj]at j;dsimp only;rw[k c j.1,k a j.2.1,k b j.2.2]
 |binOp op t x y R=>rw[r]at j;simp only[lx,dj]at j;dsimp only;rw[k x j.1,k y j.2]
 |alloc t=>rfl
 |build t ps=>
  rw[r]at j;dsimp only;rw[EZ (f:=λx:Nat×bC=>(x.1,h x.2)) (g:=λx:Nat×bC=>(x.1,o x.2)) (p:=λp:Nat×bC=>q p.2) j λx B=>by rw[k x.2 B]]
 |buildSlice t n ps=>
  rw[r]at j;dsimp only;rw[EZ (f:=λx:Nat×bC=>(x.1,h x.2)) (g:=λx:Nat×bC=>(x.1,o x.2)) (p:=λp:Nat×bC=>q p.2) j λx B=>by rw[k x.2 B]]
 |store t a x=>rw[r]at j;simp only[lx,dj]at j;dsimp only;rw[k a j.1,k x j.2]
 |indexAddr t a x=>rw[r]at j;simp only[lx,dj]at j;dsimp only;rw[k a j.1,k x j.2]
 |slice t x l N m=>
  rw[r]at j;simp only[lx,dj]at j;dsimp only;rw[k x j.1,Fw j.2.1 k,Fw j.2.2.1 k,Fw j.2.2.2 k]
 |call c=>
  rw[r]at j;simp only[lx,dj]at j;dsimp only;have:mI h c v.type=mI o c v.type:=by
   unfold mI;rw[EZ (p:=q) j.2 k];cases H:c.callee with
   |value f=>have w:=j.1;rw[H]at w;dsimp only;rw[k f w]
   |builtin b=>rfl
   |invoke a b=>exfalso;have w:=j.1;rw[H]at w;simp at w
  exact congrArg (λs:bA jH=>s.bind λd=>pL d.target d.args) this
 |_=>first|(rw[r]at j;cases j;done)|rfl
def kC(z:List (Nat×au))(t:Array au):Array Value:=z.foldl (λt p=>t.setIfInBounds p.1 p.2) t
theorem Np:∀(z:List (Nat×au)) (t:Array au) {i:Nat},(z.map (·.1)).contains i=ax->(kC z t).getD i aN=t.getD i aN
 |[],_,_,_=>rfl
 |p::z,t,i,h=>by
  simp only[qG,O6,NP,beq_eq_false_iff_ne]at h;show(kC z (t.setIfInBounds p.1 p.2)).getD i aN=_;rw[Np z _ h.2];simp only[sM];rw[nk (jm h.1)]
theorem Nq:∀(z:List (Nat×au)) (t:Array au) {d:Nat} (v:au),(z.map (·.1)).contains d=ax->kC z (t.setIfInBounds d v)=(kC z t).setIfInBounds d v
 |[],_,_,_,_=>rfl
 |p::z,t,d,v,h=>by
  simp only[qG,O6,NP,beq_eq_false_iff_ne]at h;show kC z ((t.setIfInBounds d v).setIfInBounds p.1 p.2)=(kC z (t.setIfInBounds p.1 p.2)).setIfInBounds d v;rw[<-Nq z _ v h.2];congr 1;apply rK;intro j;simp only[GN,Array.size_setIfInBounds];by_cases a:p.1=j<;>by_cases b:d=j<;>simp_all
def lV(z:List (Nat×au))(k:List dP)(a:aC):Frame:={a with tmps:=kC z a.tmps,todo:=a.todo++k}
def AF(z:List (Nat×au))(k:List dP):List aC->List aC
 |[]=>[]
 |[x]=>[lV z k x]
 |x::y::l=>x::AF z k (y::l)
def nV(z:List (Nat×au))(k:List dP)(p:sg):sg:=
 match p.2 with
 |[]=>(lV z k p.1,[])
 |c::l=>(p.1,AF z k (c::l))
def mX(p:sg):Frame:=p.2.getLast?.getD p.1
theorem IK(x y c:aC)(l:List aC):mX (x,c::l)=mX (y,c::l):=by
 unfold mX;cases b:(c::l).getLast? with
 |none=>simp at b
 |some a=>rfl
theorem IL(x c d:aC)(l:List aC):mX (x,c::d::l)=mX (x,d::l):=by
 unfold mX;rw[List.getLast?_cons_cons]
section
variable {X:Ctx} {P:aV} {fs vs:List Nat} {fz:Bool} {k:List dP} {z:List (Nat×au)}
def oH(z:List (Nat×au))(a:aC):Prop:=∀i∈a.todo,uj (z.map (·.1)) i=aq
theorem Iq{fr:aC}(h:By (z.map (·.1)) l=aq):(lV z k fr).eval l=fr.eval l:=by
 cases l with
 |tmp t=>exact Np z fr.tmps (by simpa[By]using h)
 |_=>rfl
theorem No:∀(z:List (Nat×au)) (t:Array au) {i:Nat},(z.map (·.1)).contains i=ax->(kC z t)[i]?=t[i]?
 |[],_,_,_=>rfl
 |p::z,t,i,h=>by
  simp only[qG,O6,NP,beq_eq_false_iff_ne]at h;show(kC z (t.setIfInBounds p.1 p.2))[i]?=_;rw[No z _ h.2,nk (jm h.1)]
theorem au4{a:Array bR}(h:a.all (wv (z.map (·.1)))=aq)(t:Array au):fN a (kC z t)=fN a t:=by
 funext j;unfold fN;cases c:a[j]? with
 |none=>rfl
 |some o=>
  have:=(jh.1 h) o (lH c);simp only[wv,dj]at this;cases b:o.dst with
  |none=>simp[b]
  |some d=>
   rw[b]at this;simp only[qD,b];rw[No z t (by simpa using this.2)]
theorem E5{id:Nat}:∀{l b:List dP},qL id l=ae b->∀i∈b,i∈l
 |[],_,h=>by cases h
 |i::l,b,h=>by
  cases i<;>simp only[qL]at h<;>first|(intro j a;exact jD _ (E5 h j a))|skip
  split at h;·cases h;intro j a;exact jD _ a
  ·intro j a;exact jD _ (E5 h j a)
theorem Ir(l:oH z c)(v:au)(s:∃b i rest p,c.todo=.inRegion b (i::rest)::p):(lV z k c).finish v=lV z k (c.finish v)/\oH z (c.finish v):=by
 obtain⟨fn,tmps,todo,defers,mode,kind,round⟩:=c;obtain⟨b,i,rest,p,e⟩:=s;dsimp only at e;subst e;have h:=l (.inRegion b (i::rest)) az;refine⟨?_,λj a=> ?_⟩
 ·unfold qH lV;dsimp only[pF,nB];cases r:b[i]? with
  |none=>rfl
  |some o=>
   have:=(jh.1 h) o (lH r);simp only[wv,dj]at this;cases f:o.dst with
   |none=>simp[f]
   |some d=>
    rw[f]at this;simp only[qD,f];rw[Nq z tmps v (by simpa using this.2)]
 ·simp only[qH]at a;rcases dk.1 a with rfl|a;·exact h
  ·exact l j (jD _ a)
def xU(c:aC):Prop:=c.mode=.run/\∃b i rest a,c.todo=.inRegion b (i::rest)::a
theorem Qm(x:aC):nV z k (x,[])=(lV z k x,[]):=rfl
theorem IM(x c:aC)(l:List aC):nV z k (x,c::l)=(x,AF z k (c::l)):=rfl
theorem AT(a:aC)(v:au):(a.finish v).mode=a.mode:=by unfold qH;split<;>rfl
theorem am4{H:aV}{es a1:Array bX}{w:sg}(R:oH z (mX (c,f)))(hl:∀l∈f,xU l)(hn:f=[]->c.mode=.run/\c.todo≠[])(h:(dA H c f).runT H b es=(.ok w p,a1)):(dA H (nV z k (c,f)).1 (nV z k (c,f)).2).runT H b es=(.ok (nV z k w) p,a1)/\oH z (mX w)/\(∀l∈w.2,xU l)/\(w.2=[]->w.1.mode=.run):=by
 obtain⟨fn,tmps,todo,defers,mode,kind,round⟩:=c;cases f with
 |nil=>
  obtain⟨hm,ht⟩:=hn rfl;dsimp only at hm ht;subst hm;have W:oH z {fn:=fn,tmps:=tmps,todo:=todo,defers:=defers,mode:=.run,kind:=kind,roundOf:=round}:=R;cases todo with
  |nil=>exact absurd rfl ht
  |cons i t=>
   have s:=W i az;have B:∀i∈t,uj (z.map (·.1)) i=true:=λi o=>W i (jD _ o);rw[Qm];unfold dA at h⊢;dsimp only[lV]at h⊢;rw[pF];have bK:∀(tm:Array au) (td:List dP),w=({fn:=fn,tmps:=tm,todo:=td,defers:=defers,mode:=.run,kind:=kind,roundOf:=round},[])->(∀i∈td,uj (z.map (·.1)) i=aq)->oH z (mX w)/\(∀l∈w.2,xU l)/\(w.2=[]->w.1.mode=.run):=by
    rintro tm td rfl ab;exact⟨ab,λl r=>by simp at r,λ_=>rfl⟩
   cases i with
   |code l=>
    cases l with
    |skip=>cases h;exact⟨rfl,bK _ _ rfl B⟩
    |seq a y=>
     simp only[uj,qm,dj]at s;cases h;exact⟨rfl,bK _ _ rfl λi o=>by
      rcases dk.1 o with rfl|o;·exact s.1
      ·rcases dk.1 o with rfl|o;·exact s.2
       ·exact B i o⟩
    |cond l a y=>
     simp only[uj,qm,dj]at s;dsimp only at h⊢;rw[show xI {fn:=fn,tmps:=kC z tmps,todo:=.code (.cond l a y)::(t++k),defers:=defers,mode:=.run,kind:=kind,roundOf:=round} l=xI {fn:=fn,tmps:=tmps,todo:=.code (.cond l a y)::t,defers:=defers,mode:=.run,kind:=kind,roundOf:=round} l from Iq (k:=k) (fr:={fn:=fn,tmps:=tmps,todo:=.code (.cond l a y)::t,defers:=defers,mode:=.run,kind:=kind,roundOf:=round}) s.1.1];split at h
     ·rename_i tt R;cases h;exact⟨rfl,bK _ _ rfl λi o=>by
       rcases dk.1 o with rfl|o
       ·cases tt;·exact s.2
        ·exact s.1.2
       ·exact B i o⟩
     ·cases h
    |block id y=>
     cases h;exact⟨rfl,bK _ _ rfl λi o=>by
      rcases dk.1 o with rfl|o;·exact s
      ·rcases dk.1 o with rfl|o;·rfl
       ·exact B i o⟩
    |loop y=>
     cases h;exact⟨rfl,bK _ _ rfl λi o=>by
      rcases dk.1 o with rfl|o;·exact s
      ·rcases dk.1 o with rfl|o;·exact s
       ·exact B i o⟩
    |exit id=>
     dsimp only at h⊢;split at h;·rename_i k' he;rw[E4 he];cases h;exact⟨rfl,bK _ _ rfl λi o=>B i (E5 he i o)⟩
     ·cases h
    |region id u draw=>
     dsimp only at h⊢;have aa:∀o',∀i∈Item.inRegion u o'::t,uj (z.map (·.1)) i=true:=λo' j hj=>by
      rcases dk.1 hj with rfl|hj;·exact s
      ·exact B j hj
     cases draw with
     |true=>
      simp only[if_true,xT,dp,eL,zN,dx,if_false]at h⊢;cases h;exact⟨rfl,bK _ _ rfl (aa _)⟩
     |false=>cases h;exact⟨rfl,bK _ _ rfl (aa _)⟩
    |_=>cases s
   |inBlock id=>cases h;exact⟨rfl,bK _ _ rfl B⟩
   |inLoop y=>
    cases h;exact⟨rfl,bK _ _ rfl λi o=>by
     rcases dk.1 o with rfl|o;·exact s
     ·rcases dk.1 o with rfl|o;·exact s
      ·exact B i o⟩
   |inRegion u todo=>
    cases todo with
    |nil=>cases h;exact⟨rfl,bK _ _ rfl B⟩
    |cons j rest=>
     dsimp only at h⊢;have fin:∀v:au,(lV z k {fn:=fn,tmps:=tmps,todo:=.inRegion u (j::rest)::t,defers:=defers,mode:=.run,kind:=kind,roundOf:=round}).finish v=lV z k (qH {fn:=fn,tmps:=tmps,todo:=.inRegion u (j::rest)::t,defers:=defers,mode:=.run,kind:=kind,roundOf:=round} v)/\oH z (qH {fn:=fn,tmps:=tmps,todo:=.inRegion u (j::rest)::t,defers:=defers,mode:=.run,kind:=kind,roundOf:=round} v):=λv=>Ir W v ⟨_,_,_,_,rfl⟩;have hy:((u[j]?).map (iJ · (fN u (kC z tmps)))).getD ax=((u[j]?).map (iJ · (fN u tmps))).getD false:=by rw[au4 s]
     split at h
     ·rename_i U;simp only[hy,U,if_true];cases Z:u[j]? with
      |none=>rw[Z]at h;cases h
      |some a2=>
       have a8:=(jh.1 s) a2 (lH Z);simp only[wv,dj]at a8;rw[Z]at h;dsimp only at h⊢;rw[show bp (xI {fn:=fn,tmps:=kC z tmps,todo:=.inRegion u (j::rest)::(t++k),defers:=defers,mode:=.run,kind:=kind,roundOf:=round}) a2=bp (xI {fn:=fn,tmps:=tmps,todo:=.inRegion u (j::rest)::t,defers:=defers,mode:=.run,kind:=kind,roundOf:=round}) a2 from execOp_congr (λx hx=>Iq (k:=k) (fr:={fn:=fn,tmps:=tmps,todo:=.inRegion u (j::rest)::t,defers:=defers,mode:=.run,kind:=kind,roundOf:=round}) hx) a8.1];rw[sG]at h⊢;split at h
       ·rename_i n w2 a6 hr;try rw[hr]
        cases n with
        |value v=>
         cases h;refine⟨?_,(fin v).2,λl r=>by simp at r,λ_=>AT _ _⟩;have:=(fin v).1;unfold lV at this;dsimp only[pF,nB]at this;show(Pc (qH _ v,[]) p,a1)=_;rw[this];rfl
        |skip=>
         cases h;refine⟨?_,(fin aN).2,λl r=>by simp at r,λ_=>AT _ _⟩;have:=(fin aN).1;unfold lV at this;dsimp only[pF,nB]at this;show(Pc (qH _ aN,[]) p,a1)=_;rw[this];rfl
        |enter N xs=>
         cases h;refine⟨rfl,W,λl r=> ?_,λe=>by cases e⟩;simp at r;subst r;exact⟨rfl,_,_,_,_,rfl⟩
        |_=>cases h
       ·cases h
     ·rename_i U;simp only[hy,U,if_false,dx];cases h;refine⟨?_,(fin aN).2,λl r=>by simp at r,λ_=>AT _ _⟩;have:=(fin aN).1;unfold lV at this;dsimp only[pF,nB]at this;show(Pc (qH _ aN,[]) b,es)=_;rw[this];rfl
   |_=>cases s
 |cons l f=>
  have r:=hl l az;cases mode with
  |panicking e=>cases h
  |returning=>
   rw[IM];unfold dA at h⊢;dsimp only at h⊢;cases f with
   |nil=>
    have W:oH z l:=R;show(match H.funcs[fn]? with|some N=>(ga N tmps).bind λv=>bN ((lV z k l).finish v,[])|none=>iO "no function").runT H b es=_/\_;split at h
    ·rename_i N hf;rw[hf];dsimp only;rw[sG]at h⊢;split at h
     ·rename_i v w2 a6 hr;cases h;have hq:=Ir (k:=k) W v r.2;rw[hq.1];exact⟨rfl,hq.2,λl r=>by simp at r,λ_=>(AT _ _).trans r.1⟩
     ·cases h
    ·cases h
   |cons d f=>
    show(match H.funcs[fn]? with|some N=>(ga N tmps).bind λv=>bN (l.finish v,AF z k (d::f))|none=>iO "no function").runT H b es=_/\_;split at h
    ·rename_i N hf;rw[hf];dsimp only;rw[sG]at h⊢;split at h
     ·rename_i v w2 a6 hr;cases h;exact⟨rfl,by rw[IL]at R;rw[IK _ _ d f];exact R,λl r=>hl l (by simp at r⊢;exact .inr r),λe=>by cases e⟩
     ·cases h
    ·cases h
  |run=>
   have a7:∀x:aC,oH z (mX (x,l::f)):=by
    intro x;rw[IK x _ l f];exact R
   have bK:∀x:aC,w=(x,l::f)->oH z (mX w)/\(∀l∈w.2,xU l)/\(w.2=[]->w.1.mode=.run):=by
    rintro x rfl;exact⟨a7 x,hl,λe=>by cases e⟩
   rw[IM];unfold dA at h⊢;dsimp only at h⊢;cases todo with
   |nil=>cases h;exact⟨rfl,bK _ rfl⟩
   |cons i t=>
    cases i with
    |code c'=>
     cases c' with
     |skip=>cases h;exact⟨rfl,bK _ rfl⟩
     |ret=>cases h;exact⟨rfl,bK _ rfl⟩
     |seq a y=>cases h;exact⟨rfl,bK _ rfl⟩
     |cond c' a y=>
      dsimp only at h⊢;split at h;·rename_i R;cases h;exact⟨rfl,bK _ rfl⟩
      ·cases h
     |block id y=>cases h;exact⟨rfl,bK _ rfl⟩
     |loop y=>cases h;exact⟨rfl,bK _ rfl⟩
     |exit id=>
      dsimp only at h⊢;split at h;·rename_i k' he;cases h;exact⟨rfl,bK _ rfl⟩
      ·cases h
     |region id u draw=>
      dsimp only at h⊢;cases draw with
      |true=>
       simp only[if_true,xT,dp,eL,zN,dx,if_false]at h⊢;cases h;exact⟨rfl,bK _ rfl⟩
      |false=>cases h;exact⟨rfl,bK _ rfl⟩
     |_=>cases h
    |inBlock id=>cases h;exact⟨rfl,bK _ rfl⟩
    |inLoop y=>cases h;exact⟨rfl,bK _ rfl⟩
    |inRegion u todo=>
     cases todo with
     |nil=>cases h;exact⟨rfl,bK _ rfl⟩
     |cons j rest=>
      dsimp only at h⊢;split at h
      ·rename_i U;simp only[U,if_true];cases Z:u[j]? with
       |none=>rw[Z]at h;cases h
       |some a2=>
        rw[Z]at h;dsimp only at h⊢;rw[sG]at h⊢;split at h
        ·rename_i n w2 a6 hr;try rw[hr]
         cases n with
         |value v=>cases h;exact⟨rfl,bK _ rfl⟩
         |skip=>cases h;exact⟨rfl,bK _ rfl⟩
         |enter N xs=>
          cases h;refine⟨rfl,by rw[IL];exact a7 _,λd hd=> ?_,λe=>by cases e⟩;rcases dk.1 hd with rfl|hd;·exact⟨rfl,_,_,_,_,rfl⟩
          ·exact hl d hd
         |_=>cases h
        ·cases h
      ·rename_i U;simp only[U,if_false,dx];cases h;exact⟨rfl,bK _ rfl⟩
    |_=>cases h
theorem Qn(h:Plain c):Plain (nV z k (c,f)).1:=by
 cases f with
 |nil=>exact⟨h.kind,h.round,h.defers⟩
 |cons a f=>exact h
theorem XY{O:Nat->Prop}(G:Good X P fs fz vs)(hV:∀u,X.vw u->gP X.P u){H:LS->Prop}{tl:List aC}{R0:BR}{w0:ak}(hk:∀s R,H s->aI X O R s.w->kL X P fs fz vs R (s.fr,s.fs) (s.fr,s.fs)->BR.Sub R0 R->w0.heap.size<=s.w.heap.size->ig X.P t O (nV z k (s.fr,s.fs)).1 ((nV z k (s.fr,s.fs)).2++tl) s.w){s:LS}(hE:Ev (qO X.P) H s):∀{R:BR},aI X O R s.w->kL X P fs fz vs R (s.fr,s.fs) (s.fr,s.fs)->oH z (mX (s.fr,s.fs))->(∀c∈s.fs,xU c)->(s.fs=[]->s.fr.mode=.run)->BR.Sub R0 R->w0.heap.size<=s.w.heap.size->ig X.P t O (nV z k (s.fr,s.fs)).1 ((nV z k (s.fr,s.fs)).2++tl) s.w:=by
 induction hE with
 |stop hs=>intro R f h W hc x v r;exact hk _ R hs f h v r
 |@step s h1 h2 ih=>
  intro R f h W a6 x v r;refine .BC λb d=> ?_;obtain⟨⟨s1,kk⟩,a⟩:=h1 b d;have ac:=a;obtain⟨aa,a⟩:=EU a;unfold fx at a;cases y:(dA X.P s.fr s.fs).run X.P (re s.w b d)with
  |halt ai j=>rw[y]at a;cases a
  |ok B j=>
   rw[y]at a;cases a;have U:(dA X.P s.fr s.fs).runT X.P (re s.w b d) #[]=(.ok B j,((dA X.P s.fr s.fs).runT X.P (re s.w b d) #[]).2):=by rw[<-y,<-fE X.P _ _ #[]]
   obtain⟨hB,ab,a7,a8⟩:=am4 (k:=k) W a6 (λe=>⟨x e,λl=>aa ⟨e,x e,l⟩⟩) U;obtain⟨R1,e1,e2,l,o,e5⟩:=(BQ G f.wr.dC h.1 h.2).uL hV rfl f.diag (lE f.wr b b d d) (es:= #[]) .nil U;have Z:s.w.heap.size<=j.heap.size:=o.sz;have N:aI X O R1 (gE j):=f.step e1 l o;refine⟨(nV z k B).1,(nV z k B).2++tl,j,_,Ca (main:=aq) (Qn h.1.p) tl hB,Z,λe he=>AP N l e5 (qx he),?_⟩;have:=ih b d _ _ ac N e2 ab a7 a8 (v.trans o.sub) (bT r Z);exact λaQ d' gs sl ad q a1 a2 c=>by have:=this aQ d' gs sl ad q a1 a2 c;exact this
theorem XX{O:Nat->Prop}(G:Good X P fs fz vs)(U:∀u,X.vw u->gP X.P u){l:du}{a:gx}{R:BR}{Q:s8->gx->ak->Prop}{St:gx->ak->Prop}(Z:c.kind=.normal)(hg:∃a1,X.P.funcs[c.fn]?=ae a1)(W:a.defers=[])(a6:mi P fs fz vs l=aq)(hz:uj (z.map (·.1)) (.code l)=aq)(s:aI X O R b)(ha:bq X.G R a.tmps a.tmps)(hp:∀a b w d,St a b->St a (re b w d))(hQ:∀e h j,Q e h j->e=.normal/\St h j)(v:∀w,l.wp X.P Q a (re b w 0))(hn:∀h j o,St h j->aI X O o j->bq X.G o h.tmps h.tmps->h.defers=[]->BR.Sub R o->b.heap.size<=j.heap.size->ig X.P t O (c.at {h with tmps:=kC z h.tmps} k) f j):ig X.P t O (c.at {a with tmps:=kC z a.tmps} (.code l::k)) f b:=by
 have H:kL X P fs fz vs R (c.at a [.code l],[]) (c.at a [.code l],[]):=⟨⟨rfl,hg,rfl,λi r=>by simp[Frame.at]at r;subst r;exact a6,⟨Z,rfl,W⟩,⟨Z,rfl,W⟩,rfl,.inl rfl,ha⟩,.nil⟩;have hE:=Ti G U (w:=b) (b:=c) ⟨R,s.diag,s.wr,H⟩ hp hQ v;refine XY (z:=z) (k:=k) (tl:=f) (R0:=R) (w0:=b) G U (λa7 o hs a2 N hR h0=> ?_) hE s H (λi r=>by simp[mX,Frame.at]at r;subst r;exact hz) (λl v=>by cases v) (λ_=>rfl) (BR.Sub.refl R) (aL _);obtain⟨x,h,y,B⟩:=hs;obtain⟨fr,a8,j⟩:=a7;dsimp only at x y B;subst x y;exact hn h j o B a2 N.1.tmps N.1.p.defers hR h0
end
def sJ(U:List Nat):bC->Bool
 | .tmp t=>U.contains t
 |_=>aq
def wS(U:List Nat)(a:bC->au):bC->au
 | .tmp t=>if U.contains t then a (.tmp t)else aN
 |x=>a x
theorem af9(b:sJ a l=aq):wS a h l=h l:=by
 cases l with
 |tmp t=>show(if a.contains t=aq then h (.tmp t)else aN)=_;rw[if_pos (show a.contains t=aq from b)]
 |_=>rfl
section
variable {j:au->ak->Prop} {O:Nat->Prop} {g:aX} {w:ak} {R:BR}
theorem Fv{i:Nat}(W:lx (sJ a) (oG g).op=aq)(a1:iu aj fj aq [71] (oG g).op=aq)(l:aI Xm O R w)(hv:∀t∈a,VR Xm.G R ((aG g).eval (.tmp t)) ((aG g).eval (.tmp t))){c:Tape}{d:Nat}{n:vu}(Z:(bp (aG g).eval (oG g)).run aj (Sim.re w c d)=.ok n b):∃j,aI Xm O j (gE b)/\pT Xm j n n/\BR.Sub R j/\w.heap.size<=b.heap.size/\∀e∈ic aj g.frame.fn (aG g) (oG g) (Sim.re w c d),nQ O b.heap.size e:=by
 have s:bp (aG g).eval (oG g)=bp (wS a (aG g).eval) (oG g):=execOp_congr (q:=sJ a) (λx k=>(af9 k).symm) W;have N:aD Xm (pT Xm) R (bp (wS a (aG g).eval) (oG g)) (bp (wS a (aG g).eval) (oG g)):=by
  refine FP sB.hX sB.F l.wr.dC (λx k=> ?_) (λv=>⟨rfl,rfl⟩) (oG g) a1;cases x with
  |tmp t=>
   show VR Xm.G R (if a.contains t=aq then(aG g).eval (.tmp t)else aN) (if a.contains t=aq then(aG g).eval (.tmp t)else aN);split;·rename_i h;exact hv t (by simpa using h)
   ·exact .undef
  |const v=>exact Fs k
  |global g=>cases k
  |func f=>exact .func f (by rw[sB.hX];exact k) rfl (λi v v' e=>by simp at e) rfl λi v v' e=>by simp at e
 have U:(bp (wS a (aG g).eval) (oG g)).runT aj (Sim.re w c d) #[]=(.ok n b,((bp (wS a (aG g).eval) (oG g)).runT aj (Sim.re w c d) #[]).2):=by rw[<-Z,s,<-fE aj _ _ #[]]
 obtain⟨j,y,B,p,o,H⟩:=N.uL wi rfl l.diag (lE l.wr c c d d) (es:= #[]) .nil U;have r:=l.step y p o;refine⟨j,r,B,o.sub,o.sz,λe u=>AP r p H ?_⟩;unfold ic at u;have:=qx u;rw[s]at this;exact this
theorem ay.op{U:List Nat}{i:Nat}{St:au->ak->Prop}(u:g.status=.running)(h:AtR g i)(p:lx (sJ U) (oG g).op=aq)(Z:iu aj fj aq [71] (oG g).op=aq)(o:aI Xm O R w)(x:∀t∈U,VR Xm.G R ((aG g).eval (.tmp t)) ((aG g).eval (.tmp t)))(s:∀c d,∃v a,(bp (aG g).eval (oG g)).run aj (Sim.re w c d)=.ok (.value v) a/\St v a)(r:∀v a b,St v a->aI Xm O b a->VR Xm.G b v v->BR.Sub R b->w.heap.size<=a.heap.size->ay aj j O (bz g v) a):ay aj j O g w:=
 .step u λc d=>by
  obtain⟨v,a,f,l⟩:=s c d;obtain⟨b,B,H,N,k,W⟩:=Fv (i:=i) p Z o x f;cases H with
  |value y=>exact⟨_,_,_,zo h f,k,W,r v a b l (B.re a.tape a.drawn) y N k⟩
theorem ay.Fx{U:List Nat}{i:Nat}{St:ak->Prop}(u:g.status=.running)(h:AtR g i)(p:lx (sJ U) (oG g).op=aq)(H:iu aj fj aq [71] (oG g).op=aq)(o:aI Xm O R w)(v:∀t∈U,VR Xm.G R ((aG g).eval (.tmp t)) ((aG g).eval (.tmp t)))(s:∀c d,∃a,(bp (aG g).eval (oG g)).run aj (Sim.re w c d)=.ok .skip a/\St a)(r:∀a b,St a->aI Xm O b a->BR.Sub R b->w.heap.size<=a.heap.size->ay aj j O (bz g aN) a):ay aj j O g w:=
 .step u λc d=>by
  obtain⟨a,f,l⟩:=s c d;obtain⟨b,x,N,y,k,B⟩:=Fv (i:=i) p H o v f;exact⟨_,_,_,N3 h f,k,B,r a b l (x.re a.tape a.drawn) y k⟩
theorem ay.QO{c:du}{k:List dP}{z:List (Nat×au)}{tm:Array au}{Q:s8->gx->ak->Prop}{St:gx->ak->Prop}(W:g=aw (g.frame.at ⟨kC z tm,[]⟩ (.code c::k)) g.callers)(N:g.frame.kind=.normal)(Z:∃f,aj.funcs[g.frame.fn]?=ae f)(a1:mi aj fj aq [71] c=aq)(hz:qm (z.map (·.1)) c=aq)(y:aI Xm O R w)(H:bq Xm.G R tm tm)(hp:∀a w p d,St a w->St a (Sim.re w p d))(B:∀e o b,Q e o b->e=.normal/\St o b)(U:∀p,c.wp aj Q ⟨tm,[]⟩ (Sim.re w p 0))(hn:∀h b l,St ⟨h,[]⟩ b->aI Xm O l b->bq Xm.G l h h->BR.Sub R l->w.heap.size<=b.heap.size->ay aj j O (aw (g.frame.at ⟨kC z h,[]⟩ k) g.callers) b):ay aj j O g w:=by
 rw[W];refine ig.Gt (XX (X:=Xm) (P:=aj) (fs:=fj) (fz:=aq) (vs:=[71]) (z:=z) (a:=⟨tm,[]⟩) (St:=St) (Q:=Q) sB wi N Z rfl a1 hz y H hp B U λo b l s t u r v x=> ?_);obtain⟨h,df⟩:=o;dsimp only at r;subst r;exact hn h b l s t u v x
end
def nl:du->du
 | .seq a _=>a
 |c=>c
def nr:du->du
 | .seq _ b=>b
 |c=>c
def nb:du->du
 | .block _ b=>b
 | .loop b=>b
 |c=>c
def nt:du->du
 | .cond _ a _=>a
 |c=>c
def ne:du->du
 | .cond _ _ b=>b
 |c=>c
def j9(c:au->Prop)(w:ak)(base:Nat)(e:aK)(size:Nat)(v:au)(n:Nat)(b:List au):Prop:=
 b.length=n*size/\((v=.slice af 0 0/\n=0)\/ ∃g cap a,v=.slice (ae ⟨g,0,af⟩) n cap/\base<=g/\w.heap[g]?=ae (.cells a e (0,0))/\n<=cap/\cap<=cE/\a.size=cap*size/\a.toList.take (n*size)=b/\∀x∈a,c x)
theorem j9.own{n:Nat}(h:j9 r b u v x s n y):b.ownsRow u v x s n y:=by
 refine⟨h.1,?_⟩;rcases h.2 with h|⟨g,cap,a,c,f,j,k,l,o,p,_⟩;·exact .inl h
 ·exact .inr ⟨g,cap,a,c,f,j,k,l,o,p⟩
theorem j9.nil(a:au->Prop)(w:ak)(base:Nat)(e:aK)(size:Nat):j9 a w base e size (.slice af 0 0) 0 []:=⟨az,.inl ⟨rfl,rfl⟩⟩
theorem Yi{z:Array au}{n:Nat}(f:∀x∈z,r x):∀x∈xq z n,r x:=by
 intro x c;unfold xq at c;obtain⟨i,a,rfl⟩:=OE.1 c;have:0<z.size:=by
  rcases pD z.size with h|h;·rw[h]at a;simp at a
  ·exact h
 have b:i%z.size<z.size:=xK _ this;rw[getElem!_pos z (i%z.size) b];exact f _ (Array.getElem_mem b)
section
variable {P:aV} (w:ak)
theorem ai4{Pl:au->Prop}(base:Nat)(t ty e:aK)(i:qI)(z:au)(size bytes:Nat)(ht:P.underlying t=ae (.slice e))(U:P.info? e=ae i)(hz:i.zero=ae z)(ap:i.size=size)(ai:i.bytes=bytes)(av:z.cells.size=size)(aP:0<size)(ar:∀x∈z.cells,Pl x)(v:au)(n:Nat)(l:List au)(y:j9 Pl w base e size v n l)(a:aH)(c:Nat)(h:List au)(s:h.length=1*size)(Z:∀j u,h[j]?=ae u->w.cell? (a.add j)=ae u)(h1:∀u∈h,u.oneCell'=aq)(aa:∀u∈h,Pl u)(a7:n+1<=cE)(a8:(n+1)*bytes<=140737488355328)(ac:base<=w.heap.size):∃v' w',(H6 #[t,t] ty #[v,.slice (ae a) 1 c]).run P w=.ok v' w'/\j9 Pl w' base e size v' (n+1) (l++h)/\w.grownBy w' v.ownBlock/\∀b,v'.ownBlock=ae b->v.ownBlock=ae b\/w.heap.size<=b:=by
 subst ap;subst ai;have aJ:n+1<=9223372036854775807:=by simp only[cE]at a7;omega
 have N:(l++h).length=(n+1)*i.size:=by rw[gJ,y.1,s,P7]
 have grown:∀(p:Nat) (B:Array au),(∀x∈l,Pl x)->∀(row:Option Nat),j9 Pl (w.drew.alloc (.cells (l.toArray++h.toArray++xq z.cells (I6 w (n+1) p e-(n+1))) e)) base e i.size (.slice (ae ⟨w.heap.size,0,af⟩) (n+1) (I6 w (n+1) p e)) (n+1) (l++h)/\
   w.grownBy (w.drew.alloc (.cells (l.toArray++h.toArray++xq z.cells (I6 w (n+1) p e-(n+1))) e)) row:=by
  intro p B a6 row;have an:=grownCap_ge w (n+1) p e;have R:I6 w (n+1) p e<=maxLen:=grownCap_le_maxLen w (n+1) p e a7;refine⟨⟨N,.inr ⟨w.heap.size,_,_,rfl,ac,cY w.drew _,an,R,?_,?_,?_⟩⟩,⟨rfl,rfl,rfl,az,λk W _=>xu w.drew _ W⟩⟩
  ·simp only[Array.size_append,CE,size_zeroCells,av,y.1,s,<-P7];congr 1;omega
  ·simp only[ax8,sU];rw[<-sU,<-N];exact aC4
  ·intro x f;rcases pE.1 f with f|f
   ·rcases pE.1 f with f|f;·exact a6 x (by simpa using f)
    ·exact aa x (by simpa using f)
   ·exact Yi ar x f
 rcases y.2 with⟨rfl,rfl⟩|⟨g,cap,B,rfl,ad,hg,aF,R,al,ab,a1⟩
 ·have f:l=[]:=List.eq_nil_of_length_eq_zero (by simpa using y.1);subst f;have H:=run_append_nil (P:=P) w t ty e i z ht U hz a 1 c h s Z ag ag (by have o:=a8;simp only[ia]at o;omega);have r:=grown 0 #[] (λx f=>by cases f) (fX (.slice af 0 0));simp only[ia,nB,O0]at r⊢;exact⟨_,_,H,r.1,r.2,λb o=>.inr (by simp[fX]at o;omega)⟩
 ·have a6:∀x∈l,Pl x:=λx f=>by rw[<-ab]at f;exact a1 x (by simpa using zJ f)
  by_cases a2:n+1<=cap
  ·have am:n*i.size+h.length<=B.size:=by rw[s,al,<-P7];exact ay0 _ a2
   have H:=run_append_room (P:=P) w t ty e i ht U g n cap B hg a 1 c h s Z h1 a2 am;refine⟨_,_,H,⟨N,.inr ⟨g,cap,_,rfl,ad,setRow_heap w g B _ e _ hg,a2,R,?_,?_,?_⟩⟩,⟨rfl,rfl,rfl,az,λk _ W=>setRow_other w g k _ (λe=>W (by simp[fX,e]))⟩,λb o=>.inl (by simpa[fX]using o)⟩
   ·simp only[CE,gJ,sW,List.length_drop,Array.length_toList];omega
   ·rw[ab,<-N];exact aC4
   ·intro x f;simp only[zL,dU]at f;rcases f with(f|f)|f;·exact a1 x (by simpa using zJ f)
    ·exact aa x f
    ·exact a1 x (by simpa using List.mem_of_mem_drop f)
  ·have ao:∀j u,l[j]?=ae u->w.cell? ((⟨g,0,af⟩:aH).add j)=ae u:=y.own.cells (g:=g) rfl;have H:=run_append_grow (P:=P) w t ty e i z ht U hz ⟨g,0,af⟩ n cap l y.1 ao a 1 c h s Z ag ag (growslice_fits ag a8);have r:=grown cap #[] a6 (fX (.slice (ae ⟨g,0,af⟩) n cap));exact⟨_,_,H,r.1,r.2,λb o=>.inr (by simp[fX]at o;omega)⟩
end
structure xY(row:Option Nat)(w w':ak):Prop where
 size:w.heap.size<=w'.heap.size
 block:∀k,k<w.heap.size->ae k≠row->w'.heap[k]?=w.heap[k]?
 os:w'.os=w.os
 output:w'.output=w.output
theorem j9.bK{n:Nat}(h:j9 r b u v x s n y)(l:∀k,s.ownBlock=ae k->p.heap[k]?=b.heap[k]?):j9 r p u v x s n y:=by
 refine⟨h.1,?_⟩;rcases h.2 with h|⟨g,cap,a,rfl,c,f,j⟩;·exact .inl h
 ·exact .inr ⟨g,cap,a,rfl,c,(l g rfl).trans f,j⟩
section
variable {j:au->ak->Prop} {O:Nat->Prop} {g:aX} {w:ak} {R:BR}
theorem ay.app{Pl:au->Prop}{i s x:Nat}{t e:aK}{base:Nat}{ti:qI}{z:au}{size bytes:Nat}{v:au}{n:Nat}{xs:List au}{ad:aH}{c:Nat}{news:List au}(ac:g.status=.running)(h:AtR g i)(r:(oG g).op=.call {callee:=.builtin .append,args:= #[.tmp s,.tmp x],argTypes:= #[t,t]})(ok:iu aj fj aq [71] (oG g).op=aq)(o:aj.underlying t=ae (.slice e))(hi:aj.info? e=ae ti)(hz:ti.zero=ae z)(ai:ti.size=size)(a6:ti.bytes=bytes)(ap:z.cells.size=size)(B:0<size)(ao:∀x∈z.cells,Pl x)(y:(aG g).eval (.tmp s)=v)(H:(aG g).eval (.tmp x)=.slice (ae ad) 1 c)(hK:aI Xm O R w)(hv:VR Xm.G R v v)(am:VR Xm.G R (.slice (ae ad) 1 c) (.slice (ae ad) 1 c))(ab:j9 Pl w base e size v n xs)(hl:news.length=1*size)(a8:∀N u,news[N]?=ae u->w.cell? (ad.add N)=ae u)(U:∀u∈news,u.oneCell'=aq)(aa:∀u∈news,Pl u)(a1:n+1<=cE)(a7:(n+1)*bytes<=140737488355328)(a2:base<=w.heap.size)(hn:∀a f k,j9 Pl f base e size a (n+1) (xs++news)->xY v.ownBlock w f->aI Xm O k f->VR Xm.G k a a->BR.Sub R k->(∀b,a.ownBlock=ae b->v.ownBlock=ae b\/w.heap.size<=b)->ay aj j O (bz g a) f):ay aj j O g w:=by
 refine .op (U:=[s,x]) (St:=λa f=>j9 Pl f base e size a (n+1) (xs++news)/\xY v.ownBlock w f/\∀b,a.ownBlock=ae b->v.ownBlock=ae b\/w.heap.size<=b) ac h (by rw[r];simp[lx,sJ]) ok hK (λt o=> ?_) (λtp d=> ?_) λa f k p hk an al B=>hn a f k p.1 p.2.1 hk an al p.2.2
 ·simp at o;rcases o with rfl|rfl;·rw[y];exact hv
  ·rw[H];exact am
 ·obtain⟨a,f,hr,W,l,Z⟩:=ai4 (P:=aj) (Pl:=Pl) (Sim.re w tp d) base t (oG g).type e ti z size bytes o hi hz ai a6 ap B ao v n xs ab ad c news hl a8 U aa a1 a7 a2;refine⟨a,f,?_,W,⟨l.size,l.block,l.os,l.output⟩,Z⟩;unfold bp;simp only[r,mI,pL,Af,Hn,Hm,GX,CM,qG,zZ,y,H,hr]
end
