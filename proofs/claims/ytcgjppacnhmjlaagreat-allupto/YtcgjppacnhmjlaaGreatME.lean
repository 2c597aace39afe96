/- Own texts: SimI, SimJ, SimK, SimL. -/
import Derived.Test.YtcgjppacnhmjlaaGreatMD
import GoSem.Machine.Exec
import GoSem.Step
import Derived.Conc.Events
set_option linter.all false
open Array renaming all_eq_true_iff_forall_mem->jh,mem_of_getElem?->lH,getElem?_map->qB,toList_map->H5,mapM_eq_foldlM->ax1,foldlM_toList->ax9
open Bool renaming true->aq,false->ax,false_eq_true->dx,and_eq_true->dj,or_eq_true->qE
open Go renaming World->ak,Value->au,Frame->aC,TypeId->aK,Program->aV,Addr->aH,undef->aN,Operand->bC,execOp->bp,stepG->aZ,FuncId->bW,Event->bX,Oper->bR,yielded->fN,results->ga,Sem->bA,Code->du,Item->dP,resolve->mI,stuck->iO,eqGuard->om,convert->oo,variablesAt->A9,liesAt->pK,invoke->pL,callFunc->vi,seen->jo,exitTo->qL,unwind->rY,doReturn->xP,cellAtBytes->Dh,store->tz,choose->xT,Next->vu,Func->pO,frozen->Dp,byteOfCell->Pt
open Go.Conv renaming unsafePointer->uW,seenAt->P6
open Go.Extern renaming findNext->zQ,find->uZ
open Go.Extern.Atomic renaming casT->sR,touchesFrozen->Ct,read->xj,loadT->zH
open Go.Frame renaming enter->bG,finish->qH,eval->xI,oper?->A5,raise->Ho
open Go.GStep renaming after->jG
open Go.Op renaming maxDepth->A8
open Go.Question renaming forced->zN,cut->aA6
open Go.Region renaming wanted->iJ,schedule->zO
open Go.Sem renaming bind->dp,runT_bind'->jj,runT->eL,run->fu,runT_eq->nE
open Go.stepG renaming exec->fZ,apply->rV,oper->Hv
open Iff renaming rfl->xR
open List renaming mem_cons->dk,range->dn,mem_singleton->xn,foldlM_cons->CN
open Option renaming some->ae,none->af,map_some->hZ,getD_some->lK,bind_some->qD,isNone_some->ax2
open Pure renaming pure->bN
namespace Go.Proofs.YtcgjppacnhmjlaaGreat
open Go
namespace Sim
variable {p r:aH} {a y:aK} {b B:au} {k o:Array au} {N:BR} {u:bW} {x:List Nat}
section
variable {X:Ctx} {R:BR} {H W Z δ:Type}
theorem Ml(h:AR R p r):aD X AR R (P6 p) (P6 r):=by
 unfold P6;refine(BU h.1).bind λU t x aa e=> ?_;have h:=h.mono t.sub;rcases e with⟨rfl,rfl⟩|⟨x,H,u,v,rfl,rfl,w⟩;·exact .pure h
 ·dsimp only;obtain⟨b,a2,a6⟩:=p;obtain⟨W,B,s'⟩:=r;obtain⟨xb,xo,xs⟩:=x;obtain⟨a8,N,Z⟩:=H;obtain⟨y,j,k⟩:=h;obtain⟨a,l,o⟩:=w;dsimp only at y j k a l o;subst j k l o;dsimp only;split;·exact .pure ⟨a,rfl,rfl⟩
  ·refine iv (.bind (.unsupported _ az) _) λ_=> ?_;refine mq ?_;cases Pt X.P X.P.depth u B with
   |none=>exact .dead (.unsupported _ az)
   |some s=>
    dsimp only;refine uB a λa7 f c=> ?_;have c:=c.vw v;subst c;cases f with
    |none=>exact .dead (.unsupported _ az)
    |some f=>
     obtain⟨e,n⟩:=f;dsimp only;refine iv (.bind (.unsupported _ az) _) λ_=> ?_;cases Dh X.P X.P.depth e (n/X.P.cellsOf e) N s with
     |none=>exact .dead (.unsupported _ az)
     |some a1=>exact .pure ⟨a,rfl,rfl⟩
theorem aa1(f:X.vw a){r c:Nat}(h:R r c):aD X eg R (cellsIn r) (cellsIn c):=by
 refine uB h λj s b=> ?_;have b:=b.vw f;subst b;cases s with
 |some s=>exact .pure rfl
 |none=>exact .getN h (λ_ _ _ _=>.pure rfl) λ_ _ _ _ _=>.pure rfl
theorem ad6(f:X.vw a)(h:AR R p r)(u:aK)(n:Nat):aD X eg R (A9 p u n) (A9 r u n):=by
 refine mq ?_;refine uB h.1 λj s b=> ?_;have b:=b.vw f;subst b;cases s with
 |none=>exact .pure rfl
 |some s=>
  obtain⟨e,c⟩:=s;have:=h.2.1;refine .pure ?_;show pK _ _ _ _ p.off _ _=pK _ _ _ _ r.off _ _;rw[this]
theorem FU(f:X.vw a)(h:AR R p r):aD X (λR c b=>R c b) R (newObj (.view p a)) (newObj (.view r a)):=.newV f h λj k _ _ _ _=>.pure (.inr ⟨rfl,rfl⟩)
theorem ad2(h:VR X.G R b B){d:aK}(p:X.P.underlying a=ae (.pointer y))(o:X.P.underlying d=ae .unsafePointer)(k:X.vw y):aD X (VX X) R (oo a d b) (oo a d B):=by
 unfold oo;refine(kz a).bind λR1 u x l c=> ?_;obtain⟨rfl,c⟩:=c;rw[p]at c;cases c;refine(kz d).bind λs v x l c=> ?_;obtain⟨rfl,c⟩:=c;rw[o]at c;cases c;have h:=(h.mono u.sub).mono v.sub;have key:aD X (VX X) s (uW a d b) (uW a d B):=by
  unfold uW;refine(kz a).bind λR3 w x l c=> ?_;obtain⟨rfl,c⟩:=c;rw[p]at c;cases c;refine(kz d).bind λR4 H x l c=> ?_;obtain⟨rfl,c⟩:=c;rw[o]at c;cases c;have h:=(h.mono w.sub).mono H.sub;cases h with
  |pnil=>exact .pure .pnil
  |ptr f=>
   dsimp only;refine(Ml f).bind λR5 h5 a1 a' f=> ?_;refine aD.bn (aa1 k f.1) λR6 N n=> ?_;have f:=f.mono N.sub;refine aD.bn (iU y) λR7 U m=> ?_;have f:=f.mono U.sub;rw[f.2.1,f.2.2];cases n with
   |none=>
    dsimp only;split;·exact(FU k f).bind λt W r Z j=>.pure (.ptr ⟨j,rfl,rfl⟩)
    ·exact .pure (.ptr f)
   |some n=>
    dsimp only;split;·exact(FU k f).bind λt W r Z j=>.pure (.ptr ⟨j,rfl,rfl⟩)
    ·exact .pure (.ptr f)
  |_=>exact bu _ _
 cases h<;>exact key
theorem ab2(h:VR X.G R b B){d:aK}(r:X.P.underlying a=ae .unsafePointer)(p:X.P.underlying d=ae (.pointer y))(k:X.vw y):aD X (VX X) R (oo a d b) (oo a d B):=by
 unfold oo;refine(kz a).bind λW t x o c=> ?_;obtain⟨rfl,c⟩:=c;rw[r]at c;cases c;refine(kz d).bind λs u x o c=> ?_;obtain⟨rfl,c⟩:=c;rw[p]at c;cases c;have h:=(h.mono t.sub).mono u.sub;have key:aD X (VX X) s (uW a d b) (uW a d B):=by
  unfold uW;refine(kz a).bind λZ v x o c=> ?_;obtain⟨rfl,c⟩:=c;rw[r]at c;cases c;refine(kz d).bind λR4 w x o c=> ?_;obtain⟨rfl,c⟩:=c;rw[p]at c;cases c;have h:=(h.mono v.sub).mono w.sub;cases h with
  |pnil=>exact .pure .pnil
  |ptr f=>
   dsimp only;refine(Ml f).bind λR5 h5 a1 a' f=> ?_;refine aD.bn (iU y) λR6 H m=> ?_;have f:=f.mono H.sub;refine aD.bn (ad6 k f y 1) λR7 N a2=> ?_;have f:=f.mono N.sub;split;·exact .pure (.ptr f)
   ·refine uB f.1 λa7 l j=> ?_;have j:=j.vw k;subst j;cases l with
    |none=>exact .dead (.bind (.unsupported _ az) _)
    |some l=>
     obtain⟨e,n⟩:=l;dsimp only;refine mq ?_;refine mq ?_;refine iv (.bind (.unsupported _ az) _) λ_=> ?_;exact(FU k f).bind λR8 h8 a6 r' U=>.pure (.ptr ⟨U,rfl,rfl⟩)
  |_=>exact bu _ _
 cases h<;>exact key
theorem Mj(h:AR R p r):aD X (λR v v'=>VR X.G R v v'/\(∃x,v=.pointer x)/\∃x,v'=.pointer x) R (xj .ptr p) (xj .ptr r):=by
 unfold xj;refine(FT h .atomic).bind λc f v v' b=> ?_;cases b with
 |pnil=>exact .pure ⟨.pnil,⟨_,rfl⟩,_,rfl⟩
 |ptr a=>exact .pure ⟨.ptr a,⟨_,rfl⟩,_,rfl⟩
 |_=>exact .dead (.unsupported _ az)
theorem ab8(h:bq X.G R k o):aD X (VX X) R (zH .ptr k) (zH .ptr o):=by
 obtain⟨l⟩:=k;obtain⟨f⟩:=o
 match l,f,h with
 |[],f,h=>exact bu _ _
 |a::b::l,f,h=>exact .dead (by unfold zH;exact .stuck _)
 |[a],[],h=>exact absurd h.1 az
 |[a],_::_::_,h=>exact absurd h.1 az
 |[a],[c],h=>
  have j:=h.2 0 a c rfl rfl;exact(yZ j).bind λr s x t p=>(Mj p).imp λ_ _ _ e=>e.1
theorem ad3(f:X.fz=aq)(h:AR R p r):aD X eg R (Ct p) (Ct r):=by
 unfold Ct;refine(BU h.1).bind λv j x y e=> ?_;rcases e with⟨rfl,rfl⟩|⟨x,c,u,_,rfl,rfl,a⟩;·exact wP f (h.mono j.sub)
 ·dsimp only;refine(jS u).bind λw k H N s=> ?_;obtain⟨rfl,_⟩:=s;refine iv (.bind (.unsupported _ az) _) λ_=> ?_;have a:=a.mono k.sub;have any:∀(l:List Nat) {R:BR},AR R x c->aD X eg R (l.anyM λi=>Dp {x with off:=x.off+i,spot:=af}) (l.anyM λi=>Dp {c with off:=c.off+i,spot:=af}):=by
   intro l;induction l with
   |nil=>intro R _;exact .pure rfl
   |cons i l t=>
    intro R a;rw[List.anyM,List.anyM];refine aD.bn (wP f (a:={x with off:=x.off+i,spot:=af}) (a':={c with off:=c.off+i,spot:=af}) ⟨a.1,by simp[a.2.1],rfl⟩) λB o b=> ?_;cases b with
    |true=>exact .pure rfl
    |false=>exact t (a.mono o.sub)
  exact any _ a
theorem aa0(H:X.fz=aq)(u:BR.iy X.P.globals.size R)(h:bq X.G R k o):aD X (VX X) R (sR .ptr k) (sR .ptr o):=by
 obtain⟨l⟩:=k;obtain⟨f⟩:=o
 match l,f,h with
 |[],f,h=>exact bu _ _
 |[_],f,h=>exact bu _ _
 |[_,_],f,h=>exact bu _ _
 |_::_::_::_::_,f,h=>exact .dead (by unfold sR;exact .stuck _)
 |[a,b,c],[],h=>exact absurd h.1 az
 |[a,b,c],[_],h=>exact absurd h.1 az
 |[a,b,c],[_,_],h=>exact absurd h.1 az
 |[a,b,c],_::_::_::_::_,h=>exact absurd h.1 az
 |[a,b,c],[W,Z,N],h=>
  have ha:=h.2 0 a W rfl rfl;have y:=h.2 1 b Z rfl rfl;have B:=h.2 2 c N rfl rfl;unfold sR;refine(yZ ha).bind λR1 x a2 x' j=> ?_;refine aD.bn (ad3 H j) λR2 s a7=> ?_;refine iv (.bind (.unsupported _ az) _) λ_=> ?_;have j:=j.mono s.sub;refine(Mj j).bind λU t v v' w=> ?_;obtain⟨w,⟨a6,rfl⟩,q,rfl⟩:=w;have j:=j.mono t.sub;have y:=((y.mono x.sub).mono s.sub).mono t.sub;have B:=((B.mono x.sub).mono s.sub).mono t.sub;have u:=t.dC (s.dC (x.dC u))
  have fin:∀{r:BR},BR.Ext X.P.globals.size U r->∀e:Bool,aD X (VX X) r (do
    if e then tz a2 c .atomic
    bN (.bool e)) (do
    if e then tz x' N .atomic
    bN (.bool e)):=by
   intro r p e;cases e with
   |true=>exact aD.bn (FX (j.mono p.sub) (B.mono p.sub) .atomic) λ_ _ _=>.pure (.bool _)
   |false=>exact .pure (.bool _)
  cases y with
  |pnil=>
   exact aD.bn (Mk H u w .pnil rfl rfl rfl rfl) λr p e=>fin p e
  |ptr a1=>
   exact aD.bn (Mk H u w (.ptr a1) rfl rfl rfl rfl) λr p e=>fin p e
  |_=>exact .dead (.bind (.stuck _) _)
end
def BE:au->Bool
 | .bool _| .int _ _| .string _| .pointer af| .slice af _ _| .nilFunc=>aq
 |_=>ax
theorem Fs{G:bW->Prop}(h:BE b=aq):VR G N b b:=by
 unfold BE at h;split at h<;>first|cases h;done|constructor
def fK(h:List Nat):bC->Bool
 | .tmp _=>aq
 | .const v=>BE v
 | .global _=>ax
 | .func f=>h.contains f
def isNil:bC->Bool
 | .const (.pointer af)=>aq
 |_=>ax
def Lu(P:aV)(fz:Bool)(t:aK)(x y:bC):Bool:=
 ! P.eqGuardType P.depth t&&(match P.underlying t with|some (.interface _)=>ax|_=>aq)&&(vI P fz 10 t||isNil x||isNil y)
def Fp:au->Bool
 | .nilIface=>aq
 |v=>BE v
def Lw:au->Bool
 | .agg a=>a.all Fp
 |v=>Fp v
theorem Lr{G:bW->Prop}(h:Fp b=aq):VR G N b b:=by
 cases b<;>first|exact .anyN|exact Fs h
theorem YV{G:bW->Prop}(h:Lw b=aq):VR G N b b:=by
 cases b with
 |agg c=>exact .agg rfl λi b v' e a=>by rw[e]at a;cases a;exact Lr ((jh.1 h) b (lH e))
 |_=>exact Lr h
def wF(P:aV)(t:aK):Bool:=match P.info? t with
 |some i=>(match i.zero with|some v=>Lw v|none=>aq)
 |none=>aq
def wD(P:aV)(t:aK):Bool:=match P.underlying t with
 |some (.slice e)=>wF P e
 |_=>aq
def Ls(P:aV)(vs:List Nat)(s d:aK):Bool:=
 match P.underlying s,P.underlying d with
 |some (.int _),ae (.int _)=>aq
 |some (.pointer t),ae .unsafePointer=>vs.contains t
 |some .unsafePointer,ae (.pointer t)=>vs.contains t
 |_,_=>ax
def Fo(P:aV)(h:List Nat)(c:Call):Bool:=
 c.args.all (fK h)&&match c.callee with
 | .value f=>fK h f
 | .invoke _ _=>ax
 | .builtin b=>match b with
  | .len| .copy| .max=>aq
  | .unsafeString=>match c.argTypes[0]? with
   |none=>aq
   |some t=>match P.underlying t with
    |some (.pointer e)=>(match P.underlying e with|some (.int .u8)=>aq|_=>ax)
    |_=>aq
  | .append=>(match c.argTypes[0]? with|none=>aq|some t=>wD P t)&&(match c.argTypes[1]? with
   |none=>aq
   |some t=>match P.underlying t with|some (.int _)=>ax|_=>aq)
  |_=>ax
def iu(P:aV)(h:List Nat)(fz:Bool)(vs:List Nat):Op->Bool
 | .move x| .assign x| .box _ x| .load _ x| .nilCheck x| .fieldAddr _ x _| .field _ x _| .extract x _=>fK h x
 | .alloc t=>wF P t
 | .pick c a b=>fK h c&&fK h a&&fK h b
 | .build t ps=>wF P t&&ps.all λp=>fK h p.2
 | .buildSlice t _ ps=>wD P t&&ps.all λp=>fK h p.2
 | .makeSlice t a x=>wD P t&&(fK h a&&fK h x)
 | .store _ a x| .indexAddr _ a x| .index _ a x=>fK h a&&fK h x
 | .binOp op t x y _=>fK h x&&fK h y&&(jB op||((op matches .eql| .neq)&&Lu P fz t x y))
 | .unOp .not _ x=>fK h x
 | .unOp .neg _ x=>fK h x
 | .convert s d x=>fK h x&&Ls P vs s d
 | .makeFunc (.func f) a b=>h.contains f&&a.all (fK h)&&b.all (fK h)
 | .slice _ x l j m=>fK h x&&l.all (fK h)&&j.all (fK h)&&m.all (fK h)
 | .call c=>Fo P h c
 |_=>ax
def mi(P:aV)(h:List Nat)(fz:Bool)(vs:List Nat):du->Bool
 | .skip| .exit _| .ret=>aq
 | .region _ f _=>f.all λo=>iu P h fz vs o.op
 | .seq a b=>mi P h fz vs a&&mi P h fz vs b
 | .cond c a b=>fK h c&&mi P h fz vs a&&mi P h fz vs b
 | .block _ b| .loop b=>mi P h fz vs b
 |_=>ax
def ctx(P:aV)(h:List Nat)(fz:Bool)(vs:List Nat):Ctx:={P:=P,G:=λf=>h.contains f=aq,fz:=fz,vw:=λu=>vs.contains u=aq}
inductive pT (X:Ctx) (R:BR):vu->vu->Prop
 |value {v v':au}:VR X.G R v v'->pT X R (.value v) (.value v')
 |skip:pT X R .skip .skip
 |enter {f:bW} {xs bk:Array au}:X.G f->bq X.G R xs bk->(∃fn c,X.P.funcs[f]?=ae fn/\fn.body=ae c)->pT X R (.enter f xs) (.enter f bk)
structure Al(X:Ctx):Prop where
 fn:∀f,X.G f->∃fn,X.P.funcs[f]?=ae fn/\(fn.name== "runtime.NumGoroutine")=ax/\((∃c,fn.body=ae c)\/ (fn.body=af/\zQ fn=af/\∃e,uZ fn=ae e/\∀R xs bk,BR.iy X.P.globals.size R->bq X.G R xs bk->aD X (VX X) R (e xs) (e bk)))
section
variable {X:Ctx} {R:BR} {H W Z δ:Type}
theorem Nz{P:aV}(c:X.P=P)(h:wF P a=aq):pV X a:=by
 intro i v b f R;rw[c]at b;unfold wF at h;rw[b]at h;dsimp only at h;rw[f]at h;exact YV h
theorem Px{P:aV}(b:X.P=P)(h:wD P a=aq)(e:aK)(c:X.P.underlying a=ae (.slice e)):pV X e:=by
 rw[b]at c;unfold wD at h;rw[c]at h;exact Nz b h
theorem ZZ(F:Al X)(s:BR.iy X.P.globals.size R)(f:X.G u)(h:bq X.G R k o):aD X (pT X) R (vi u k) (vi u o):=by
 obtain⟨fn,a,j,l⟩:=F.fn u f;unfold vi;refine mq ?_;rw[a];dsimp only;rw[j];simp only[dx,if_false];rcases l with⟨c,b⟩|⟨p,t,e,r,w⟩
 ·rw[b];simp only[ax2,dx,if_false];exact .pure (.enter f h ⟨fn,c,a,b⟩)
 ·rw[p,t,r];simp only[Option.isNone_none,if_true];refine .mark (.inr ⟨u,rfl⟩) ?_;exact(w R k o s h).bind λy _ v v' x=>.pure (.value x)
theorem iG{s a:bA au}(h:aD X (VX X) R s a):aD X (pT X) R (do bN (.value (<-s))) (do bN (.value (<-a))):=h.bind λ_ _ _ _ b=>.pure (.value b)
theorem ad4{s a:bA Unit}(h:aD X eg R s a):aD X (pT X) R (do s;bN .skip) (do a;bN .skip):=h.bind λ_ _ _ _ _=>.pure .skip
theorem Mf{r:Type}{f p:r->bA au}:∀(l:List r){R:BR} {acc c:Array au},(∀i∈l,∀s,BR.Ext X.P.globals.size R s->aD X (VX X) s (f i) (p i))->bq X.G R acc c->aD X (bq X.G) R (l.foldlM (λb a=>do bN (b.push (<-f a))) acc) (l.foldlM (λb a=>do bN (b.push (<-p a))) c)
 |[],R,acc,c,_,o=>.pure o
 |i::l,R,acc,c,h,o=>by
  rw[CN,CN];refine aD.bind (A:=bq X.G) ((h i az R (.refl _ _)).bind λt k v v' y=>.pure ((o.mono k.sub).push y)) λt k b B w=> ?_;exact Mf l (λj x s u=>h j (by simp[x]) s (k.trans u)) w
theorem BP(fn:pO)(h:bq X.G R k o):aD X (VX X) R (ga fn k) (ga fn o):=by
 unfold ga;refine aD.bind (A:=bq X.G) ?_ λu b vs l f=> ?_
 ·rw[ax1,ax1,<-ax9,<-ax9];refine Mf _ (λr _ s j=> ?_) .nil;cases r with
  |tmp t=>exact .pure ((h.mono j.sub).getD t .undef)
  |cell a t=>exact(yZ ((h.mono j.sub).getD a .undef)).bind λv w x y p=>Me p t
 ·by_cases b:vs.size=1
  ·have c:l.size=1:=by rw[<-f.1];exact b
   simp only[b,c,dite_true];refine .pure (f.2 0 _ _ ?_ ?_)<;>simp[b,c]
  ·have c:¬l.size=1:=by rw[<-f.1];exact b
   simp only[b,c,dite_false];exact .pure f.tuple
theorem bq.map{l:Type}{G:bW->Prop}{f k:l->au}(b:Array l)(h:∀x∈b,VR G R (f x) (k x)):bq G R (b.map f) (b.map k):=by
 refine⟨az,λi v v' a c=> ?_⟩;rw[qB]at a c;cases j:b[i]? with
 |none=>rw[j]at a;cases a
 |some x=>
  rw[j]at a c;cases a;cases c;exact h x (lH j)
theorem lR.map{G:bW->Prop}{a b:bC->au}:∀(l:List (Nat×bC)),(∀p∈l,VR G R (a p.2) (b p.2))->lR G R (l.map λ(i,x)=>(i,a x)) (l.map λ(i,x)=>(i,b x))
 |[],_=>.nil
 |(i,x)::l,h=>.cons (h (i,x) az) (lR.map l λp c=>h p (by simp[c]))
theorem ZY{P:aV}{vs:List Nat}{fz:Bool}(W:X=ctx P x fz vs)(F:Al X)(hf:BR.iy X.P.globals.size R){k l:bC->au}(w:∀j,fK x j=aq->VR X.G R (k j) (l j))
  (c:Call) (t:aK) (a:Fo P x c=aq):aD X (pT X) R (do let d<-mI k c t;pL d.target d.args) (do let d<-mI l c t;pL d.target d.args):=by
 have o:X.P=P:=by rw[W];rfl
 simp only[Fo,dj]at a;obtain⟨Z,a⟩:=a;have h:bq X.G R (c.args.map k) (c.args.map l):=bq.map c.args λj hx=>w j ((jh.1 Z) j hx);unfold mI;cases p:c.callee with
 |value f=>
  rw[p]at a;have r:=w f a;dsimp only
  revert r
  generalize k f=v;generalize l f=v';intro r;cases r with
  |func g hg B H N U=>exact ZZ F hf hg ((bq.append ⟨B,H⟩ h).append ⟨N,U⟩)
  |nilFunc=>exact sE .nilDeref _ trivial
  |_=>exact .dead (.bind (.stuck _) _)
 |invoke a6 m=>rw[p]at a;cases a
 |builtin b=>
  rw[p]at a;cases b with
  |len=>exact iG (ab6 h _ _)
  |copy=>exact iG (aa3 h _ _)
  |max=>exact iG (ac0 h _ _)
  |unsafeString=>
   refine iG (ad5 h _ _ λpt a1 e s=> ?_);dsimp only at a;rw[a1]at a;dsimp only at a;rw[o]at s⊢;rw[s]at a;dsimp only at a;split at a;·assumption
   ·cases a
  |append=>
   dsimp only at a;rw[dj]at a;obtain⟨u,a⟩:=a;refine iG (ZR (λt0 e y hu=> ?_) h _ λt1 ht a2 e=> ?_)
   ·rw[y]at u;exact Px o u e hu
   ·rw[ht]at a;dsimp only at a;rw[o]at e;rw[e]at a;cases a
  |_=>cases a
theorem FP{P:aV}{vs:List Nat}{fz:Bool}(Z:X=ctx P x fz vs)(F:Al X)(hf:BR.iy X.P.globals.size R){ρ ρ':bC->au}(p:∀k,fK x k=aq->VR X.G R (ρ k) (ρ' k))(hc:∀v,ρ (.const v)=v/\ρ' (.const v)=v)(o:bR)(j:iu P x fz vs o.op=aq):aD X (pT X) R (bp ρ o) (bp ρ' o):=by
 have H:X.P=P:=by rw[Z];rfl
 have hG:∀f,X.G f↔x.contains f=true:=by intro f;rw[Z];exact xR
 have hz:X.fz=fz:=by rw[Z];rfl
 have hV:∀a7,X.vw a7↔vs.contains a7=true:=by intro f;rw[Z];exact xR
 have a8:∀{t:aK},wF P t=aq->pV X t:=λh=>Nz H h;have aa:∀{t:aK},wD P t=aq->∀e,X.P.underlying t=ae (.slice e)->pV X e:=λh=>Px H h;unfold bp;cases r:o.op with
 |move k=>rw[r]at j;exact .pure (.value (p k j))
 |assign k=>rw[r]at j;exact .pure (.value (p k j))
 |pick c a b=>
  rw[r]at j;simp only[iu,dj]at j;refine aD.bn (ZT (p c j.1.1)) λR1 u b'=>.pure (.value ?_);cases b' with
  |true=>exact(p a j.1.2).mono u.sub
  |false=>exact(p b j.2).mono u.sub
 |alloc e=>rw[r]at j;exact iG (ZQ (a8 j))
 |box e k=>rw[r]at j;exact iG (ZV (p k j) e)
 |build t ps=>
  rw[r]at j;simp only[iu,dj]at j;refine iG (ZW (a8 j.1) ?_);simp only[H5];exact lR.map _ λa1 hp=>p a1.2 ((jh.1 j.2) a1 (by simpa using hp))
 |buildSlice t n ps=>
  rw[r]at j;simp only[iu,dj]at j;refine iG (ZX (aa j.1) n ?_);simp only[H5];exact lR.map _ λa1 hp=>p a1.2 ((jh.1 j.2) a1 (by simpa using hp))
 |load t a=>rw[r]at j;exact iG (ab7 (p a j) t)
 |store t a k=>
  rw[r]at j;simp only[iu,dj]at j;exact ad4 (ac9 (p a j.1) (p k j.2) t)
 |nilCheck k=>
  rw[r]at j;have hv:=p k j;dsimp only
  revert hv
  generalize ρ k=v;generalize ρ' k=v';intro hv;cases hv with
  |pnil=>exact sE .nilDeref _ trivial
  |nilFunc=>exact sE .nilDeref _ trivial
  |anyN=>exact sE .nilDeref _ trivial
  |ptr h=>exact .pure (.value (.ptr h))
  |bool b=>exact .pure (.value (.bool b))
  |int ac n=>exact .pure (.value (.int ac n))
  |string a2=>exact .pure (.value (.string a2))
  |snil l c=>exact .pure (.value (.snil l c))
  |slice l c h=>exact .pure (.value (.slice l c h))
  |func f hg u w h3 h4=>exact .pure (.value (.func f hg u w h3 h4))
  |agg u w=>exact .pure (.value (.agg u w))
  |tuple u w=>exact .pure (.value (.tuple u w))
 |binOp op t k y yt=>
  rw[r]at j;simp only[iu,dj,qE]at j;obtain⟨⟨B,U⟩,j⟩:=j;refine iG ?_;rcases j with j|⟨he,hk⟩
  ·refine aD.bn (s:=om op t k y (ρ k) (ρ y)) (s':=om op t k y (ρ' k) (ρ' y)) ?_ λR1 u _=>ZU (u.dC hf) ((p k B).mono u.sub) ((p y U).mono u.sub) op t j;cases op<;>first|(simp only[jB,dx]at j;done)|exact .pure rfl
  ·simp only[Lu,dj,qE]at hk;obtain⟨⟨ab,a6⟩,N⟩:=hk;have j:op=.eql\/op=.neq:=by cases op<;>simp_all
   refine aa7 (p k B) (p y U) op t k y j (by rw[H];simpa using ab) (λms e=> ?_) λs W=> ?_;·rw[H]at e;rw[e]at a6;cases a6
   ·rcases N with(N|N)|N;·exact M7 10 A8 t (by rw[H,hz];exact N) bc (W.dC hf) ((p k B).mono W.sub) ((p y U).mono W.sub)
    ·have:k=.const (.pointer af):=by
      unfold isNil at N;split at N<;>first|rfl|cases N
     subst this;rw[(hc _).1,(hc _).2];exact(M8 ((p y U).mono W.sub) t).2
    ·have:y=.const (.pointer af):=by
      unfold isNil at N;split at N<;>first|rfl|cases N
     subst this;rw[(hc _).1,(hc _).2];exact(M8 ((p k B).mono W.sub) t).1
 |unOp op t k=>
  rw[r]at j;cases op<;>first|(simp only[iu,dx]at j;done)|exact iG (ac3 (p k j))|exact iG (ac2 (p k j))
 |convert a2 d k=>
  rw[r]at j;simp only[iu,dj]at j;obtain⟨B,j⟩:=j;refine iG ?_;unfold Ls at j;split at j;·rename_i u w;exact aa2 (p k B) a2 d ⟨_,by rw[H];exact u⟩ ⟨_,by rw[H];exact w⟩
  ·rename_i u w;exact ad2 (p k B) (by rw[H];exact u) (by rw[H];exact w) ((hV _).2 j)
  ·rename_i u w;exact ab2 (p k B) (by rw[H];exact u) (by rw[H];exact w) ((hV _).2 j)
  ·cases j
 |makeFunc fn a b=>
  rw[r]at j;cases fn with
  |func f=>
   simp only[iu,dj]at j;obtain⟨⟨u,w⟩,h3⟩:=j;have ha:bq X.G R (a.map ρ) (a.map ρ'):=bq.map a λk B=>p k ((jh.1 w) k B);have hb:bq X.G R (b.map ρ) (b.map ρ'):=bq.map b λk B=>p k ((jh.1 h3) k B);exact iG (.pure (.func f ((hG f).2 u) ha.1 ha.2 hb.1 hb.2))
  |_=>cases j
 |makeSlice t l c=>
  rw[r]at j;simp only[iu,dj]at j;exact iG (ab9 (aa j.1) (p l j.2.1) (p c j.2.2))
 |slice t k lo hi mx=>
  rw[r]at j;simp only[iu,dj]at j;have ov:∀(y:Option bC),y.all (fK x)=aq->mR X.G R (y.map ρ) (y.map ρ'):=by
   intro y U;cases y with
   |none=>exact trivial
   |some y=>exact p y (by simpa using U)
  exact iG (ac7 (p k j.1.1.1) t (ov _ j.1.1.2) (ov _ j.1.2) (ov _ j.2))
 |fieldAddr a2 k f=>rw[r]at j;exact iG (ab0 (p k j) a2 f)
 |field t k f=>rw[r]at j;exact iG (aa9 (p k j) t f)
 |indexAddr t k i=>
  rw[r]at j;simp only[iu,dj]at j;exact iG (ab4 (p k j.1) (p i j.2) t)
 |index t k i=>
  rw[r]at j;simp only[iu,dj]at j;exact iG (ab3 (p k j.1) (p i j.2) t)
 |extract k i=>rw[r]at j;exact iG (aa8 (p k j) i)
 |call c=>rw[r]at j;exact ZY Z F hf p c o.type j
 |_=>rw[r]at j;cases j
end
abbrev sg:=aC×List aC
def PX(P:aV)(c:aC)(h:List aC):vu->bA sg
 | .value v=>bN (c.finish v,h)
 | .skip=>bN (c.finish aN,h)
 | .enter f a=>bN (bG P f a .normal,c::h)
 |_=>iO "no plain operation"
def dA(P:aV)(c:aC)(h:List aC):bA sg:=
 match c.mode with
 | .panicking _=>iO "panicking"
 | .returning=>
  match h with
  |[]=>iO "nobody behind"
  |j::rest=>
   match P.funcs[c.fn]? with
   |some fn=>(ga fn c.tmps).bind λv=>bN (j.finish v,rest)
   |none=>iO "no function"
 | .run=>
  match c.todo with
  |[]=>bN ({c with mode:=.returning},h)
  | .code .ret::_=>bN ({c with mode:=.returning},h)
  | .code .skip::k=>bN ({c with todo:=k},h)
  | .inBlock _::k=>bN ({c with todo:=k},h)
  | .code (.seq a b)::k=>bN ({c with todo:=.code a:: .code b::k},h)
  | .code (.cond j a b)::k=>
   match c.eval j with
   | .bool t=>bN ({c with todo:=.code (if t then a else b)::k},h)
   |_=>iO "cond"
  | .code (.block id b)::k=>bN ({c with todo:=.code b:: .inBlock id::k},h)
  | .code (.loop b)::k=>bN ({c with todo:=.code b:: .inLoop b::k},h)
  | .inLoop b::k=>bN ({c with todo:=.code b:: .inLoop b::k},h)
  | .code (.exit id)::k=>
   match qL id k with
   |some l=>bN ({c with todo:=l},h)
   |none=>iO "exit"
  | .code (.region id f draw)::k=>
   if draw then(xT (.order c.fn id)).bind λt=>bN ({c with todo:=.inRegion f (zO (P.follows .mixedOrders) f t)::k},h)
   else bN ({c with todo:=.inRegion f (dn f.size)::k},h)
  | .inRegion _ []::k=>bN ({c with todo:=k},h)
  | .inRegion f (i::_)::_=>
   if((f[i]?).map (iJ · (fN f c.tmps))).getD ax then
    match f[i]? with
    |some o=>(bp c.eval o).bind (PX P c h)
    |none=>iO "no operation"
   else bN (c.finish aN,h)
  |_=>iO "no plain item"
structure Plain(c:aC):Prop where
 kind:c.kind=.normal
 round:c.roundOf=af
 defers:c.defers=[]
def aw(c:aC)(a:List aC):Goroutine:={frame:=c,callers:=a,status:=.running,dying:=af}
theorem sG{H W:Type}(P:aV)(x:bA H)(f:H->bA W)(w:ak)(t:Array bX):(x.bind f).runT P w t=match x.runT P w t with|(.ok a c,b)=>(f a).runT P c b|(.halt h c,b)=>(.halt h c,b):=jj P x f w t
theorem my(P:aV)(fn:bW):jo P fn #[]= #[]:=by simp[jo]
section
variable {P:aV} {main:Bool} {c fr1:aC} {h fs1:List aC} {w U:ak} {t:Array bX}
theorem Ca(W:Plain c)(B:List aC)(a:(dA P c h).runT P w #[]=(.ok (fr1,fs1) U,t)):aZ P main (aw c (h++B)) w=.go (aw fr1 (fs1++B)) U (jo P c.fn t):=by
 obtain⟨fn,tmps,todo,defers,mode,kind,round⟩:=c;obtain⟨s,u,x⟩:=W;dsimp only at s u x;subst s u x;cases mode with
 |panicking Z=>cases a
 |returning=>
  unfold dA at a;dsimp only at a;split at a;·cases a
  ·split at a
   ·rename_i f R;rw[sG]at a;cases b:(ga f tmps).runT P w #[]with
    |mk r N=>
     rw[b]at a;cases r with
     |halt a1 H=>cases a
     |ok v H=>
      cases a;simp[aZ,rY,aw,R,b,xP,jG, -nE]
   ·cases a
 |run=>
  unfold dA at a;dsimp only at a;split at a;·cases a;simp[aZ,fZ,aw,my]
  ·cases a;simp[aZ,fZ,aw,my]
  ·cases a;simp[aZ,fZ,aw,my]
  ·cases a;simp[aZ,fZ,aw,my]
  ·cases a;simp[aZ,fZ,aw,my]
  ·split at a
   ·rename_i j;cases a;simp[aZ,fZ,aw,my,j]
   ·cases a
  ·cases a;simp[aZ,fZ,aw,my]
  ·cases a;simp[aZ,fZ,aw,my]
  ·cases a;simp[aZ,fZ,aw,my]
  ·split at a
   ·rename_i j;cases a;simp[aZ,fZ,aw,my,j]
   ·cases a
  ·split at a
   ·rename_i k;simp only[xT,dp,eL,zN,dx,if_false]at a;cases a;simp[aZ,fZ,aw,my,k,xT,fu,zN,aA6]
   ·rename_i k;cases a;simp[aZ,fZ,aw,my,k]
  ·cases a;simp[aZ,fZ,aw,my]
  ·split at a
   ·rename_i l;split at a
    ·rename_i o y;have p:=l;rw[y]at p;simp only[hZ,lK]at p;rw[sG]at a;split at a
     ·rename_i n H N b;cases n<;>first|(cases a;done)|skip
      all_goals
       cases a;simp[aZ,fZ,Hv,rV,A5,aw,p,y,b,jG, -nE]
     ·cases a
    ·cases a
   ·rename_i l;cases a;simp[aZ,fZ,aw,my,l]
  ·cases a
def Dt(c:aC)(b:List aC)(s:GStep):Prop:=(∃o w t,s=.ended o w t)\/∃a w t,s=.go (aw (c.raise a) b) w t
def Ih:vu->Prop
 | .value _| .skip| .enter _ _=>True
 |_=>False
theorem an0(hp:Plain c)(cs:List aC){a8:Halt}(hf:∃aa,P.funcs[c.fn]?=ae aa)(hr:c.mode=.returning->h≠[])(hm:∀ch,c.mode≠ .panicking ch)(a:(dA P c h).runT P w #[]=(.halt a8 U,t))(hx:lO a8)
  (hn:∀a7 n w2 Z,c.oper?=ae a7->(bp c.eval a7).runT P w #[]=(.ok n w2,Z)->Ih n)
  (ht:∀i a2,c.todo=i::a2->(∃N,i=.code N/\match N with| .skip| .ret| .seq _ _| .cond _ _ _| .block _ _| .loop _| .exit _| .region _ _ _=>True|_=>False)\/(∃id,i=.inBlock id)\/(∃a6,i=.inLoop a6)\/∃ab l,i=.inRegion ab l):
  Dt c cs (aZ P main (aw c cs) w):=by
 obtain⟨fn,tmps,todo,defers,mode,kind,round⟩:=c;obtain⟨h1,h2,h3⟩:=hp;dsimp only at h1 h2 h3 hr hm hf ht;subst h1 h2 h3;cases mode with
 |panicking N=>exact absurd rfl (hm N)
 |returning=>
  obtain⟨aa,hf⟩:=hf;unfold dA at a;dsimp only at a;split at a;·exact absurd rfl (hr rfl)
  ·rw[hf]at a;dsimp only at a;rw[sG]at a;split at a;·cases a
   ·rename_i ad w2 Z W;left;cases ad<;>simp[aZ,rY,aw,hf,W,jG, -nE]
 |run=>
  have an:∀(ac:String) (pp:String),Dt ({fn:=fn,tmps:=tmps,todo:=todo,defers:=[],mode:=.run,kind:=.normal,roundOf:=af}:aC) cs (.ended (.stuck ac pp) w):=λac pp=>.inl ⟨_,_,_,rfl⟩;unfold dA at a;dsimp only at a;split at a;·cases a
  ·cases a
  ·cases a
  ·cases a
  ·cases a
  ·split at a;·cases a
   ·rename_i N ai a6 a2 _ hb;left;cases hv:({fn:=fn,tmps:=tmps,todo:=.code (.cond N ai a6)::a2,defers:=[],mode:=.run,kind:=.normal,roundOf:=af}:aC).eval N with
    |bool al=>exact absurd hv (hb al)
    |_=>simp[aZ,fZ,aw,hv]
  ·cases a
  ·cases a
  ·cases a
  ·split at a;·cases a
   ·rename_i hb;left;simp[aZ,fZ,aw,hb]
  ·split at a
   ·simp only[xT,dp,eL,zN,dx,if_false]at a;cases a
   ·cases a
  ·cases a
  ·split at a
   ·rename_i hw;split at a
    ·rename_i a7 R;have a1:=hw;rw[R]at a1;simp only[hZ,lK]at a1;rw[sG]at a;split at a
     ·rename_i n w2 Z W;have:=hn a7 n w2 Z (by simp[A5,R]) W;cases n<;>first|exact this.elim|cases a
     ·rename_i ad w2 Z W;cases a;cases a8 with
      |panic v=>right;simp[aZ,fZ,Hv,rV,A5,aw,a1,R,W,jG,Ho, -nE]
      |stuck v=>left;simp[aZ,fZ,Hv,rV,A5,aw,a1,R,W,jG, -nE]
      |unsupported am=>
       left;cases am<;>first|exact hx.elim|simp[aZ,fZ,Hv,rV,A5,aw,a1,R,W,jG, -nE]
      |_=>exact hx.elim
    ·rename_i R;rw[R]at hw;cases hw
   ·cases a
  ·rename_i b p r s u x y B H f j k o;exfalso;cases todo with
   |nil=>exact b rfl
   |cons i a2=>
    rcases ht i a2 rfl with⟨N,rfl,hc⟩|⟨id,rfl⟩|⟨a6,rfl⟩|⟨ab,l,rfl⟩;·cases N<;>first|exact hc.elim|exact b rfl|exact b _ rfl|exact b _ _ rfl|exact b _ _ _ rfl|exact b _ _ _ _ rfl|exact b _ _ _ _ _ rfl|exact p rfl|exact p _ rfl|exact p _ _ rfl|exact p _ _ _ rfl|exact p _ _ _ _ rfl|exact p _ _ _ _ _ rfl|exact r rfl|exact r _ rfl|exact r _ _ rfl|exact r _ _ _ rfl|exact r _ _ _ _ rfl|exact r _ _ _ _ _ rfl|exact s rfl|exact s _ rfl|exact s _ _ rfl|exact s _ _ _ rfl|exact s _ _ _ _ rfl|exact s _ _ _ _ _ rfl|exact u rfl|exact u _ rfl|exact u _ _ rfl|exact u _ _ _ rfl|exact u _ _ _ _ rfl|exact u _ _ _ _ _ rfl|exact x rfl|exact x _ rfl|exact x _ _ rfl|exact x _ _ _ rfl|exact x _ _ _ _ rfl|exact x _ _ _ _ _ rfl|exact y rfl|exact y _ rfl|exact y _ _ rfl|exact y _ _ _ rfl|exact y _ _ _ _ rfl|exact y _ _ _ _ _ rfl|exact B rfl|exact B _ rfl|exact B _ _ rfl|exact B _ _ _ rfl|exact B _ _ _ _ rfl|exact B _ _ _ _ _ rfl|exact H rfl|exact H _ rfl|exact H _ _ rfl|exact H _ _ _ rfl|exact H _ _ _ _ rfl|exact H _ _ _ _ _ rfl|exact f rfl|exact f _ rfl|exact f _ _ rfl|exact f _ _ _ rfl|exact f _ _ _ _ rfl|exact f _ _ _ _ _ rfl|exact j rfl|exact j _ rfl|exact j _ _ rfl|exact j _ _ _ rfl|exact j _ _ _ _ rfl|exact j _ _ _ _ _ rfl|exact k rfl|exact k _ rfl|exact k _ _ rfl|exact k _ _ _ rfl|exact k _ _ _ _ rfl|exact k _ _ _ _ _ rfl|exact o rfl|exact o _ rfl|exact o _ _ rfl|exact o _ _ _ rfl|exact o _ _ _ _ rfl|exact o _ _ _ _ _ rfl
    ·first|exact b rfl|exact b _ rfl|exact b _ _ rfl|exact b _ _ _ rfl|exact b _ _ _ _ rfl|exact b _ _ _ _ _ rfl|exact p rfl|exact p _ rfl|exact p _ _ rfl|exact p _ _ _ rfl|exact p _ _ _ _ rfl|exact p _ _ _ _ _ rfl|exact r rfl|exact r _ rfl|exact r _ _ rfl|exact r _ _ _ rfl|exact r _ _ _ _ rfl|exact r _ _ _ _ _ rfl|exact s rfl|exact s _ rfl|exact s _ _ rfl|exact s _ _ _ rfl|exact s _ _ _ _ rfl|exact s _ _ _ _ _ rfl|exact u rfl|exact u _ rfl|exact u _ _ rfl|exact u _ _ _ rfl|exact u _ _ _ _ rfl|exact u _ _ _ _ _ rfl|exact x rfl|exact x _ rfl|exact x _ _ rfl|exact x _ _ _ rfl|exact x _ _ _ _ rfl|exact x _ _ _ _ _ rfl|exact y rfl|exact y _ rfl|exact y _ _ rfl|exact y _ _ _ rfl|exact y _ _ _ _ rfl|exact y _ _ _ _ _ rfl|exact B rfl|exact B _ rfl|exact B _ _ rfl|exact B _ _ _ rfl|exact B _ _ _ _ rfl|exact B _ _ _ _ _ rfl|exact H rfl|exact H _ rfl|exact H _ _ rfl|exact H _ _ _ rfl|exact H _ _ _ _ rfl|exact H _ _ _ _ _ rfl|exact f rfl|exact f _ rfl|exact f _ _ rfl|exact f _ _ _ rfl|exact f _ _ _ _ rfl|exact f _ _ _ _ _ rfl|exact j rfl|exact j _ rfl|exact j _ _ rfl|exact j _ _ _ rfl|exact j _ _ _ _ rfl|exact j _ _ _ _ _ rfl|exact k rfl|exact k _ rfl|exact k _ _ rfl|exact k _ _ _ rfl|exact k _ _ _ _ rfl|exact k _ _ _ _ _ rfl|exact o rfl|exact o _ rfl|exact o _ _ rfl|exact o _ _ _ rfl|exact o _ _ _ _ rfl|exact o _ _ _ _ _ rfl
    ·first|exact b rfl|exact b _ rfl|exact b _ _ rfl|exact b _ _ _ rfl|exact b _ _ _ _ rfl|exact b _ _ _ _ _ rfl|exact p rfl|exact p _ rfl|exact p _ _ rfl|exact p _ _ _ rfl|exact p _ _ _ _ rfl|exact p _ _ _ _ _ rfl|exact r rfl|exact r _ rfl|exact r _ _ rfl|exact r _ _ _ rfl|exact r _ _ _ _ rfl|exact r _ _ _ _ _ rfl|exact s rfl|exact s _ rfl|exact s _ _ rfl|exact s _ _ _ rfl|exact s _ _ _ _ rfl|exact s _ _ _ _ _ rfl|exact u rfl|exact u _ rfl|exact u _ _ rfl|exact u _ _ _ rfl|exact u _ _ _ _ rfl|exact u _ _ _ _ _ rfl|exact x rfl|exact x _ rfl|exact x _ _ rfl|exact x _ _ _ rfl|exact x _ _ _ _ rfl|exact x _ _ _ _ _ rfl|exact y rfl|exact y _ rfl|exact y _ _ rfl|exact y _ _ _ rfl|exact y _ _ _ _ rfl|exact y _ _ _ _ _ rfl|exact B rfl|exact B _ rfl|exact B _ _ rfl|exact B _ _ _ rfl|exact B _ _ _ _ rfl|exact B _ _ _ _ _ rfl|exact H rfl|exact H _ rfl|exact H _ _ rfl|exact H _ _ _ rfl|exact H _ _ _ _ rfl|exact H _ _ _ _ _ rfl|exact f rfl|exact f _ rfl|exact f _ _ rfl|exact f _ _ _ rfl|exact f _ _ _ _ rfl|exact f _ _ _ _ _ rfl|exact j rfl|exact j _ rfl|exact j _ _ rfl|exact j _ _ _ rfl|exact j _ _ _ _ rfl|exact j _ _ _ _ _ rfl|exact k rfl|exact k _ rfl|exact k _ _ rfl|exact k _ _ _ rfl|exact k _ _ _ _ rfl|exact k _ _ _ _ _ rfl|exact o rfl|exact o _ rfl|exact o _ _ rfl|exact o _ _ _ rfl|exact o _ _ _ _ rfl|exact o _ _ _ _ _ rfl
    ·cases l<;>first|exact b rfl|exact b _ rfl|exact b _ _ rfl|exact b _ _ _ rfl|exact b _ _ _ _ rfl|exact b _ _ _ _ _ rfl|exact p rfl|exact p _ rfl|exact p _ _ rfl|exact p _ _ _ rfl|exact p _ _ _ _ rfl|exact p _ _ _ _ _ rfl|exact r rfl|exact r _ rfl|exact r _ _ rfl|exact r _ _ _ rfl|exact r _ _ _ _ rfl|exact r _ _ _ _ _ rfl|exact s rfl|exact s _ rfl|exact s _ _ rfl|exact s _ _ _ rfl|exact s _ _ _ _ rfl|exact s _ _ _ _ _ rfl|exact u rfl|exact u _ rfl|exact u _ _ rfl|exact u _ _ _ rfl|exact u _ _ _ _ rfl|exact u _ _ _ _ _ rfl|exact x rfl|exact x _ rfl|exact x _ _ rfl|exact x _ _ _ rfl|exact x _ _ _ _ rfl|exact x _ _ _ _ _ rfl|exact y rfl|exact y _ rfl|exact y _ _ rfl|exact y _ _ _ rfl|exact y _ _ _ _ rfl|exact y _ _ _ _ _ rfl|exact B rfl|exact B _ rfl|exact B _ _ rfl|exact B _ _ _ rfl|exact B _ _ _ _ rfl|exact B _ _ _ _ _ rfl|exact H rfl|exact H _ rfl|exact H _ _ rfl|exact H _ _ _ rfl|exact H _ _ _ _ rfl|exact H _ _ _ _ _ rfl|exact f rfl|exact f _ rfl|exact f _ _ rfl|exact f _ _ _ rfl|exact f _ _ _ _ rfl|exact f _ _ _ _ _ rfl|exact j rfl|exact j _ rfl|exact j _ _ rfl|exact j _ _ _ rfl|exact j _ _ _ _ rfl|exact j _ _ _ _ _ rfl|exact k rfl|exact k _ rfl|exact k _ _ rfl|exact k _ _ _ rfl|exact k _ _ _ _ rfl|exact k _ _ _ _ _ rfl|exact o rfl|exact o _ rfl|exact o _ _ rfl|exact o _ _ _ rfl|exact o _ _ _ _ rfl|exact o _ _ _ _ _ rfl
end
def lA(P:aV)(h:List Nat)(fz:Bool)(vs:List Nat):dP->Bool
 | .code c=>mi P h fz vs c
 | .inBlock _=>aq
 | .inLoop b=>mi P h fz vs b
 | .inRegion a _=>a.all λo=>iu P h fz vs o.op
 |_=>ax
structure Good(X:Ctx)(P:aV)(h:List Nat)(fz:Bool)(vs:List Nat):Prop where
 hX:X=ctx P h fz vs
 F:Al X
 code:∀f fn c,X.G f->X.P.funcs[f]?=ae fn->fn.body=ae c->mi P h fz vs c=aq
structure fP(X:Ctx)(P:aV)(h:List Nat)(fz:Bool)(vs:List Nat)(R:BR)(c j:aC):Prop where
 fn:j.fn=c.fn
 g:∃f,X.P.funcs[c.fn]?=ae f
 todo:j.todo=c.todo
 items:∀i∈c.todo,lA P h fz vs i=aq
 p:Plain c
 p':Plain j
 mode:j.mode=c.mode
 nm:c.mode=.run\/c.mode=.returning
 tmps:bq X.G R c.tmps j.tmps
inductive pP (X:Ctx) (P:aV) (h:List Nat) (fz:Bool) (vs:List Nat) (R:BR):List aC->List aC->Prop
 |nil:pP X P h fz vs R [] []
 |cons {c j:aC} {l f:List aC}:fP X P h fz vs R c j->c.mode=.run->pP X P h fz vs R l f->pP X P h fz vs R (c::l) (j::f)
def kL(X:Ctx)(P:aV)(h:List Nat)(fz:Bool)(vs:List Nat)(R:BR)(s a:sg):Prop:=fP X P h fz vs R s.1 a.1/\pP X P h fz vs R s.2 a.2
section
variable {X:Ctx} {P:aV} {h vs:List Nat} {fz:Bool} {R s:BR} {c j:aC} {l f:List aC} {v v':au}
theorem fP.mono(a:fP X P h fz vs R c j)(b:BR.Sub R s):fP X P h fz vs s c j:=⟨a.fn,a.g,a.todo,a.items,a.p,a.p',a.mode,a.nm,a.tmps.mono b⟩
theorem pP.mono(a:pP X P h fz vs R l f)(j:BR.Sub R s):pP X P h fz vs s l f:=by
 induction a with
 |nil=>exact .nil
 |cons b c _ k=>exact .cons (b.mono j) c k
theorem fP.pB(a:fP X P h fz vs R c j){k:List dP}(b:∀i∈k,lA P h fz vs i=aq):fP X P h fz vs R {c with todo:=k} {j with todo:=k}:=⟨a.fn,a.g,rfl,b,⟨a.p.kind,a.p.round,a.p.defers⟩,⟨a.p'.kind,a.p'.round,a.p'.defers⟩,a.mode,a.nm,a.tmps⟩
theorem fP.ret(a:fP X P h fz vs R c j):fP X P h fz vs R {c with mode:=.returning} {j with mode:=.returning}:=⟨a.fn,a.g,a.todo,a.items,⟨a.p.kind,a.p.round,a.p.defers⟩,⟨a.p'.kind,a.p'.round,a.p'.defers⟩,rfl,.inr rfl,a.tmps⟩
theorem fP.finish(a:fP X P h fz vs R c j)(u:VR X.G R v v'):fP X P h fz vs R (c.finish v) (j.finish v')/\(c.finish v).mode=c.mode:=by
 obtain⟨fn,tmps,todo,defers,mode,kind,round⟩:=c;obtain⟨U,a2,B,N,Z,W,a1⟩:=j;have r:=a.todo;have l:=a.items;dsimp only at r l;subst r;unfold qH;dsimp only;cases B with
 |nil=>exact⟨a,rfl⟩
 |cons i k=>
  have f:=l i az;have s:∀i∈k,lA P h fz vs i=true:=λi t=>l i (by simp[t]);cases i with
  |code H=>exact⟨a,rfl⟩
  |inBlock id=>exact⟨a,rfl⟩
  |inLoop b=>exact⟨a,rfl⟩
  |inRegion y todo=>
   cases todo with
   |nil=>exact⟨a,rfl⟩
   |cons w rest=>
    refine⟨⟨a.fn,a.g,rfl,λx o=> ?_,⟨a.p.kind,a.p.round,a.p.defers⟩,⟨a.p'.kind,a.p'.round,a.p'.defers⟩,a.mode,a.nm,?_⟩,rfl⟩
    ·rcases dk.1 o with rfl|o;·exact f
     ·exact s x o
    ·dsimp only;cases (y[w]?).bind (·.dst)with
     |none=>exact a.tmps
     |some d=>exact a.tmps.set d u
  |inScope _=>cases f
  |inRangeFunc _=>cases f
  |endRangeFunc _=>cases f
  |beginRound=>cases f
  |call _ _ _ _=>cases f
  |extern _ _=>cases f
theorem fP.eval(G:Good X P h fz vs)(b:fP X P h fz vs R c j)(x:bC)(a:fK h x=aq):VR X.G R (c.eval x) (j.eval x):=by
 cases x with
 |tmp t=>exact b.tmps.getD t .undef
 |const v=>exact Fs a
 |global g=>cases a
 |func f=>exact .func f (by rw[G.hX];exact a) rfl (λi v v' e=>by simp at e) rfl λi v v' e=>by simp at e
theorem au3(h:bq X.G R k o)(a:Array bR)(j:Nat):fN a o j=fN a k j:=by
 unfold fN;cases f:(a[j]?).bind (·.dst)with
 |none=>rfl
 |some d=>
  simp only[qD];cases b:k[d]? with
  |none=>rw[h.none b]
  |some v=>
   obtain⟨v',e,c⟩:=h.get b;rw[e];cases c<;>rfl
theorem Fq{id:Nat}:∀{k c:List dP},qL id k=ae c->(∀i∈k,lA P h fz vs i=aq)->∀i∈c,lA P h fz vs i=aq
 |[],_,a,_=>by cases a
 |i::k,c,a,f=>by
  have b:∀i∈k,lA P h fz vs i=true:=λi j=>f i (by simp[j]);unfold qL at a;split at a
  ·rename_i e;cases e;split at a;·cases a;exact b
   ·exact Fq a b
  ·rename_i e;cases e;exact Fq a b
  ·rename_i e;cases e
theorem fP.enter(G:Good X P h fz vs)(p:X.G u)(b:bq X.G R k o)(l:∃fn c,X.P.funcs[u]?=ae fn/\fn.body=ae c):fP X P h fz vs R (bG X.P u k .normal) (bG X.P u o .normal):=by
 obtain⟨fn,c,a,f⟩:=l;refine⟨rfl,⟨fn,a⟩,rfl,λi j=> ?_,⟨rfl,rfl,rfl⟩,⟨rfl,rfl,rfl⟩,rfl,.inl rfl,?_⟩
 ·simp only[bG,a,qD,f,lK,xn]at j;subst j;exact G.code u fn c p a f
 ·simp only[bG];rw[b.1];exact b.append (bq.replicate _ .undef)
theorem BQ(G:Good X P h fz vs)(H:BR.iy X.P.globals.size R)(o:fP X P h fz vs R c j)(p:pP X P h fz vs R l f):aD X (kL X P h fz vs) R (dA X.P c l) (dA X.P j f):=by
 obtain⟨fn,tmps,todo,defers,mode,kind,round⟩:=c;obtain⟨al,ab,ac,ai,ao,an,ap⟩:=j;have N:=o.mode;have ht:=o.todo;have s:=o.items;have a6:=o.fn;have a7:=o.nm;dsimp only at N ht s a6 a7;subst N ht a6;rcases a7 with rfl|rfl
 ·unfold dA;dsimp only;cases ac with
  |nil=>exact .pure ⟨o.ret,p⟩
  |cons i k=>
   have r:=s i az;have x:∀i∈k,lA P h fz vs i=true:=λi N=>s i (by simp[N]);have U:∀{a b:dP},lA P h fz vs a=aq->lA P h fz vs b=aq->∀i∈a::b::k,lA P h fz vs i=true:=by
    intro a b B W i s;simp only[dk]at s;rcases s with rfl|rfl|s;·exact B
    ·exact W
    ·exact x i s
   have one:∀{a:dP},lA P h fz vs a=aq->∀i∈a::k,lA P h fz vs i=true:=by
    intro a B i s;rcases dk.1 s with rfl|s;·exact B
    ·exact x i s
   cases i with
   |code y=>
    cases y with
    |skip=>exact .pure ⟨o.pB x,p⟩
    |ret=>exact .pure ⟨o.ret,p⟩
    |seq a b=>
     simp only[lA,mi,dj]at r;exact .pure ⟨o.pB (U (a:=.code a) (b:=.code b) r.1 r.2),p⟩
    |cond y a b=>
     simp only[lA,mi,dj]at r;have u:=o.eval G y r.1.1;dsimp only
     revert u
     generalize xI _ y=v;generalize xI _ y=v';intro u;cases u with
     |bool a2=>
      refine .pure ⟨o.pB (one (a:=.code (if a2 then a else b)) ?_),p⟩;cases a2;·exact r.2
      ·exact r.1.2
     |_=>exact bu _ _
    |block id b=>exact .pure ⟨o.pB (U (a:=.code b) (b:=.inBlock id) r rfl),p⟩
    |loop b=>exact .pure ⟨o.pB (U (a:=.code b) (b:=.inLoop b) r r),p⟩
    |exit id=>
     dsimp only;cases he:qL id k with
     |none=>exact bu _ _
     |some k'=>exact .pure ⟨o.pB (Fq he x),p⟩
    |region id w draw=>
     cases draw with
     |true=>exact aD.choose λa2=>.pure ⟨o.pB (one (a:=.inRegion w _) r),p⟩
     |false=>exact .pure ⟨o.pB (one (a:=.inRegion w _) r),p⟩
    |_=>cases r
   |inBlock id=>exact .pure ⟨o.pB x,p⟩
   |inLoop b=>exact .pure ⟨o.pB (U (a:=.code b) (b:=.inLoop b) r r),p⟩
   |inRegion w todo=>
    cases todo with
    |nil=>exact .pure ⟨o.pB x,p⟩
    |cons Z rest=>
     dsimp only;rw[show fN w ab=fN w tmps from funext λZ=>au3 o.tmps w Z];cases ho:w[Z]? with
     |none=>exact .pure ⟨(o.finish .undef).1,p⟩
     |some a1=>
      split
      ·dsimp only;have aa:iu P h fz vs a1.op=true:=(jh.1 r) a1 (lH ho);refine(FP G.hX G.F H (λad hx=>o.eval G ad hx) (λv=>⟨rfl,rfl⟩) a1 aa).bind λR1 t n n' hn=> ?_;cases hn with
       |value u=>exact .pure ⟨((o.mono t.sub).finish u).1,p.mono t.sub⟩
       |skip=>exact .pure ⟨((o.mono t.sub).finish .undef).1,p.mono t.sub⟩
       |enter hg B W=>exact .pure ⟨fP.enter G hg B W,.cons (o.mono t.sub) rfl (p.mono t.sub)⟩
      ·exact .pure ⟨(o.finish .undef).1,p⟩
   |_=>cases r
 ·unfold dA;dsimp only;cases p with
  |nil=>exact bu _ _
  |cons hc am p=>
   dsimp only;obtain⟨a8,H⟩:=o.g;dsimp only at H;rw[H];exact(BP a8 o.tmps).bind λR1 t v v' u=>.pure ⟨((hc.mono t.sub).finish u).1,p.mono t.sub⟩
end
