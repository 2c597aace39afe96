/- Own texts: SimB. -/
import Derived.Test.YtcgjppacnhmjlaaGreatMA
import GoSem.Core.Layout
import Derived.Conc.Events
set_option linter.all false
open Array renaming getElem?_modify->fV,getElem?_setIfInBounds_ne->nk,getElem?_push->xk,size_push->zS
open Bind renaming bind->eN
open Bool renaming true->aq,false->ax,false_eq_true->dx,and_eq_true->dj,or_eq_true->qE
open ByteArray renaming empty->ax6
open Except renaming pure->D3,bind->D4
open Go renaming World->ak,Value->au,TypeId->aK,Program->aV,Addr->aH,FuncId->bW,loadBytes->eQ,Event->bX,Sem->bA,stuck->iO,unsupported->va,program->qJ,variablesAt->A9,liesAt->pK,Obj->dV,rowAt->tA,shape->Ah,load->vx
open Go.Mode renaming atomic->gM,plain->Df
open Go.Result renaming halt->nD
open Go.Sem renaming bind->dp,runT_fst->fE,runT_bind'->jj,runT->eL,run->fu
open Go.World renaming setCell->eK,farStore->sZ,noCell->rU,farLoad->xz,shape?->xA,freeze->CW,viewStore->Om
open Nat renaming le_refl->aL,le_trans->bT,add_zero->th,le_succ->Hu,div_le_div_right->ay1
open Option renaming some->ae
open Pure renaming pure->bN
namespace Go.Proofs.YtcgjppacnhmjlaaGreat
open Go
namespace Sim
variable {k y:Type} {u x:Option (aK×Nat)} {l:aK} {r s:aH} {U:Nat} {f:BR} {t:ak}
structure Ctx where
 P:aV
 G:bW->Prop
 fz:Bool
 vw:aK->Prop
def lO:Halt->Prop
 | .panic _| .stuck _=>True
 | .unsupported (.initOrder _)=>False
 | .unsupported _=>True
 |_=>False
def dH(P:aV)(s:bA k):Prop:=∀w,∃h b,s.run P w=.halt h b/\lO h
def ustr{j:Type}(a:aH)(e:aK)(n:Nat)(k:ByteArray->bA j):bA j:=
 (A9 a e n).bind λb=>if b=aq then(eQ a .empty n).bind λs=>.freeze a n (k s)else va (.unsafePointer "String: not so many bytes at ptr")
def mN(P:aV)(t:aK):Prop:=∃c off e n,P.underlying e=ae (.int .u8)/\pK P P.depth t c off e n=aq
def ShR(X:Ctx)(s b:Option (aK×Nat)):Prop:=b=s\/(X.fz=ax/\(∀u,¬X.vw u)/\∃e n a,s=ae (e,n)/\b=ae (e,a)/\n<=a)
variable {c:Ctx}
theorem ShR.fz(h:ShR c u x)(b:c.fz=aq):x=u:=h.elim id λa=>by rw[b]at a;cases a.1
theorem ShR.vw(h:ShR c u x)(a:c.vw l):x=u:=h.elim id λb=>absurd a (b.2.1 l)
inductive aD (X:Ctx) {j o:Type} (A:BR->j->o->Prop):BR->bA j->bA o->Prop
 |pure {R:BR} {a:j} {b:o}:A R a b->aD X A R (.pure a) (.pure b)
 |load {R:BR} {m:Mode} {a h:aH} {k:au->bA j} {k':au->bA o}:AR R a h->(∀v p,VR X.G R v p->aD X A R (k v) (k' p))->aD X A R (.load m a k) (.load m h k')
 |store {R:BR} {m:Mode} {a h:aH} {v p:au} {k:bA j} {k':bA o}:AR R a h->VR X.G R v p->aD X A R k k'->aD X A R (.store m a v k) (.store m h p k')
 |new {R:BR} {c c':Array au} {e:aK} {k:Nat->bA j} {k':Nat->bA o}:bq X.G R c c'->(∀r r',(∀b,¬R r b)->(∀a,¬R a r')->X.P.globals.size<=r->X.P.globals.size<=r'->aD X A (R.add r r') (k r) (k' r'))->aD X A R (.new (.cells c e) k) (.new (.cells c' e) k')
 |newN {R:BR} {x x':aH} {l:Bool} {k:Nat->bA j} {k':Nat->bA o}:AR R x x'->(∀r r',(∀b,¬R r b)->(∀a,¬R a r')->X.P.globals.size<=r->X.P.globals.size<=r'->aD X A (R.add r r') (k r) (k' r'))->aD X A R (.new (.number x l) k) (.new (.number x' l) k')
 |newV {R:BR} {x x':aH} {u:aK} {k:Nat->bA j} {k':Nat->bA o}:X.vw u->AR R x x'->(∀r r',(∀b,¬R r b)->(∀a,¬R a r')->X.P.globals.size<=r->X.P.globals.size<=r'->aD X A (R.add r r') (k r) (k' r'))->aD X A R (.new (.view x u) k) (.new (.view x' u) k')
 |getN {R:BR} {r r':Nat} {k:dV->bA j} {k':dV->bA o}:R r r'->(∀x x' l,AR R x x'->aD X A R (k (.number x l)) (k' (.number x' l)))->(∀x x' u,X.vw u->AR R x x'->aD X A R (k (.view x u)) (k' (.view x' u)))->aD X A R (.getObj r k) (.getObj r' k')
 |shape {R:BR} {r r':Nat} {k:Option (aK×Nat)->bA j} {k':Option (aK×Nat)->bA o}:R r r'->(∀s s',ShR X s s'->aD X A R (k s) (k' s'))->aD X A R (.shape r k) (.shape r' k')
 |ustr {R:BR} {a h:aH} {e:aK} {n:Nat} {k:ByteArray->bA j} {k':ByteArray->bA o}:AR R a h->X.P.underlying e=ae (.int .u8)->(∀s,aD X A R (k s) (k' s))->aD X A R (ustr a e n k) (ustr h e n k')
 |frozen {R:BR} {a h:aH} {k:Bool->bA j} {k':Bool->bA o}:X.fz=aq->AR R a h->(∀b,aD X A R (k b) (k' b))->aD X A R (.frozen a k) (.frozen h k')
 |choose {R:BR} {q:Question} {k:Nat->bA j} {k':Nat->bA o}:(∀n,aD X A R (k n) (k' n))->aD X A R (.choose q k) (.choose q k')
 |program {R:BR} {k:aV->bA j} {k':aV->bA o}:aD X A R (k X.P) (k' X.P)->aD X A R (.program k) (.program k')
 |mark {R:BR} {m:Mark} {k:bA j} {k':bA o}:(m=.noRoom\/∃f,m=.extern f)->aD X A R k k'->aD X A R (.mark m k) (.mark m k')
 |dead {R:BR} {s:bA j} {s':bA o}:dH X.P s->aD X A R s s'
theorem run_bind(P:aV)(f:k->bA y):∀(s:bA k) (w:ak),(s.bind f).run P w=match s.run P w with| .ok a b=>(f a).run P b| .halt h b=>.halt h b:=by
 intro s;induction s with
 |pure a=>intro w;rfl
 |load m a l j=>
  intro w;simp only[dp,fu];cases w.cell? a with
  |some v=>exact j v w
  |none=>dsimp only;cases w.farLoad P a (m==gM)with
   |ok x=>exact j x.1 w
   |error h=>rfl
 |store m a v l j=>
  intro w
  have key:(match w.cell? a with
    |some _=>if w.frozen? a then nD (.unsupported (.unsafePointer "a write to bytes that a string shares")) w else(l.bind f).run P (w.setCell a v)
    |none=>match w.farStore P a v (m==gM)with
     | .ok (w,_)=>(l.bind f).run P w
     | .error h=>nD h w)=(match (match w.cell? a with
    |some _=>if w.frozen? a then nD (.unsupported (.unsafePointer "a write to bytes that a string shares")) w else l.run P (w.setCell a v)
    |none=>match w.farStore P a v (m==gM)with
     | .ok (w,_)=>l.run P w
     | .error h=>nD h w)with| .ok a b=>(f a).run P b| .halt h b=>.halt h b):=by
   cases w.cell? a with
   |some x=>
         dsimp only;split;·rfl
         ·exact j _
   |none=>dsimp only;cases w.farStore P a v (m==gM)with
    |ok x=>exact j x.1
    |error h=>rfl
  cases v<;>first|rfl|exact key
 |new o l j=>intro w;exact j _ _
 |shape r l j=>intro w;exact j _ _
 |freeze a n l j=>intro w;exact j _
 |frozen a l j=>intro w;exact j _ _
 |getObj r l j=>
  intro w;simp only[dp,fu];cases w.heap[r]? with
  |none=>rfl
  |some o=>cases o<;>first|rfl|exact j _ _
 |setObj r o l j=>
  intro w;simp only[dp,fu];cases w.heap[r]? with
  |none=>rfl
  |some o=>cases o<;>first|rfl|exact j _
 |choose q l j=>
  intro w;simp only[dp,fu];split;·exact j _ _
  ·exact j _ _
 |sys c l j=>intro w;exact j _ _
 |program l j=>intro w;exact j _ _
 |mark m l j=>intro w;exact j _
 |halt h=>intro w;rfl
theorem mw{j o H:Type}(f:j->bA o)(g:o->bA H):∀s:bA j,(s.bind f).bind g=s.bind λa=>(f a).bind g
 | .pure a=>rfl
 | .load m a k=>by simp only[dp,mw f g]
 | .store m a v k=>by simp only[dp,mw f g]
 | .new b k=>by simp only[dp,mw f g]
 | .shape r k=>by simp only[dp,mw f g]
 | .freeze a n k=>by simp only[dp,mw f g]
 | .frozen a k=>by simp only[dp,mw f g]
 | .getObj r k=>by simp only[dp,mw f g]
 | .setObj r b k=>by simp only[dp,mw f g]
 | .choose q k=>by simp only[dp,mw f g]
 | .sys c k=>by simp only[dp,mw f g]
 | .program k=>by simp only[dp,mw f g]
 | .mark m k=>by simp only[dp,mw f g]
 | .halt h=>rfl
theorem Nr(a:aH)(e:aK)(n:Nat)(c:ByteArray->bA k)(f:k->bA y):(ustr a e n c).bind f=ustr a e n λs=>(c s).bind f:=by
 unfold ustr;rw[mw];congr 1;funext b;cases b with
 |true=>simp only[if_true];rw[mw];rfl
 |false=>rfl
section
variable {X:Ctx} {j o H W:Type}
theorem dH.bind{P:aV}{s:bA j}(h:dH P s)(f:j->bA o):dH P (s.bind f):=λw=>by
 obtain⟨x,b,a,c⟩:=h w;exact⟨x,b,by rw[run_bind,a],c⟩
theorem dH.stuck{P:aV}(a:String):dH P (iO a:bA j):=λw=>⟨_,w,rfl,trivial⟩
theorem dH.unsupported{P:aV}(u:Unsupported)(h:∀g,u≠ .initOrder g):dH P (va u:bA j):=λw=>⟨_,w,rfl,by unfold lO;cases u<;>first|trivial|exact absurd rfl (h _)⟩
theorem aD.bind{A:BR->j->o->Prop}{B:BR->H->W->Prop}{R:BR}{s:bA j}{s':bA o}{a1:j->bA H}{f':o->bA W}(a2:aD X A R s s'):(∀f,BR.Ext X.P.globals.size R f->∀a b,A f a b->aD X B f (a1 a) (f' b))->aD X B R (s.bind a1) (s'.bind f'):=by
 induction a2 with
 |pure a2=>intro k;exact k _ (.refl _ _) _ _ a2
 |load y _ c=>intro k;exact .load y λv p hv=>c v p hv k
 |store y hv _ c=>intro k;exact .store y hv (c k)
 |new U _ c=>intro k;exact .new U λr w h l t u=>c r w h l t u λf N=>k f (BR.Ext.trans ⟨BR.gF _ r w,λx=>x.add h l t u⟩ N)
 |newN U _ c=>intro k;exact .newN U λr w h l t u=>c r w h l t u λf N=>k f (BR.Ext.trans ⟨BR.gF _ r w,λx=>x.add h l t u⟩ N)
 |newV Z U _ c=>intro k;exact .newV Z U λr w h l t u=>c r w h l t u λf N=>k f (BR.Ext.trans ⟨BR.gF _ r w,λx=>x.add h l t u⟩ N)
 |getN hr _ _ c a6=>intro k;exact .getN hr (λx x' a7 hx=>c x x' a7 hx k) λx x' a8 Z hx=>a6 x x' a8 Z hx k
 |shape hr _ c=>intro k;exact .shape hr λs s' N=>c s s' N k
 |ustr y hu _ c=>intro k;rw[Nr,Nr];exact .ustr y hu λs=>c s k
 |frozen Z y _ c=>intro k;exact .frozen Z y λb=>c b k
 |choose _ c=>intro k;exact .choose λn=>c n k
 |program _ c=>intro k;exact .program (c k)
 |mark hm _ c=>intro k;exact .mark hm (c k)
 |dead hd=>intro _;exact .dead (hd.bind a1)
end
theorem ai3(P:aV):∀(s:bA k)(w:ak){a:k} {j:ak},s.run P w=.ok a j->w.drawn<=j.drawn:=by
 have ask:∀{o:Type}(x:Ask o) (w:ak),w.drawn<=(w.ask x).2.drawn:=by
  intro o x;induction x with
  |done a=>intro w;exact aL _
  |ask q r p f=>
   intro w;simp only[World.ask];split;·exact f _ _
   ·exact bT (Hu _) (f _ {w with drawn:=w.drawn+1})
 have B:∀(w:ak) (c:Sys),w.drawn<=(w.sys c).2.drawn:=by
  intro w c;unfold World.sys;have:=ask (Kernel.perform c w.os) w;split;·exact aL _
  ·rename_i e;rw[e]at this;exact this
 have yl:∀(w t:ak)(a:aH)(v:au)(b:Bool) (l:List aH),w.farStore P a v b=.ok (t,l)->w.drawn<=t.drawn:=by
  intro w t a v b l h;unfold sZ at h;split at h
  ·split at h
   ·rename_i e;cases h;unfold Om at e;simp only[eN,D4,bN,D3]at e
    repeat' split at e
    all_goals first|cases e|skip
    all_goals exact aL _
   ·cases h
  ·cases h
 intro s;induction s with
 |pure a=>intro w a j h;cases h;exact aL _
 |load m a p f=>
  intro w x j h;simp only[fu]at h;split at h;·exact f _ _ h
  ·split at h;·exact f _ _ h
   ·cases h
 |store m a v p f=>
  intro w x j h
  have key:(match w.cell? a with
    |some _=>if w.frozen? a then nD (.unsupported (.unsafePointer "a write to bytes that a string shares")) w else p.run P (w.setCell a v)
    |none=>match w.farStore P a v (m==gM)with
     | .ok (w,_)=>p.run P w
     | .error h=>nD h w)=.ok x j->w.drawn<=j.drawn:=by
   intro h;split at h
   ·split at h;·cases h
    ·exact f (w.setCell a v) h
   ·split at h;·rename_i t l e;exact bT (yl _ _ _ _ _ _ e) (f _ h)
    ·cases h
  cases v<;>first|exact key h|(simp only[fu]at h;cases h)
 |new u p f=>intro w x j h;exact f _ {w with heap:=w.heap.push u} h
 |shape r p f=>intro w x j h;exact f _ _ h
 |freeze a n p f=>
  intro w x j h;have:=f _ h;unfold CW at this;split at this<;>exact this
 |frozen a p f=>intro w x j h;exact f _ _ h
 |getObj r p f=>
  intro w x j h;simp only[fu]at h;split at h;·cases h
  ·exact f _ _ h
  ·cases h
 |setObj r u p f=>
  intro w x j h;simp only[fu]at h;split at h;·cases h
  ·exact f {w with heap:=w.heap.setIfInBounds r u} h
  ·cases h
 |choose q p f=>
  intro w x j h;simp only[fu]at h;split at h;·exact f _ _ h
  ·exact bT (Hu _) (f _ {w with drawn:=w.drawn+1} h)
 |sys c p f=>intro w x j h;exact bT (B w c) (f _ _ h)
 |program p f=>intro w x j h;exact f _ _ h
 |mark m p f=>intro w x j h;exact f _ h
 |halt h=>intro w x j y;cases y
section
variable {B V:aK->Prop} {N:Nat} {G:bW->Prop} {R:BR} {S:Nat->Nat->Prop} {w b:ak} {a h:aH} {v p:au}
theorem mz(w:ak)(a:aH)(v:au)(b:Nat):(w.setCell a v).heap[b]?=if a.block=b then(w.heap[b]?).map (fun| .cells c elem frozen=>.cells (if a.spot.isSome then c else c.setIfInBounds a.off v) elem frozen|o=>o)else w.heap[b]?:=by
 unfold eK;rw[fV];split;·congr 1
 ·rfl
theorem wV(w:ak)(a:aH)(v:au):(w.setCell a v).heap.size=w.heap.size:=by
 unfold eK;simp
theorem WR.set(c:WR V N G R S w b)(s:AR R a h)(hv:VR G R v p){v0:au}(hc:w.cell? a=ae v0)(hf:w.frozen? a=ax):WR V N G R S (w.setCell a v) (b.setCell h p)/\jr B S R R w b (w.setCell a v) (b.setCell h p):=by
 have a8:¬S a.block a.off:=λZ=>by rw[c.ML s Z hc]at hf;cases hf
 refine⟨⟨c.dC,by rw[wV,wV];exact c.low,λx i t=>by rw[wV];exact c.sl x i t,λx y u=> ?_⟩,.refl R,λ_ _ c=>.inl c,by rw[wV];exact aL _,by rw[wV];exact aL _,
  λaa l k=>by rw[wV]at k;omega,λaa hb W=> ?_,λx y i u Z=> ?_,λx y u a1 ab f a7=>by
   rw[mz];split;·rw[a7];exact⟨_,f,rfl,by split<;>simp,.inl rfl⟩
   ·exact⟨a1,f,a7,rfl,.inl rfl⟩,rfl,rfl,rfl,rfl,0,rfl,rfl⟩
 ·obtain⟨o,o',l,k,j⟩:=c.blk x y u;by_cases t:a.block=x
  ·subst t;have H:h.block=y:=c.dC.fn _ _ _ s.1 u;subst H;cases j with
   |cells j h0 r h5=>
    refine⟨_,_,by rw[mz,if_pos rfl,l];rfl,by rw[mz,if_pos rfl,k];rfl,.cells ?_ h0 (λW=>⟨(r W).1,by have:=(r W).2;split<;>split<;>simpa using this⟩) λi Z hi=>h5 i Z (by split at hi<;>simpa using hi)⟩;rw[s.2.2,s.2.1];split;·exact j
    ·exact j.set _ hv
   |number j r=>exact⟨_,_,by rw[mz,if_pos rfl,l];rfl,by rw[mz,if_pos rfl,k];rfl,.number j r⟩
   |view h0 j r=>exact⟨_,_,by rw[mz,if_pos rfl,l];rfl,by rw[mz,if_pos rfl,k];rfl,.view h0 j r⟩
  ·have H:h.block≠y:=λe=>t (c.dC.inj _ _ _ s.1 (e▸u));exact⟨o,o',by rw[mz,if_neg t];exact l,by rw[mz,if_neg H];exact k,j⟩
 ·rw[mz,if_neg];intro e;exact W a.block (e▸s.1)
 ·obtain⟨o,o',l,k,j⟩:=c.blk x y u;cases j with
  |number _ r=>exact absurd Z (r _)
  |view _ _ r=>exact absurd Z (r _)
  |@cells a1 c' e f f' j=>
   have bK:∀(U:Array au)(a6:Option Nat)(o:Nat) (v:au),¬S a.block o->(if a6.isSome then U else U.setIfInBounds o v).size=U.size/\∀a2,S a.block a2->(if a6.isSome then U else U.setIfInBounds o v)[a2]?=U[a2]?:=by
    intro U a6 o v W;refine⟨by split<;>simp,λa2 hj=> ?_⟩;split;·rfl
    ·rw[nk];intro e;exact W (e▸hj)
   by_cases H:h.block=y
   ·have t:a.block=x:=c.dC.inj _ _ _ s.1 (H▸u);subst H t;have k1:=bK c' h.spot h.off p (by rw[s.2.1];exact a8);have k2:=bK a1 a.spot a.off v a8;exact⟨⟨c',e,f',_,f',k,by rw[mz,if_pos rfl,k];rfl,k1.1,k1.2⟩,a1,e,f,_,f,l,by rw[mz,if_pos rfl,l];rfl,k2.1,k2.2⟩
   ·have t:a.block≠x:=λe=>H (c.dC.fn _ _ _ s.1 (e▸u));exact⟨⟨_,_,_,_,_,k,by rw[mz,if_neg H];exact k,rfl,λ_ _=>rfl⟩,_,_,_,_,_,l,by rw[mz,if_neg t];exact l,rfl,λ_ _=>rfl⟩
theorem WR.push(h:WR V N G R S w b){o s:dV}(Z:kl V G R S w.heap.size o s):WR V N G (R.add w.heap.size b.heap.size) S {w with heap:=w.heap.push o} {b with heap:=b.heap.push s}/\jr B S R (R.add w.heap.size b.heap.size) w b {w with heap:=w.heap.push o} {b with heap:=b.heap.push s}:=by
 have k:∀{h:Array dV} {o:dV} {i:Nat},i<h.size->(h.push o)[i]?=h[i]?:=λhi=>by rw[xk,if_neg ag]
 refine⟨⟨h.dC.add (λt r=>by have:=(h.lt r).1;omega) (λt r=>by have:=(h.lt r).2;omega) h.low.1 h.low.2,by simp only[zS];have:=h.low;omega,λx i hx=>by simp only[zS];exact Nat.lt_succ_of_lt (h.sl x i hx),λx y a=> ?_⟩,
  BR.gF _ _ _,λx y a=> ?_,az,az,λt l j=> ?_,λt r hn=>k r,λx y i a H=> ?_,λx y a c a1 f W=>⟨c,f,by rw[k (h.lt a).2];exact W,rfl,.inl rfl⟩,rfl,rfl,rfl,rfl,0,rfl,rfl⟩
 ·rcases a with a|⟨rfl,rfl⟩
  ·obtain⟨p,U,l,j,u⟩:=h.blk x y a;exact⟨p,U,by rw[k (h.lt a).1];exact l,by rw[k (h.lt a).2];exact j,u.mono (BR.gF _ _ _)⟩
  ·exact⟨o,s,az,az,Z.mono (BR.gF _ _ _)⟩
 ·rcases a with a|⟨rfl,rfl⟩;·exact .inl a
  ·exact .inr ⟨aL _,aL _⟩
 ·simp only[zS]at j;exact⟨w.heap.size,.inr ⟨rfl,ag⟩⟩
 ·obtain⟨p,U,l,j,u⟩:=h.blk x y a;cases u with
  |number _ v=>exact absurd H (v _)
  |view _ _ v=>exact absurd H (v _)
  |cells=>exact⟨⟨_,_,_,_,_,j,by rw[k (h.lt a).2];exact j,rfl,λ_ _=>rfl⟩,_,_,_,_,_,l,by rw[k (h.lt a).1];exact l,rfl,λ_ _=>rfl⟩
theorem WR.Bt(h:WR V N G R S w b){c a:Array au}(f:bq G R c a)(e:aK):kl V G R S w.heap.size (.cells c e) (.cells a e):=.cells f.Iy (λ_=>.inl rfl) (λ_=>⟨rfl,f.1.symm⟩) λi j _=>by have:=h.sl _ _ j;omega
theorem WR.Lg(h:WR V N G R S w b)(c:V l)(f:AR R r s):kl V G R S w.heap.size (.view r l) (.view s l):=.view c f λi a=>by have:=h.sl _ _ a;omega
theorem WR.Fc(h:WR V N G R S w b)(c:AR R r s)(l:Bool):kl V G R S w.heap.size (.number r l) (.number s l):=.number c λi a=>by have:=h.sl _ _ a;omega
theorem vK(w:ak)(a:aH)(n:Nat)(b:Nat):(w.freeze a n).heap[b]?=if n≠0/\a.block=b then(w.heap[b]?).map (fun| .cells c elem (j,f)=>.cells c elem (if j==f then(a.off,a.off+n)else(min j a.off,max f (a.off+n)))|o=>o)else w.heap[b]?:=by
 unfold CW;by_cases h:n=0;·simp[h]
 ·simp only[h,if_false,ne_eq,not_false_eq_true,true_and,fV];split;·congr 1
  ·rfl
theorem vL(w:ak)(a:aH)(n:Nat):(w.freeze a n).heap.size=w.heap.size:=by
 unfold CW;split<;>simp
theorem AW(w:ak)(a:aH)(n:Nat):(w.freeze a n).tape=w.tape/\(w.freeze a n).os=w.os/\(w.freeze a n).output=w.output/\(w.freeze a n).drawn=w.drawn:=by
 unfold CW;split<;>exact⟨rfl,rfl,rfl,rfl⟩
theorem WR.freeze(p:WR V N G R S w b)(H:AR R a h)(n:Nat)(hB:∀c t f,b.heap[h.block]?=ae (.cells c t f)->B t):WR V N G R S (w.freeze a n) (b.freeze h n)/\jr B S R R w b (w.freeze a n) (b.freeze h n):=by
 have a6:=AW w a n;have W:=AW b h n
 refine⟨⟨p.dC,by rw[vL,vL];exact p.low,λx i u=>by rw[vL];exact p.sl x i u,λx y v=> ?_⟩,.refl R,λ_ _ p=>.inl p,by rw[vL];exact aL _,by rw[vL];exact aL _,
  λa7 k j=>by rw[vL]at j;omega,λa7 hb r=> ?_,λx y i v s=> ?_,λx y v c t f a1=>by
   rw[vK];split
   ·rename_i U;rw[a1];exact⟨c,_,rfl,rfl,.inr (hB c t f (by rw[U.2];exact a1))⟩
   ·exact⟨c,f,a1,rfl,.inl rfl⟩,a6.1,W.1,W.2.1,W.2.2.1,0,a6.2.2.2,W.2.2.2⟩
 ·obtain⟨a2,o',k,j,l⟩:=p.blk x y v;rw[vK,vK];by_cases u:n≠0/\a.block=x
  ·obtain⟨r,rfl⟩:=u;have U:h.block=y:=p.dC.fn _ _ _ H.1 v;subst U;cases l with
   |number l o=>exact⟨_,_,by rw[if_pos ⟨r,rfl⟩,k];rfl,by rw[if_pos ⟨r,rfl⟩,j];rfl,.number l o⟩
   |view Z l o=>exact⟨_,_,by rw[if_pos ⟨r,rfl⟩,k];rfl,by rw[if_pos ⟨r,rfl⟩,j];rfl,.view Z l o⟩
   |cells l Z o h5=>
    refine⟨_,_,by rw[if_pos ⟨r,rfl⟩,k];rfl,by rw[if_pos ⟨r,rfl⟩,j];rfl,.cells l (λu=>by rw[H.2.1];exact(Z u).freeze _ r) (λs=> ?_) (λi s hi=> ?_)⟩;·rw[(o s).1,H.2.1];exact⟨rfl,(o s).2⟩
    ·have:=h5 i s hi;split;·rename_i he;simp at he;omega
     ·simp only;omega
  ·have U:¬(n≠0/\h.block=y):=λe=>u ⟨e.1,p.dC.inj _ _ _ H.1 (e.2▸v)⟩;exact⟨a2,o',by rw[if_neg u];exact k,by rw[if_neg U];exact j,l⟩
 ·rw[vK,if_neg];rintro⟨_,e⟩;exact r a.block (e▸H.1)
 ·obtain⟨a2,o',k,j,l⟩:=p.blk x y v;cases l with
  |number _ o=>exact absurd s (o _)
  |view _ _ o=>exact absurd s (o _)
  |cells=>
   refine⟨?_,?_⟩
   ·unfold Kept;rw[vK];split;·exact⟨_,_,_,_,_,j,by rw[j];rfl,rfl,λ_ _=>rfl⟩
    ·exact⟨_,_,_,_,_,j,j,rfl,λ_ _=>rfl⟩
   ·unfold Kept;rw[vK];split;·exact⟨_,_,_,_,_,k,by rw[k];rfl,rfl,λ_ _=>rfl⟩
    ·exact⟨_,_,_,_,_,k,k,rfl,λ_ _=>rfl⟩
theorem WR.draw(h:WR V N G R S w b):WR V N G R S {w with drawn:=w.drawn+1} {b with drawn:=b.drawn+1}/\jr B S R R w b {w with drawn:=w.drawn+1} {b with drawn:=b.drawn+1}:=⟨⟨h.dC,h.low,h.sl,h.blk⟩,.refl R,λ_ _ h=>.inl h,aL _,aL _,λk l a=>by simp only at a;omega,λ_ _ _=>rfl,
  (jr.refl (B:=B) h).C4,λx y o c t f j=>⟨c,f,j,rfl,.inl rfl⟩,rfl,rfl,rfl,rfl,1,rfl,rfl⟩
theorem WR.Lk(f:WR (λ_=>False) N G R S w b)(l:AR R a h)(P:aV)(c:Bool):∃x,w.farLoad P a c=.error (.stuck x):=by
 obtain⟨o,r,j,_,k⟩:=f.blk _ _ l.1;refine⟨ "load: no such cell",?_⟩;cases k with
 |view p=>exact p.elim
 |_=>simp only[xz,rU,j]
theorem WR.Yx(f:WR (λ_=>False) N G R S w b)(l:AR R a h)(P:aV)(v:au)(c:Bool):∃x,w.farStore P a v c=.error (.stuck x):=by
 obtain⟨o,r,j,_,k⟩:=f.blk _ _ l.1;refine⟨ "store: no such cell",?_⟩;cases k with
 |view p=>exact p.elim
 |_=>simp only[sZ,rU,j]
end
def mf(P:aV)(w:ak)(a:aH)(e:aK)(n:Nat):Bool:=match w.shape? a.block with|some (t,c)=>pK P P.depth t (c/P.cellsOf t) a.off e n|none=>ax
theorem Nt(P:aV)(a:aH)(e:aK)(n:Nat)(l:ByteArray->bA k)(w:ak)(b:Array bX):(ustr a e n l).runT P w b=
  if mf P w a e n=aq then
   match (eQ a .empty n).runT P w b with
   |(.ok s h,f)=>(l s).runT P (h.freeze a n) f
   |(.halt x h,f)=>(.halt x h,f)
  else(.halt (.unsupported (.unsafePointer "String: not so many bytes at ptr")) w,b):=by
 unfold ustr A9 mf;simp only[qJ,Ah,eN,dp,eL];cases w.shape? a.block with
 |none=>rfl
 |some s=>
  obtain⟨t,c⟩:=s;dsimp only[bN,dp];by_cases j:pK P P.depth t (c/P.cellsOf t) a.off e n=aq
  ·simp only[j,if_true];rw[jj];simp only[eL];generalize (eQ a ax6 n).runT P w b=q;obtain⟨r,o⟩:=q;cases r<;>rfl
  ·simp only[j,if_false,dx];rfl
theorem GA(P:aV)(a:aH)(e:aK)(n:Nat)(h:ByteArray->bA k)(w:ak):(ustr a e n h).run P w=
  if mf P w a e n=aq then
   match (eQ a .empty n).run P w with
   | .ok s b=>(h s).run P (b.freeze a n)
   | .halt x b=>.halt x b
  else .halt (.unsupported (.unsafePointer "String: not so many bytes at ptr")) w:=by
 unfold ustr A9 mf;simp only[qJ,Ah,eN,dp,fu];cases w.shape? a.block with
 |none=>rfl
 |some s=>
  obtain⟨t,c⟩:=s;dsimp only[bN,dp];by_cases f:pK P P.depth t (c/P.cellsOf t) a.off e n=aq
  ·simp only[f,if_true];rw[run_bind];simp only[fu];generalize (eQ a ax6 n).run P w=q;cases q<;>rfl
  ·simp only[f,if_false,dx];rfl
theorem ag9{P:aV}{f:aK->Bool}{c:Nat}(h:U<=c):∀(d:Nat){e:aK} {off n:Nat},tA P f d e U off n=aq->tA P f d e c off n=aq
 |0,_,_,_,x=>by simp[tA]at x
 |d+1,e,off,n,x=>by
  unfold tA at x⊢;dsimp only at x⊢;split at x;·cases x
  ·rename_i j;rw[if_neg j];rw[qE,dj,dj,dj]at x⊢;rcases x with⟨⟨a,b⟩,k⟩|⟨a,b⟩;·left;exact⟨⟨a,by simp at b⊢;omega⟩,k⟩
   ·right;exact⟨by simp at a⊢;omega,b⟩
theorem KG{P:aV}{c a:Nat}(h:c<=a):∀{d:Nat} {e:aK} {off:Nat} {u:aK} {n:Nat},pK P d e c off u n=aq->pK P d e a off u n=aq
 |0,_,_,_,_,x=>by simp[pK]at x
 |d+1,e,off,u,n,x=>by
  unfold pK at x⊢;rw[qE]at x⊢;rcases x with x|x;·exact .inl (ag9 h _ x)
  ·right;split at x;·exact KG h x
   ·cases x
theorem WR.bytes{P:aV}{N:Nat}{G:bW->Prop}{R:BR}{S:Nat->Nat->Prop}{w b:ak}(t:WR (λ_=>False) N G R S w b):∀(n:Nat){a h:aH}(acc:ByteArray){l f:Array bX} {r:Result ByteArray} {o:Array bX},AR R a h->EvA S R l f->(eQ a acc n).runT P w l=(r,o)->(∃s B,r=.ok s w/\(eQ h acc n).runT P b f=(.ok s b,B)/\EvA S R o B)\/∃x Z,r=.halt x Z/\lO x
 |0,a,h,acc,l,f,r,o,j,y,c=>by cases c;exact .inl ⟨acc,f,rfl,rfl,y⟩
 |n+1,a,h,acc,l,f,r,o,j,y,c=>by
  simp only[eQ,vx,eN,dp,eL]at c⊢;cases u:w.cell? a with
  |none=>
   obtain⟨a1,U⟩:=t.Lk j P (Df==gM);rw[u,U]at c;cases c;exact .inr ⟨_,_,rfl,trivial⟩
  |some v=>
   rw[u]at c;obtain⟨p,H,W⟩:=t.cell j u;rw[H];cases W with
   |int k m=>
    cases k<;>first
     |(cases c;exact .inr ⟨_,_,rfl,trivial⟩)
     |exact t.bytes n _ (j.add 1) (y.push (lf.cell j ax _ λe=>by cases e)) c
   |_=>cases c;exact .inr ⟨_,_,rfl,trivial⟩
theorem WR.EN{P:aV}{V:aK->Prop}{G:bW->Prop}{S:Nat->Nat->Prop}{b:ak}(h:WR V U G f S t b)(j:AR f r s){n:Nat}(a:mf P t r l n=aq):mf P b s l n=true:=by
 unfold mf at a⊢;rw[j.2.1];rcases h.shape j.1 with l|⟨_,v,c,u,k,o,p⟩;·rw[l];exact a
 ·rw[k]at a;rw[o];exact KG (ay1 p) a
theorem IP{P:aV}{n:Nat}(j:P.underlying l=ae (.int .u8))(b:mf P t r l n=aq):∀c a f,t.heap[r.block]?=ae (.cells c a f)->mN P a:=by
 intro c a f h;have:t.shape? r.block=ae (a,c.size):=by simp[xA,h]
 unfold mf at b;rw[this]at b;exact⟨_,_,l,n,j,b⟩
theorem aD.sound(ac:c.vw=λ_=>False){A:BR->k->y->Prop}{ad:bA k}{s':bA y}(ab:aD c A f ad s'):∀{S:Nat->Nat->Prop} {w b:ak} {es es':Array bX} {a:k} {u:ak} {N:Array bX},WR c.vw c.P.globals.size c.G f S w b->(c.fz=aq->∀aa i,¬S aa i)->EvA S f es es'->ad.runT c.P w es=(.ok a u,N)->(∀a8 q,w.drawn+a8<u.drawn->w.tape (w.drawn+a8) q=b.tape (b.drawn+a8) q)->∃x B H U,s'.runT c.P b es'=(.ok B H,U)/\A x a B/\WR c.vw c.P.globals.size c.G x S u H/\jr (mN c.P) S f x w b u H/\EvA S x N U:=by
 induction ab with
 |pure ab=>
  intro S w b es es' a u N l o r j _;cases j;exact⟨_,_,b,es',rfl,ab,l,.refl l,r⟩
 |@load f m a h a2 k' R _ t=>
  intro S w b es es' a1 u N l o r j s;simp only[eL]at j⊢;cases W:w.cell? a with
  |none=>
   obtain⟨ai,Z⟩:=(ac▸l:WR (λ_=>False) _ _ _ _ _ _).Lk R c.P (m==gM);rw[W,Z]at j;cases j
  |some v=>
   rw[W]at j;obtain⟨p,am,hv⟩:=l.cell R W;rw[am];exact t v p hv l o (r.push (lf.cell R ax _ λe=>by cases e)) j s
 |@store f m a h v p a2 k' R hv _ t=>
  intro S w b es es' a1 u N l o r j s
  have key:(match w.cell? a with
    |some _=>if w.frozen? a then(nD (.unsupported (.unsafePointer "a write to bytes that a string shares")) w,es)else a2.runT c.P (w.setCell a v) (es.push ⟨.cell a,aq,m==gM⟩)
    |none=>match w.farStore c.P a v (m==gM)with
     | .ok (w,ao)=>a2.runT c.P w (es++ao.toArray.map (⟨.cell ·,aq,m==gM⟩))
     | .error ab=>(nD ab w,es))=(.ok a1 u,N)->∃x B H U,(match b.cell? h with
    |some _=>if b.frozen? h then(nD (.unsupported (.unsafePointer "a write to bytes that a string shares")) b,es')else k'.runT c.P (b.setCell h p) (es'.push ⟨.cell h,aq,m==gM⟩)
    |none=>match b.farStore c.P h p (m==gM)with
     | .ok (w,ao)=>k'.runT c.P w (es'++ao.toArray.map (⟨.cell ·,aq,m==gM⟩))
     | .error ab=>(nD ab b,es'))=(.ok B H,U)/\A x a1 B/\WR c.vw c.P.globals.size c.G x S u H/\jr (mN c.P) S f x w b u H/\EvA S x N U:=by
   intro j;cases W:w.cell? a with
   |none=>
    obtain⟨ai,Z⟩:=(ac▸l:WR (λ_=>False) _ _ _ _ _ _).Yx R c.P v (m==gM);rw[W,Z]at j;cases j
   |some v0=>
    rw[W]at j;obtain⟨aU,am,_⟩:=l.cell R W;cases Z:w.frozen? a with
    |true=>rw[Z]at j;cases j
    |false=>
     have ar:¬S a.block a.off:=λhs=>by rw[l.ML R hs W]at Z;cases Z
     have av:b.frozen? h=false:=l.ao4 R ar Z;simp only[Z,dx,if_false]at j;obtain⟨a7,a6⟩:=l.set R hv W Z;obtain⟨x,B,H,U,e1,e2,e3,e4,e5⟩:=t a7 o (r.push (lf.cell R aq _ λ_=>ar)) j s;exact⟨x,B,H,U,by rw[am];simp only[av,dx,if_false];exact e1,e2,e3,a6.trans e4,e5⟩
  cases hv<;>first|exact key j|(simp only[eL]at j;cases j)
 |@new f aJ c' e a2 k' W _ t=>
  intro S w b es es' a1 u N l o r j s;obtain⟨a7,a6⟩:=l.push (l.Bt W e);obtain⟨x,B,H,U,e1,e2,e3,e4,e5⟩:=t w.heap.size b.heap.size (λB hb=>by have:=(l.lt hb).1;omega) (λB hb=>by have:=(l.lt hb).2;omega) l.low.1 l.low.2 a7 o (r.mono (BR.gF _ _ _)) j s;exact⟨x,B,H,U,e1,e2,e3,a6.trans e4,e5⟩
 |@newN f a1 x' aF a2 k' W _ t=>
  intro S w b es es' ai u N l o r j s;obtain⟨a7,a6⟩:=l.push (l.Fc W aF);obtain⟨x,B,H,U,e1,e2,e3,e4,e5⟩:=t w.heap.size b.heap.size (λB hb=>by have:=(l.lt hb).1;omega) (λB hb=>by have:=(l.lt hb).2;omega) l.low.1 l.low.2 a7 o (r.mono (BR.gF _ _ _)) j s;exact⟨x,B,H,U,e1,e2,e3,a6.trans e4,e5⟩
 |newV o=>rw[ac]at o;exact o.elim
 |@getN f aa r' a2 k' al _ _ t _=>
  intro S w b es es' ai u N l o r j s;obtain⟨aR,o',h1,h2,h3⟩:=l.blk _ _ al;simp only[eL,h1]at j;simp only[eL,h2];cases h3 with
  |cells=>cases j
  |view Z=>rw[ac]at Z;exact Z.elim
  |number h3=>exact t _ _ _ h3 l o (r.push (e:=⟨.obj aa,ax,_⟩) (e':=⟨.obj r',ax,_⟩) ⟨rfl,rfl,al,rfl⟩) j s
 |@shape f aa r' a2 k' al _ t=>
  intro S w b es es' a1 u N l o r j s;simp only[eL]at j⊢;refine t _ _ ?_ l o r j s;rcases l.shape al with e|⟨⟨i,hi⟩,e⟩;·exact .inl e
  ·refine .inr ⟨?_,λaT hu=>by rw[ac]at hu;exact hu,e⟩;cases an:c.fz with
   |false=>rfl
   |true=>exact absurd hi (o an _ _)
 |@ustr f a h e n a2 k' R hu _ t=>
  intro S w b es es' a1 u N l o r j s;rw[Nt]at j⊢;split at j
  ·rename_i hl;have ap:=l.EN (P:=c.P) R hl;rw[if_pos ap];cases hb:(eQ a .empty n).runT c.P w es with
   |mk aa aP=>
    rcases(ac▸l:WR (λ_=>False) _ _ _ _ _ _).bytes n .empty R r hb with⟨ad,aQ,rfl,h2,h3⟩|⟨ai,w2,rfl,_⟩
    ·rw[hb]at j;rw[h2];dsimp only at j⊢;obtain⟨a7,a6⟩:=l.freeze (B:=mN c.P) R n (IP hu ap);have aa:=AW w a n;have r':=AW b h n;obtain⟨x,B,H,U,e1,e2,e3,e4,e5⟩:=t ad a7 o h3 j (by rw[aa.2.2.2,r'.2.2.2,aa.1,r'.1];exact s);exact⟨x,B,H,U,e1,e2,e3,a6.trans e4,e5⟩
    ·rw[hb]at j;cases j
  ·cases j
 |@frozen f a h a2 k' an R _ t=>
  intro S w b es es' a1 u N l o r j s;simp only[eL]at j⊢;rw[l.frozen R (o an _)];exact t _ l o r j s
 |@choose f q a2 k' _ t=>
  intro S w b es es' a1 u N l o r j s;simp only[eL]at j⊢;by_cases hq:q.forced=aq
  ·rw[if_pos hq]at j⊢;exact t 0 l o r j s
  ·rw[if_neg hq]at j⊢;have hd:=ai3 c.P _ _ ((by rw[<-fE c.P _ _ es,j]:_=Result.ok a1 u));simp only at hd;have h0:=s 0 q ag;simp only[th]at h0;rw[<-h0];obtain⟨a7,a6⟩:=l.draw;obtain⟨x,B,H,U,e1,e2,e3,e4,e5⟩:=t _ a7 o r j (λa8 q hj=>by
    simp only at hj⊢;have:=s (a8+1) q ag;rw[show w.drawn+1+a8=w.drawn+(a8+1) by omega,show b.drawn+1+a8=b.drawn+(a8+1) by omega];exact this)
   exact⟨x,B,H,U,e1,e2,e3,a6.trans e4,e5⟩
 |program _ t=>
  intro S w b es es' a1 u N l o r j s;exact t l o r j s
 |@mark f m a2 k' hm _ t=>
  intro S w b es es' a1 u N l o r j s;exact t l o (r.push ⟨rfl,rfl,rfl,hm⟩) j s
 |@dead f ad s' hd=>
  intro S w b es es' a1 u N l o r j s;obtain⟨ai,w2,h1,_⟩:=hd w;have:=fE c.P ad w es;rw[j,h1]at this;cases this
