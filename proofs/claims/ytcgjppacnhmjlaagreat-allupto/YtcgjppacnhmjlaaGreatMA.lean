/- Own texts: Qq, SimA. -/
import Derived.KernelRfl
import GoSem.Step
import Derived.RunT
import Derived.Conc.Own
set_option linter.all false
open Array renaming getElem?_eq_some_iff->cq,getD_eq_getD_getElem?->sM,getElem?_replicate->sP,getElem?_push->xk,getElem?_setIfInBounds->GN,getElem?_eq_none_iff->av5,replicate->aB2
open Bool renaming true->aq,false->ax,false_eq_true->dx,and_eq_true->dj,eq_false_iff->CH
open Go renaming World->ak,Value->au,TypeId->aK,Addr->aH,undef->aN,FuncId->bW,Event->bX,IntKind->mK,Obj->dV
open Go.Addr renaming add->vf
open Go.World renaming cell?->bL,frozen?->gu,shape?->xA
open Nat renaming le_refl->aL,le_trans->bT,lt_of_lt_of_le->dG,lt_or_ge->l9
open Option renaming some->ae,none->af
namespace Go.Proofs.YtcgjppacnhmjlaaGreat
open Go
variable {c:Prop}
theorem ah(h:c:=by kernel_rfl):c:=h
theorem ag(h:c:=by omega):c:=h
theorem az(h:c:=by simp):c:=h
theorem bc(h:c:=by decide):c:=h
theorem db(h:c:=by((repeat (refine⟨by kernel_rfl,λ_=>by kernel_rfl,?_⟩));exact True.intro)):c:=h
theorem Py(h:c:=by exact⟨by kernel_rfl,by kernel_rfl⟩):c:=h
theorem I9(h:c:=by exact⟨by kernel_rfl,by kernel_rfl,by kernel_rfl⟩):c:=h
theorem bI(h:c:=by exact⟨by kernel_rfl,by kernel_rfl,by kernel_rfl,by kernel_rfl⟩):c:=h
theorem bJ(h:c:=by exact⟨by kernel_rfl,by kernel_rfl,by kernel_rfl,by kernel_rfl,by kernel_rfl⟩):c:=h
namespace Sim
variable {k s:aH} {l f:Array au} {u:au} {x:Nat} {o:Nat->Nat->Prop}
abbrev BR:=Nat->Nat->Prop
def BR.Sub(R a:BR):Prop:=∀c b,R c b->a c b
theorem BR.Sub.refl(R:BR):BR.Sub R R:=λ_ _ h=>h
variable {b r:BR}
theorem BR.Sub.trans{R:BR}(h:BR.Sub R b)(f:BR.Sub b r):BR.Sub R r:=λa c x=>f a c (h a c x)
def BR.add(R:BR)(r c:Nat):BR:=λa b=>R a b\/(a=r/\b=c)
theorem BR.gF(R:BR)(r a:Nat):BR.Sub R (R.add r a):=λ_ _ h=>.inl h
structure BR.iy(N:Nat)(R:BR):Prop where
 fn:∀a b c,R a b->R a c->b=c
 inj:∀a b c,R a c->R b c->a=b
 low:∀a b,R a b->(a<N↔b<N)
theorem BR.iy.add{N:Nat}{R:BR}(h:BR.iy N R){r f:Nat}(j:∀b,¬R r b)(k:∀a,¬R a f)(l:N<=r)(o:N<=f):BR.iy N (R.add r f):=by
 refine⟨λa b c x y=> ?_,λa b c x y=> ?_,λa b x=> ?_⟩
 ·rcases x with x|⟨rfl,rfl⟩<;>rcases y with y|⟨e,rfl⟩;·exact h.fn _ _ _ x y
  ·subst e;exact absurd x (j _)
  ·exact absurd y (j _)
  ·rfl
 ·rcases x with x|⟨rfl,rfl⟩<;>rcases y with y|⟨rfl,e⟩;·exact h.inj _ _ _ x y
  ·subst e;exact absurd x (k _)
  ·exact absurd y (k _)
  ·rfl
 ·rcases x with x|⟨rfl,rfl⟩;·exact h.low a b x
  ·omega
structure BR.Ext(N:Nat)(R a:BR):Prop where
 sub:BR.Sub R a
 dC:BR.iy N R->BR.iy N a
theorem BR.Ext.refl(N:Nat)(R:BR):BR.Ext N R R:=⟨.refl R,id⟩
theorem BR.Ext.trans{N:Nat}{R a b:BR}(h:BR.Ext N R a)(c:BR.Ext N a b):BR.Ext N R b:=⟨h.sub.trans c.sub,λx=>c.dC (h.dC x)⟩
def AR(R:BR)(a b:aH):Prop:=R a.block b.block/\b.off=a.off/\b.spot=a.spot
theorem AR.mono(h:AR b k s)(a:BR.Sub b r):AR r k s:=⟨a _ _ h.1,h.2⟩
theorem AR.add{R:BR}{a b:aH}(h:AR R a b)(n:Nat):AR R (a.add n) (b.add n):=by
 unfold vf;split;·exact h
 ·exact⟨h.1,by simp[h.2.1],rfl⟩
inductive VR (G:bW->Prop) (R:BR):au->au->Prop
 |bool (b:Bool):VR G R (.bool b) (.bool b)
 |int (k:mK) (n:Int):VR G R (.int k n) (.int k n)
 |string (s:ByteArray):VR G R (.string s) (.string s)
 |pnil:VR G R (.pointer af) (.pointer af)
 |ptr {a a':aH}:AR R a a'->VR G R (.pointer (ae a)) (.pointer (ae a'))
 |snil (l c:Nat):VR G R (.slice af l c) (.slice af l c)
 |slice {a a':aH} (l c:Nat):AR R a a'->VR G R (.slice (ae a) l c) (.slice (ae a') l c)
 |func (f:bW) {xs h t p:Array au}:G f->xs.size=h.size->(∀(i:Nat) v v',xs[i]?=ae v->h[i]?=ae v'->VR G R v v')->
   t.size=p.size->(∀(i:Nat) v v',t[i]?=ae v->p[i]?=ae v'->VR G R v v')->VR G R (.func (.func f) xs t) (.func (.func f) h p)
 |nilFunc:VR G R .nilFunc .nilFunc
 |anyN:VR G R .nilIface .nilIface
 |agg {xs h:Array au}:xs.size=h.size->(∀(i:Nat) v v',xs[i]?=ae v->h[i]?=ae v'->VR G R v v')->VR G R (.agg xs) (.agg h)
 |tuple {xs h:Array au}:xs.size=h.size->(∀(i:Nat) v v',xs[i]?=ae v->h[i]?=ae v'->VR G R v v')->VR G R (.tuple xs) (.tuple h)
def bq(G:bW->Prop)(R:BR)(xs h:Array au):Prop:=xs.size=h.size/\∀(i:Nat) v v',xs[i]?=ae v->h[i]?=ae v'->VR G R v v'
section
variable {G:bW->Prop} {R a:BR} {v v':au} {xs h t p:Array au}
theorem VR.mono(h:VR G R v v')(o:BR.Sub R a):VR G a v v':=by
 induction h with
 |bool b=>exact .bool b
 |int k n=>exact .int k n
 |string s=>exact .string s
 |pnil=>exact .pnil
 |ptr h=>exact .ptr (h.mono o)
 |snil l c=>exact .snil l c
 |slice l c h=>exact .slice l c (h.mono o)
 |func f t p _ r _ u w=>exact .func f t p u r w
 |nilFunc=>exact .nilFunc
 |anyN=>exact .anyN
 |agg h _ j=>exact .agg h j
 |tuple h _ j=>exact .tuple h j
theorem bq.mono(c:bq G R xs h)(j:BR.Sub R a):bq G a xs h:=⟨c.1,λi v v' f b=>(c.2 i v v' f b).mono j⟩
theorem bq.nil:bq G R #[] #[]:=⟨rfl,λi v v' h=>by simp at h⟩
theorem bq.get(a:bq G R xs h){i:Nat}(c:xs[i]?=ae v):∃v',h[i]?=ae v'/\VR G R v v':=by
 have f:i<xs.size:=(cq.1 c).1;have b:i<h.size:=a.1▸f;exact⟨h[i],by simp[b],a.2 i _ _ c (by simp[b])⟩
theorem bq.none(b:bq G R xs h){i:Nat}(a:xs[i]?=af):h[i]?=Option.none:=by
 rw[av5]at a⊢;rw[<-b.1];exact a
theorem bq.getD(b:bq G R xs h)(i:Nat){d a:au}(f:VR G R d a):VR G R (xs.getD i d) (h.getD i a):=by
 rw[sM,sM];cases c:xs[i]? with
 |none=>rw[b.none c];exact f
 |some v=>obtain⟨v',e,j⟩:=b.get c;rw[e];exact j
theorem bq.push(f:bq G R xs h)(l:VR G R v v'):bq G R (xs.push v) (h.push v'):=by
 refine⟨by simp[f.1],λi a b c j=> ?_⟩;rw[xk]at c j;rw[f.1]at c;split at c;·cases c;simp_all
 ·rename_i k;rw[if_neg k]at j;exact f.2 i a b c j
theorem bq.append(j:bq G R xs h)(l:bq G R t p):bq G R (xs++t) (h++p):=by
 refine⟨by simp[j.1,l.1],λi a b c f=> ?_⟩;rw[Array.getElem?_append]at c f;rw[j.1]at c;split at c;·rename_i k;rw[if_pos k]at f;exact j.2 i a b c f
 ·rename_i k;rw[if_neg k]at f;exact l.2 _ a b c f
theorem bq.set(k:bq G R xs h)(i:Nat)(o:VR G R v v'):bq G R (xs.setIfInBounds i v) (h.setIfInBounds i v'):=by
 refine⟨by simp[k.1],λj a b c f=> ?_⟩;rw[GN]at c f;rw[k.1]at c;split at c
 ·rename_i e;subst e;rw[if_pos rfl]at f;split at c;·rename_i l;rw[if_pos l]at f;cases c;cases f;exact o
  ·cases c
 ·rename_i e;rw[if_neg e]at f;exact k.2 j a b c f
theorem bq.extract(f:bq G R xs h)(i j:Nat):bq G R (xs.extract i j) (h.extract i j):=by
 refine⟨by simp[f.1],λk a b c l=> ?_⟩;rw[Array.getElem?_extract]at c l;rw[f.1]at c;split at c;·rename_i o;rw[if_pos o]at l;exact f.2 _ a b c l
 ·cases c
theorem bq.replicate(n:Nat)(j:VR G R v v'):bq G R (aB2 n v) (aB2 n v'):=by
 refine⟨az,λi a b c f=> ?_⟩;rw[sP]at c f;split at c;·rename_i h;rw[if_pos h]at f;cases c;cases f;exact j
 ·cases c
theorem bq.agg(a:bq G R xs h):VR G R (.agg xs) (.agg h):=.agg a.1 a.2
theorem bq.tuple(a:bq G R xs h):VR G R (.tuple xs) (.tuple h):=.tuple a.1 a.2
theorem bq.one(a:VR G R v v'):bq G R #[v] #[v']:=by simpa using bq.nil.push a
theorem VR.cells(h:VR G R v v'):bq G R v.cells v'.cells:=by
 cases h with
 |agg a j=>exact⟨a,j⟩
 |bool b=>exact .one (.bool b)
 |int k n=>exact .one (.int k n)
 |string s=>exact .one (.string s)
 |pnil=>exact .one .pnil
 |ptr h=>exact .one (.ptr h)
 |snil l c=>exact .one (.snil l c)
 |slice l c h=>exact .one (.slice l c h)
 |func f r a j o p=>exact .one (.func f r a j o p)
 |nilFunc=>exact .one .nilFunc
 |anyN=>exact .one .anyN
 |tuple a j=>exact .one (.tuple a j)
theorem VR.undef:VR G R aN Go.undef:=bq.nil.tuple
end
def la(G:bW->Prop)(R:BR)(xs h:Array au):Prop:=xs.size<=h.size/\∀(i:Nat) v v',xs[i]?=ae v->h[i]?=ae v'->VR G R v v'
theorem bq.Iy{G:bW->Prop}(h:bq G b l f):la G b l f:=⟨Nat.le_of_eq h.1,h.2⟩
theorem la.Q7{G:bW->Prop}(h:la G b l f)(e:f.size=l.size):bq G b l f:=⟨e.symm,h.2⟩
theorem la.mono{G:bW->Prop}(h:la G b l f)(j:BR.Sub b r):la G r l f:=⟨h.1,λi v v' a c=>(h.2 i v v' a c).mono j⟩
theorem la.get{G:bW->Prop}(h:la G b l f){i:Nat}(c:l[i]?=ae u):∃v',f[i]?=ae v'/\VR G b u v':=by
 have j:i<l.size:=(cq.1 c).1;have a:i<f.size:=dG j h.1;exact⟨f[i],by simp[a],h.2 i _ _ c (by simp[a])⟩
theorem la.set{G:bW->Prop}{v:au}(h:la G b l f)(i:Nat)(r:VR G b v u):la G b (l.setIfInBounds i v) (f.setIfInBounds i u):=by
 refine⟨by simpa using h.1,λj a o c k=> ?_⟩;rw[GN]at c k;split at c
 ·rename_i e;subst e;rw[if_pos rfl]at k;split at c;·rename_i p;rw[if_pos (dG p h.1)]at k;cases c;cases k;exact r
  ·cases c
 ·rename_i e;rw[if_neg e]at k;exact h.2 j a o c k
def vA(a f:Nat×Nat):Prop:=a=f\/a.1=a.2\/(a.1<a.2/\f.1<=a.1/\a.2<=f.2)
theorem vA.freeze{a f:Nat×Nat}(h:vA a f)(o:Nat){n:Nat}(p:n≠0):vA (if a.1==a.2 then(o,o+n)else(min a.1 o,max a.2 (o+n))) (if f.1==f.2 then(o,o+n)else(min f.1 o,max f.2 (o+n))):=by
 rcases h with rfl|h|⟨j,k,l⟩;·exact .inl rfl
 ·have:(a.1==a.2)=true:=by simpa using h
  rw[this];simp only[if_true];split;·exact .inl rfl
  ·exact .inr (.inr ⟨by simp only;omega,by simp only;omega,by simp only;omega⟩)
 ·have b:(a.1==a.2)=false:=by simp;omega
  have c:(f.1==f.2)=false:=by simp;omega
  rw[b,c];simp only[dx,if_false];exact .inr (.inr ⟨by simp only;omega,by simp only;omega,by simp only;omega⟩)
theorem vA.frozen{a f:Nat×Nat}(h:vA a f){i:Nat}(b:a.1<=i/\i<a.2):f.1<=i/\i<f.2:=by
 rcases h with rfl|h|⟨c,j,k⟩;·exact b
 ·omega
 ·omega
inductive kl (V:aK->Prop) (G:bW->Prop) (R:BR) (S:Nat->Nat->Prop) (a:Nat):dV->dV->Prop
 |cells {c c':Array au} {e:aK} {f f':Nat×Nat}:la G R c c'->((∃i,¬S a i)->vA f' f)->((∀i,¬S a i)->f'=f/\c'.size=c.size)->(∀i,S a i->i<c.size->f.1<=i/\i<f.2)->kl V G R S a (.cells c e f) (.cells c' e f')
 |number {x x':aH} {l:Bool}:AR R x x'->(∀i,¬S a i)->kl V G R S a (.number x l) (.number x' l)
 |view {x x':aH} {u:aK}:V u->AR R x x'->(∀i,¬S a i)->kl V G R S a (.view x u) (.view x' u)
theorem kl.mono{V:aK->Prop}{G:bW->Prop}{R a:BR}{S:Nat->Nat->Prop}{k:Nat}{o l:dV}(h:kl V G R S k o l)(j:BR.Sub R a):kl V G a S k o l:=by
 cases h with
 |cells b f c p=>exact .cells (b.mono j) f c p
 |number b c=>exact .number (b.mono j) c
 |view f b c=>exact .view f (b.mono j) c
structure WR(V:aK->Prop)(N:Nat)(G:bW->Prop)(R:BR)(S:Nat->Nat->Prop)(w j:ak):Prop where
 dC:BR.iy N R
 low:N<=w.heap.size/\N<=j.heap.size
 sl:∀a i,S a i->a<w.heap.size
 blk:∀a b,R a b->∃o o',w.heap[a]?=ae o/\j.heap[b]?=ae o'/\kl V G R S a o o'
section
variable {V:aK->Prop} {N:Nat} {G:bW->Prop} {R:BR} {S:Nat->Nat->Prop} {w j:ak}
theorem WR.lt(h:WR V N G R S w j){b:Nat}(f:R x b):x<w.heap.size/\b<j.heap.size:=by
 obtain⟨o,k,a,c,_⟩:=h.blk x b f;exact⟨(cq.1 a).1,(cq.1 c).1⟩
theorem WR.shape(h:WR V N G R S w j){a b:Nat}(v:R a b):j.shape? b=w.shape? a\/(∃i,S a i)/\∃e n s,w.shape? a=ae (e,n)/\j.shape? b=ae (e,s)/\n<=s:=by
 obtain⟨o,B,k,l,p⟩:=h.blk a b v;cases p with
 |@cells c t e f y p _ u=>
  by_cases r:∃i,S a i;·exact .inr ⟨r,e,c.size,t.size,by simp[xA,k],by simp[xA,l],p.1⟩
  ·left;simp[xA,k,l,(u λi x=>r ⟨i,x⟩).2]
 |number=>left;simp[xA,k,l]
 |view=>left;simp[xA,k,l]
theorem WR.cell(h:WR V N G R S w j){a a':aH}(f:AR R a a'){v:au}(b:w.cell? a=ae v):∃v',j.cell? a'=ae v'/\VR G R v v':=by
 obtain⟨o,r,k,l,c⟩:=h.blk _ _ f.1;unfold bL at b⊢;rw[k]at b;rw[l];cases c with
 |number=>cases b
 |view=>cases b
 |cells c=>
  simp only[f.2.2,f.2.1]at b⊢;split at b;·cases b
  ·rename_i p;simp only[p];exact c.get b
theorem WR.frozen(h:WR V N G R S w j){a b:aH}(c:AR R a b)(r:∀i,¬S a.block i):j.frozen? b=w.frozen? a:=by
 obtain⟨o,s,f,k,l⟩:=h.blk _ _ c.1;unfold gu;rw[f,k];cases l with
 |cells _ _ p=>rw[(p r).1];simp[c.2.1]
 |number=>rfl
 |view=>rfl
theorem WR.ao4(h:WR V N G R S w j)(b:AR R k s)(r:¬S k.block k.off)(a:w.frozen? k=ax):j.frozen? s=false:=by
 obtain⟨o,t,f,l,p⟩:=h.blk _ _ b.1;unfold gu at a⊢;rw[f]at a;rw[l];cases p with
 |cells _ c=>
  simp only at a⊢;rw[CH]at a⊢;intro e;apply a;simp only[dj,decide_eq_true_eq]at e⊢;rw[b.2.1]at e;exact(c ⟨_,r⟩).frozen e
 |number=>rfl
 |view=>rfl
theorem WR.ML(h:WR V N G R S w j)(r:AR R k s)(c:S k.block k.off)(a:w.cell? k=ae u):w.frozen? k=true:=by
 obtain⟨o,v,f,t,l⟩:=h.blk _ _ r.1;unfold bL at a;rw[f]at a;cases l with
 |number _ b=>exact absurd c (b _)
 |view _ _ b=>exact absurd c (b _)
 |cells _ _ _ p=>
  simp only at a;split at a;·cases a
  ·have:=p k.off c (cq.1 a).1;unfold gu;rw[f];simp[this]
end
def y0(S:Nat->Nat->Prop)(R:BR)(wr:Bool):Loc->Loc->Prop
 | .cell a,.cell b=>AR R a b/\(wr=aq->¬S a.block a.off)
 | .obj r,.obj h=>R r h/\wr=ax
 | .mark m,.mark c=>m=c/\(m=.noRoom\/∃f,m=.extern f)
 |_,_=>False
structure lf(S:Nat->Nat->Prop)(R:BR)(e e':bX):Prop where
 wr:e'.write=e.write
 sy:e'.sync=e.sync
 loc:y0 S R e.write e.loc e'.loc
theorem y0.mono{S:Nat->Nat->Prop}{R a:BR}{b:Bool}{l c:Loc}(h:y0 S R b l c)(f:BR.Sub R a):y0 S a b l c:=by
 cases l<;>cases c<;>simp only[y0]at h⊢<;>first|exact h.elim|exact h|exact⟨f _ _ h.1,h.2⟩|exact⟨h.1.mono f,h.2⟩
theorem lf.mono{S:Nat->Nat->Prop}{R a:BR}{e b:bX}(h:lf S R e b)(c:BR.Sub R a):lf S a e b:=⟨h.wr,h.sy,h.loc.mono c⟩
theorem lf.cell{a a':aH}(f:AR b a a')(wr c:Bool)(h:wr=aq->¬o a.block a.off):lf o b ⟨.cell a,wr,c⟩ ⟨.cell a',wr,c⟩:=⟨rfl,rfl,f,h⟩
inductive mP (S:Nat->Nat->Prop) (R:BR):List bX->List bX->Prop
 |nil:mP S R [] []
 |cons {e e':bX} {es es':List bX}:lf S R e e'->mP S R es es'->mP S R (e::es) (e'::es')
theorem mP.mono{S:Nat->Nat->Prop}{R a:BR}{b c:List bX}(h:mP S R b c)(f:BR.Sub R a):mP S a b c:=by
 induction h with
 |nil=>exact .nil
 |cons h _ j=>exact .cons (h.mono f) j
theorem mP.app{a c f j:List bX}(h:mP o b a c)(k:mP o b f j):mP o b (a++f) (c++j):=by
 induction h with
 |nil=>exact k
 |cons h _ l=>exact .cons h l
def EvA(S:Nat->Nat->Prop)(R:BR)(a b:Array bX):Prop:=mP S R a.toList b.toList
theorem EvA.push{S:Nat->Nat->Prop}{R:BR}{a b:Array bX}(h:EvA S R a b){e e':bX}(c:lf S R e e'):EvA S R (a.push e) (b.push e'):=by
 unfold EvA at h⊢;simp only[Array.toList_push];exact h.app (.cons c .nil)
theorem EvA.mono{S:Nat->Nat->Prop}{R a:BR}{b c:Array bX}(h:EvA S R b c)(f:BR.Sub R a):EvA S a b c:=mP.mono h f
def Kept(S:Nat->Nat->Prop)(a:Nat)(w j:ak)(b:Nat):Prop:=∃c e f c1 h,w.heap[b]?=ae (.cells c e f)/\j.heap[b]?=ae (.cells c1 e h)/\c1.size=c.size/\∀i,S a i->c1[i]?=c[i]?
theorem Kept.trans{S:Nat->Nat->Prop}{a b:Nat}{w w1 o:ak}(h:Kept S a w w1 b)(r:Kept S a w1 o b):Kept S a w o b:=by
 obtain⟨c,e,f,c1,N,s,t,v,x⟩:=h;obtain⟨c2,H,R,c3,p,k,u,y,B⟩:=r;rw[t]at k;cases k;exact⟨c,e,f,c3,p,s,u,y.trans v,λj l=>(B j l).trans (x j l)⟩
structure jr(B:aK->Prop)(S:Nat->Nat->Prop)(R R1:BR)(w j w1 cS:ak):Prop where
 sub:BR.Sub R R1
 new:∀a b,R1 a b->R a b\/(w.heap.size<=a/\j.heap.size<=b)
 sz:w.heap.size<=w1.heap.size
 wZ:j.heap.size<=cS.heap.size
 fresh:∀b,j.heap.size<=b->b<cS.heap.size->∃a,R1 a b
 out:∀b,b<j.heap.size->(∀a,¬R a b)->cS.heap[b]?=j.heap[b]?
 C4:∀a b i,R a b->S a i->Kept S a j cS b/\Kept S a w w1 a
 ty:∀a b,R a b->∀c t f,j.heap[b]?=ae (.cells c t f)->∃c1 f1,cS.heap[b]?=ae (.cells c1 t f1)/\c1.size=c.size/\(f1=f\/B t)
 tape:w1.tape=w.tape
 Gs:cS.tape=j.tape
 Fy:cS.os=j.os
 FA:cS.output=j.output
 drawn:∃d,w1.drawn=w.drawn+d/\cS.drawn=j.drawn+d
theorem jr.refl{B:aK->Prop}{V:aK->Prop}{G:bW->Prop}{w j:ak}(h:WR V x G b o w j):jr B o b b w j w j:=⟨.refl b,λ_ _ h=>.inl h,aL _,aL _,λk l p=>ag,λ_ _ _=>rfl,
  λa k i y s=>by
   obtain⟨H,N,l,p,u⟩:=h.blk a k y;cases u with
   |cells=>exact⟨⟨_,_,_,_,_,p,p,rfl,λ_ _=>rfl⟩,_,_,_,_,_,l,l,rfl,λ_ _=>rfl⟩
   |number _ r=>exact absurd s (r _)
   |view _ _ r=>exact absurd s (r _),λa k _ c t f v=>⟨c,f,v,rfl,.inl rfl⟩,rfl,rfl,rfl,rfl,0,rfl,rfl⟩
theorem jr.trans{B:aK->Prop}{S:Nat->Nat->Prop}{R s R2:BR}{w j w1 o W Z:ak}(h:jr B S R s w j w1 o)(c:jr B S s R2 w1 o W Z):jr B S R R2 w j W Z:=by
 refine⟨h.sub.trans c.sub,λa b f=> ?_,bT h.sz c.sz,bT h.wZ c.wZ,λb k l=> ?_,λb H N=> ?_,λa b i f U=> ?_,λa b f a1 t a2 hc=> ?_,c.tape.trans h.tape,c.Gs.trans h.Gs,c.Fy.trans h.Fy,c.FA.trans h.FA,?_⟩
 ·rcases c.new a b f with x|⟨x,y⟩;·exact h.new a b x
  ·exact .inr ⟨bT h.sz x,bT h.wZ y⟩
 ·rcases l9 b o.heap.size with a7|a6;·obtain⟨a,r⟩:=h.fresh b k a7;exact⟨a,c.sub _ _ r⟩
  ·exact c.fresh b a6 l
 ·rw[c.out b (dG H h.wZ) λa r=> ?_];·exact h.out b H N
  ·rcases h.new a b r with x|⟨_,y⟩;·exact N a x
   ·omega
 ·have x:=h.C4 a b i f U;have y:=c.C4 a b i (h.sub _ _ f) U;exact⟨x.1.trans y.1,x.2.trans y.2⟩
 ·obtain⟨c1,f1,k,l,u⟩:=h.ty a b f a1 t a2 hc;obtain⟨c2,f2,v,h5,p⟩:=c.ty a b (h.sub _ _ f) c1 t f1 k;refine⟨c2,f2,v,h5.trans l,?_⟩;rcases p with rfl|p;·exact u
  ·exact .inr p
 ·obtain⟨d,k,l⟩:=h.drawn;obtain⟨d',u,v⟩:=c.drawn;exact⟨d+d',ag,ag⟩
