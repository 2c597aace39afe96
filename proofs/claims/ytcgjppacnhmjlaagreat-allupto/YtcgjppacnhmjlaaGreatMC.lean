/- Own texts: SimU, SimC, SimD. -/
import Derived.Test.YtcgjppacnhmjlaaGreatMB
import Derived.Laws.Sem
set_option linter.all false
open Array renaming getElem?_eq_some_iff->cq,getElem?_map->qB,range->Hp,toList_zipIdx->ax7,toList_append->ax8,foldl_toList->az0,mapM->aK5
open Bind renaming bind->eN
open Bool renaming true->aq,false->ax,false_eq_true->dx
open Decidable renaming decide->aM
open Except renaming pure->D3,bind->D4
open Go renaming World->ak,Value->au,TypeId->aK,Program->aV,Addr->aH,FuncId->bW,loadBytes->eQ,Event->bX,underlying->iZ,sizeOf->ed,Sem->bA,IntKind->mK,stuck->iO,unsupported->va,boundsPanic->xG,program->qJ,behindNumber->A6,storeCells->xM,variablesAt->A9,loadCellsFrom->CZ,typeInfo->vg,storeVar->vh,isAgg->mL,asIntOf->tx,newRow->rZ,zeroValue->Ac,askRoom->xS,plainCell->Dj,asAddr->vm,loadVar->Ae,store->tz,loadCells->I1,byteOfCell->Pt,BoundsCode->Pv,shape->Ah,asInt->Ai,Field->Aj,load->vx
open Go.Instr renaming sureAddr->uY,makeSlice->zR,sliceBounds->CC,sliceBound->CK,storeAt->zW,loadAt->zY,fill->xH,sliceAt->CR,indexAt->Hb,extract->Oz,box->Hx,slice->OU,buildSlice->az7,fieldAt->aD1,index->aG6,field->aG7,build->aG8,alloc->aG9
open Go.Mode renaming atomic->gM,plain->Df
open Go.Result renaming halt->nD
open Go.Sem renaming bind->dp,runT_fst->fE,runT->eL,run->fu
open Go.Value renaming ofBytes->Oy
open Go.World renaming farStore->sZ,noCell->rU,farLoad->xz,viewStore->Om
open List renaming mem_map->iL,map_toArray->CM,foldlM_cons->CN,foldl_cons->aB6,mapM_cons->aC6
open Option renaming some->ae,none->af,map_some->hZ
open Option.some renaming injEq->iY
open Pure renaming pure->bN
namespace Go.Proofs.YtcgjppacnhmjlaaGreat
open Go
namespace Sim
variable {b c B ad:au} {al:List UInt8} {k:ak} {h l:aH} {j:aK} {a1:Bool} {s p:Array au} {u:Nat×Nat} {aa:List aH} {ab:aK->Prop} {y r:Nat} {f:BR} {ai:Nat->Nat->Prop} {ac:Halt} {a2:Array bX} {x:Type} {H U W Z a6 a7:Option au} {a8:Array (Nat×au)}
section
variable {V:aK->Prop} {N:Nat} {G:bW->Prop} {R:BR} {S:Nat->Nat->Prop} {w w':ak} {a a':aH} {v v':au}
def gP(P:aV)(u:aK):Prop:=∀off v,Dj P P.depth u off=ae v->(∃b,v=.bool b)\/∃k n,v=.int k n
theorem YS(h:b.ofBytes al=ae c)(f:(∃a,b=.bool a)\/∃k n,b=.int k n):VR G R c c:=by
 rcases f with⟨a,rfl⟩|⟨k,n,rfl⟩
 ·simp only[Oy]at h;split at h<;>first|cases h;exact .bool _|cases h
 ·simp only[Oy]at h;split at h;·cases h;exact .int _ _
  ·cases h
theorem YR(h:b.ofBytes al=ae c)(a:VR G R b b):VR G R c c:=by
 unfold Oy at h;split at h;·split at h<;>first|cases h;exact .bool _|cases h
 ·split at h;·cases h;exact .int _ _
  ·cases h
 ·cases a
 ·cases a
 ·cases h
theorem seen_cells{P:aV}{e:aK}{n:Nat}{c:List (Nat×Nat×List UInt8)}(a:k.seen P h j l a1=.ok (s,e,u,n,b,c)):k.heap[h.block]?=ae (.cells s e u)/\Dj P P.depth j l.off=ae b:=by
 unfold World.seen at a;simp only[eN,D4,bN,D3]at a
 repeat' split at a
 all_goals first|(cases a;done)|skip
 all_goals (cases a;constructor<;>assumption)
theorem Ee{t:Type}{Q:Array au->Prop}{f:Array au->t->Except String (Array au)}(j:∀c x a,Q c->f c x=.ok a->Q a):∀(l:List t) (c a:Array au),Q c->l.foldlM f c=.ok a->Q a
 |[],c,a,h,e=>by cases e;exact h
 |x::l,c,a,h,e=>by
  rw[CN]at e;cases b:f c x with
  |error s=>rw[b]at e;cases e
  |ok c1=>rw[b]at e;exact Ee j l c1 a (j c x c1 h b) e
theorem WR.E6{P:aV}(l:∀u,V u->gP P u)(h:WR V N G R S w w)(p:AR R a a)(e:w.farLoad P a a1=.ok (v,aa)):VR G R v v/\∀x∈aa,AR R x x:=by
 obtain⟨o,W,c,f,k⟩:=h.blk _ _ p.1;rw[c]at f;cases f;cases k with
 |cells=>simp only[xz,rU,c]at e;cases e
 |number=>simp only[xz,rU,c]at e;cases e
 |@view x Z u j B U=>
  simp only[xz,c]at e;cases b:w.viewLoad P x u a a1 with
  |error s=>rw[b]at e;cases e
  |ok r=>
   rw[b]at e;cases e;unfold World.viewLoad at b;simp only[eN,D4,bN,D3]at b;split at b;·cases b
   ·rename_i t;split at b
    ·rename_i y;cases b;refine⟨YS y (l u j _ _ (seen_cells t).2),λa2 H=> ?_⟩;obtain⟨z,_,rfl⟩:=iL.1 H;exact⟨B.1,rfl,rfl⟩
    ·cases b
theorem WR.Js(h:WR V N G R S w w)(ha:AR R a a){P:aV}(e:w.farStore P a v a1=.ok (k,aa)):∃r c j t f,R r r/\w.heap[r]?=ae (.cells c t f)/\k={w with heap:=w.heap.setIfInBounds r (.cells j t f)}/\bq G R j j/\j.size=c.size/\(∀x∈aa,AR R x x/\x.block=r):=by
 obtain⟨a7,o',o,U,h3⟩:=h.blk _ _ ha.1;rw[o]at U;cases U;cases h3 with
 |cells=>simp only[sZ,rU,o]at e;cases e
 |number=>simp only[sZ,rU,o]at e;cases e
 |@view x x' a2 h0 y hs=>
  simp only[sZ,o]at e;cases b:w.viewStore P x a2 a v a1 with
  |error ab=>rw[b]at e;cases e
  |ok r=>
   rw[b]at e;cases e;unfold Om at b;simp only[eN,D4,bN,D3]at b;split at b;·cases b
   ·split at b;·cases b
    ·rename_i q hq;obtain⟨c,t,f,n,a6,B⟩:=q;have W:=(seen_cells hq).1;dsimp only at b;split at b
     ·split at b;·cases b
      ·split at b;·cases b
       ·rename_i j Z;cases b;obtain⟨a8,p',s,H,u⟩:=h.blk _ _ y.1;rw[s]at H;cases H;rw[W]at s;cases s;refine⟨x.block,c,j,t,f,y.1,W,rfl,?_,?_,λac hy=> ?_⟩
        ·cases u with
         |cells u=>
          refine Ee (Q:=λc=>bq G R c c) (λc z c2 p l=> ?_) B c j (u.Q7 rfl) Z
          repeat' split at l
          all_goals first|(cases l;done)|skip
          all_goals (rename_i ho _ _ hv;cases l;exact p.set _ (YR hv (p.2 _ _ _ ho ho)))
        ·refine Ee (Q:=λc2=>c2.size=c.size) (λc2 z c3 p l=> ?_) B c j rfl Z
         repeat' split at l
         all_goals first|(cases l;done)|skip
         all_goals (cases l;simpa using p)
        ·obtain⟨z,_,rfl⟩:=iL.1 hy;exact⟨⟨y.1,rfl,rfl⟩,rfl⟩
     ·cases b
end
theorem WR.Jr{G:bW->Prop}(b:WR ab y G f ai k k)(j:AR f h h){P:aV}(e:k.farLoad P h a1=.error ac):lO ac:=by
 obtain⟨o,p,a,l,c⟩:=b.blk _ _ j.1;cases c with
 |cells=>simp only[xz,rU,a]at e;cases e;trivial
 |number=>simp only[xz,rU,a]at e;cases e;trivial
 |view=>
  simp only[xz,a]at e;split at e;·cases e
  ·cases e;trivial
theorem WR.TL{G:bW->Prop}(c:WR ab y G f ai k k)(l:AR f h h){P:aV}(e:k.farStore P h b a1=.error ac):lO ac:=by
 obtain⟨o,r,a,p,j⟩:=c.blk _ _ l.1;cases j with
 |cells=>simp only[sZ,rU,a]at e;cases e;trivial
 |number=>simp only[sZ,rU,a]at e;cases e;trivial
 |view=>
  simp only[sZ,a]at e;split at e;·cases e
  ·cases e;trivial
theorem EvA.yl(b:EvA (λ_ _=>False) f a2 a2)(wr a:Bool):∀(l:List aH),(∀x∈l,AR f x x)->EvA (λ_ _=>False) f (a2++l.toArray.map (⟨.cell ·,wr,a⟩)) (a2++l.toArray.map (⟨.cell ·,wr,a⟩)):=by
 intro l c;unfold EvA at b⊢;simp only[ax8,CM];refine b.app ?_;induction l with
 |nil=>exact .nil
 |cons x l j=>exact .cons (lf.cell (c x az) wr a λ_=>id) (j λy h=>c y (by simp[h]))
theorem WR.LZ{B:aK->Prop}{G:bW->Prop}(h:WR ab y G f (λ_ _=>False) k k)(U:∀a b,f a b->a=b)(Z:f r r)(w:k.heap[r]?=ae (.cells s j u))(N:bq G f p p)(a1:p.size=s.size):WR ab y G f (λ_ _=>False) {k with heap:=k.heap.setIfInBounds r (.cells p j u)} {k with heap:=k.heap.setIfInBounds r (.cells p j u)}/\jr B (λ_ _=>False) f f k k {k with heap:=k.heap.setIfInBounds r (.cells p j u)} {k with heap:=k.heap.setIfInBounds r (.cells p j u)}:=by
 have t:r<k.heap.size:=(cq.1 w).1
 refine⟨⟨h.dC,by simpa using h.low,λa _ x=>x.elim,λa b l=> ?_⟩,.refl f,λ_ _ x=>.inl x,az,az,λb v c=>by simp at c;omega,λb hb W=> ?_,λa b _ _ x=>x.elim,λa b l c2 t2 H o=>by
   by_cases e:r=b
   ·subst e;rw[w]at o;cases o;exact⟨p,u,by simp[t],a1,.inl rfl⟩
   ·exact⟨c2,H,by simp[e,o],rfl,.inl rfl⟩,rfl,rfl,rfl,rfl,0,rfl,rfl⟩
 ·cases U a b l;by_cases e:r=a
  ·subst e;exact⟨.cells p j u,.cells p j u,by simp[t],by simp[t],.cells N.Iy (λ_=>.inl rfl) (λ_=>⟨rfl,rfl⟩) λ_ x=>x.elim⟩
  ·obtain⟨a2,o',v,c,R⟩:=h.blk a a l;exact⟨a2,o',by simp[e,v],by simp[e,c],R⟩
 ·have:r≠b:=λe=>W r (e▸Z);simp[this]
theorem WR.DS{P:aV}{V:aK->Prop}{N:Nat}{G:bW->Prop}{R:BR}{w:ak}(H:∀u,V u->gP P u)(h:WR V N G R (λ_ _=>False) w w):∀(n:Nat){a:aH}(acc:ByteArray){k:Array bX} {r:Result ByteArray} {f:Array bX},AR R a a->EvA (λ_ _=>False) R k k->(eQ a acc n).runT P w k=(r,f)->(∃s,r=.ok s w/\EvA (λ_ _=>False) R f f)\/∃x B,r=.halt x B/\lO x
 |0,a,acc,k,r,f,j,t,c=>by cases c;exact .inl ⟨acc,rfl,t⟩
 |n+1,a,acc,k,r,f,j,t,c=>by
  have fin:∀(v:au) {o:Array bX},VR G R v v->EvA (λ_ _=>False) R o o->(match v with| .int .u8 b=>eQ (a.add 1) (acc.push b.toNat.toUInt8) n|_=>iO "a byte variable that holds no byte").runT P w o=(r,f)->(∃s,r=.ok s w/\EvA (λ_ _=>False) R f f)\/∃x B,r=.halt x B/\lO x:=by
   intro v o l W c;cases l with
   |int a1 m=>
    cases a1<;>first
     |(cases c;exact .inr ⟨_,_,rfl,trivial⟩)
     |exact h.DS H n _ (j.add 1) W c
   |_=>cases c;exact .inr ⟨_,_,rfl,trivial⟩
  simp only[eQ,vx,eN,dp,eL]at c;cases p:w.cell? a with
  |none=>
   rw[p]at c;cases y:w.farLoad P a (Df==gM)with
   |error x=>rw[y]at c;cases c;exact .inr ⟨_,_,rfl,h.Jr j y⟩
   |ok a6=>
    obtain⟨v,a2⟩:=a6;rw[y]at c;obtain⟨l,Z⟩:=WR.E6 H h j y;exact fin v l (t.yl ax _ a2 Z) c
  |some v=>
   rw[p]at c;obtain⟨v',U,l⟩:=h.cell j p;rw[p]at U;cases U;exact fin v l (t.push (lf.cell j ax _ λe=>by cases e)) c
theorem Kr{o:Type}{P:aV}{w:ak}{F r:ByteArray->bA o}:∀(n:Nat){a:aH} {acc s:ByteArray} {j:ak} {t f:Array bX},(eQ a acc n).bind r=(eQ a acc n).bind F->(eQ a acc n).runT P w t=(.ok s j,f)->r s=F s
 |0,a,acc,s,j,t,f,h,c=>by cases c;exact h
 |n+1,a,acc,s,j,t,f,h,c=>by
  simp only[eQ,vx,eN,dp,eL,Sem.load.injEq,true_and]at h c
  have fin:∀(v:au) {u:Array bX},(match v with| .int .u8 b=>eQ (a.add 1) (acc.push b.toNat.toUInt8) n|_=>iO "a byte variable that holds no byte").runT P w u=(.ok s j,f)->r s=F s:=by
   intro v u c;have H:=congrFun h v;cases v with
   |int k m=>cases k<;>first|(cases c;done)|exact Kr n H c
   |_=>cases c
  cases y:w.cell? a with
  |none=>
   rw[y]at c;cases B:w.farLoad P a (Df==gM)with
   |error x=>rw[B]at c;cases c
   |ok p=>
    obtain⟨v,l⟩:=p;rw[B]at c;exact fin v c
  |some v=>rw[y]at c;exact fin v c
theorem Ns{P:aV}{w:ak}{n:Nat}{p r:ByteArray->bA x}{s:ByteArray}{u:Array bX}(b:ustr h j n r=ustr h j n p)(a:mf P k h j n=aq)(v:(eQ h .empty n).runT P k a2=(.ok s w,u)):r s=p s:=by
 unfold ustr A9 at b;simp only[qJ,Ah,eN,dp,Sem.program.injEq]at b;have l:=congrFun b P;simp only[Sem.shape.injEq,true_and]at l;have f:=congrFun l (k.shape? h.block);unfold mf at a;cases o:k.shape? h.block with
 |none=>rw[o]at a;cases a
 |some z=>
  obtain⟨t,c⟩:=z;rw[o]at a f;dsimp only at a;simp only[bN,dp,a,if_true]at f;have:=Kr n f v;simp only[Sem.freeze.injEq,true_and]at this;exact this
def Ii(X:Ctx)(A:BR->x->x->Prop)(R:BR)(w:ak)(r:Result x)(h:Array bX):Prop:=
 match r with
 | .ok a f=>∃c,(∀a b,c a b->a=b)/\A c a a/\WR X.vw X.P.globals.size X.G c (λ_ _=>False) f f/\jr (mN X.P) (λ_ _=>False) R c w w f f/\EvA (λ_ _=>False) c h h
 | .halt j _=>lO j
theorem aD.uL{X:Ctx}{A:BR->x->x->Prop}{a6 s':bA x}(hV:∀ad,X.vw ad->gP X.P ad)(a7:aD X A f a6 s'):s'=a6->∀{w:ak} {es:Array bX} {r:Result x} {es1:Array bX},(∀a b,f a b->a=b)->WR X.vw X.P.globals.size X.G f (λ_ _=>False) w w->EvA (λ_ _=>False) f es es->a6.runT X.P w es=(r,es1)->Ii X A f w r es1:=by
 induction a7 with
 |pure a7=>
  intro e w es r es1 j h k c;cases e;cases c;exact⟨_,j,a7,h,.refl h,k⟩
 |@load f m a a' a1 k' s _ l=>
  intro e w es r es1 j h k c;cases e;simp only[eL]at c;cases t:w.cell? a with
  |some v=>
   rw[t]at c;obtain⟨v',ai,hv⟩:=h.cell s t;rw[t]at ai;cases ai;exact l v v hv rfl j h (k.push (lf.cell s ax _ λe=>by cases e)) c
  |none=>
   rw[t]at c;cases W:w.farLoad X.P a (m==gM)with
   |error o=>
    rw[W]at c;cases c;exact h.Jr s W
   |ok ac=>
    obtain⟨v,aa⟩:=ac;rw[W]at c;obtain⟨hv,hl⟩:=WR.E6 hV h s W;exact l v v hv rfl j h (k.yl ax _ aa hl) c
 |@store f m a a' v v' a1 k' s hv _ l=>
  intro e w es r es1 j h k c;cases e
  have key:(match w.cell? a with
    |some _=>if w.frozen? a then(nD (.unsupported (.unsafePointer "a write to bytes that a string shares")) w,es)else a1.runT X.P (w.setCell a v) (es.push ⟨.cell a,aq,m==gM⟩)
    |none=>match w.farStore X.P a v (m==gM)with
     | .ok (w,ar)=>a1.runT X.P w (es++ar.toArray.map (⟨.cell ·,aq,m==gM⟩))
     | .error a7=>(nD a7 w,es))=(r,es1)->Ii X A f w r es1:=by
   intro c;cases t:w.cell? a with
   |none=>
    rw[t]at c;cases W:w.farStore X.P a v (m==gM)with
    |error o=>rw[W]at c;cases c;exact h.TL s W
    |ok ac=>
     obtain⟨w2,aa⟩:=ac;rw[W]at c;obtain⟨q,al,c',aP,aF,h1,h2,h3,h4,h6,h5⟩:=h.Js s W;subst h3;obtain⟨Z,U⟩:=h.LZ j h1 h2 h4 h6;have:=l rfl j Z (k.yl aq _ aa λo hx=>(h5 o hx).1) c;cases r with
     |ok a w1=>obtain⟨u,y,B,H,N,R⟩:=this;exact⟨u,y,B,H,U.trans N,R⟩
     |halt o w1=>exact this
   |some v0=>
    rw[t]at c;cases W:w.frozen? a with
    |true=>rw[W]at c;cases c;trivial
    |false=>
     simp only[W,dx,if_false]at c;obtain⟨Z,U⟩:=h.set s hv t W;have:=l rfl j Z (k.push (lf.cell s aq _ λ_=>id)) c;cases r with
     |ok a w1=>obtain⟨u,y,B,H,N,R⟩:=this;exact⟨u,y,B,H,U.trans N,R⟩
     |halt o w1=>exact this
  cases hv<;>first|exact key c|(simp only[eL]at c;cases c;trivial)
 |@new f al c' e a1 k' t _ l=>
  intro e w es r es1 j h k c;cases e;obtain⟨Z,U⟩:=h.push (h.Bt t _);have a8:∀a b,f.add w.heap.size w.heap.size a b->a=b:=λa b o=>o.elim (j a b) λa2=>a2.1.trans a2.2.symm;have:=l w.heap.size w.heap.size (λb p=>by have:=(h.lt p).1;omega) (λb p=>by have:=(h.lt p).2;omega) h.low.1 h.low.2 rfl a8 Z (k.mono (BR.gF _ _ _)) c;cases r with
  |ok a w1=>obtain⟨u,y,B,H,N,R⟩:=this;exact⟨u,y,B,H,U.trans N,R⟩
  |halt o w1=>exact this
 |@newN f o x' aa a1 k' t _ l=>
  intro e w es r es1 j h k c;cases e;obtain⟨Z,U⟩:=h.push (h.Fc t aa);have a8:∀a b,f.add w.heap.size w.heap.size a b->a=b:=λa b o=>o.elim (j a b) λa2=>a2.1.trans a2.2.symm;have:=l w.heap.size w.heap.size (λb p=>by have:=(h.lt p).1;omega) (λb p=>by have:=(h.lt p).2;omega) h.low.1 h.low.2 rfl a8 Z (k.mono (BR.gF _ _ _)) c;cases r with
  |ok a w1=>obtain⟨u,y,B,H,N,R⟩:=this;exact⟨u,y,B,H,U.trans N,R⟩
  |halt o w1=>exact this
 |@newV f o x' ad a1 k' hz t _ l=>
  intro e w es r es1 j h k c;cases e;obtain⟨Z,U⟩:=h.push (h.Lg hz t);have a8:∀a b,f.add w.heap.size w.heap.size a b->a=b:=λa b o=>o.elim (j a b) λa2=>a2.1.trans a2.2.symm;have:=l w.heap.size w.heap.size (λb p=>by have:=(h.lt p).1;omega) (λb p=>by have:=(h.lt p).2;omega) h.low.1 h.low.2 rfl a8 Z (k.mono (BR.gF _ _ _)) c;cases r with
  |ok a w1=>obtain⟨u,y,B,H,N,R⟩:=this;exact⟨u,y,B,H,U.trans N,R⟩
  |halt o w1=>exact this
 |@getN f r r' a1 k' ab _ _ l ao=>
  intro e w es a2 es1 j h k c;cases e;obtain⟨ap,o',h1,h2,h3⟩:=h.blk _ _ ab;rw[h1]at h2;cases h2;simp only[eL,h1]at c;cases h3 with
  |cells=>cases c;trivial
  |number h3=>exact l _ _ _ h3 rfl j h (k.push (e:=⟨.obj r,ax,_⟩) (e':=⟨.obj r,ax,_⟩) ⟨rfl,rfl,ab,rfl⟩) c
  |view hz h3=>exact ao _ _ _ hz h3 rfl j h (k.push (e:=⟨.obj r,ax,_⟩) (e':=⟨.obj r,ax,_⟩) ⟨rfl,rfl,ab,rfl⟩) c
 |@shape f r r' a1 k' ab _ l=>
  intro e w es a2 es1 j h k c;cases e;exact l _ _ (.inl rfl) rfl j h k c
 |@ustr f a a' e n a1 k' s hu _ l=>
  intro e' w es r es1 j h k c;have am:a'=a:=by
   obtain⟨b,ap,a6⟩:=a;obtain⟨b',o',s'⟩:=a';obtain⟨h1,h2,h3⟩:=s;have:=j _ _ h1;dsimp only at this h2 h3;subst this h2 h3;rfl
  subst am;rw[Nt]at c;split at c
  ·rename_i hl;cases p:(eQ a' .empty n).runT X.P w es with
   |mk rb av=>
    rw[p]at c;rcases h.DS hV n .empty s k p with⟨a6,rfl,h3⟩|⟨a2,w2,rfl,hy⟩
    ·dsimp only at c;have hk:=Ns e' hl p;obtain⟨Z,U⟩:=h.freeze (B:=mN X.P) s n (IP hu hl);have:=l a6 hk j Z h3 c;cases r with
     |ok a w1=>obtain⟨u,y,B,H,N,R⟩:=this;exact⟨u,y,B,H,U.trans N,R⟩
     |halt o w1=>exact this
    ·cases c;exact hy
  ·cases c;trivial
 |@frozen f a a' a1 k' aJ s _ l=>
  intro e w es r es1 j h k c;cases e;exact l _ rfl j h k c
 |@choose f q a1 k' _ l=>
  intro e w es r es1 j h k c;cases e;simp only[eL]at c;by_cases hq:q.forced=aq
  ·rw[if_pos hq]at c;exact l 0 rfl j h k c
  ·rw[if_neg hq]at c;obtain⟨Z,U⟩:=h.draw;have:=l _ rfl j Z k c;cases r with
   |ok a w1=>obtain⟨u,y,B,H,N,R⟩:=this;exact⟨u,y,B,H,U.trans N,R⟩
   |halt o w1=>exact this
 |program _ l=>
  intro e w es r es1 j h k c;cases e;exact l rfl j h k c
 |@mark f m a1 k' hm _ l=>
  intro e w es r es1 j h k c;cases e;exact l rfl j h (k.push (e:=⟨.mark m,ax,aq⟩) (e':=⟨.mark m,ax,aq⟩) ⟨rfl,rfl,rfl,hm⟩) c
 |@dead f a6 s' an=>
  intro e w es r es1 j h k c;obtain⟨a2,w2,h1,h2⟩:=an w;have:=fE X.P a6 w es;rw[c,h1]at this;cases r with
  |ok=>cases this
  |halt=>cases this;exact h2
def pV(X:Ctx)(t:aK):Prop:=∀i v,X.P.info? t=ae i->i.zero=ae v->∀R,VR X.G R v v
abbrev eg:BR->x->x->Prop:=λ_ a b=>a=b
abbrev VX(X:Ctx):BR->au->au->Prop:=VR X.G
section
variable {X:Ctx} {R:BR} {o t γ δ:Type}
theorem aD.imp{A B:BR->o->t->Prop}{s:bA o}{p:bA t}(h:aD X A R s p)(u:∀R a b,A R a b->B R a b):aD X B R s p:=by
 induction h with
 |pure h=>exact .pure (u _ _ _ h)
 |load f _ c=>exact .load f c
 |store f x _ c=>exact .store f x c
 |new j _ c=>exact .new j c
 |newN j _ c=>exact .newN j c
 |newV l j _ c=>exact .newV l j c
 |getN k _ _ c y=>exact .getN k c y
 |shape k _ c=>exact .shape k c
 |ustr f w _ c=>exact .ustr f w c
 |frozen l f _ c=>exact .frozen l f c
 |choose _ c=>exact .choose c
 |program _ c=>exact .program c
 |mark v _ c=>exact .mark v c
 |dead r=>exact .dead r
theorem aD.bn{B:BR->γ->δ->Prop}{s s':bA o}{f:o->bA γ}{j:o->bA δ}(h:aD X eg R s s')(k:∀c,BR.Ext X.P.globals.size R c->∀a,aD X B c (f a) (j a)):aD X B R (s.bind f) (s'.bind j):=
 h.bind λc l a b e=>by cases e;exact k c l a
theorem bu{A:BR->o->t->Prop}(x:String)(a:bA t):aD X A R (iO x) a:=.dead (.stuck x)
theorem mq{s a:aV->bA o}{A:BR->o->o->Prop}(h:aD X A R (s X.P) (a X.P)):aD X A R (qJ.bind s) (qJ.bind a):=.program h
theorem jT(t:aK):aD X eg R (iZ t) (iZ t):=by
 refine mq ?_;split;·exact .pure rfl
 ·exact bu _ _
theorem kz(t:aK):aD X (λ_ a b=>a=b/\X.P.underlying t=ae a) R (iZ t) (iZ t):=by
 refine mq ?_;split;·rename_i h;exact .pure ⟨rfl,h⟩
 ·exact bu _ _
theorem jS(t:aK):aD X (λ_ a b=>a=b/\X.P.info? t=ae a) R (vg t) (vg t):=by
 refine aD.program ?_;simp only[dp];split;·rename_i h;exact .pure ⟨rfl,h⟩
 ·exact bu _ _
theorem iU(t:aK):aD X eg R (ed t) (ed t):=(jS t).bind λc f a b h=>by cases h.1;exact .pure rfl
theorem Mb(t:aK):aD X eg R (mL t) (mL t):=by
 refine aD.bn (jT t) λa b d=> ?_;split<;>exact .pure rfl
theorem aa4(t:aK):aD X (λ_ a b=>a=b/\X.P.underlying t=ae (.pointer a)) R (elemOf t) (elemOf t):=by
 refine(kz t).bind λf j d h c=> ?_;obtain⟨rfl,c⟩:=c;split;·exact .pure ⟨rfl,c⟩
 ·exact bu _ _
theorem sF(T:pV X j):aD X (VX X) R (Ac j) (Ac j):=by
 refine(jS j).bind λc f a b h=> ?_;obtain⟨rfl,h⟩:=h;split;·rename_i v e;exact .pure (T a v h e c)
 ·exact .dead (.unsupported _ az)
theorem FT(a:AR R h l)(m:Mode:=.plain):aD X (VX X) R (vx h m) (vx l m):=.load a λ_ _ b=>.pure b
theorem FX(a:AR R h l)(f:VR X.G R b c)(m:Mode:=.plain):aD X eg R (tz h b m) (tz l c m):=.store a f (.pure rfl)
theorem Md{a a':aH}:∀(n i:Nat){R:BR} {acc c:Array au},AR R a a'->bq X.G R acc c->aD X (bq X.G) R (CZ a i n acc) (CZ a' i n c)
 |0,_,_,_,_,_,b=>.pure b
 |n+1,i,_,_,_,f,b=>(FT (f.add i)).bind λ_ h _ _ j=>Md n (i+1) (f.mono h.sub) ((b.mono h.sub).push j)
theorem Mc(a:AR R h l)(n:Nat):aD X (bq X.G) R (I1 h n) (I1 l n):=Md n 0 a .nil
theorem bq.list{G:bW->Prop}(h:bq G R s p):s.toList.length=p.toList.length/\∀(i:Nat) v v',s.toList[i]?=ae v->p.toList[i]?=ae v'->VR G R v v':=⟨by simpa using h.1,λi v v' a b=>h.2 i v v' (by simpa using a) (by simpa using b)⟩
theorem za{a a':aH}:∀(vs b:List au)(i:Nat) {R:BR},AR R a a'->vs.length=b.length->(∀(i:Nat) v v',vs[i]?=ae v->b[i]?=ae v'->VR X.G R v v')->aD X eg R (xM a vs i) (xM a' b i)
 |[],[],_,_,_,_,_=>.pure rfl
 |v::vs,v'::b,i,_,c,o,k=>
  aD.bn (FX (c.add i) (k 0 v v' rfl rfl)) λr f _=>za vs b (i+1) (c.mono f.sub) (by simpa using o) λj x p h l=>(k (j+1) x p h l).mono f.sub
 |[],_::_,_,_,_,h,_=>by simp at h
 |_::_,[],_,_,_,h,_=>by simp at h
theorem Me(f:AR R h l)(t:aK):aD X (VX X) R (Ae t h) (Ae t l):=by
 refine aD.bn (Mb t) λo a b=> ?_;cases b with
 |true=>
  refine aD.bn (iU t) λp j n=> ?_;refine aD.bind (Mc ((f.mono a.sub).mono j.sub) n) λr u c s k=> ?_;exact .pure k.agg
 |false=>exact FT (f.mono a.sub)
theorem ad1(k:AR R h l)(j:VR X.G R b c)(t:aK):aD X eg R (vh t h b) (vh t l c):=by
 refine aD.bn (iU t) λo a n=> ?_;rw[j.cells.1];have f:=(j.cells.mono a.sub).list;split;·refine aD.dead (dH.bind (dH.stuck _) _)
 ·exact za _ _ 0 (k.mono a.sub) f.1 f.2
theorem sD(a:bq X.G R s p)(e:aK):aD X AR R (rZ e s) (rZ e p):=.new a λ_ _ _ _ _ _=>.pure ⟨.inr ⟨rfl,rfl⟩,rfl,rfl⟩
theorem Mh(a:VR X.G R b c)(t:aK):aD X AR R (newVar t b) (newVar t c):=sD a.cells t
theorem zb(a:VR X.G R b c):aD X AR R (uY b) (uY c):=by
 cases a with
 |ptr h=>exact .pure h
 |_=>exact bu _ _
theorem qe{P:aV}(e:RuntimeError)(h:match e with| .bounds .. | .error _| .plain _| .nilDeref=>True|_=>False):dH P (runtimePanic e:bA o):=by
 intro w;cases e<;>first|exact⟨_,w,rfl,trivial⟩|exact h.elim
theorem sE{A:BR->o->t->Prop}(e:RuntimeError)(a:bA t)(h:match e with| .bounds .. | .error _| .plain _| .nilDeref=>True|_=>False):aD X A R (runtimePanic e) a:=.dead (qe e h)
theorem K6{P:aV}(k:mK)(x y:Int)(c:Pv):dH P (xG k x y c:bA o):=by
 intro w;unfold xG;by_cases a:(k !=.u64&&aM (0<=x)&&aM (x<=31))=aq
 ·rw[if_pos a];exact⟨_,_,rfl,trivial⟩
 ·rw[if_neg a];exact⟨_,_,rfl,trivial⟩
theorem dH.ite{P:aV}{c:Prop}[Decidable c]{s t:bA o}(h:dH P s)(a:dH P t):dH P (if c then s else t):=by split<;>assumption
theorem BN{A:BR->o->t->Prop}(k:mK)(x y:Int)(c:Pv)(a:bA t):aD X A R (xG k x y c) a:=.dead (K6 k x y c)
theorem yZ(a:VR X.G R b c):aD X AR R (vm b) (vm c):=by
 cases a with
 |ptr h=>exact .pure h
 |pnil=>exact sE .nilDeref _ trivial
 |_=>exact bu _ _
theorem BM(a:VR X.G f b c):aD X eg R (tx b) (tx c):=by
 cases a with
 |int k n=>exact .pure rfl
 |ptr h=>exact .dead (.unsupported _ az)
 |_=>exact bu _ _
theorem wO(a:VR X.G f b c):aD X eg R (Ai b) (Ai c):=aD.bn (BM a) λ_ _ _=>.pure rfl
theorem ZT(a:VR X.G f b c):aD X eg R (asBool b) (asBool c):=by
 cases a with
 |bool h=>exact .pure rfl
 |_=>exact bu _ _
theorem ZS(h:VR X.G R b c):aD X (bq X.G) R (asAgg b) (asAgg c):=by
 cases h with
 |agg a f=>exact .pure ⟨a,f⟩
 |_=>exact bu _ _
theorem BU(h:R y r):aD X (λR a b=>(a=af/\b=af)\/∃x c u,X.vw u/\a=ae (x,u)/\b=ae (c,u)/\AR R x c) R (viewAt y) (viewAt r):=.shape h λs j f=>by
 cases s with
 |some s=>
  have:∃z,j=ae z:=by rcases f with rfl|⟨_,_,e,n,o,_,rfl,_⟩<;>exact⟨_,rfl⟩
  obtain⟨z,rfl⟩:=this;exact .pure (.inl ⟨rfl,rfl⟩)
 |none=>
  have:j=none:=by
   rcases f with rfl|⟨_,_,e,n,o,h,_⟩;·rfl
   ·cases h
  subst this;exact .getN h (λ_ _ _ _=>.pure (.inl ⟨rfl,rfl⟩)) λx c u l k=>.pure (.inr ⟨x,c,u,l,rfl,rfl,k⟩)
theorem Mi(h:R y r):aD X (λR a b=>(a=af/\b=af)\/∃x c l,a=ae (x,l)/\b=ae (c,l)/\AR R x c) R (numberAt y) (numberAt r):=.shape h λs j f=>by
 cases s with
 |some s=>
  have:∃z,j=ae z:=by rcases f with rfl|⟨_,_,e,n,o,_,rfl,_⟩<;>exact⟨_,rfl⟩
  obtain⟨z,rfl⟩:=this;exact .pure (.inl ⟨rfl,rfl⟩)
 |none=>
  have:j=none:=by
   rcases f with rfl|⟨_,_,e,n,o,h,_⟩;·rfl
   ·cases h
  subst this;exact .getN h (λx c l k=>.pure (.inr ⟨x,c,l,rfl,rfl,k⟩)) λ_ _ _ _ _=>.pure (.inl ⟨rfl,rfl⟩)
theorem FV{a a':aH}(h:AR R a a'):aD X eg R (noView a) (noView a'):=(BU h.1).bind λb _ x y e=>by
 rcases e with⟨rfl,rfl⟩|⟨x,c,u,_,rfl,rfl,_⟩;·exact .pure rfl
 ·exact .dead (.unsupported _ az)
theorem sC(a:AR R h l):aD X (λR p q=>AR R p.1 q.1/\p.2=q.2) R (A6 h) (A6 l):=(Mi a.1).bind λf b x y e=>by
 rcases e with⟨rfl,rfl⟩|⟨u,k,j,rfl,rfl,c⟩;·exact .pure ⟨a.mono b.sub,rfl⟩
 ·exact .pure ⟨c,rfl⟩
theorem uA(a:AR R h l):aD X eg R (byteOf h) (byteOf l):=by
 obtain⟨b,o,s⟩:=h;obtain⟨r,f,v⟩:=l;obtain⟨c,j,k⟩:=a;simp only at c j k;subst j k;cases v with
 |some s=>exact .pure rfl
 |none=>
  refine mq ?_;refine aD.bn (FV (a:=⟨b,f,af⟩) (a':=⟨r,f,af⟩) ⟨c,rfl,rfl⟩) λw t _=> ?_;refine .shape (t.sub _ _ c) λs s2 u=> ?_;cases s with
  |none=>exact bu _ _
  |some s=>
   obtain⟨e,n⟩:=s;have:∃m,s2=ae (e,m):=by
    rcases u with rfl|⟨_,_,x,y,B,a,rfl,_⟩;·exact⟨_,rfl⟩
    ·cases a;exact⟨_,rfl⟩
   obtain⟨m,rfl⟩:=this;simp only[dp];by_cases p:X.P.cellsOf e=0;·rw[if_pos p];exact .pure rfl
   ·rw[if_neg p];simp only[bN];cases Pt X.P X.P.depth e (f%X.P.cellsOf e)with
    |some b=>exact .pure rfl
    |none=>exact bu _ _
theorem ac4(f:AR R h l)(c b:Nat):aD X AR R (partAt h c b) (partAt l c b):=by
 refine aD.bn (uA f) λk o x=> ?_;have a:AR k ({block:=h.block,off:=h.off+c}:aH) {block:=l.block,off:=l.off+c}:=⟨o.sub _ _ f.1,by simp[f.2.1],rfl⟩;refine aD.bn (uA a) λp j y=> ?_;refine .pure ?_;split;·exact a.mono j.sub
 ·exact⟨j.sub _ _ a.1,a.2.1,rfl⟩
theorem ab1(a:AR R h l)(f:Aj):aD X AR R (fieldPlace h f) (fieldPlace l f):=by
 refine aD.bn (iU _) λc b n=> ?_;split;·exact ac4 (a.mono b.sub) _ _
 ·exact .pure ((a.mono b.sub).add _)
theorem ab0(l:VR X.G R b c)(s:aK)(f:Nat):aD X (VX X) R (aD1 s b f) (aD1 s c f):=by
 refine aD.bn (jT s) λo h d=> ?_;split
 ·split
  ·refine aD.bind (zb (l.mono h.sub)) λp v a a' j=> ?_;refine aD.bind (ab1 j _) λr w t u k=> ?_;exact .pure (.ptr k)
  ·exact bu _ _
 ·exact bu _ _
theorem ab4{i:au}(f:VR X.G R b c)(y:VR X.G R i B)(t:aK):aD X (VX X) R (Hb t b i) (Hb t c B):=by
 refine aD.bn (BM y) λN v H=> ?_;obtain⟨k,n⟩:=H;have f:=f.mono v.sub;refine aD.bn (jT t) λU w d=> ?_;have f:=f.mono w.sub
 have fin:∀{R:BR}(base h:Option aH)(len:Nat) (elem:aK),(match base,h with|none,af=>True|some a,ae a'=>AR R a a'|_,_=>False)->
   aD X (VX X) R (do
    let p:=len<=1&&(match<-iZ t with| .array .. =>aq|_=>ax)
    match base with
    |some a=>
     if 0<=n/\n<len then bN (.pointer (ae (a.add (n.toNat*(<-ed elem)))))
     else if p then va (.noEntry "op/indexAddr.an index out of range at an array of length 0 or 1 (ledger 616)")
     else xG k n len .index
    |none=>xG k n 0 .index) (do
    let p:=len<=1&&(match<-iZ t with| .array .. =>aq|_=>ax)
    match h with
    |some a=>
     if 0<=n/\n<len then bN (.pointer (ae (a.add (n.toNat*(<-ed elem)))))
     else if p then va (.noEntry "op/indexAddr.an index out of range at an array of length 0 or 1 (ledger 616)")
     else xG k n len .index
    |none=>xG k n 0 .index):=by
  intro R base h len elem o;refine aD.bn (jT t) λs r d=> ?_;cases base with
  |none=>
   cases h with
   |none=>exact BN _ _ _ _ _
   |some _=>exact o.elim
  |some a=>
   cases h with
   |none=>exact o.elim
   |some a'=>
    dsimp only;split
    ·refine aD.bn (iU _) λW x m=> ?_;exact .pure (.ptr ((o.mono (r.sub.trans x.sub)).add _))
    ·exact .dead (dH.ite (.unsupported _ az) (K6 _ _ _ _))
 cases d with
 |array len elem=>
  refine aD.bind (zb f) λs r a a' j=> ?_;exact fin (ae a) (ae a') len elem j
 |slice elem=>
  cases f with
  |snil l u=>exact fin af af l elem trivial
  |slice l u j=>exact fin (ae _) (ae _) l elem j
  |_=>exact .dead (dH.bind (dH.stuck _) _)
 |_=>exact .dead (dH.bind (dH.stuck _) _)
end
section
variable {X:Ctx} {R:BR} {o t γ δ:Type}
def mR(G:bW->Prop)(R:BR):Option au->Option au->Prop
 |none,af=>True
 |some v,ae v'=>VR G R v v'
 |_,_=>False
theorem mR.mono{G:bW->Prop}{R a:BR}(c:BR.Sub R a):∀{o b:Option au},mR G R o b->mR G a o b
 |none,af,_=>trivial
 |some _,ae _,h=>VR.mono h c
 |none,ae _,h=>h.elim
 |some _,af,h=>h.elim
theorem ac8(h:VR X.G f b c)(y:Nat)(a:Pv):aD X eg R (CK b y a) (CK c y a):=by
 refine aD.bn (BM h) λl o j=> ?_;obtain⟨k,i⟩:=j;dsimp only;split;·exact .pure rfl
 ·exact BN _ _ _ _ _
theorem z8(b:Bool)(len cap:Nat){mx mx':Option au}(c:mR X.G f H U)(a:mR X.G f W Z)(h:mR X.G f mx mx'):aD X eg R (CC b len cap H W mx) (CC b len cap U Z mx'):=by
 unfold CC;cases mx<;>cases mx'<;>first|exact h.elim|skip
 all_goals cases W<;>cases Z<;>first|exact a.elim|skip
 all_goals cases H<;>cases U<;>first|exact c.elim|skip
 all_goals dsimp only
 all_goals repeat (first|exact aD.pure rfl|refine aD.bn (ac8 (by assumption) _ _) λ_ _ _=> ?_|refine aD.bn (aD.pure rfl) λ_ _ _=> ?_|exact aD.dead (dH.bind (dH.stuck _) _))
theorem ac6(s:VR X.G R b c)(t:aK)(p:mR X.G R H U)(o:mR X.G R W Z)(r:mR X.G R a6 a7):aD X (VX X) R (OU t b H W a6) (OU t c U Z a7):=by
 refine aD.bn (jT t) λR1 u d=> ?_;have s:=s.mono u.sub;have p:=p.mono u.sub;have o:=o.mono u.sub;have r:=r.mono u.sub;cases d with
 |string=>
  cases s with
  |string a1=>
   cases a6<;>cases a7<;>first|exact r.elim|skip
   ·refine aD.bn (z8 _ _ _ p o (mx:=af) (mx':=af) trivial) λv j x=>.pure (.string _)
   ·exact bu _ _
  |_=>exact bu _ _
 |slice e=>
  cases s with
  |snil l y=>
   refine aD.bn (z8 _ _ _ p o r) λv j x=> ?_;refine aD.bn (iU _) λw k n=> ?_;obtain⟨l,h,m⟩:=x;refine .pure ?_;dsimp only;split;·exact .snil _ _
   ·exact .snil _ _
  |slice l y f=>
   refine aD.bn (z8 _ _ _ p o r) λv j x=> ?_;refine aD.bn (iU _) λw k n=> ?_;obtain⟨l,h,m⟩:=x;refine .pure ?_;dsimp only;have f:=(f.mono j.sub).mono k.sub;split;·exact .slice _ _ f
   ·exact .slice _ _ (f.add _)
  |_=>exact bu _ _
 |pointer e=>
  refine aD.bind (yZ s) λv j a a' f=> ?_;refine aD.bn (jT e) λw k d=> ?_;cases d with
  |array n el=>
   refine aD.bn (z8 _ _ _ ((p.mono j.sub).mono k.sub) ((o.mono j.sub).mono k.sub) ((r.mono j.sub).mono k.sub)) λR4 B x=> ?_;refine aD.bn (iU _) λR5 N n=> ?_;obtain⟨l,h,m⟩:=x;refine .pure ?_;have f:=((f.mono k.sub).mono B.sub).mono N.sub;dsimp only;split;·exact .slice _ _ f
   ·exact .slice _ _ (f.add _)
  |_=>exact bu _ _
 |_=>exact bu _ _
theorem ac7(r:VR X.G R b c)(t:aK)(o:mR X.G R H U)(k:mR X.G R W Z)(p:mR X.G R a6 a7):aD X (VX X) R (CR t b H W a6) (CR t c U Z a7):=by
 refine aD.bn (jT t) λw f d=> ?_;have r:=r.mono f.sub;have o:=o.mono f.sub;have k:=k.mono f.sub;have p:=p.mono f.sub;cases d with
 |array n e=>
  refine aD.bind (zb r) λy s a a' j=> ?_;refine aD.bn (z8 _ _ _ (o.mono s.sub) (k.mono s.sub) (p.mono s.sub)) λB u x=> ?_;refine aD.bn (iU _) λN v n=> ?_;obtain⟨l,h,m⟩:=x;refine .pure ?_;have j:=(j.mono u.sub).mono v.sub;dsimp only;split;·exact .slice _ _ j
  ·exact .slice _ _ (j.add _)
 |_=>exact ac6 r t o k p
theorem BO(a:bq X.G R s p)(t:aK)(off:Nat):aD X (VX X) R (part t s off) (part t p off):=by
 refine aD.bn (Mb t) λk c b=> ?_;cases b with
 |true=>exact aD.bn (iU _) λl f n=>.pure (((a.mono c.sub).mono f.sub).extract _ _).agg
 |false=>
  have a:=a.mono c.sub;simp only[dx,if_false];cases j:s[off]? with
  |none=>exact bu _ _
  |some v=>obtain⟨v',e,h⟩:=a.get j;rw[e];exact .pure h
theorem aa9(k:VR X.G R b c)(t:aK)(f:Nat):aD X (VX X) R (aG7 t b f) (aG7 t c f):=by
 refine aD.bn (jT t) λl h d=> ?_;cases d with
 |struct a=>
  dsimp only;cases a[f]? with
  |none=>exact bu _ _
  |some x=>exact aD.bind (ZS (k.mono h.sub)) λo s p r j=>BO j _ _
 |_=>exact bu _ _
theorem ab3{i:au}(a:VR X.G R b c)(p:VR X.G R i B)(t:aK):aD X (VX X) R (aG6 t b i) (aG6 t c B):=by
 refine aD.bn (BM p) λu f r=> ?_;obtain⟨k,n⟩:=r;refine aD.bn (jT t) λv h d=> ?_;have a:=(a.mono f.sub).mono h.sub;cases d with
 |array len e=>
  cases a with
  |agg j l=>
   dsimp only;split;·exact aD.bn (iU _) λw o m=>BO (bq.mono ⟨j,l⟩ o.sub) _ _
   ·exact BN _ _ _ _ _
  |_=>exact bu _ _
 |string=>
  cases a with
  |string s=>
   dsimp only;split;·exact .pure (.int _ _)
   ·exact BN _ _ _ _ _
  |_=>exact bu _ _
 |_=>exact bu _ _
theorem aa8(a:VR X.G R b c)(i:Nat):aD X (VX X) R (Oz b i) (Oz c i):=by
 cases a with
 |@tuple f h j k=>
  have l:bq X.G R f h:=⟨j,k⟩;unfold Oz;dsimp only;cases o:f[i]? with
  |none=>exact bu _ _
  |some b=>obtain⟨c,e,a⟩:=l.get o;rw[e];exact .pure a
 |_=>exact bu _ _
theorem ZQ(T:pV X j):aD X (VX X) R (aG9 j aq (.tuple #[])) (aG9 j aq (.tuple #[])):=
 (sF T).bind λf _ v v' c=>(Mh c j).bind λh _ a a' b=>.pure (.ptr b)
theorem ZV(h:VR X.G R b c)(e:aK):aD X (VX X) R (Hx e b) (Hx e c):=(Mh h e).bind λj _ a a' f=>.pure (.ptr f)
theorem ab7(h:VR X.G R b c)(t:aK):aD X (VX X) R (zY t b) (zY t c):=(zb h).bind λj _ a a' f=>Me f t
theorem ac9(j:VR X.G R b c)(k:VR X.G R B ad)(t:aK):aD X eg R (zW t b B) (zW t c ad):=
 (zb j).bind λl f a a' h=>ad1 h (k.mono f.sub) t
theorem JD{G:bW->Prop}(off:Nat):∀(l b:List au)(k:Nat) {a f:Array au},l.length=b.length->(∀(i:Nat) v v',l[i]?=ae v->b[i]?=ae v'->VR G R v v')->bq G R a f->bq G R ((l.zipIdx k).foldl (λa (x:au×Nat)=>a.setIfInBounds (off+x.2) x.1) a) ((b.zipIdx k).foldl (λa (x:au×Nat)=>a.setIfInBounds (off+x.2) x.1) f)
 |[],[],_,_,_,_,_,c=>c
 |v::l,v'::b,k,_,_,p,j,c=>by
  simp only[List.zipIdx_cons,aB6];exact JD off l b (k+1) (by simpa using p) (λi x r h o=>j (i+1) x r h o) (c.set _ (j 0 v v' rfl rfl))
 |[],_::_,_,_,_,h,_,_=>by simp at h
 |_::_,[],_,_,_,h,_,_=>by simp at h
inductive lR (G:bW->Prop) (R:BR):List (Nat×au)->List (Nat×au)->Prop
 |nil:lR G R [] []
 |cons {i:Nat} {v v':au} {l l':List (Nat×au)}:VR G R v v'->lR G R l l'->lR G R ((i,v)::l) ((i,v')::l')
theorem lR.mono{G:bW->Prop}{R a:BR}{l b:List (Nat×au)}(h:lR G R l b)(c:BR.Sub R a):lR G a l b:=by
 induction h with
 |nil=>exact .nil
 |cons f _ j=>exact .cons (f.mono c) j
theorem E7{G:bW->Prop}(place:Nat->Option (Nat×Nat)){l j:List (Nat×au)}(h:lR G R l j):∀{a b:Array au},bq G R a b->(xH place a l=af/\xH place b j=af)\/∃c k,xH place a l=ae c/\xH place b j=ae k/\bq G R c k:=by
 induction h with
 |nil=>intro a b f;exact .inr ⟨a,b,rfl,rfl,f⟩
 |@cons i v v' l j p _ r=>
  intro a b f;unfold xH;cases place i with
  |none=>exact .inl ⟨rfl,rfl⟩
  |some s=>
   obtain⟨off,size⟩:=s;dsimp only;rw[<-p.cells.1,<-f.1];split;·exact .inl ⟨rfl,rfl⟩
   ·refine r ?_;have o:=p.cells.list;have:=JD (G:=G) off v.cells.toList v'.cells.toList 0 o.1 o.2 f;rw[<-az0,<-az0,ax7,ax7];exact this
theorem ZW(T:pV X j){ps:Array (Nat×au)}(k:lR X.G R ps.toList a8.toList):aD X (VX X) R (aG8 j ps) (aG8 j a8):=by
 refine(sF T).bind λU v z Z o=> ?_;refine aD.bn (jT j) λW t d=> ?_;have k:=(k.mono v.sub).mono t.sub;have o:=(o.mono t.sub).cells;cases d with
 |struct s=>
  have w:∀(l:List Aj) {R:BR},aD X eg R (List.mapM (m:=bA) (λ(f:Aj)=>do bN (f.offset,<-ed f.type)) l) (List.mapM (m:=bA) (λ(f:Aj)=>do bN (f.offset,<-ed f.type)) l):=by
   intro l;induction l with
   |nil=>intro R;exact .pure rfl
   |cons f l B=>
    intro R;rw[aC6];exact aD.bn (aD.bn (iU _) λ_ _ _=>.pure rfl) λN _ x=>aD.bn B λ_ _ _=>.pure rfl
  have y:∀{R:BR},aD X eg R (aK5 (m:=bA) (λ(f:Aj)=>do bN (f.offset,<-ed f.type)) s) (aK5 (m:=bA) (λ(f:Aj)=>do bN (f.offset,<-ed f.type)) s):=by
   intro R;rw[Array.mapM_eq_mapM_toList];exact aD.bn (w _) λ_ _ _=>.pure rfl
  refine aD.bn y λp h H=> ?_;rcases E7 (R:=p) (H[·]?) (k.mono h.sub) (o.mono h.sub)with⟨a,b⟩|⟨c,u,a,b,r⟩;·rw[a,b];exact bu _ _
  ·rw[a,b];exact .pure r.agg
 |array n e=>
  refine aD.bn (iU _) λp h m=> ?_;rcases E7 (R:=p) (λi=>ae (i*m,m)) (k.mono h.sub) (o.mono h.sub)with⟨a,b⟩|⟨c,u,a,b,r⟩;·rw[a,b];exact bu _ _
  ·rw[a,b];exact .pure r.agg
 |_=>exact bu _ _
theorem Cs{G:bW->Prop}{z:Array au}(h:bq G R z s)(n:Nat):bq G R ((Hp n).map (z[·%z.size]!)) ((Hp n).map (s[·%s.size]!)):=by
 refine⟨az,λi a b c f=> ?_⟩;simp only[qB,Array.getElem?_range]at c f;by_cases j:i<n
 ·simp only[j,if_true,hZ,iY]at c f;subst c f;rw[getElem!_def,getElem!_def,<-h.1];cases k:z[i%z.size]? with
  |none=>rw[h.none k];exact .bool ax
  |some v=>obtain⟨v',e,l⟩:=h.get k;rw[e];exact l
 ·simp[j]at c
theorem ZX(T:∀e,X.P.underlying j=ae (.slice e)->pV X e)(len:Nat){ps:Array (Nat×au)}(o:lR X.G R ps.toList a8.toList):aD X (VX X) R (az7 j len ps) (az7 j len a8):=by
 refine aD.bind (kz j) λy s d N l=> ?_;obtain⟨rfl,l⟩:=l;cases d with
 |slice e=>
  refine aD.bn (iU _) λr t m=> ?_;dsimp only;split;·exact .dead (dH.bind (.unsupported _ az) _)
  ·have o:=(o.mono s.sub).mono t.sub
   have fin:∀(b:BR) (z f:Array au),BR.Sub r b->bq X.G b z f->aD X (VX X) b (match xH (λi=>ae (i*m,m)) ((Hp (len*m)).map (z[·%z.size]!)) ps.toList with
     |some cells=>do bN (.slice (ae (<-rZ e cells)) len len)
     |_=>iO "buildSlice: a part of the wrong size") (match xH (λi=>ae (i*m,m)) ((Hp (len*m)).map (f[·%f.size]!)) a8.toList with
     |some cells=>do bN (.slice (ae (<-rZ e cells)) len len)
     |_=>iO "buildSlice: a part of the wrong size"):=by
    intro b z f x p;rcases E7 (R:=b) (λi=>ae (i*m,m)) (o.mono x) (Cs p (len*m))with⟨h,k⟩|⟨c,H,h,k,w⟩;·rw[h,k];exact bu _ _
    ·rw[h,k];exact(sD w e).bind λB _ a a' v=>.pure (.slice _ _ v)
   split;·exact fin r #[] #[] (.refl _) .nil
   ·exact(sF (T e l)).bind λb u z f p=>fin b _ _ u.sub p.cells
 |_=>exact bu _ _
theorem dH.choose{P:aV}{q:Question}{k:Nat->bA o}(h:∀n,dH P (k n)):dH P (.choose q k):=λw=>by
 simp only[fu];split;·exact h 0 w
 ·exact h _ _
theorem z7(n:Nat):aD X eg R (xS n) (xS n):=by
 unfold xS;split;·exact .mark (.inl rfl) (.pure rfl)
 ·exact .pure rfl
theorem ab9(T:∀e,X.P.underlying j=ae (.slice e)->pV X e)(r:VR X.G R b c)(p:VR X.G R B ad):aD X (VX X) R (zR j b B) (zR j c ad):=by
 refine aD.bind (kz j) λu k d W h=> ?_;obtain⟨rfl,h⟩:=h;cases d with
 |slice e=>
  refine aD.bn (wO (r.mono k.sub)) λv o ln=> ?_;refine aD.bn (wO ((p.mono k.sub).mono o.sub)) λw Z U=> ?_;refine(jS e).bind λx h4 ti a1 s=> ?_;obtain⟨rfl,_⟩:=s;dsimp only;split
  ·refine .dead (dH.ite (dH.bind (qe (.error _) trivial) _) (dH.ite (dH.bind (qe (.error _) trivial) _) ?_));exact dH.choose λn=>dH.bind (qe (.error _) trivial) _
  ·refine aD.bn (z7 _) λy h5 _=> ?_;refine aD.bn (iU e) λH h6 m=> ?_;split;·exact(sD (Cs .nil _) e).bind λl _ a a' f=>.pure (.slice _ _ f)
   ·exact(sF (T e h)).bind λN h7 z z' t=>(sD (Cs t.cells _) e).bind λl _ a a' f=>.pure (.slice _ _ f)
 |_=>exact bu _ _
end
