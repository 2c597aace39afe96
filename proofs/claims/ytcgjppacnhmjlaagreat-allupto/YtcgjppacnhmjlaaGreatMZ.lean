/- Own texts: PfxA, FzC, FzD, FzE, FzF, FzG. -/
import Derived.Test.YtcgjppacnhmjlaaGreatMS
import Derived.RangeFuncNested
import Derived.Test.YtcgjppacnhmjlaaGreatMY
set_option linter.all false
set_option maxRecDepth 100000
open Array renaming getElem?_eq_some_iff->cq,getElem?_replicate->sP,ext_getElem?->rK
open Bool renaming true->aq,false->ax
open Classical renaming byContradiction->pC
open Decidable renaming decide->aM
open Go renaming World->ak,Value->au,Frame->aC,Goroutine->aX,TypeId->aK,heap_alloc_new->cY,Program->aV,Addr->aH,undef->aN,Operand->bC,stepG->aZ,FuncId->bW,maxLen->cE,Oper->bR,Deferred->jH,Code->du,linearise_go_acc->xw,Item->dP,Obj->dV,Loop->nK,Act->gx,choose->xT,Func->pO,Exit->s8
open Go.Frame renaming enter->bG,round->D5,atR->Pj
open Go.Lib renaming size_eq->fY,hasPrefix->iK
open Go.Proofs.Tryz renaming prog->aj,isAgg9->lL,isAgg31->Hk,f44->Pq,f42->Pr
open Go.Question renaming forced->zN,cut->aA6
open Go.Region renaming ready->dm,linearise->jY,Mode->pH,schedule->zO
open Go.Region.linearise renaming go->gX
open Go.RowKit.Below renaming heap_alloc->rL
open Go.Sem renaming run->fu
open Go.Value renaming func->Dc
open Go.World renaming block_lt_of_cell?->cC,cell?->bL,size_alloc->dh,cell?_of_block->gV,putObj_heap_other->kX,putObj_heap_same->Cv,alloc_heap_new->aw7
open Go.stepG renaming exec->fZ
open List renaming getElem?_eq_getElem->bf,getElem?_eq_some_iff->cu,mem_of_getElem?->cG,range->dn,mem_filter->gK,getElem?_eq_none->lI,length_filter_le->mB,mem_map->iL,ext_getElem?->mD,length->jk,range'->jZ,cons_append->pF,attach_map_subtype_val->xe,isPrefixOf_iff_prefix->xf,prefix_append->sS,pairwise_append->uU,reverse_singleton->xh,singleton_append->xi,filter_append->uV,map_cons->qG,prefix_iff_eq_take->zB,length_map->sY,filter_eq_self->xl,range_eq_range'->zI,map_append->zT,filter_eq_nil_iff->GS,nil_prefix->CP,range'_append_1->NL,mem_range'_1->Oa,cons_prefix_cons->aw6,filter_filter->az2
open List.cons renaming injEq->CJ
open Nat renaming le_refl->aL,le_trans->bT,lt_of_lt_of_le->dG,lt_trichotomy->sV,mod_lt->xK
open Option renaming some->ae,none->af
open UInt8 renaming toNat_inj->xv
namespace Go.Proofs.YtcgjppacnhmjlaaGreat
open Go.RowKit Go.Shelf Go Go.Conc Go.ConcN Go.Conc.Lib Go.ConcR.Gen
variable {U ac:List UInt8} {N aa:List KV}
section
structure j8(ρ:Nat->Nat)(A:ak)(ρ':Nat->Nat)(B:ak):Prop where
 size:A.heap.size<=B.heap.size
 agree:∀k,k<A.heap.size->ρ' k=ρ k
 block:∀k,k<A.heap.size->ρ k=0->B.heap[k]?=A.heap[k]?
theorem j8.refl(a:Nat->Nat)(A:ak):j8 a A a A:=⟨aL _,λ_ _=>rfl,λ_ _ _=>rfl⟩
theorem j8.trans{ρ c f:Nat->Nat}{A B C:ak}(h:j8 ρ A c B)(k:j8 c B f C):j8 ρ A f C:=⟨bT h.size k.size,λi a=>(k.agree i (dG a h.size)).trans (h.agree i a),λi a b=>(k.block i (dG a h.size) ((h.agree i a).trans b)).trans (h.block i a b)⟩
section
variable {α:Type} {P:aV} {n:Nat} {g:bC} {ps:Array Tmp} {assign body:du} {Q:s8->gx->ak->Prop} {a:gx} {w:ak}
end
end
section
def me(p k:List UInt8):Bool:=iK k p
theorem Er:me U ac=aq↔U<+:ac:=xf
def eA(p:List UInt8)(l:List KV):List KV:=l.filter λe=>me p e.1
theorem Zq(h:U<+:ac):¬bV ac U:=by
 rcases LU h with rfl|a;·exact kx _
 ·exact Bf a
theorem LP:∀{p e f:List UInt8},¬bV e p->¬p<+:e->p<+:f->bV f e
 |[],e,f,_,b,_=>absurd CP b
 |x::p,[],f,a,_,_=>absurd (yA x p) a
 |x::p,y::e,f,a,b,⟨r,j⟩=>by
  subst j;rw[pF,o9];rw[o9]at a;rcases k x y with h|h|h;·exact .inl h
  ·subst h;exact .inr ⟨rfl,LP (λc=>a (.inr ⟨rfl,c⟩)) (λc=>b (aw6.mpr ⟨rfl,c⟩)) (sS _ _)⟩
  ·exact absurd (.inl h) a
 where
 k (x y:UInt8):x<y\/x=y\/y<x:=by
  rcases sV x.toNat y.toNat with h|h|h;·exact .inl h
  ·exact .inr (.inl (xv.mp h))
  ·exact .inr (.inr h)
theorem FI(p:List UInt8)(l:List KV):eA p l=eA p (cO p [] l):=by
 unfold eA cO;rw[az2];congr 1;funext e;cases h:me p e.1 with
 |false=>rfl
 |true=>
  have:=(B9 (fr:=p) (to:=[]) (k:=e.1)).mpr ⟨Zq (Er.mp h),.inl rfl⟩;rw[this];rfl
theorem FH(h:∀e∈N,me U e.1=aq):eA U N=N:=xl.mpr h
theorem Zg{p:List UInt8}(h:∀e∈N,me p e.1=aq)(a:N<+:aa):N<+:eA p aa:=by
 obtain⟨t,rfl⟩:=a;unfold eA;rw[uV];have:N.filter (λe=>me p e.1)=N:=FH h;rw[this];exact sS _ _
theorem Zh{e:KV}(s:bh aa)(r:∀e∈aa,¬bV e.1 U)(h:∀e∈N,me U e.1=aq)(a:me U e.1=ax)(u:N++[e]<+:aa):eA U aa=N:=by
 obtain⟨t,rfl⟩:=u;have b:N.filter (λe=>me U e.1)=N:=FH h;have c:t.filter (λe=>me U e.1)=[]:=GS.mpr λf p j=>by
  have k:bV e.1 f.1:=(uU.mp s).2.2 e az f p;have l:=LP (r e az) (λo=>by rw[Er.mpr o]at a;cases a) (Er.mp j);exact Bf k l
 unfold eA;rw[uV,uV,b,c];simp[a]
section
variable {R f:List KV}
theorem GB:∀{a b:List (js R)},a.map (·.1)=b.map (·.1)->a=b
 |[],[],_=>rfl
 |[],_::_,h=>by simp at h
 |_::_,[],h=>by simp at h
 |x::a,y::b,h=>by
  simp only[qG,CJ]at h;rw[Subtype.ext h.1,GB h.2]
theorem Iw{pre:List (js R)}(h:pre.map (·.1)=R):pre=R.attach:=
 GB (h.trans (xe R).symm)
theorem Q6{pre:List (js R)}(h:pre.map (·.1)<+:R):pre<+:R.attach:=by
 have:pre=R.attach.take pre.length:=GB (by
  show pre.map (·.1)=(R.attach.take pre.length).map Subtype.val;rw[List.map_take,xe];have:=zB.mp h;rw[sY]at this;exact this)
 rw[this];exact List.take_prefix _ _
theorem IB{pre:List (js R)}(h:pre<+:R.attach):pre.map (·.1)<+:R:=by
 have:=h.map (·.1);rw[xe]at this;exact this
end
end
section
attribute [local go_sem↓] Go.wp_at_zero Go.wp_at_succ
attribute [local go_sem] Oper.semAt_some
theorem aY.keys{S:Nat->Prop}{w:ak}:∀{n b:Nat} {l:List KV},aY S n w b l->∀e∈l,e.1.length<=64
 |0,_,_,h=>h.elim
 |n+1,b,l,⟨pre,y,p,x,cs,B,r,j,s,t,v,f,o⟩=>λe k=>by
  rcases o.mem.mp k with⟨a,_⟩|⟨i,g,a,c⟩
  ·have:=j.short;rw[a,<-fY];exact this
  ·have u:=(cu.mp a).1;exact aY.keys (f i _ g (bf ag) a) e c
theorem bD.keys{S:Nat->Prop}{w:ak}{n:Nat}{b:Option aH}{l:List KV}(h:bD S n w b l):∀e∈l,e.1.length<=64:=by
 rcases h with⟨_,rfl⟩|⟨t,_,h⟩;·intro e a;cases a
 ·exact h.keys
end
namespace Sim
variable {Z:Type} {a6:Nat->Nat} {x:ak} {o s t:Nat} {ab:Option aH} {u:List KV} {a8:BR} {ai:nK} {a7:au->ak->Prop}
abbrev sd(α:Type):=(Nat->Nat)->List α->(Nat->Prop)->BR->ak->Prop
structure tF{α:Type}(B:Nat)(J:sd α):Prop where
 fresh:∀ρ pre O R W,J ρ pre O R W->∀k,W.heap.size<=k->ρ k=0
 known:∀ρ pre O R W,J ρ pre O R W->aI Xm O R W
 own:∀ρ pre O R W,J ρ pre O R W->∀k,O k->ρ k≠0
 grow:∀ρ pre O R W f W',J ρ pre O R W->W.heap.size<=W'.heap.size->(∀k,k<W.heap.size->(k<B\/ρ k≠0)->W'.heap[k]?=W.heap[k]?)->W'.os=W.os->W'.output=W.output->aI Xm O f W'->BR.Sub R f->J ρ pre O f W'
structure PE(B:Nat)(ρ:Nat->Nat)(A:ak)(ρ':Nat->Nat)(A':ak):Prop where
 size:A.heap.size<=A'.heap.size
 agree:∀k,k<A.heap.size->ρ' k=ρ k
 block:∀k,B<=k->k<A.heap.size->ρ k=0->A'.heap[k]?=A.heap[k]?
structure Dv(B:Nat)(jn:Prop)(l:Nat)(ρ:Nat->Nat)(A:ak)(ρ':Nat->Nat)(A':ak):Prop where
 size:A.heap.size<=A'.heap.size
 agree:∀k,k<A.heap.size->ρ' k=ρ k
 block:∀k,k≠l->(jn\/B<=k)->k<A.heap.size->ρ k=0->A'.heap[k]?=A.heap[k]?
def PR(Post:au->ak->Prop)(B:Nat)(J o:sd Z)(val:Z->KV)(r:au)(N:Nat):Prop:=
 ∀(h:Nat->Nat)(O:Nat->Prop)(R:BR)(W:ak)(pre:List Z)(y:Z)(key:ByteArray)(v:Int)(g:aX)(i:Nat)(l j k:bC) (p:Array aK),J h pre O R W->pre.length<N->val y=(key.data.toList,v)->g.status=.running->g.frame.kind=.normal->dW g i-> (oG g).op=.call {callee:=.value l,args:= #[j,k],argTypes:=p}->(aG g).eval l=r->(aG g).eval j=.string key->(aG g).eval k=.int .i64 v-> (∀c b f a,j8 h W c a->J c (pre++[y]) b f a->ay aj Post b (bt g (.bool aq)) a)->(∀c b f a,PE B h W c a->o c (pre++[y]) b f a->ay aj Post b (bt g (.bool ax)) a)->ay aj Post O g W
def yc{α:Type}(Post:au->ak->Prop)(s:Nat)(t:Array au)(val:α->KV)(S r:List α->Prop)(N:Nat)(u:Nat->Nat)(p:BR)(w:ak):Prop:=
 ∀(b:Nat)(J h:sd α)(a:Nat->Nat)(O:Nat->Prop)(R:BR) (W:ak),aO w W->(∀k,k<w.heap.size->a k=u k)->tF W.heap.size J->tF W.heap.size h->(∀a pre O R W,J a pre O R W->BR.Sub p R)->PR Post W.heap.size J h val (.func (.yield b) #[] #[]) N->J a [] O R W-> MC Post s (#[.func (.yield b) #[] #[]]++t) O W λv l f j=>v=.tuple #[]/\((∃c o,S o/\j8 a W c j/\J c o l f j)\/∃c pre,r pre/\h c pre l f j)
theorem j8.cv{B:ak}(h:aO x B):j8 a6 x a6 B:=⟨h.size,λ_ _=>rfl,λk a _=>h.block k a⟩
theorem MO{α:Type}{Post:au->ak->Prop}{n:Nat}{val:α->KV}{ys:List α}{ρ₀:Nat->Nat}{R₀:BR}{w:ak}{fr to:ByteArray}{h:Nat}(hf:fr.size<=9223372036854775807)(h1:w.cell? ⟨o,0,af⟩=ae (ptr h))(h2:w.cell? ⟨s,0,af⟩=ae (.string fr))(h3:w.cell? ⟨t,0,af⟩=ae (.string to))(aF:ρ₀ o=0)(aJ:ρ₀ s=0)(aP:ρ₀ t=0)(hx:w.cell? ⟨h,0,af⟩=ae (.pointer ab))(aR:R₀ h h)(r:bD (λk=>k<w.heap.size/\ρ₀ k=0/\R₀ k k) n w ab u)(hy:ys.map val=cO fr.data.toList to.data.toList u):yc Post 42 #[ptr o,ptr s,ptr t] val (λq=>q=ys) (λq=>q<+:ys) ys.length ρ₀ R₀ w:=by
 intro b J Jx ρ O R W B al Z b1 ai hY U c cs hK;obtain⟨yv,aT⟩:∃yv,Dc (.yield b) #[] #[]=yv:=⟨_,rfl⟩;rw[aT]at hY⊢;have a7:∀l v,w.cell? ⟨l,0,af⟩=ae v->ρ₀ l=0->¬O l:=λl v hc an hO=>Z.own _ _ _ _ _ U l hO ((al l (cC _ _ hc)).trans an);have hR:=ai _ _ _ _ _ U;have ao:=Z.known _ _ _ _ _ U;have ad:bD (λk=>k<w.heap.size/\ρ₀ k=0/\R₀ k k) n W ab u:=by
  rcases r with r|⟨aU,e,r⟩;·exact .inl r
  ·exact .inr ⟨aU,e,r.frame λk y=>B.block k y.1⟩
 have hG:oB (λk=>k<w.heap.size/\ρ₀ k=0/\R₀ k k) W (λpre O R A=>∃a,j8 ρ W a A/\J a pre O R A):=by
  refine⟨?_,?_,?_⟩
  ·rintro pre O R A ⟨a,p,j⟩ k ⟨k1,k2,k3⟩;exact p.block k (dG k1 B.size) ((al k k1).trans k2)
  ·rintro pre O R A ⟨a,p,j⟩;exact⟨Z.known _ _ _ _ _ j,λl x=>ai _ _ _ _ _ j _ _ x.2.2⟩
  ·rintro pre O R A f A' ⟨a,p,j⟩ x y hs;exact⟨a,p.trans (j8.cv x),Z.grow _ _ _ _ _ _ _ j x.size (λk y _=>x.block k y) x.os x.output y hs⟩
 have ap:Ax Post (λpre O R A=>∃a,j8 ρ W a A/\J a pre O R A) (λpre O R A=>∃a,Jx a pre O R A) val yv ys.length:=by
  intro O R A pre b0 key v g i co a1 a2 am j hN hv aQ y ar av e1 e2 e3 r hF;obtain⟨a,p,j⟩:=j;exact hY a O R A pre b0 key v g i co a1 a2 am j hN hv aQ y ar av e1 e2 e3 (λaa H f N ac a6=>r H f N ⟨aa,p.trans ac,a6⟩) λaa H f N ac a6=>hF H f N ⟨aa,a6⟩
 have hW:=Xb (Post:=Post) (n:=n) (N:=ys.length) (to:=to) (O:=O) (W:=W) (R:=R) (pre:=[]) (ys:=ys) hG ap hf ad ⟨ρ,j8.refl _ _,U⟩ az hy;refine X5 (R:=R) (a7 _ _ h1 aF) (a7 _ _ h2 aJ) (a7 _ _ h3 aP) (B.cell h1) (B.cell h2) (B.cell h3) (B.cell hx) ao (hR _ _ aR) ad.ptr hW c cs λv H f N a8=>hK v H f N ?_;obtain⟨rfl,v0,a8⟩:=a8;refine⟨rfl,?_⟩;rcases a8 with⟨l,_,⟨a,p,j⟩,_⟩|⟨_,q,hq,a,j⟩;·exact .inl ⟨a,ys,rfl,p,by simpa using j⟩
 ·exact .inr ⟨a,q,hq,by simpa using j⟩
theorem aI.wy{O:Nat->Prop}(c:aI Xm O a8 x)(f:x.heap[o]?=ae (.loop ai)):¬a8 o o:=λh=>by
 obtain⟨k,l,a,j,b⟩:=c.wr.blk o o h;rw[f]at a;cases a;cases b
theorem pf(b:t<o\/a6 t≠0)(c:o<=s)(a:a6 s=0):t≠s:=λe=>by
 subst e;rcases b with h|h;·omega
 ·exact h a
theorem KT{val:Z->KV}{S Sp:List Z->Prop}{ρ₀ ρ:Nat->Nat}{R₀ R:BR}{O:Nat->Prop}{w:ak}{fr:aC}{cs:List aC}{fo:bC}{p1 p2:Tmp}{asg body:du}{k:List dP}{gf:bW}{fn:pO}{cc:du}{lb:Array au}(hm:fr.mode=.run)(bb:fr.kind=.normal)(bY:fr.roundOf=af)(bl:fr.todo=.code (.rangeFunc fo #[p1,p2] asg body)::k)(hf:fr.eval fo=.func (.func gf) #[] lb)(ba:fO gf fn cc)(bj:yc a7 gf lb val S Sp o ρ₀ R₀ x)(b9:aO x w)(bm:∀k,k<x.heap.size->ρ k=ρ₀ k)(I:sd Z)(Ix:du->sd Z)(p:tF w.heap.size I)(N:∀c,tF w.heap.size (Ix c))(bk:∀ρ pre O R W,I ρ pre O R W->BR.Sub R₀ R)(h0:I ρ [] O R w)(ap:∀(ρ:Nat->Nat)(O:Nat->Prop)(R:BR)(A:ak)(pre:List Z)(am:Z)(key:ByteArray)(v:Int)(y:aC) (B:List aC),I ρ pre O R A->pre.length<o->val am=(key.data.toList,v)->A.heap[w.heap.size+1]?=ae (.loop (ru w fr #[p1,p2] asg body))->ρ (w.heap.size+1)=0->(∀a j f t f' ac,Dv w.heap.size (ac=af) (w.heap.size+1) ρ A a t->t.heap[w.heap.size+1]?=ae (.loop {ru w fr #[p1,p2] asg body with state:=.busy})->f'.mode=.run->f'.kind=.normal->f'.roundOf=ae (w.heap.size+1)->leaves f'=ae ac->(ac=af->I a (pre++[am]) j f t)->(∀cd,ac=ae cd->Ix cd a (pre++[am]) j f t)->ay aj a7 j (aw f' (y::B)) t)->ay aj a7 O (aw (D5 (w.heap.size+1) fr.fn ((fr.tmps.setIfInBounds p1 (.string key)).setIfInBounds p2 (.int .i64 v)) asg body .normal) (y::B)) A)(aU:∀a ys j f u,S ys->I a ys j f u->u.heap[w.heap.size]?=ae (.deferred (ae []))->a w.heap.size=0->ay aj a7 j (aw {fr with todo:=k,defers:={target:=.collected w.heap.size,args:= #[]}::fr.defers} cs) u)(b1:∀cd a pre j f u,Sp pre->Ix cd a pre j f u->u.heap[w.heap.size]?=ae (.deferred (ae []))->a w.heap.size=0->ay aj a7 j (aw {fr with todo:=.code cd::k,defers:={target:=.collected w.heap.size,args:= #[]}::fr.defers} cs) u):ay aj a7 O (aw fr cs) w:=by
 refine .ad7 hm bb bY bl hf ba ?_;obtain⟨l,a6⟩:∃l,l=ru w fr #[p1,p2] asg body:=⟨_,rfl⟩;rw[<-a6]at ap⊢;obtain⟨d,hd⟩:∃d,w.heap.size=d:=⟨_,rfl⟩;obtain⟨V,hV⟩:∃V,(w.alloc (.deferred (ae []))).alloc (.loop l)=V:=⟨_,rfl⟩;have bv:V.heap.size=d+2:=by rw[<-hV,<-hd];simp
 have vl:V.heap[d+1]?=ae (.loop l):=by
  rw[<-hV];have:=aw7 (w.alloc (.deferred (ae []))) (.loop l);rw[dh,hd]at this;exact this
 have vd:V.heap[d]?=ae (.deferred (ae [])):=by
  rw[<-hV];exact(rL _ _ _ (by simp[hd])).trans (by have:=aw7 w (.deferred (ae []));rw[hd]at this;exact this)
 have ai:aO w V:=by
  rw[<-hV];exact⟨by simp;omega,λbs U=>(rL _ _ _ (by simp;omega)).trans (rL _ _ _ U),rfl,rfl⟩
 rw[hd]at p N ap aU b1⊢;rw[hV];have b3:aI Xm O R V:=by rw[<-hV];exact((p.known _ _ _ _ _ h0).grown _).grown _
 have b0:=p.fresh _ _ _ _ _ h0
 refine bj (d+1) (λρ pre O R A=>I ρ pre O R A/\A.heap[d+1]?=ae (.loop l)/\A.heap[d]?=ae (.deferred (ae []))/\ρ (d+1)=0/\ρ d=0)
  (λρ pre O R A=>∃cd,Ix cd ρ pre O R A/\A.heap[d+1]?=ae (.loop {l with state:=.done,pending:=ae cd})/\A.heap[d]?=ae (.deferred (ae []))/\ρ (d+1)=0/\ρ d=0)
  ρ O R V (b9.trans ai) bm ?_ ?_ (λρ pre O R W h=>bk _ _ _ _ _ h.1) ?_ ⟨p.grow _ _ _ _ _ _ _ h0 ai.size (λk b _=>ai.block k b) ai.os ai.output b3 (BR.Sub.refl R),vl,vd,b0 _ ag,b0 _ ag⟩ _ _ ?_
 ·refine⟨λρ pre O R W h=>p.fresh _ _ _ _ _ h.1,λρ pre O R W h=>p.known _ _ _ _ _ h.1,λρ pre O R W h=>p.own _ _ _ _ _ h.1,λρ pre O R W f u h hs U ho hu b aP=>⟨p.grow _ _ _ _ _ _ _ h.1 hs (λk b s=>U k b (s.imp (λh=>ag) id)) ho hu b aP,?_,?_,h.2.2.2⟩⟩;·exact(U _ (cq.1 h.2.1).1 (.inl ag)).trans h.2.1
  ·exact(U _ (cq.1 h.2.2.1).1 (.inl ag)).trans h.2.2.1
 ·refine⟨λρ pre O R W ⟨c,h⟩=>(N c).fresh _ _ _ _ _ h.1,λρ pre O R W ⟨c,h⟩=>(N c).known _ _ _ _ _ h.1,λρ pre O R W ⟨c,h⟩=>(N c).own _ _ _ _ _ h.1,λρ pre O R W f u ⟨c,h⟩ hs U ho hu b aP=>⟨c,(N c).grow _ _ _ _ _ _ _ h.1 hs (λk b s=>U k b (s.imp (λh=>ag) id)) ho hu b aP,?_,?_,h.2.2.2⟩⟩;·exact(U _ (cq.1 h.2.1).1 (.inl ag)).trans h.2.1
  ·exact(U _ (cq.1 h.2.2.1).1 (.inl ag)).trans h.2.2.1
 ·rintro bo O1 R1 A pre am key v g i co a1 a2 br ⟨hi,al,ad,aa,a8⟩ hN hv bi b aQ bd e1 e2 e3 hT hF;refine .au2 (l:=d+1) (r:=l) (p1:=p1) (p2:=p2) bi b aQ bd e1 al (by rw[a6];rfl) ?_;rw[e2,e3];have:=ap bo O1 R1 A pre am key v g.frame g.callers hi hN hv al aa λa j f t f' ac H an m1 m2 m3 m4 m5 m6=> ?_;·rw[a6];exact this
  ·refine .ag7 m1 m2 m3 m4 an ?_;rw[aQ.TQ];have aJ:d+1<t.heap.size:=(cq.1 an).1;have ab:∀(b2:dV) k,k≠d+1->(t.putObj (d+1) b2).heap[k]?=t.heap[k]?:=λb2 k b=>kX b;have aR:t.heap[d]?=ae (.deferred (ae [])):=(H.block d ag (.inr (aL _)) (cq.1 ad).1 a8).trans ad;have ao:a (d+1)=0:=(H.agree _ (cq.1 al).1).trans aa;have aT:a d=0:=(H.agree _ (cq.1 ad).1).trans a8;cases ac with
   |none=>
    have hj:=m5 rfl;have r:=p.known _ _ _ _ _ hj;have bE:({l with state:=.busy}:nK)={l with state:=.busy}:=rfl;have bg:({({l with state:=.busy}:nK)with state:=if(af:Option du).isNone then .ready else .done,pending:=af}:nK)=l:=by rw[a6];rfl
    rw[bg];refine hT a j f _ ⟨by simp;exact H.size,H.agree,λk av aF=> ?_⟩ ⟨p.grow _ _ _ _ _ _ _ hj az (λk b s=>ab _ k (pf s ag ao)) rfl rfl (r.pn (r.wy an) _) (BR.Sub.refl _),Cv aJ,(ab _ _ ag).trans aR,ao,aT⟩;by_cases e:k=d+1;·subst e;rw[Cv aJ,al]
    ·rw[ab _ k e];exact H.block k e (.inl rfl) av aF
   |some cd=>
    have hj:=m6 cd rfl;have r:=(N cd).known _ _ _ _ _ hj;refine hF a j f _ ⟨by simp;exact H.size,H.agree,λk bw av aF=> ?_⟩ ⟨cd,(N cd).grow _ _ _ _ _ _ _ hj az (λk b s=>ab _ k (pf s ag ao)) rfl rfl (r.pn (r.wy an) _) (BR.Sub.refl _),Cv aJ,(ab _ _ ag).trans aR,ao,aT⟩;rw[ab _ k ag];exact H.block k ag (.inr ag) av aF
 ·rintro v j f u ⟨rfl,⟨a,ys,hS,H,hi,hl,ar,aa,a8⟩|⟨a,pre,b6,cd,hi,hl,ar,aa,a8⟩⟩
  ·have r:=p.known _ _ _ _ _ hi;refine .Mp (l:=d+1) (r:=l) (k:=k) (by exact hm) rfl hl (by rw[a6];rfl) ?_;have be:l.pending=none:=by rw[a6];rfl
   rw[be];exact aU a ys j f _ hS (p.grow _ _ _ _ _ _ _ hi az (λk b s=>kX (pf s ag aa)) rfl rfl (r.pn (r.wy hl) _) (BR.Sub.refl _)) ((kX ag).trans ar) a8
  ·have r:=(N cd).known _ _ _ _ _ hi;refine .Mp (l:=d+1) (k:=k) (by exact hm) rfl hl (by rw[a6];rfl) ?_;exact b1 cd a pre j f _ b6 ((N cd).grow _ _ _ _ _ _ _ hi az (λk b s=>kX (pf s ag aa)) rfl rfl (r.pn (r.wy hl) _) (BR.Sub.refl _)) ((kX ag).trans ar) a8
noncomputable def Ic:Code:=(Pq.body).getD .skip
noncomputable def ye:Code:=match cd [1,1,2] Ic with
 | .rangeFunc _ _ a _=>a
 |_=>.skip
noncomputable def qU:Code:=match cd [1,1,2] Ic with
 | .rangeFunc _ _ _ b=>b
 |_=>.skip
def Il(b k j b3 h:Nat)(p:ByteArray):Array Value:= #[.func (.yield b) #[] #[],ptr k,ptr j,ptr b3,aN,aN,ptr h,.string p,.func (.func 42) #[] #[ptr (b3+1),ptr (b3+2),ptr (b3+3)],aN,aN,aN,aN,aN,aN,aN,aN,aN,aN,aN,aN,aN]
def PI(b k j b3 h:Nat)(p key:ByteArray)(v:Int):Array Value:= #[.func (.yield b) #[] #[],ptr k,ptr j,ptr b3,.string key,.int .i64 v,ptr h,.string p,.func (.func 42) #[] #[ptr (b3+1),ptr (b3+2),ptr (b3+3)],.string key,.int .i64 v,aN,aN,aN,aN,aN,aN,aN,aN,aN,aN,aN]
noncomputable def tD(b k j b3 h:Nat)(p:ByteArray):Frame:={fn:=44,tmps:=Il b k j b3 h p,todo:=.code (.rangeFunc (.tmp 8) #[9,10] ye qU)::[.inBlock 0],defers:=[],mode:=.run,kind:=.normal}
noncomputable def DD(l b k j b3 h:Nat)(p key:ByteArray)(v:Int)(a:List dP):Frame:={fn:=44,tmps:=PI b k j b3 h p key v,todo:=a,defers:=[],mode:=.run,kind:=.normal,roundOf:=ae l}
noncomputable def TF(b k j b3 h:Nat)(p:ByteArray)(c:aC)(cs:List aC):Frame:=dZ (nxtN aj aq 1 (bz (bz (nxtN aj aq 3 (bt (nxtN aj aq 2 (aw (bG aj 44 #[.func (.yield b) #[] #[],ptr k,ptr j] .normal) (c::cs))) (ptr b3))) (ptr h)) (.string p))).callers
theorem JA:fO 42 Pr ((Pr.body).getD .skip):=⟨Tryz.func42,ah,ah⟩
section
variable {Post:au->ak->Prop} {O:Nat->Prop} {w W:ak} {R:BR} {b k j b3 h l:Nat} {p key:ByteArray} {v:Int} {c:aC} {cs:List aC}
theorem ay.oM{g:aX}(h:g=aw g.frame cs)(a:ay aj Post O (aw g.frame cs) W):ay aj Post O g W:=by rw[h];exact a
def lT(W:ak)(b h:Nat)(p:ByteArray):World:=im (W.alloc (.cells #[.func (.yield b) #[] #[]] 50)) h p ⟨#[]⟩
theorem Xd(r:¬O k)(s:¬O j)(u:W.cell? ⟨k,0,af⟩=ae (ptr h))(v:W.cell? ⟨j,0,af⟩=ae (.string p))(f:W.heap.size=b3)(w:ay aj Post O (aw (tD b k j b3 h p) (c::cs)) (lT W b h p)):ay aj Post O (aw (bG aj 44 #[.func (.yield b) #[] #[],ptr k,ptr j] .normal) (c::cs)) W:=by
 have a:aO W (W.alloc (.cells #[.func (.yield b) #[] #[]] 50)):=⟨az,λx t=>rL _ _ _ t,rfl,rfl⟩;have l:(W.alloc (.cells (Dc (.yield b) #[] #[]).cells 50)).cell? ⟨k,0,af⟩=ae (ptr h):=a.cell u;have o:(W.alloc (.cells (Dc (.yield b) #[] #[]).cells 50)).cell? ⟨j,0,af⟩=ae (.string p):=a.cell v;refine .K 2 ?_;refine .bx (i:=0) ah bJ (t:=50) (s:=0) (v:=(.func (.yield b) #[] #[])) ah ah ?_;refine .K 3 ?_;refine .gS (i:=0) ah bI (t:=31) (x:=.tmp 1) (a:=⟨k,0,af⟩) (v:=ptr h) ah ah Hk r l ?_;refine .gS (i:=1) ah bI (t:=9) (x:=.tmp 2) (a:=⟨j,0,af⟩) (v:=.string p) ah ah lL s o ?_;rw[f];refine .K 1 ?_;refine .eqv (g':=aw (bG aj 27 #[ptr h,.string p,.string ⟨#[]⟩] .normal) (TF b k j b3 h p c cs::c::cs)) ah (KN ?_);rw[show(W.alloc (.cells (Dc (.yield b) #[] #[]).cells 50)).heap.size=b3+1 by rw[dh,f]];refine .K 2 ?_;exact .eqv (g':=aw (tD b k j b3 h p) (c::cs)) ah w
theorem KR{cd:Option du}(l:cd=af\/cd=ae .ret)(a:W.heap[o]?=ae (.deferred (ae [])))(f:ay aj Post O (aw (c.finish (.tuple #[])) cs) (W.putObj o (.deferred af))):ay aj Post O (aw {tD b k j b3 h p with todo:=(cd.map Item.code).toList++[.inBlock 0],defers:={target:=.collected o,args:= #[]}::(tD b k j b3 h p).defers} (c::cs)) W:=by
 rcases l with rfl|rfl
 ·refine .K 2 ?_;refine .oM (cs:=c::cs) ah (.taken (D:=o) (ar:= #[]) (ds:=[]) (ds0:=[]) ah ah a ?_);refine .K 1 ?_;exact .eqv (g':=aw (c.finish (.tuple #[])) cs) ah f
 ·refine .K 1 ?_;refine .oM (cs:=c::cs) ah (.taken (D:=o) (ar:= #[]) (ds:=[]) (ds0:=[]) ah ah a ?_);refine .K 1 ?_;exact .eqv (g':=aw (c.finish (.tuple #[])) cs) ah f
end
structure Lv(l:Nat)(jump:Option du)(f:aC):Prop where
 mode:f.mode=.run
 kind:f.kind=.normal
 ro:f.roundOf=ae l
 lv:leaves f=ae jump
noncomputable def TG(l b k j b3 h:Nat)(p key:ByteArray)(v:Int)(y:aC)(B:List aC):Frame:=dZ (nxtN aj aq 1 (bt (nxtN aj aq 4 (aw (DD l b k j b3 h p key v [.code qU]) (y::B))) (.string p))).callers
section
variable {Post:au->ak->Prop} {O:Nat->Prop} {A:ak} {R:BR} {b k j b3 h l:Nat} {p key:ByteArray} {v:Int} {y:aC} {B:List aC} {r:nK}
theorem IV(b:x.heap[o]?=ae (.loop ai)){u:au}(a:x.cell? ⟨s,0,af⟩=ae u)(c:dV):(x.putObj o c).cell? ⟨s,0,af⟩=ae u:=by
 have:s≠o:=λe=>by subst e;simp[bL,b]at a
 rw[<-a];exact gV (a:=⟨s,0,af⟩) (kX this)
theorem Xc(t:A.heap[l]?=ae (.loop r))(hr:r.state=.ready)(a7:¬O j)(a8:¬O b3)(aa:A.cell? ⟨j,0,af⟩=ae (.string p))(ac:A.cell? ⟨b3,0,af⟩=ae (.func (.yield b) #[] #[]))(Z:aI Xm O R A)(an:key.size<=9223372036854775807)(ao:p.size<=9223372036854775807)(ai:iK key.data.toList p.data.toList=ax->∀f c,aO (A.putObj l (.loop {r with state:=.busy})) c->aI Xm O f c->BR.Sub R f->∀a,Lv l (ae .ret) a->ay aj Post O (aw a (y::B)) c)(am:iK key.data.toList p.data.toList=aq->∀f c g,aO (A.putObj l (.loop {r with state:=.busy})) c->aI Xm O f c->BR.Sub R f->g.status=.running->g.frame.kind=.normal->dW g 8->(oG g).op=.call {callee:=.value (.tmp 16),args:= #[.tmp 17,.tmp 18],argTypes:= #[9,3]}->(aG g).eval (.tmp 16)=.func (.yield b) #[] #[]->(aG g).eval (.tmp 17)=.string key->(aG g).eval (.tmp 18)=.int .i64 v->(∀o s,(∀a,Lv l af a->ay aj Post o (aw a (y::B)) s)->ay aj Post o (bt g (.bool aq)) s)->(∀o s,(∀a,Lv l (ae .ret) a->ay aj Post o (aw a (y::B)) s)->ay aj Post o (bt g (.bool ax)) s)->ay aj Post O g c):ay aj Post O (aw (D5 l 44 (((Il b k j b3 h p).setIfInBounds 9 (.string key)).setIfInBounds 10 (.int .i64 v)) ye qU .normal) (y::B)) A:=by
 refine .K 7 ?_;refine .eqv (g':=aw (DD l b k j b3 h p key v [.beginRound,.code qU]) (y::B)) ah ?_;refine .MB (l:=l) (r:=r) (k:=[.code qU]) rfl rfl rfl rfl t hr ?_;have a6:aI Xm O R (A.putObj l (.loop {r with state:=.busy})):=Z.pn (Z.wy t) _;have ab:=IV t aa (.loop {r with state:=.busy});have ad:=IV t ac (.loop {r with state:=.busy});generalize A.putObj l (.loop {r with state:=.busy})=N at*;refine .eqv (g':=aw (DD l b k j b3 h p key v [.code qU]) (y::B)) ah ?_;refine .K 4 ?_;refine .ep (i:=1) ah bJ (t:=9) (x:=.tmp 2) (a:=⟨j,0,af⟩) (v:=.string p) ah ah lL a7 ab ?_;refine .K 1 ?_;refine .eqv (g':=aw (bG aj 45 #[.string key,.string p] .normal) (TG l b k j b3 h p key v y B::y::B)) ah ?_;refine .lone tR Et a6 (mV (.string _) (.string _)) (Post1:=λv H=>v=.bool (iK key.data.toList p.data.toList)/\aO N H) (λv H x d ⟨h1,h2⟩=>⟨h1,h2.re x d⟩) (λx=>(qf key p (Sim.re N x 0) (by unfold cE;omega) (by unfold cE;omega)).mono λe H he=>⟨_,he.1,rfl,(DQ he.2).BB⟩) λar U W al a1 _ a2 ap=> ?_;obtain⟨rfl,w⟩:=al;cases hp:iK key.data.toList p.data.toList with
 |true=>
  refine .K 2 ?_;refine .ep (i:=5) ah bJ (t:=50) (x:=.tmp 3) (a:=⟨b3,0,af⟩) (v:=.func (.yield b) #[] #[]) ah ah Tryz.isAgg50 a8 (w.cell ad) ?_;refine .K 2 ?_;refine am hp W U _ w a1 a2 ah ah bJ ah ah ah ah (λo s u=> ?_) λo s u=> ?_
  ·refine .K 6 ?_;exact .oM (cs:=y::B) ah (u _ bI)
  ·refine .K 4 ?_;exact .oM (cs:=y::B) ah (u _ bI)
 |false=>
  refine .K 10 ?_;exact .oM (cs:=y::B) ah (ai hp W U w a1 a2 _ bI)
end
theorem PO(W:ak)(b h:Nat)(p:ByteArray):(lT W b h p).heap.size=W.heap.size+4:=by unfold lT im;simp[dh]
theorem PM(W:ak)(b h:Nat)(p:ByteArray):aO W (lT W b h p):=by
 have a:∀(A:ak) o,aO A (A.alloc o):=λA o=>⟨az,λf c=>rL _ _ _ c,rfl,rfl⟩;unfold lT im;exact(a _ _).trans ((a _ _).trans ((a _ _).trans (a _ _)))
theorem rA(A:ak)(v:au)(t:aK)(a:A.heap.size=o):(A.alloc (.cells #[v] t)).cell? ⟨o,0,af⟩=ae v:=by
 subst a;have:=cY A (.cells #[v] t);unfold bL;rw[this];rfl
theorem PN(W:ak)(b h:Nat)(p:ByteArray):(lT W b h p).cell? ⟨W.heap.size,0,af⟩=ae (.func (.yield b) #[] #[])/\(lT W b h p).cell? ⟨W.heap.size+1,0,af⟩=ae (ptr h)/\(lT W b h p).cell? ⟨W.heap.size+2,0,af⟩=ae (.string p)/\(lT W b h p).cell? ⟨W.heap.size+3,0,af⟩=ae (.string ⟨#[]⟩):=by
 have a:∀(A:ak) o,aO A (A.alloc o):=λA o=>⟨az,λf c=>rL _ _ _ c,rfl,rfl⟩;unfold lT im;refine⟨((a _ _).trans ((a _ _).trans (a _ _))).cell (rA _ _ _ rfl),((a _ _).trans (a _ _)).cell (rA _ _ _ az),(a _ _).cell (rA _ _ _ az),rA _ _ _ az⟩
theorem ak2{n:Nat}{p:ByteArray}(hp:p.size<=9223372036854775807)(h1:x.cell? ⟨o,0,af⟩=ae (ptr t))(h2:x.cell? ⟨s,0,af⟩=ae (.string p))(c5:a6 o=0)(bo:a6 s=0)(hx:x.cell? ⟨t,0,af⟩=ae (.pointer ab))(c6:a8 t t)(hT:bD (λk=>k<x.heap.size/\a6 k=0/\a8 k k) n x ab u):yc (α:=js (eA p.data.toList u)) a7 44 #[ptr o,ptr s] (·.1) (λq=>q=(eA p.data.toList u).attach) (λq=>q<+:(eA p.data.toList u).attach) (cO p.data.toList [] u).attach.length a6 a8 x:=by
 intro b J Jx ρ O R W hB ba hJ ap c8 hY h0 c cs hK;have bk:∀w v,x.cell? ⟨w,0,af⟩=ae v->a6 w=0->¬O w:=λw v Z bs hO=>hJ.own _ _ _ _ _ h0 w hO ((ba w (cC _ _ Z)).trans bs);refine Xd (b3:=W.heap.size) (bk _ _ h1 c5) (bk _ _ h2 bo) (hB.cell h1) (hB.cell h2) rfl ?_;have cf:=PO W b t p;have ai:=PM W b t p;obtain⟨cy,d0,d1,d2⟩:=PN W b t p;have aJ:=hJ.fresh _ _ _ _ _ h0;have bi:s<x.heap.size:=cC _ _ h2;have cg:s<W.heap.size:=dG bi hB.size;have br:=ai.cell (hB.cell h2);have cb:ρ s=0:=(ba s bi).trans bo;have bZ:∀e∈u,e.1.length<=64:=hT.keys;have bE:bh u:=wX hT;have bw:bD (λk=>k<(lT W b t p).heap.size/\ρ k=0/\a8 k k) n (lT W b t p) ab u:=by
  rcases hT with hT|⟨ce,e,hT⟩;·exact .inl hT
  ·exact .inr ⟨ce,e,(hT.frame λk a=>(hB.trans ai).block k a.1).weaken λk a bY=>⟨bY,(ba k a.1).trans a.2.1,a.2.2⟩⟩
 have c7:=MO (α:=js (cO p.data.toList [] u)) (Post:=a7) (val:=(·.1)) (ys:=(cO p.data.toList [] u).attach) (ρ₀:=ρ) (R₀:=a8) (w:=lT W b t p) (fr:=p) (to:=⟨#[]⟩) hp d0 d1 d2 (aJ _ ag) (aJ _ ag) (aJ _ ag) ((hB.trans ai).cell hx) c6 bw (xe _);generalize lT W b t p=W2 at*
 have grow:∀{K:sd (js (eA p.data.toList u))}(hK:tF W.heap.size K) {r pre N R1 A R2 l},K r pre N R1 A->A.heap.size<=l.heap.size->(∀k,k<A.heap.size->(k<W2.heap.size\/r k≠0)->l.heap[k]?=A.heap[k]?)->l.os=A.os->l.output=A.output->aI Xm N R2 l->BR.Sub R1 R2->K r pre N R2 l:=
  by
  intro K hK r pre N R1 A R2 l h hs H ho hu a ar;exact hK.grow _ _ _ _ _ _ _ h hs (λk a Z=>H k a (Z.imp (λh=>ag) id)) ho hu a ar
 have aQ:∀{r:Nat->Nat} {A l:ak},j8 ρ W r A->A.heap.size<=l.heap.size->(∀k,k<A.heap.size->(k<W2.heap.size\/r k≠0)->l.heap[k]?=A.heap[k]?)->j8 ρ W r l:=λU hs H=>⟨bT U.size hs,U.agree,λk a av=>(H k (dG a U.size) (.inl ag)).trans (U.block k a av)⟩;have bd:∀{r:Nat->Nat} {A l:ak} {w:Nat} {an:au},A.cell? ⟨w,0,af⟩=ae an->w<W2.heap.size->(∀k,k<A.heap.size->(k<W2.heap.size\/r k≠0)->l.heap[k]?=A.heap[k]?)->l.cell? ⟨w,0,af⟩=ae an:=by
  intro r A l w an Z H a;exact(gV (a:=⟨w,0,af⟩) (a w (cC _ _ Z) (.inl H))).trans Z
 refine KT (w:=W2) (ρ:=ρ) (R:=R) (fr:=tD b o s W.heap.size t p) (fo:=.tmp 8) (p1:=9) (p2:=10) (asg:=ye) (body:=qU) (k:=[.inBlock 0]) rfl rfl rfl rfl rfl JA c7 (aO.refl _) (λ_ _=>rfl)
  (λr a1 N R1 A=>∃pre:List (js (eA p.data.toList u)),pre.map (·.1)=a1.map (·.1)/\j8 ρ W r A/\J r pre N R1 A/\A.cell? ⟨s,0,af⟩=ae (.string p)/\A.cell? ⟨W.heap.size,0,af⟩=ae (.func (.yield b) #[] #[])/\r s=0/\r W.heap.size=0)
  (λcd r a1 N R1 A=>cd=.ret/\((∃(pre:List (js (eA p.data.toList u))) (init:List (js (cO p.data.toList [] u))) (al:js (cO p.data.toList [] u)),a1=init++[al]/\j8 ρ W r A/\J r pre N R1 A/\pre.map (·.1)=init.map (·.1)/\me p.data.toList al.1.1=ax)\/∃pre:List (js (eA p.data.toList u)),Jx r pre N R1 A/\pre.map (·.1)=a1.map (·.1)))
  ?own ?ownx ?sub ?start ?body ?done ?stop
 case own=>
  refine⟨λr a1 N R1 A ⟨pre,e,U,j,_⟩=>hJ.fresh _ _ _ _ _ j,λr a1 N R1 A ⟨pre,e,U,j,_⟩=>hJ.known _ _ _ _ _ j,λr a1 N R1 A ⟨pre,e,U,j,_⟩=>hJ.own _ _ _ _ _ j,?_⟩;rintro r a1 N R1 A R2 l ⟨pre,e,U,j,q1,q2,q3,q4⟩ hs H ho hu a ar;exact⟨pre,e,aQ U hs H,grow hJ j hs H ho hu a ar,bd q1 ag H,bd q2 ag H,q3,q4⟩
 case ownx=>
  intro cd;refine⟨?_,?_,?_,?_⟩
  ·rintro r a1 N R1 A ⟨_,⟨pre,init,al,_,_,j,_⟩|⟨pre,j,_⟩⟩;·exact hJ.fresh _ _ _ _ _ j
   ·exact ap.fresh _ _ _ _ _ j
  ·rintro r a1 N R1 A ⟨_,⟨pre,init,al,_,_,j,_⟩|⟨pre,j,_⟩⟩;·exact hJ.known _ _ _ _ _ j
   ·exact ap.known _ _ _ _ _ j
  ·rintro r a1 N R1 A ⟨_,⟨pre,init,al,_,_,j,_⟩|⟨pre,j,_⟩⟩;·exact hJ.own _ _ _ _ _ j
   ·exact ap.own _ _ _ _ _ j
  ·rintro r a1 N R1 A R2 l ⟨Z,⟨pre,init,al,e1,U,j,e2⟩|⟨pre,j,e⟩⟩ hs H ho hu a ar;·exact⟨Z,.inl ⟨pre,init,al,e1,aQ U hs H,grow hJ j hs H ho hu a ar,e2⟩⟩
   ·exact⟨Z,.inr ⟨pre,grow ap j hs H ho hu a ar,e⟩⟩
 case sub=>exact λr a1 N R1 A ⟨pre,e,U,j,_⟩=>c8 _ _ _ _ _ j
 case start=>
  have aa:=hJ.known _ _ _ _ _ h0;exact⟨[],rfl,j8.cv ai,hJ.grow _ _ _ _ _ _ _ h0 ai.size (λk a _=>ai.block k a) ai.os ai.output (aa.grow (λw H=>ai.block w (aa.wr.lt H).1) ai.size) (BR.Sub.refl R),br,cy,cb,aJ _ (aL _)⟩
 case done=>
  rintro am rJ O' f W' rfl ⟨pre,e,U,j,q1,q2,q3,q4⟩ hD ao;have aa:=hJ.known _ _ _ _ _ j;refine KR (cd:=af) (.inl rfl) hD (hK _ O' f _ ⟨rfl,.inl ⟨am,pre,?_,aQ U az λk a Z=>kX (pf Z (aL _) ao),grow hJ j az (λk a Z=>kX (pf Z (aL _) ao)) rfl rfl (aa.pn (λh=> ?_) _) (BR.Sub.refl _)⟩⟩)
  ·refine Iw ?_;rw[xe]at e;rw[e,FI];refine(FH λaT hf=> ?_).symm;rw[<-e]at hf;obtain⟨a2,_,rfl⟩:=iL.1 hf;exact(gK.1 a2.2).2
  ·obtain⟨cc,o',g1,g2,g3⟩:=aa.wr.blk _ _ h;rw[hD]at g1;cases g1;cases g3
 case stop=>
  rintro cd am a1 O' f W' bg ⟨rfl,h⟩ hD ao;have nd:∀{N R1},aI Xm N R1 W'->¬R1 W2.heap.size W2.heap.size:=λaa h=>by
   obtain⟨cc,o',g1,g2,g3⟩:=aa.wr.blk _ _ h;rw[hD]at g1;cases g1;cases g3
  refine KR (cd:=ae .ret) (.inr rfl) hD (hK _ O' f _ ⟨rfl,?_⟩);rcases h with⟨pre,init,al,e1,U,j,e2,ca⟩|⟨pre,j,e⟩
  ·have aa:=hJ.known _ _ _ _ _ j;refine .inl ⟨am,pre,?_,aQ U az λk a Z=>kX (pf Z (aL _) ao),grow hJ j az (λk a Z=>kX (pf Z (aL _) ao)) rfl rfl (aa.pn (nd aa) _) (BR.Sub.refl _)⟩;have aF:=IB bg;rw[e1,zT,<-e2]at aF;refine Iw ?_;refine Eq.trans ?_ (FI _ _).symm;refine(Zh (bE.sublist List.filter_sublist) (λaT hf=>(F5.mp hf).2.1) (λaT hf=> ?_) ca aF).symm;obtain⟨a2,_,rfl⟩:=iL.1 hf;exact(gK.1 a2.2).2
  ·have aa:=ap.known _ _ _ _ _ j;refine .inr ⟨am,pre,Q6 ?_,grow ap j az (λk a Z=>kX (pf Z (aL _) ao)) rfl rfl (aa.pn (nd aa) _) (BR.Sub.refl _)⟩;have aF:=IB bg;rw[<-e]at aF;have h9:=Zg (p:=p.data.toList) (λaT hf=> ?_) aF;·rw[<-FI]at h9;exact h9
   obtain⟨a2,_,rfl⟩:=iL.1 hf;exact(gK.1 a2.2).2
 case body=>
  rintro r N R1 A a1 a2 key v y B ⟨pre,e,U,j,q1,q2,q3,q4⟩ hN hv hl b1 aU;have aa:=hJ.known _ _ _ _ _ j;have bm:=hJ.own _ _ _ _ _ j;have ch:key.size<=64:=by
   have h3:=bZ a2.1 (F5.mp a2.2).1;rw[show a2.1=(key.data.toList,v)from hv]at h3;rw[fY];exact h3
  have aP:W2.heap.size+1<A.heap.size:=(cq.1 hl).1;have be:∀f l,aO (A.putObj (W2.heap.size+1) (.loop {ru W2 (tD b o s W.heap.size t p) #[9,10] ye qU with state:=.busy})) l->aI Xm N f l->BR.Sub R1 f->J r pre N f l/\A.heap.size<=l.heap.size/\(∀k,k<A.heap.size->k≠W2.heap.size+1->l.heap[k]?=A.heap[k]?)/\l.heap[W2.heap.size+1]?=ae (.loop {ru W2 (tD b o s W.heap.size t p) #[9,10] ye qU with state:=.busy}):=λf l H a hs=>by
   have b9:=H.size;rw[World.oe]at b9;have bl:∀k,k<A.heap.size->k≠W2.heap.size+1->l.heap[k]?=A.heap[k]?:=λk a b3=>(H.block k (by rw[World.oe];exact a)).trans (kX b3);exact⟨grow hJ j b9 (λk a Z=>bl k a (pf Z ag b1)) H.os H.output a hs,b9,bl,(H.block _ (by rw[World.oe];exact aP)).trans (Cv aP)⟩
  refine Xc (R:=R1) hl rfl (λh=>bm _ h q3) (λh=>bm _ h q4) q1 q2 aa ag hp (λb6 f l H a hs f' ac=> ?_) λb6 f l g H a hs g1 g2 g3 g4 g5 g6 g7 hT hF=> ?_
  ·obtain⟨j1,j2,j3,j4⟩:=be f l H a hs;refine aU r N f l f' (ae .ret) ⟨j2,λ_ _=>rfl,λk h1 _ h3 _=>j3 k h3 h1⟩ j4 ac.mode ac.kind ac.ro ac.lv (λh=>by cases h) λcd bU=> ?_;cases bU;refine⟨rfl,.inl ⟨pre,a1,a2,rfl,⟨bT U.size j2,U.agree,λk a av=>(j3 k (dG a U.size) ag).trans (U.block k a av)⟩,j1,e,?_⟩⟩;rw[show a2.1=(key.data.toList,v)from hv];exact b6
  ·obtain⟨j1,j2,j3,j4⟩:=be f l H a hs;have b2:a2.1∈eA p.data.toList u:=gK.2 ⟨(F5.mp a2.2).1,by rw[show a2.1=(key.data.toList,v)from hv];exact b6⟩;have ci:pre.length=a1.length:=by have:=congrArg jk e;simpa using this
   have bv:j8 ρ W r l:=⟨bT U.size j2,U.agree,λk a av=>(j3 k (dG a U.size) ag).trans (U.block k a av)⟩;refine hY r N f l pre ⟨a2.1,b2⟩ key v g 8 (.tmp 16) (.tmp 17) (.tmp 18) #[9,3] j1 ag hv g1 g2 g3 g4 g5 g6 g7 (λam O' aR W' ad b0=>hT O' W' λf' ac=> ?_) λam O' aR W' ad b0=>hF O' W' λf' ac=> ?_
   ·have lt:∀{w:Nat},w<A.heap.size->w<l.heap.size:=λh=>dG h j2;have bM:s<A.heap.size:=cC _ _ q1;have bP:W.heap.size<A.heap.size:=cC _ _ q2;have bb:∀{w:Nat} {an:au},A.cell? ⟨w,0,af⟩=ae an->w≠W2.heap.size+1->r w=0->W'.cell? ⟨w,0,af⟩=ae an:=λ{w an} Z b3 hz=>by
     have bj:=cC _ _ Z;exact(gV (a:=⟨w,0,af⟩) ((ad.block w (lt bj) hz).trans (j3 w bj b3))).trans Z
    refine aU am O' aR W' f' af ⟨bT j2 ad.size,λk a=>ad.agree k (lt a),λk h1 _ h3 h4=>(ad.block k (lt h3) h4).trans (j3 k h3 h1)⟩ ((ad.block _ (lt aP) b1).trans j4) ac.mode ac.kind ac.ro ac.lv (λ_=>⟨pre++[⟨a2.1,b2⟩],by simp[e],bv.trans ad,b0,bb q1 ag q3,bb q2 ag q4,(ad.agree _ (lt bM)).trans q3,(ad.agree _ (lt bP)).trans q4⟩) λcd h=>by cases h
   ·have lt:∀{w:Nat},w<A.heap.size->w<l.heap.size:=λh=>dG h j2;refine aU am O' aR W' f' (ae .ret) ⟨bT j2 ad.size,λk a=>ad.agree k (lt a),λk h1 h2 h3 h4=> ?_⟩ ((ad.block _ ag (lt aP) b1).trans j4) ac.mode ac.kind ac.ro ac.lv (λh=>by cases h) λcd h=> ?_
    ·rcases h2 with h2|h2;·cases h2
     ·exact(ad.block k ag (lt h3) h4).trans (j3 k h3 h1)
    ·cases h;exact⟨rfl,.inr ⟨pre++[⟨a2.1,b2⟩],b0,by simp[e]⟩⟩
theorem Gf{P:aV}{ops:Array bR}{b:aC}{a:gx}{k:List dP}{cs:List aC}{w:ak}{id:Nat}:aZ P aq (G (b.atR a (.code (.region id ops aq)::k)) cs) w=.go (G (b.atR a (.inRegion ops (zO (P.follows .mixedOrders) ops (w.tape w.drawn (.order b.fn id)))::k)) cs) {w with drawn:=w.drawn+1}:=by
 simp[G,aZ,fZ,Pj,xT,fu,zN,aA6]
section
variable {P:aV} {Post:au->ak->Prop} {ops:Array bR} {n c:Nat} {H:pH} {l:Nat->Bool}
theorem ay.am0{id:Nat}{df:List jH}{fr:aC}{cs:List aC}{k:List dP}{T:(Nat->au)->Array au}{x:Nat->au}{O:Nat->Prop}{W:(Nat->Bool)->ak}{D:Nat->Nat}{V:Nat->au}(o:ops.size=n)(hs:uJ ops c=aq)(hD:∀i j,i<c->j<c->D i=D j->i=j)(a2:∀i,i<c->∀l x rest,l i=ax->(∀j,dY ops i j=aq->l j=aq/\x (D j)=V j)->ay P Post O (aw (fr.atR ⟨T (cB x (D i) (V i)),df⟩ (.inRegion ops rest::k)) cs) (W (cz l i))->ay P Post O (aw (fr.atR ⟨T x,df⟩ (.inRegion ops (i::rest)::k)) cs) (W l))(a6:∀x l,(∀j,j<c->l j=aq)->(∀j,j<c->x (D j)=V j)->ay P Post O (aw (fr.atR ⟨T x,df⟩ (.inRegion ops (jZ c (n-c))::k)) cs) (W l)):ay P Post O (aw (fr.atR ⟨T x,df⟩ (.code (.region id ops aq)::k)) cs) (W λ_=>ax):=by
 have f:=MT hs;refine .step rfl λu d=> ?_;obtain⟨H,v,ho⟩:=zi (P.follows .mixedOrders) ops ((Sim.re (W λ_=>ax) u d).tape (Sim.re (W λ_=>ax) u d).drawn (.order (fr.atR ⟨T x,df⟩ (.code (.region id ops aq)::k)).fn id));have ac:=Gf (P:=P) (ops:=ops) (b:=fr) (a:=⟨T x,df⟩) (k:=k) (cs:=cs) (w:=Sim.re (W λ_=>ax) u d) (id:=id);refine⟨aw (fr.atR ⟨T x,df⟩ (.inRegion ops (jY H ops v)::k)) cs,Sim.re (W λ_=>ax) u (d+1), #[],?_,aL _,λe he=>by simp at he,.re ?_⟩
 ·have e:aw (fr.atR ⟨T x,df⟩ (.code (.region id ops aq)::k)) cs=G (fr.atR ⟨T x,df⟩ (.code (.region id ops aq)::k)) cs:=rfl;rw[e,ac];have aa:zO (P.follows .mixedOrders) ops ((Sim.re (W λ_=>ax) u d).tape (Sim.re (W λ_=>ax) u d).drawn (.order fr.fn id))=jY H ops v:=ho;rw[aa];rfl
 ·have e3:jY H ops v=gX H ops n v (cm n λ_=>ax) []:=by
   unfold jY;rw[o];congr 1;apply rK;intro i;by_cases b:i<n;·simp[cm,b,sP]
   ·simp[cm,sP,b,lI (show(dn n).length<=i by simp;omega)]
  rw[e3];have key:∀(fuel t:Nat)(l:Nat->Bool) (x:Nat->au),jN n l<=fuel->sa ops n l->(∀j,c<=j->l j=ax)->(∀j,j<c->l j=aq->x (D j)=V j)->ay P Post O (aw (fr.atR ⟨T x,df⟩ (.inRegion ops (gX H ops fuel t (cm n l) [])::k)) cs) (W l):=by
   intro fuel;induction fuel with
   |zero=>
    intro t l x hc N r B;have:=Az (n:=n) (l:=l) ag c (by rw[<-o];exact f.lt);rw[r c (aL _)]at this;cases this
   |succ fuel ih=>
    intro t l x hc N r B;have a7:(∀j,j<c->l j=aq)->ay P Post O (aw (fr.atR ⟨T x,df⟩ (.inRegion ops (gX H ops (fuel+1) t (cm n l) [])::k)) cs) (W l):=λs=>by
     have e:l=λj=>aM (j<c):=by
      funext j;by_cases a:j<c;·rw[s j a];simp[a]
      ·rw[r j ag];simp[a]
     have a1:n-c<=fuel+1:=by
      have ad:jN n l=n-c:=by
       rw[e];unfold jN;have:((dn n).filter λi=> ! aM (i<c))=jZ c (n-c):=by
        have y:=f.lt;rw[o]at y;apply mD;intro q;have ab:dn n=dn c++jZ c (n-c):=by
         rw[zI,zI,show n=c+(n-c) by omega,<-NL];simp
        rw[ab,uV];have f1:(dn c).filter (λi=> ! aM (i<c))=[]:=GS.2 λi b=>by simp at b⊢;omega
        have f2:(jZ c (n-c)).filter (λi=> ! aM (i<c))=jZ c (n-c):=xl.2 λi b=>by simp[Oa]at b⊢;omega
        rw[f1,f2];simp
       rw[this];simp
      omega
     have y:=f.lt;have el:cm n l=cm n λj=>aM (j<c):=by rw[e]
     rw[el,EO f o (fuel+1) t c (aL _) ag a1];exact a6 x l s λj a=>B j a (s j a)
    by_cases s:∀j,j<c->l j=aq;·exact a7 s
    rw[sx H ops fuel t (cm n l)];cases b:(dm H ops (cm n l))[t%(dm H ops (cm n l)).length]? with
    |none=>
     have a8:dm H ops (cm n l)=[]:=by
      cases hr:dm H ops (cm n l)with
      |nil=>rfl
      |cons x xs=>
       rw[hr]at b;have y:t%(x::xs).length<(x::xs).length:=xK _ az;rw[bf y]at b;cases b
     obtain⟨j,a⟩:=FZ (md:=H) o f.down ⟨c,by rw[<-o];exact f.lt,r c (aL _)⟩;rw[a8]at a;cases a
    |some i=>
     obtain⟨R,U,w⟩:=zd o f.down (cG b);dsimp only;rw[xw,xh,xi,vZ l R];have Z:i<c:=by
      apply pC;intro ai;by_cases e:i=c;·subst e;exact s (Jc f o N w)
      ·have:=w (i-1) (f.chain i ag ag);rw[r (i-1) ag]at this;cases this
     refine a2 i Z l x _ U (λj hd=> ?_) (ih _ (cz l i) (cB x (D i) (V i)) (by have:=yj R U;omega) (N.set w) (λj a=>by rw[iV l ag];exact r j a) λj a p=> ?_)
     ·have p:=w j hd;by_cases a:j<c;·exact⟨p,B j a p⟩
      ·rw[r j ag]at p;cases p
     ·by_cases e:j=i;·subst e;exact x5 _ _ _
      ·rw[rH _ _ (λe'=>e (hD j i a Z e'))];rw[iV l e]at p;exact B j a p
  exact key n v (λ_=>ax) x (by unfold jN;exact bT (mB _ _) az) (λi _ h=>by cases h) (λ_ _=>rfl) (λj _ h=>by cases h)
end
