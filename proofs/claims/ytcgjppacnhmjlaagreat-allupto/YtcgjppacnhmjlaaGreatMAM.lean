/- Own texts: GeA, GeP, GeB, GeC. -/
import Derived.Test.YtcgjppacnhmjlaaGreatMAG
import Derived.Test.YtcgjppacnhmjlaaGreatMAH
import Derived.Test.YtcgjppacnhmjlaaGreatMAL
set_option linter.all false
open Array renaming getElem?_modify->fV
open Bool renaming true->aq,false->ax,false_eq_true->dx,eq_false_iff->CH
open Classical renaming byContradiction->pC
open Decidable renaming decide->aM
open Go renaming World->ak,Value->au,Calls->aE,TypeId->aK,heap_alloc_new->cY,FuncId->bW,Obj->dV
open Go.Addr renaming add_lit->jF
open Go.Proofs.Tryz renaming prog->aj,func32->D9,func57->OZ,func41->P1,func33->P2,func9->Pd,ntmps33->aF9,func37->aJ0,func30->aJ2,func29->aJ3,func20->aJ7,func16->aJ8,func14->aJ9,func13->aK0,func12->aK1,func10->aK2,func8->aK9
open Go.Value renaming ownBlock->fX
open Go.World renaming block_lt_of_cell?->cC,size_alloc->dh,setCell->eK,size_setCell->jX,ownsRow_nil->CB
open Inhabited renaming default->fM
open List renaming getElem?_eq_getElem->bf,mem_of_getElem?->cG,take_of_length_le->fU,mem_cons_self->gq,length_append->gJ,take_append_drop->jW,mem_cons_of_mem->jD,mem_filter->gK,length_filter_le->mB,pairwise_cons->kZ,mem_map->iL,take_add_one->mC,nil_append->nB,any_eq_true->pG,filter_append->uV,getElem?_set->xr,length_set->zU,length_filter_eq_length_iff->NB,filter_cons->CO,pairwise_map->GZ,filter_congr->az4,mem_flatMap->aA3
open List.Pairwise renaming nil->nA,filter->sQ,imp->aL5
open Nat renaming le_refl->aL,le_trans->bT,lt_of_lt_of_le->dG,zero_le->fL,zero_add->ia,lt_of_le_of_ne->O7,lt_irrefl->OL
open Ne renaming symm->jm
open Option renaming some->ae,none->af,isSome_iff_exists->sO
open Prod renaming fst->Po
namespace Go.Proofs.YtcgjppacnhmjlaaGreat
open Go Go.Conc Go.ConcN Go.Conc.Lib Go.ConcR.Gen Go.RowKit
namespace Sim
variable {aa:Tape} {k N:Nat} {a1:au} {c:List KV} {U:BR} {a8:Nat->Nat} {a2:Nat->Prop} {a7:ak} {H:ByteArray} {v:Int} {s:List UInt8} {Z:KV}
structure Mv(A:Nat->Prop)(ρ:Nat->Nat)(w:ak)(f:Nat->Nat)(a:ak):Prop where
 size:w.heap.size<=a.heap.size
 agree:∀k,k<w.heap.size->f k=ρ k
 fresh:∀k,a.heap.size<=k->f k=0
 block:∀k,k<w.heap.size->¬A (ρ k)->a.heap[k]?=w.heap[k]?
 os:a.os=w.os
 output:a.output=w.output
section
variable {A A':Nat->Prop} {ρ f a6:Nat->Nat} {w a w1:ak} {i:Nat} {x r:Nat} {l:List KV} {W:Nat} {bZ:Int} {o:au} {h:TS}
theorem Mv.of{d:Nat}(h:dM A ρ (Sim.re w aa d) f a):Mv A ρ w f a:=⟨h.size,h.agree,h.fresh,h.block,h.os,h.output⟩
theorem Mv.re(h:Mv A ρ w f a)(tp:Tape)(d:Nat):Mv A ρ w f (Sim.re a tp d):=⟨h.size,h.agree,h.fresh,h.block,h.os,h.output⟩
theorem Mv.refl(a:∀k,w.heap.size<=k->ρ k=0):Mv A ρ w ρ w:=⟨aL _,λ_ _=>rfl,a,λ_ _ _=>rfl,rfl,rfl⟩
theorem Mv.cv(c:∀k,w.heap.size<=k->ρ k=0)(h:aO w a):Mv A ρ w ρ a:=⟨h.size,λ_ _=>rfl,λk b=>c k (bT h.size b),λk b _=>h.block k b,h.os,h.output⟩
theorem Mv.trans(h:Mv A ρ w a6 w1)(k:Mv A a6 w1 f a):Mv A ρ w f a:=⟨bT h.size k.size,λi b=>(k.agree i (dG b h.size)).trans (h.agree i b),k.fresh,λi b c=>(k.block i (dG b h.size) (by rw[h.agree i b];exact c)).trans (h.block i b c),k.os.trans h.os,k.output.trans h.output⟩
theorem Mv.mono(h:Mv A ρ w f a)(b:∀c,A c->A' c):Mv A' ρ w f a:=⟨h.size,h.agree,h.fresh,λk j l=>h.block k j λe=>l (b _ e),h.os,h.output⟩
theorem Ba(h:bB (λc=>ρ c=0) w k l)(o:Mv A ρ w f a)(v:¬A 0)(H:¬A (ρ k)):bB (λc=>f c=0) a k l:=by
 obtain⟨n,N,s,p⟩:=h.tree;have r:=cJ s;refine⟨⟨n,N,(o.block k r H).trans s,?_⟩,λe=>h.out ((o.agree k r).symm.trans e),h.cI⟩;rcases p with p|⟨t,x,y⟩;·exact .inl p
 ·refine .inr ⟨t,x,?_⟩;have B:aY (λc=>ρ c=0/\c<w.heap.size) n w t l:=y.weaken (λc u b=>⟨u,b⟩);exact B.bK (λc j=>o.block c j.2 (by rw[j.1];exact v)) (λc j _=>(o.agree c j.2).trans j.1) (aL _)
theorem ae7(h:bQ w r a1 l)(b:Mv A ρ w f a)(j:¬A (ρ r))(c:∀g,a1.ownBlock=ae g->¬A (ρ g)):bQ a r a1 l:=⟨(b.block r (cJ h.blk) j).trans h.blk,ng h.row λg e=>b.block g (h.row.lt g e).2 (c g e),h.out,h.ck,h.short,h.cI⟩
theorem rG(h:Twin ρ i w x r l)(b:Mv A ρ w f a)(s:¬A 0)(k:∀c,Part i c->¬A c):Twin f i a x r l:=by
 obtain⟨o,j,p⟩:=h.ref;refine⟨Ba h.ix b s (k _ (by rw[h.px];exact .inl rfl)),(b.agree x h.ix.lt).trans h.px,(b.agree r (cJ j.blk)).trans h.pr,o,ae7 j b (k _ (by rw[h.pr];exact .inr (.inl rfl))) (λg e=>k _ (by rw[p g e];exact .inr (.inr rfl))),λg e=> ?_⟩;exact(b.agree g (j.row.lt g e).2).trans (p g e)
theorem Co(b:Wd ρ w W bZ o h)(j:Mv A ρ w f a)(p:¬A 0)(k:∀c,0<c->c<150->¬A c):Wd f a W bZ o h:=by
 refine⟨(j.block W (cJ b.blk) (by rw[b.pW];exact k _ ag ag)).trans b.blk,(j.agree W (cJ b.blk)).trans b.pW,ng b.row λg e=>j.block g (b.row.lt g e).2 (by rw[b.pg g e];exact k _ ag ag),λg e=>(j.agree g (b.row.lt g e).2).trans (b.pg g e),λi t e=> ?_,j.fresh,b.cI⟩;exact rG (b.tw i t e) j p λc l=>k c (qs (b.lt e).2 l).1 (by have:=(qs (b.lt e).2 l).2;omega)
def qP(i:Nat)(c:Nat):Prop:=Part i c\/c=200
theorem ar4{t:Nat×Nat×List KV}(b:Wd ρ w W bZ o h)(v:h[i]?=ae t)(l:Mv (qP i) ρ w f a)(x:Twin f i a t.1 t.2.1 c):Wd f a W bZ o (h.set i (t.1,t.2.1,c)):=by
 obtain⟨y,s⟩:=b.lt v;have H:¬qP i 100:=λe=>e.elim (λe=>by have:=qs s e;omega) λe=>ag;have N:¬qP i 101:=λe=>e.elim (λe=>by have:=qs s e;omega) λe=>ag;refine⟨(l.block W (cJ b.blk) (by rw[b.pW];exact H)).trans b.blk,(l.agree W (cJ b.blk)).trans b.pW,?_,λg e=>(l.agree g (b.row.lt g e).2).trans (b.pg g e),λj u k=> ?_,l.fresh,by rw[zU];exact b.cI⟩
 ·rw[zU,E8 h i t c v];exact ng b.row λg e=>l.block g (b.row.lt g e).2 (by rw[b.pg g e];exact N)
 ·rw[xr]at k;split at k
  ·rename_i e;subst e
   first
    |(cases k;exact x)
    |(rw[if_pos y]at k;cases k;exact x)
  ·rename_i B;exact rG (b.tw j u k) l (λe=>e.elim (BH i) λe=>ag) (λR r p=>p.elim (λp=>B (LK p r)) λe=>by have:=qs (b.lt k).2 r;omega)
end
def y3(c:Nat):Prop:=NZ c\/c=200
theorem Lo:¬y3 0:=λh=>h.elim (λh=>OL _ h.1) λh=>ag
theorem Zb{i:Nat}(a:i<8)(h:qP i k):y3 k:=h.elim (λh=>.inl ⟨(qs a h).1,by have:=(qs a h).2;omega⟩) .inr
structure PW(p:ak)(W:Nat)(o:au)(ρ:Nat->Nat)(O:Nat->Prop)(R:BR)(w:ak)(h:TS):Prop where
 known:aI Xm O R w
 wd:Wd ρ w W 11 o h
 rW:R W W
 cv:aO p w
 low:∀k,k<p.heap.size->ρ k=0
 own:∀k,O k->ρ k=200
section
variable {p w a:ak} {W:Nat} {o:au} {ρ f:Nat->Nat} {O j:Nat->Prop} {R b:BR} {h:TS}
theorem PW.free(a:PW p W o ρ O R w h)(c:ρ k≠200):¬O k:=λb=>c (a.own k b)
theorem PW.AV(a:PW p W o ρ O R w h)(b:k<p.heap.size):¬O k:=a.free (by rw[a.low k b];decide)
theorem PW.new(a:PW p W o ρ O R w h){k:Nat}(c:w.heap.size<=k):¬O k:=λb=>by have:=a.known.low k b;omega
theorem PW.oW(a:PW p W o ρ O R w h):¬O W:=a.known.apart W a.rW
theorem PW.cell(a:PW p W o ρ O R w h){b f:Nat}{v:au}(c:p.cell? ⟨b,f,af⟩=ae v):¬O b/\w.cell? ⟨b,f,af⟩=ae v:=⟨a.AV (cC _ _ c),a.cv.cell c⟩
theorem PW.on(c:PW p W o ρ O R w h)(f:aO w a)(j:aI Xm O b a)(k:BR.Sub R b):PW p W o ρ O b a h:=⟨j,Co (A:=λ_=>False) c.wd (.cv c.wd.fresh f) (λc=>c) (λ_ _ _ c=>c),k _ _ c.rW,c.cv.trans f,c.low,c.own⟩
theorem PW.grown(b:PW p W o ρ O R w h)(a:dV):PW p W o ρ O R (w.alloc a) h:=b.on (dw w a) (b.known.grown a) (BR.Sub.refl R)
theorem xa{g c:Nat}(h:VR Xm.G U (.slice (ae ⟨g,k,af⟩) N c) (.slice (ae ⟨g,k,af⟩) N c)):U g g:=by cases h with|slice _ _ h=>exact h.1
theorem Cj{g:Nat}(h:VR Xm.G U (.pointer (ae ⟨g,k,af⟩)) (.pointer (ae ⟨g,k,af⟩))):U g g:=by cases h with|ptr h=>exact h.1
theorem rp(f:aI Xm O R w)(h:R k k)(b:w.cell? ⟨k,N,af⟩=ae a1):VR Xm.G R a1 a1:=by
 obtain⟨j,a,c⟩:=sL f.wr h b;rw[b]at a;cases a;exact c
theorem PW.list(a:PW p W o ρ O R w h)(k:0<h.length):∃g cap,o=.slice (ae ⟨g,0,af⟩) h.length cap/\h.length<=cap/\R g g/\∀(i:Nat) t,h[i]?=ae t->w.cell? ⟨g,i*2,af⟩=ae (ptr t.1)/\w.cell? ⟨g,i*2+1,af⟩=ae (ptr t.2.1)/\R t.1 t.1/\R t.2.1 t.2.1:=by
 obtain⟨g,cap,e,c,l,f⟩:=a.wd.at k;have b:R g g:=by
  have:=rp a.known a.rW a.wd.tM;rw[e]at this;exact xa this
 refine⟨g,cap,e,c,b,λi t j=> ?_⟩;obtain⟨c1,c2⟩:=f i t j;exact⟨c1,c2,Cj (rp a.known b c1),Cj (rp a.known b c2)⟩
theorem PW.set(c:PW p W o ρ O R w h){i:Nat}{t:Nat×Nat×List KV}{u:List KV}(y:h[i]?=ae t)(r:Mv (qP i) ρ w f a)(H:Twin f i a t.1 t.2.1 u)(v:aI Xm j b a)(B:BR.Sub R b)(x:∀k,j k->O k\/w.heap.size<=k/\f k=200):PW p W o f j b a (h.set i (t.1,t.2.1,u)):=by
 refine⟨v,ar4 c.wd y r H,B _ _ c.rW,⟨bT c.cv.size r.size,λk l=> ?_,r.os.trans c.cv.os,r.output.trans c.cv.output⟩,λk l=>(r.agree k (dG l c.cv.size)).trans (c.low k l),λk l=> ?_⟩;·exact(r.block k (dG l c.cv.size) (by rw[c.low k l];exact λe=>e.elim (BH i) λe=>ag)).trans (c.cv.block k l)
 ·rcases x k l with s|s;·exact(r.agree k (c.known.low k s)).trans (c.own k s)
  ·exact s.2
structure fw(p:ak)(W:Nat)(o:au)(ρ:Nat->Nat)(O:Nat->Prop)(R:BR)(w:ak)(ps:List (Nat×Nat))(f:Nat->Nat)(j:Nat->Prop)(b:BR)(a:ak)(fq:TS):Prop where
 pw:PW p W o f j b a fq
 mv:Mv y3 ρ w f a
 sub:BR.Sub R b
 own:∀k,j k->O k\/w.heap.size<=k
 ps:fq.map pp=ps
theorem fw.refl(a:PW p W o ρ O R w h):fw p W o ρ O R w (h.map pp) ρ O R w h:=⟨a,.refl a.wd.fresh,BR.Sub.refl R,λk b=>.inl b,rfl⟩
theorem fw.trans{ps:List (Nat×Nat)}{a6 l:Nat->Nat}{a b:Nat->Prop}{y R2:BR}{w1 j:ak}{c f:TS}(h:fw p W o ρ O R w ps a6 a y w1 c)(k:fw p W o a6 a y w1 (c.map pp) l b R2 j f):fw p W o ρ O R w ps l b R2 j f:=⟨k.pw,h.mv.trans k.mv,h.sub.trans k.sub,λi s=>(k.own i s).elim (h.own i) λr=>.inr (bT h.mv.size r),k.ps.trans h.ps⟩
theorem fw.on{R0:BR}(c:PW p W o ρ O R w h)(f:aO w a)(l:aI Xm O b a)(j:BR.Sub R b):fw p W o ρ O R w (h.map pp) ρ O b a h:=⟨c.on f l j,.cv c.wd.fresh f,j,λk r=>.inl r,rfl⟩
theorem fw.len{ps:List (Nat×Nat)}{a:TS}(h:fw p W o ρ O R w ps a8 a2 U a7 a):a.length=ps.length:=by rw[<-h.ps];simp
theorem fw.set(s:PW p W o ρ O R w h){i:Nat}{t:Nat×Nat×List KV}{r:List KV}(l:h[i]?=ae t)(v:Mv (qP i) ρ w f a)(H:Twin f i a t.1 t.2.1 r)(y:aI Xm j b a)(x:BR.Sub R b)(u:∀k,j k->O k\/w.heap.size<=k/\f k=200):fw p W o ρ O R w (h.map pp) f j b a (h.set i (t.1,t.2.1,r)):=⟨s.set l v H y x u,v.mono λc=>Zb (s.wd.lt l).2,x,λk B=>(u k B).imp id (·.1),LR h i t r l⟩
end
theorem U0:fO 13 Tryz.f13 ((Tryz.f13.body).getD .skip):=⟨aK0,ah,ah⟩
theorem U1:fO 14 Tryz.f14 ((Tryz.f14.body).getD .skip):=⟨aJ9,ah,ah⟩
theorem U2:fO 16 Tryz.f16 ((Tryz.f16.body).getD .skip):=⟨aJ8,ah,ah⟩
theorem U8:fO 37 Tryz.f37 ((Tryz.f37.body).getD .skip):=⟨aJ0,ah,ah⟩
theorem TZ:fO 12 Tryz.f12 ((Tryz.f12.body).getD .skip):=⟨aK1,ah,ah⟩
theorem U7:fO 33 Tryz.f33 ((Tryz.f33.body).getD .skip):=⟨P2,ah,ah⟩
theorem Ud:fO 57 Tryz.f57 ((Tryz.f57.body).getD .skip):=⟨OZ,ah,ah⟩
theorem U9:fO 41 Tryz.f41 ((Tryz.f41.body).getD .skip):=⟨P1,ah,ah⟩
theorem U6:fO 32 Tryz.f32 ((Tryz.f32.body).getD .skip):=⟨D9,ah,ah⟩
theorem U4:fO 29 Tryz.f29 ((Tryz.f29.body).getD .skip):=⟨aJ3,ah,ah⟩
theorem U5:fO 30 Tryz.f30 ((Tryz.f30.body).getD .skip):=⟨aJ2,ah,ah⟩
theorem U3:fO 20 Tryz.f20 ((Tryz.f20.body).getD .skip):=⟨aJ7,ah,ah⟩
theorem TY:fO 10 Tryz.f10 ((Tryz.f10.body).getD .skip):=⟨aK2,ah,ah⟩
theorem JC:fO 9 Tryz.f9 ((Tryz.f9.body).getD .skip):=⟨Pd,ah,ah⟩
theorem Ue:fO 8 Tryz.f8 ((Tryz.f8.body).getD .skip):=⟨aK9,ah,ah⟩
theorem kS(h:fj.contains k=aq):Xm.G k:=h
theorem kD(h:U k k):VR Xm.G U (ptr k) (ptr k):=.ptr ⟨h,rfl,rfl⟩
theorem Ck(b:U k k)(a:U N N):VR Xm.G U (.agg #[ptr k,ptr N]) (.agg #[ptr k,ptr N]):=sK (iP (l:=[ptr k,ptr N]) ⟨kD b,kD a,trivial⟩)
section
variable {Post:au->ak->Prop} {p w:ak} {W:Nat} {o:au} {ρ:Nat->Nat} {O:Nat->Prop} {R:BR} {h:TS} {i:Nat} {t:Nat×Nat×List KV}
def lU(p:ak)(W:Nat)(o:au)(ρ:Nat->Nat)(O:Nat->Prop)(R:BR)(w:ak)(ps:List (Nat×Nat)):au->(Nat->Prop)->BR->ak->Prop:=λv j b a=>v=.bool aq/\∃f c,fw p W o ρ O R w ps f j b a c
theorem iD{f:bW}{l:Array au}{K k:au->(Nat->Prop)->BR->ak->Prop}(h:MC Post f l O w K)(r:∀v j b a,K v j b a->k v j b a):MC Post f l O w k:=λc o s=>h c o λv j b a p=>s v j b a (r v j b a p)
theorem Fb{i:Nat}{f:Nat->Nat}{a:ak}(h:Mv (Part i) a8 a7 f a):Mv (qP i) a8 a7 f a:=h.mono λ_=>.inl
theorem Y3(c:PW p W o ρ O R w h)(N:0<h.length)(x:h[i]?=ae t)(y:H.size<=9223372036854775807):MC Post 16 #[.agg #[ptr t.1,ptr t.2.1],.string H,.int .i64 v] O w (lU p W o ρ O R w (h.map pp)):=by
 obtain⟨g,cap,e,_,hg,a1⟩:=c.list N;obtain⟨_,_,hx,U⟩:=a1 i t x;refine iD (kT (R:=R) (Post1:=λu a=>u=.bool aq/\∃f,Mv (Part i) ρ w f a/\Twin f i a t.1 t.2.1 (iE H v t.2.2)) U2 (kS bc) c.known (iP (l:=[.agg #[ptr t.1,ptr t.2.1],.string H,.int .i64 v]) ⟨Ck hx U,.string _,.int _ _,trivial⟩) (λu a r d ⟨l,f,k,s⟩=>⟨l,f,k.re r d,rG (A:=λ_=>False) s (Mv.cv k.fresh ((aO.refl a).re r d)) (λc=>c) (λ_ _ c=>c)⟩) (λr=> ?_)) λu j b a hu=> ?_
 ·have Z:Twin ρ i (Sim.re w r 0) t.1 t.2.1 t.2.2:=rG (A:=λ_=>False) (c.wd.tw i t x) (Mv.cv c.wd.fresh ((aO.refl w).re r 0)) (λc=>c) (λ_ _ c=>c);refine(Na Z c.wd.fresh y).mono ?_;rintro e a ⟨rfl,f,l,k⟩;exact⟨_,rfl,rfl,f,.of l,k⟩
 ·obtain⟨rfl,⟨rfl,f,l,k⟩,s,_,B,_⟩:=hu;exact⟨rfl,f,_,.set c x (Fb l) k s B λa2 y=>.inl y⟩
theorem Y8(c:PW p W o ρ O R w h)(N:0<h.length)(x:h[i]?=ae t)(y:H.size<=9223372036854775807):MC Post 37 #[.agg #[ptr t.1,ptr t.2.1],.string H] O w (lU p W o ρ O R w (h.map pp)):=by
 obtain⟨g,cap,e,_,hg,a1⟩:=c.list N;obtain⟨_,_,hx,U⟩:=a1 i t x;refine iD (kT (R:=R) (Post1:=λu a=>u=.bool aq/\∃f l,Mv (Part i) ρ w f a/\Twin f i a t.1 t.2.1 l) U8 (kS bc) c.known (iP (l:=[.agg #[ptr t.1,ptr t.2.1],.string H]) ⟨Ck hx U,.string _,trivial⟩) (λu a s d ⟨r,f,l,k,v⟩=>⟨r,f,l,k.re s d,rG (A:=λ_=>False) v (Mv.cv k.fresh ((aO.refl a).re s d)) (λc=>c) (λ_ _ c=>c)⟩) (λs=> ?_)) λu j b a hu=> ?_
 ·have Z:Twin ρ i (Sim.re w s 0) t.1 t.2.1 t.2.2:=rG (A:=λ_=>False) (c.wd.tw i t x) (Mv.cv c.wd.fresh ((aO.refl w).re s 0)) (λc=>c) (λ_ _ c=>c);refine(ao3 Z c.wd.fresh y).mono ?_;rintro e a ⟨rfl,f,l,r,k⟩;exact⟨_,rfl,rfl,f,l,.of r,k⟩
 ·obtain⟨rfl,⟨rfl,f,l,r,k⟩,v,_,B,_⟩:=hu;exact⟨rfl,f,_,.set c x (Fb r) k v B λa2 y=>.inl y⟩
theorem KY(c:PW p W o ρ O R w h)(y:0<h.length)(l:h[i]?=ae t)(x:H.size<=9223372036854775807):MC Post 13 #[.agg #[ptr t.1,ptr t.2.1],.string H] O w (λu j b a=>u=.bool aq/\j=O/\aO w a/\aI Xm O b a/\BR.Sub R b):=by
 obtain⟨g,cap,e,_,hg,U⟩:=c.list y;obtain⟨_,_,hx,B⟩:=U i t l;refine iD (kT (R:=R) (Post1:=λu a=>u=.bool aq/\aO w a) U0 (kS bc) c.known (iP (l:=[.agg #[ptr t.1,ptr t.2.1],.string H]) ⟨Ck hx B,.string _,trivial⟩) (λu a k d ⟨f,r⟩=>⟨f,r.re k d⟩) (λk=> ?_)) λu j b a Z=> ?_
 ·have N:Twin ρ i (Sim.re w k 0) t.1 t.2.1 t.2.2:=rG (A:=λ_=>False) (c.wd.tw i t l) (Mv.cv c.wd.fresh ((aO.refl w).re k 0)) (λc=>c) (λ_ _ c=>c);refine(ao2 N c.wd.fresh x).mono ?_;rintro e a ⟨rfl,f⟩;exact⟨_,rfl,rfl,.of f⟩
 ·obtain⟨rfl,⟨rfl,f⟩,s,_,v,_⟩:=Z;exact⟨rfl,rfl,f,s,v⟩
theorem F1(c:PW p W o ρ O R w h)(x:0<h.length)(l:h[i]?=ae t):MC Post 14 #[.agg #[ptr t.1,ptr t.2.1]] O w (λu j b a=>u=.bool aq/\j=O/\aO w a/\aI Xm O b a/\BR.Sub R b):=by
 obtain⟨g,cap,e,_,Z,H⟩:=c.list x;obtain⟨_,_,U,y⟩:=H i t l;refine iD (kT (R:=R) (Post1:=λu a=>u=.bool aq/\aO w a) U1 (kS bc) c.known (iP (l:=[.agg #[ptr t.1,ptr t.2.1]]) ⟨Ck U y,trivial⟩) (λu a k d ⟨f,r⟩=>⟨f,r.re k d⟩) (λk=> ?_)) λu j b a N=> ?_
 ·have B:Twin ρ i (Sim.re w k 0) t.1 t.2.1 t.2.2:=rG (A:=λ_=>False) (c.wd.tw i t l) (Mv.cv c.wd.fresh ((aO.refl w).re k 0)) (λc=>c) (λ_ _ c=>c);refine(ap1 B c.wd.fresh).mono ?_;rintro e a ⟨rfl,f⟩;exact⟨_,rfl,rfl,.of f⟩
 ·obtain⟨rfl,⟨rfl,f⟩,s,_,v,_⟩:=N;exact⟨rfl,rfl,f,s,v⟩
end
theorem am3{b:List KV}(f:bh c)(j:bh b)(h:∀e∈c,e∈b):c.length<=b.length:=by
 classical
 have e:c=b.filter (λx=>aM (x∈c)):=bh.ext f (sQ _ j) λx=>by
  rw[gK,decide_eq_true_iff];exact⟨λa=>⟨h x a,a⟩,λa=>a.2⟩
 rw[e];exact mB _ _
theorem yD{v:Int}(b:bh c)(h:lk s c=af):(ins s v c).length=c.length+1:=by
 have l:=oZ s v c b;have o:c.length<(ins s v c).length:=by
  have k:bh (ins s v c):=iw b;have:((ins s v c).filter λe=>aM (e.1≠s))=c:=by
   refine(bh.ext (sQ _ k) b λe=> ?_);rw[gK,iT,decide_eq_true_iff];constructor
   ·rintro⟨rfl|h,j⟩;·exact absurd rfl j
    ·exact h.1
   ·intro a;exact⟨.inr ⟨a,Bn.1 h e a⟩,Bn.1 h e a⟩
  have f:((ins s v c).filter λe=>aM (e.1≠s)).length<(ins s v c).length:=by
   refine O7 (mB _ _) λe=> ?_;have:=NB.1 e (s,v) (iT.2 (.inl rfl));simp at this
  rw[this]at f;exact f
 omega
theorem EK(f:bh c)(h:(lk s c).isSome=aq):(ins s v c).length=c.length:=by
 obtain⟨u,H⟩:=sO.1 h;have t:=yE H;refine Nat.le_antisymm ?_ ?_
 ·have e:ins s v c=c.map (λe=>if e.1=s then(s,v)else e):=by
   refine bh.ext (iw f) ?_ λe=> ?_
   ·unfold bh;rw[GZ];refine aL5 (λ{a b} k=> ?_) f;by_cases p:a.1=s<;>by_cases r:b.1=s<;>simp[p,r]<;>first|exact k|skip
    ·rw[p,r]at k;exact k
    ·rw[p]at k;exact k
    ·rw[r]at k;exact k
   ·rw[iT,iL];constructor
    ·rintro(rfl|⟨o,j⟩);·exact⟨(s,u),t,az⟩
     ·exact⟨e,o,by simp[j]⟩
    ·rintro⟨a,B,rfl⟩;by_cases j:a.1=s;·left;simp[j]
     ·right;simp[j,B]
  rw[e];simp
 ·have:=oZ s v c f;have x:((ins s v c).filter λe=>aM (e.1≠s)).length+1<=(ins s v c).length:=by
   have:((ins s v c).filter λe=>aM (e.1≠s)).length<(ins s v c).length:=by
    refine O7 (mB _ _) λe=> ?_;have:=NB.1 e (s,v) (iT.2 (.inl rfl));simp at this
   omega
  have y:((ins s v c).filter λe=>aM (e.1≠s))=c.filter λe=>aM (e.1≠s):=by
   refine bh.ext (sQ _ (iw f)) (sQ _ f) λe=> ?_;rw[gK,gK,iT,decide_eq_true_iff];constructor
   ·rintro⟨rfl|h,l⟩;·exact absurd rfl l
    ·exact⟨h.1,l⟩
   ·rintro⟨l,w⟩;exact⟨.inr ⟨l,w⟩,w⟩
  have l:c.length<=(c.filter λe=>aM (e.1≠s)).length+1:=by
   have e:c=ins s u (c.filter λe=>aM (e.1≠s)):=rh (sQ _ f) f λe=>by
    rw[gK,decide_eq_true_iff];constructor
    ·intro o;by_cases j:e.1=s;·left;exact f.inj o t j
     ·right;exact⟨⟨o,j⟩,j⟩
    ·rintro(rfl|h);·exact t
     ·exact h.1.1
   have:=oZ s u _ (sQ (λe:KV=>aM (e.1≠s)) f);rw[<-e]at this;exact this
  rw[y]at x;omega
theorem KC{k:List UInt8}{v:Int}(a:bh c):c.length<=(ins k v c).length:=by
 cases h:lk k c with
 |none=>rw[yD a h];omega
 |some u=>rw[EK a (by rw[h];rfl)];exact aL _
theorem EL:∀(m:List KV) {l:List KV},bh l->l.length<=(aW l m).length
 |[],l,h=>aL _
 |e::m,l,h=>bT (KC (k:=e.1) (v:=e.2) h) (EL m (iw h))
theorem KE{m:List KV}(f:bh c)(a:bh m):m.length<=(aW c m).length:=am3 a (qy f) λe b=>(ug a).2 (.inl b)
theorem KD:∀(m:List KV) {l:List KV},bh l->bh m->(aW l m).length=l.length+(m.filter λe=>(lk e.1 l).isNone).length
 |[],l,h,_=>rfl
 |e::m,l,h,c=>by
  have f:=kZ.1 c;have key:=KD m (l:=ins e.1 e.2 l) (iw h) f.2;have r:∀q∈m,lk q.1 (ins e.1 e.2 l)=lk q.1 l:=λq b=>KI (iw h) h λv=>by
   rw[iT];have j:q.1≠e.1:=λk=>by
    have:=f.1 q b;exact absurd (c.inj (jD _ b) (gq ..) k) (λo=>by rw[o]at this;exact kx _ this)
   constructor
   ·rintro(a|a);·exact absurd (congrArg Po a) j
    ·exact a.1
   ·intro a;exact .inr ⟨a,j⟩
  have p:(m.filter λq=>(lk q.1 (ins e.1 e.2 l)).isNone)=m.filter λq=>(lk q.1 l).isNone:=az4 λq b=>by rw[r q b]
  rw[p]at key;show(aW (ins e.1 e.2 l) m).length=_;rw[key,CO];cases a:lk e.1 l with
  |none=>rw[yD h a];simp;omega
  |some u=>rw[EK h (by rw[a];rfl)];simp
theorem Nj:∀(b:List KV) {X a:List KV},bh X->bh a->aW X (aW a b)=aW (aW X a) b
 |[],X,a,c,f=>rfl
 |e::b,X,a,c,f=>by
  show aW X (aW (ins e.1 e.2 a) b)=aW (ins e.1 e.2 (aW X a)) b;rw[Nj b c (iw f),Nh c f]
def dJ(ps:List PP)(L:List KV):List KV:=ps.foldl (λa q=>ins (eG q.1) q.2 a) L
theorem uM:∀(ps:List PP) {L:List KV},bh L->bh (dJ ps L)
 |[],L,h=>h
 |q::ps,L,h=>uM ps (iw h)
theorem yC:∀(ps:List PP) {L:List KV},bh L->L.length<=(dJ ps L).length
 |[],L,h=>aL _
 |q::ps,L,h=>bT (KC h) (yC ps (iw h))
theorem Gw:∀(ps:List PP) {X a:List KV},bh X->bh a->aW X (dJ ps a)=dJ ps (aW X a)
 |[],X,a,b,c=>rfl
 |q::ps,X,a,b,c=>by
  show aW X (dJ ps (ins (eG q.1) q.2 a))=dJ ps (ins (eG q.1) q.2 (aW X a));rw[Gw ps b (iw c),Nh b c]
theorem Nc:∀(ps:List PP) {L:List KV},bh L->(dJ ps L).length<=3000->iH ps L=dJ ps L
 |[],L,h,_=>rfl
 |q::ps,L,h,a=>by
  unfold iH;have:L.length<=3000:=bT (yC (q::ps) h) a;rw[if_neg ag];exact Nc ps (iw h) a
theorem Nb:∀(ps:List PP) {L:List KV},(iH ps L).length<=3000->iH ps L=dJ ps L
 |[],L,_=>rfl
 |q::ps,L,a=>by
  unfold iH at a⊢;split;·rename_i h;rw[if_pos h]at a;omega
  ·rename_i h;rw[if_neg h]at a;exact Nb ps a
def r8(pss:List (List PP))(l:List KV):List KV:=pss.foldl (λL ps=>aW L (pl ps)) l
theorem Nk(f:bh c)(pss:List (List PP)):aW c (gI pss)=r8 pss c:=by
 have key:∀(pss:List (List PP)) (a:List KV),bh a->aW c (pss.foldl (λL ps=>aW L (pl ps)) a)=r8 pss (aW c a):=by
  intro pss;induction pss with
  |nil=>intro a _;rfl
  |cons ps pss h=>
   intro a b;show aW c (pss.foldl _ (aW a (pl ps)))=r8 pss (aW (aW c a) (pl ps));rw[h _ (qy b),Nj _ f b]
 have:=key pss [] nA;exact this
theorem KB:∀(pss:List (List PP)) {l:List KV},bh l->l.length<=(r8 pss l).length
 |[],l,h=>aL _
 |ps::pss,l,h=>bT (EL (pl ps) h) (KB pss (qy h))
theorem Zj{ps:List PP}(h:fI ps=ax):pl ps=iH ps []:=by unfold pl;rw[h];rfl
theorem Ep:∀(pss:List (List PP)) {l:List KV},bh l->(∀ps∈pss,fI ps=ax)->(r8 pss l).length<=3000\/(dJ pss.flatten l).length<=3000->r8 pss l=dJ pss.flatten l
 |[],l,h,_,_=>rfl
 |ps::pss,l,h,o,a=>by
  have c:=Zj (o ps az);have b:dJ (ps::pss).flatten l=dJ pss.flatten (dJ ps l):=by simp[dJ]
  have r:pl ps=dJ ps []:=by
   rcases a with a|a
   ·have j:(aW l (pl ps)).length<=3000:=bT (KB pss (qy h)) a;have k:=KE h (BI ps).1;rw[c]at k⊢;rw[c]at j;exact Nb ps ag
   ·rw[b]at a;have j:(dJ ps l).length<=3000:=bT (yC _ (uM ps h)) a;have k:(dJ ps []).length<=(dJ ps l).length:=by
     have e:=Gw ps (X:=l) (a:=[]) h nA;rw[ap9]at e;rw[<-e];exact KE h (uM ps nA)
    rw[c];exact Nc ps nA ag
  have f:aW l (pl ps)=dJ ps l:=by rw[r,Gw ps h nA];rfl
  show r8 pss (aW l (pl ps))=_;rw[b];refine(congrArg (r8 pss) f).trans (Ep pss (uM ps h) (λq p=>o q (by simp[p])) ?_);rcases a with a|a;·left;rw[<-f];exact a
  ·right;rw[<-b];exact a
theorem TP{pss:List (List PP)}(f:bh c)(j:¬16<pss.length)(b:∀ps∈pss,fI ps=ax)(h:(dJ pss.flatten c).length<=3000):jb pss c=0/\jw pss c=dJ pss.flatten c:=by
 have k:pss.any fI=false:=by
  apply CH.2;intro e;obtain⟨ps,l,a⟩:=pG.1 e;rw[b ps l]at a;cases a
 unfold jb jw;rw[if_neg j,if_neg j,k,Nk f,Ep pss f b (.inr h)];simp only[dx,if_false,full,room];rw[if_neg ag,if_neg ag];exact⟨rfl,rfl⟩
theorem Jt{pss:List (List PP)}(j:bh c)(k:¬16<pss.length)(f:∀ps∈pss,fI ps=ax)(h:3000<(dJ pss.flatten c).length):jb pss c=2/\jw pss c=c:=by
 have l:pss.any fI=false:=by
  apply CH.2;intro e;obtain⟨ps,p,b⟩:=pG.1 e;rw[f ps p]at b;cases b
 have a:3000<(r8 pss c).length:=by
  apply pC;intro o;have:=Ep pss j f (.inl ag);rw[this]at o;omega
 unfold jb jw;rw[if_neg k,if_neg k,l,Nk j];simp only[dx,if_false,full,room];rw[if_pos a,if_pos a];exact⟨rfl,rfl⟩
structure jJ(r:Nat)(g:Option Nat)(w a:ak):Prop where
 size:w.heap.size<=a.heap.size
 block:∀k,k<w.heap.size->k≠r->ae k≠g->a.heap[k]?=w.heap[k]?
 os:a.os=w.os
 output:a.output=w.output
section
variable {Post:au->ak->Prop} {O:Nat->Prop} {R:BR} {w a w1:ak} {r q:Nat} {u qv:au} {l m:List KV}
theorem jJ.of{g:Option Nat}{d:Nat}(h:mM r g (Sim.re w aa d) a):jJ r g w a:=⟨h.size,h.block,h.os,h.output⟩
theorem jJ.re{g:Option Nat}(h:jJ r g w a)(tp:Tape)(d:Nat):jJ r g w (Sim.re a tp d):=⟨h.size,h.block,h.os,h.output⟩
theorem jJ.cv{g:Option Nat}(h:aO w a):jJ r g w a:=⟨h.size,λk b _ _=>h.block k b,h.os,h.output⟩
theorem kA(h:bQ w r u l)(b:aO w a):bQ a r u l:=⟨(b.block r (cJ h.blk)).trans h.blk,ng h.row λg e=>b.block g (h.row.lt g e).2,h.out,h.ck,h.short,h.cI⟩
theorem ze(h:bQ w r u l)(b:a.heap[r]?=w.heap[r]?)(c:∀g,u.ownBlock=ae g->a.heap[g]?=w.heap[g]?):bQ a r u l:=⟨b.trans h.blk,ng h.row c,h.out,h.ck,h.short,h.cI⟩
theorem Mu{o:dV}(h:a.heap[k]?=ae (.cells #[.slice af 0 0] 36 (0,0))):bQ a k (.slice af 0 0) []:=⟨h,CB _ _ _ _,by simp[fX],nA,λe b=>(by cases b),az⟩
theorem ah1{e:aK}{n:Nat}{c:List au}(h:w.ownsRow k e N a1 n c):w.ownsRow 0 e N a1 n c:=by
 obtain⟨b,a|⟨g,cap,f,a,l,j⟩⟩:=h;·exact⟨b,.inl a⟩
 ·exact⟨b,.inr ⟨g,cap,f,a,fL _,j⟩⟩
theorem TW:∀u∈flat l,u.oneCell'=true:=λu b=>by
 unfold flat at b;obtain⟨e,_,a⟩:=aA3.1 b;simp at a;rcases a with rfl|rfl<;>rfl
theorem F3(o:aI Xm O R w)(Z:R r r)(h:bQ w r u l):MC Post 21 #[ptr r] O w (λa1 j b a=>j=O/\a1=ptr w.heap.size/\(∃yv,bQ a w.heap.size yv l/\∀g,yv.ownBlock=ae g->w.heap.size<=g)/\aO w a/\aI Xm O b a/\BR.Sub R b/\b w.heap.size w.heap.size):=by
 intro a6 cs W;have jO:¬O w.heap.size:=λhO=>by have:=o.low _ hO;omega
 have H:=o.apart r Z;have B:aI Xm O (R.add w.heap.size w.heap.size) (w.alloc (.cells #[.slice af 0 0] 36)):=o.boxed (v:=.slice af 0 0) (.snil 0 0) 36;by_cases t:l=[]
 ·subst t;obtain⟨x,y,rfl⟩:∃x y,u=.slice x 0 y:=by
   rcases h.cases with⟨_,rfl⟩|⟨g,cap,rfl,_⟩;·exact⟨_,_,rfl⟩
   ·exact⟨_,_,rfl⟩
  refine Wz H h.cell rfl jO (W _ O _ _ ⟨rfl,rfl,⟨.slice af 0 0,Mu (o:=fM) (cY w _),λg hg=>by simp[fX]at hg⟩,dw w _,B,BR.gF _ _ _,.inr ⟨rfl,rfl⟩⟩)
 ·have h0:0<l.length:=by cases l<;>simp at t⊢
  obtain⟨g,cap,rfl,hp,hc⟩:∃g cap,u=.slice (ae ⟨g,0,af⟩) l.length cap/\oJ w g l/\l.length<=cap:=by
   rcases h.cases with⟨rfl,_⟩|h;·exact absurd rfl t
   ·exact h
  have hv:VR Xm.G (R.add w.heap.size w.heap.size) (.slice (ae ⟨g,0,af⟩) l.length cap) (.slice (ae ⟨g,0,af⟩) l.length cap):=(rp o Z h.cell).mono (BR.gF _ _ _);refine WA (news:=flat l) H h.cell rfl jO h0 h.cI B hv (Jy l) (λa7 a1 hj=> ?_) TW λf p a b k1 k2 k3 k4 k5 k6=> ?_
  ·rw[jF,ia];exact(dw w _).cell (FB h.row hj)
  ·have a2:a.heap[w.heap.size]?=ae (.cells #[.slice af 0 0] 36 (0,0)):=(k2.block _ az).trans (cY w _);have U:f≠w.heap.size:=by rw[k6,dh];omega
   have v:∀k,k≠w.heap.size->(a.setCell ⟨w.heap.size,0,af⟩ (.slice (ae ⟨f,0,af⟩) (0+l.length) p)).heap[k]?=a.heap[k]?:=λk s=>by simp[eK,fV,jm s]
   have N:aO w (a.setCell ⟨w.heap.size,0,af⟩ (.slice (ae ⟨f,0,af⟩) (0+l.length) p)):=by
    have:=(dw w (.cells #[.slice af 0 0] 36)).trans k2;exact⟨by rw[jX];exact this.size,λk s=>(v k ag).trans (this.block k s),this.os,this.output⟩
   rw[nB,ia]at k1;rw[ia]at k4 v N⊢;refine W _ O b _ ⟨rfl,rfl,⟨.slice (ae ⟨f,0,af⟩) l.length p,⟨?_,?_,?_,h.ck,h.short,h.cI⟩,λg2 c=> ?_⟩,N,k3.set _ k4,(BR.gF _ _ _).trans k5,k5 _ _ (.inr ⟨rfl,rfl⟩)⟩;·simp[eK,fV,a2]
   ·exact ng (ah1 k1) λg2 c=>by
     simp[fX]at c;subst c;exact v _ U
   ·simp[fX];exact U
   ·simp[fX]at c;subst c;rw[k6,dh];omega
theorem Yc(v:aI Xm O R w)(hx:R k k)(hy:R N N)(x:∀r,w.heap.size<=r->a2 r)(h:bB a2 w k l)(B:bB a2 w N m)(H:k=N->l=m):MC Post 57 #[ptr k,ptr N] O w (λu j b a=>j=O/\u=.int .i64 (full (aW l m))/\bB a2 a k (room l (aW l m))/\lN k w a/\aI Xm O b a/\BR.Sub R b):=by
 refine iD (kT (R:=R) (Post1:=λu a=>u=.int .i64 (full (aW l m))/\bB a2 a k (room l (aW l m))/\lN k w a) Ud (kS bc) v (iP (l:=[ptr k,ptr N]) ⟨kD hx,kD hy,trivial⟩) (λu a o d ⟨p,c,f⟩=>⟨p,qj c o d,f.re o d⟩) (λo=> ?_)) λu j b a Z=> ?_
 ·by_cases s:k=N
  ·subst s;have e:=H rfl;subst e;have W:bh l:=by obtain⟨n,aQ,_,y⟩:=h.tree;exact wX y
   have p:full (aW l l)=0/\room l (aW l l)=l:=by
    rw[Ni W];unfold full room;have:=h.cI;rw[if_neg ag,if_neg ag];exact⟨rfl,rfl⟩
   refine(Vb (qj h o 0)).mono ?_;rintro e a ⟨rfl,c,f⟩;rw[p.1,p.2];exact⟨_,rfl,rfl,c,.of f⟩
  ·refine(Va (w:=Sim.re w o 0) (λr U=>x r U) (qj h o 0) (qj B o 0) s).mono ?_;rintro e a ⟨rfl,c,f⟩;exact⟨_,rfl,rfl,c,.of f⟩
 ·obtain⟨rfl,⟨rfl,p,c⟩,f,_,t,_⟩:=Z;exact⟨rfl,rfl,p,c,f,t⟩
theorem Fh(b:Int)(w:ak):aE aj 33 #[.int .i64 b] w λe a=>e=.returned (.int .i64 b)/\a=w:=by
 go_enter P2,aF9
 go_wp2
 go_ret
 exact⟨rfl,rfl⟩
theorem L5(o:aI Xm O R w):MC Post 33 #[.int .i64 v] O w (λu j b a=>j=O/\u=.int .i64 v/\aO w a/\aI Xm O b a/\BR.Sub R b):=by
 refine iD (kT (R:=R) (Post1:=λu a=>u=.int .i64 v/\aO w a) U7 (kS bc) o (iP (l:=[.int .i64 v]) ⟨.int _ _,trivial⟩) (λu a f d ⟨c,h⟩=>⟨c,h.re f d⟩) (λf=>(Fh v _).mono ?_)) λu j b a p=> ?_
 ·rintro e a ⟨rfl,rfl⟩;exact⟨_,rfl,rfl,(aO.refl w).re f 0⟩
 ·obtain⟨rfl,⟨rfl,c⟩,k,_,l,_⟩:=p;exact⟨rfl,rfl,c,k,l⟩
theorem Yb(H:aI Xm O R w)(W:R r r)(h:bQ w r u l){key:ByteArray}(N:key.size<=9223372036854775807):MC Post 41 #[ptr r,.string key] O w (λf j b a=>j=O/\(∃k,f=.tuple #[.int .i64 k,.bool (lk key.data.toList l).isSome])/\aO w a/\aI Xm O b a/\BR.Sub R b):=by
 refine iD (kT (R:=R) (Post1:=λf a=>(∃k,f=.tuple #[.int .i64 k,.bool (lk key.data.toList l).isSome])/\aO w a) U9 (kS bc) H (iP (l:=[ptr r,.string key]) ⟨kD W,.string _,trivial⟩) (λf a c d ⟨t,v⟩=>⟨t,v.re c d⟩) (λc=> ?_)) λf j b a Z=> ?_
 ·have s:bQ (Sim.re w c 0) r u l:=kA h ((aO.refl w).re c 0);by_cases x:l=[]
  ·subst x;obtain⟨o,p,rfl⟩:∃o p,u=.slice o 0 p:=by
    rcases h.cases with⟨_,rfl⟩|⟨g,cap,rfl,_⟩;·exact⟨_,_,rfl⟩
    ·exact⟨_,_,rfl⟩
   refine(MF r o p key (Sim.re w c 0) s.cell).mono ?_;rintro e a ⟨rfl,n,rfl⟩;exact⟨_,rfl,⟨0,rfl⟩,aO.of (below_drewN _ n)⟩
  ·obtain⟨g,cap,rfl,U,hc⟩:∃g cap,u=.slice (ae ⟨g,0,af⟩) l.length cap/\oJ (Sim.re w c 0) g l/\l.length<=cap:=by
    rcases s.cases with⟨rfl,_⟩|h;·exact absurd rfl x
    ·exact h
   have:=h.cI;refine(MG r g cap l key (Sim.re w c 0) s.cell U h.ck h.short N ag).mono ?_;rintro e a ⟨rfl,n,rfl⟩;exact⟨_,rfl,⟨_,rfl⟩,aO.of (below_drewN _ n)⟩
 ·obtain⟨rfl,⟨t,v⟩,y,_,B,_⟩:=Z;exact⟨rfl,t,v,y,B⟩
theorem Y7(y:aI Xm O R w)(N:R r r)(h:bQ w r u l)(B:H.size<=9223372036854775807):MC Post 32 #[ptr r,.string H,.int .i64 v] O w (λp j b a=>j=O/\p=lD H l/\(∃c,bQ a r c (iE H v l)/\(c.ownBlock=u.ownBlock\/∃g,c.ownBlock=ae g/\w.heap.size<=g))/\jJ r u.ownBlock w a/\aI Xm O b a/\BR.Sub R b):=by
 refine iD (kT (R:=R) (Post1:=λp a=>p=lD H l/\(∃c,bQ a r c (iE H v l)/\(c.ownBlock=u.ownBlock\/∃g,c.ownBlock=ae g/\w.heap.size<=g))/\jJ r u.ownBlock w a) U6 (kS bc) y (iP (l:=[ptr r,.string H,.int .i64 v]) ⟨kD N,.string _,.int _ _,trivial⟩) (λp a s d ⟨f,⟨c,k,o⟩,t⟩=>⟨f,⟨c,kA k ((aO.refl a).re s d),o⟩,t.re s d⟩) (λs=> ?_)) λp j b a U=> ?_
 ·refine(MH (kA h ((aO.refl w).re s 0)) B).mono ?_;rintro e a ⟨rfl,c,f,k,o⟩;exact⟨_,rfl,rfl,⟨c,f,o⟩,.of k⟩
 ·obtain⟨rfl,⟨f,k,x⟩,o,_,t,_⟩:=U;exact⟨rfl,f,k,x,o,t⟩
end
structure tI(O:Nat->Prop)(R:BR)(w:ak)(r:Nat)(u:au)(B:Nat)(y:BR)(W:ak)(L:List KV):Prop where
 known:aI Xm O y W
 sub:BR.Sub R y
 but:jJ r u.ownBlock w W
 low:B<=W.heap.size
 MD:∀g,u.ownBlock=ae g->g<w.heap.size
 ref:∃v,bQ W r v L/\(v.ownBlock=u.ownBlock\/∃g,v.ownBlock=ae g/\B<=g)
section
variable {Post:au->ak->Prop} {O:Nat->Prop} {R y:BR} {w W:ak} {r q:Nat} {u qv:au} {l m L:List KV} {B:Nat}
theorem jJ.trans{g c:Option Nat}{w1 l:ak}(h:jJ r g w w1)(k:jJ r c w1 l)(o:∀b,b<w.heap.size->ae b≠g->ae b≠c):jJ r g w l:=⟨bT h.size k.size,λb a f j=>(k.block b (dG a h.size) f (o b a j)).trans (h.block b a f j),k.os.trans h.os,k.output.trans h.output⟩
theorem tI.put(h:tI O R w r u B y W L)(hr:R r r)(hB:w.heap.size<=B)(s:H.size<=9223372036854775807):MC Post 32 #[ptr r,.string H,.int .i64 v] O W λt j b f=>j=O/\t=lD H L/\tI O R w r u B b f (iE H v L)/\(∀k,k<B->w.heap.size<=k->k≠r->f.heap[k]?=W.heap[k]?)/\BR.Sub y b:=by
 obtain⟨aa,x,a⟩:=h.ref;refine iD (Y7 h.known (h.sub _ _ hr) x s) λt j b f hu=> ?_;obtain⟨rfl,hv,⟨a6,N,c⟩,l,U,o⟩:=hu;have a1:=h.low;refine⟨rfl,hv,⟨U,h.sub.trans o,h.but.trans l λa7 hb a2=> ?_,bT a1 l.size,h.MD,a6,N,?_⟩,λk s a8 Z=> ?_,o⟩
 ·rcases a with a|⟨g,a,p⟩;·rw[a];exact a2
  ·rw[a];intro e;cases e;omega
 ·rcases c with c|⟨g,c,p⟩;·rw[c];exact a
  ·exact .inr ⟨g,c,ag⟩
 ·refine l.block k ag Z λe=> ?_;rcases a with a|⟨g,a,p⟩
  ·rw[a]at e;have:=h.MD k e.symm;omega
  ·rw[a]at e;cases e;omega
theorem EC(h:pR m)(a:Z∈m):(keyOf Z).size<=64:=by rw[rm];exact h Z a
theorem Zu(h:Z.1.length<=64)(a:(lk Z.1 L).isSome=aq\/L.length<3000):iE (keyOf Z) Z.2 L=ins Z.1 Z.2 L:=by
 unfold iE;rw[rm,ud,if_neg ag,if_pos a]
theorem Yd(hK:aI Xm O R w)(hr:R r r)(hq:R q q)(h:bQ w r u l)(hQ:bQ w q qv m):MC Post 58 #[ptr r,ptr q] O w (λa6 j b a=>j=O/\a6=.int .i64 (full (aW l m))/\(∃an,bQ a r an (room l (aW l m))/\(an.ownBlock=u.ownBlock\/∃g,an.ownBlock=ae g/\w.heap.size<=g))/\jJ r u.ownBlock w a/\aI Xm O b a/\BR.Sub R b):=by
 intro ap cs hn;have am:=hQ.cI;have be:=h.cI;have aR:=KD m h.ck hQ.ck;have bj:r<w.heap.size:=(hK.wr.lt hr).1;obtain⟨ao,ci,b1⟩:∃ao ci,u=.slice ao l.length ci:=by
  rcases h.cases with⟨rfl,rfl⟩|⟨g,cap,rfl,_⟩;·exact⟨_,_,rfl⟩
  ·exact⟨_,_,rfl⟩
 obtain⟨Z,cj,aJ⟩:∃Z cj,qv=.slice Z m.length cj:=by
  rcases hQ.cases with⟨rfl,rfl⟩|⟨g,cap,rfl,_⟩;·exact⟨_,_,rfl⟩
  ·exact⟨_,_,rfl⟩
 have bd:∀(p:Nat)(yv:au) (B:Nat),w.heap.size<=p->p<B->(∀g,yv.ownBlock=ae g->w.heap.size<=g/\g<B)->(aW l m).length<=3000->∀(k i:Nat),k+i=m.length->∀(y:BR)(W:ak) (x:Nat->au),tI O R w r u B y W (aW l (m.take i))->y p p->bQ W p yv m->
   ay aj Post O (aw (FD 58 [] (il (ptr r) (ptr q) (x 5) (x 6) (x 8) (ptr p) (.int .i64 (i:Int)) x) ua) (ap::cs)) W:=by
  intro p yv B b2 b3 b9 bk k;induction k with
  |zero=>
   intro i hi y W x H a7 hY;obtain⟨Z,cj,ba⟩:∃Z cj,yv=.slice Z m.length cj:=by
    rcases hY.cases with⟨rfl,rfl⟩|⟨g,cap,rfl,_⟩;·exact⟨_,_,rfl⟩
    ·exact⟨_,_,rfl⟩
   refine Xl (bo:=Z) (m:=m.length) (cj:=cj) (H.known.apart p a7) (by rw[<-ba];exact hY.cell) ag (hn _ O y W ⟨rfl,?_,?_,H.but,H.known,H.sub⟩);·unfold full;rw[if_neg ag]
   ·obtain⟨aQ,c,s⟩:=H.ref;rw[fU ag]at c;refine⟨aQ,?_,s.imp id λ⟨g,v,h4⟩=>⟨g,v,ag⟩⟩;unfold room;rw[if_neg ag];exact c
  |succ k ih=>
   intro i hi y W x H a7 hY;have a1:i<m.length:=ag;obtain⟨e,he⟩:∃e,m[i]?=ae e:=⟨m[i],bf a1⟩;have aa:=cG he;obtain⟨g,cap,rfl,hp,hc⟩:∃g cap,yv=.slice (ae ⟨g,0,af⟩) m.length cap/\oJ W g m/\m.length<=cap:=by
    rcases hY.cases with⟨rfl,_⟩|h;·simp at a1
    ·exact h
   obtain⟨c1,c2⟩:=hp i e he;have a8:y g g:=xa (rp H.known a7 hY.cell);have aP:aW l (m.take (i+1))=ins e.1 e.2 (aW l (m.take i)):=by
    rw[mC,he];simp[aW]
   have bi:(ins e.1 e.2 (aW l (m.take i))).length<=3000:=by
    have e1:aW l m=aW (aW l (m.take (i+1))) (m.drop (i+1)):=by unfold aW;rw[<-List.foldl_append,jW]
    have:=EL (m.drop (i+1)) (l:=aW l (m.take (i+1))) (qy h.ck);rw[<-e1,aP]at this;omega
   have aU:iE (keyOf e) e.2 (aW l (m.take i))=ins e.1 e.2 (aW l (m.take i)):=Zu (hQ.short e aa) (by
    cases ab:lk e.1 (aW l (m.take i))with
    |some a6=>exact .inl rfl
    |none=>
     have:=yD (v:=e.2) (qy h.ck) ab;exact .inr ag)
   refine Xh (gb:=g) (m:=m.length) (cj:=cap) (kk:=keyOf e) (kv:=e.2) (H.known.apart p a7) hY.cell a1 am (H.known.apart g a8) c1 c2 (H.put hr ag (by have:=EC hQ.short aa;omega)) λa6 j b U hu x'=> ?_;obtain⟨rfl,_,c,s,v⟩:=hu;rw[aU,<-aP]at c;have b6:p≠r:=ag;have aF:=b9 g (by simp[fX]);have aT:g≠r:=ag;refine ih (i+1) ag b U x' c (v _ _ a7) (ze hY (s p b3 b2 b6) λg' av=> ?_);simp[fX]at av;subst av;exact s g aF.2 aF.1 aT
 have bb:∀(k i:Nat),k+i=m.length->∀(t:Nat)(y:BR)(W:ak) (x:Nat->au),t=l.length+((m.take i).filter λe=>(lk e.1 l).isNone).length->aO w W->aI Xm O y W->BR.Sub R y->
   ay aj Post O (aw (FD 58 [] (il (ptr r) (ptr q) (.int .i64 (t:Int)) (.int .i64 (i:Int)) (x 8) (x 9) (x 10) x) oY) (ap::cs)) W:=by
  intro k;induction k with
  |zero=>
   intro i hi t y W x ht f o N;have a2:=kA hQ f;rw[fU ag,<-aR]at ht;by_cases ar:3000<t
   ·refine Xk (bo:=Z) (m:=m.length) (cj:=cj) (o.apart q (N _ _ hq)) (by rw[<-aJ];exact a2.cell) ag ar (hn _ O y W ⟨rfl,?_,⟨u,?_,.inl rfl⟩,.cv f,o,N⟩);·unfold full;rw[if_pos ag]
    ·unfold room;rw[if_pos ag];exact kA h f
   ·refine Xi (bo:=Z) (m:=m.length) (cj:=cj) (o.apart q (N _ _ hq)) (by rw[<-aJ];exact a2.cell) ag ar (F3 o (N _ _ hq) a2) λa6 j b U hu=> ?_;obtain⟨rfl,rfl,⟨yv,c,s⟩,v,h4,h5,h6⟩:=hu;refine⟨W.heap.size,rfl,λx'=> ?_⟩;exact bd W.heap.size yv U.heap.size f.size (cJ c.blk) (λg hg=>⟨bT f.size (s g hg),(c.row.lt g hg).2⟩) ag m.length 0 ag b U x' ⟨h4,N.trans h5,.cv (f.trans v),aL _,λg hg=>(h.row.lt g hg).2,u,kA h (f.trans v),.inl rfl⟩ h6 c
  |succ k ih=>
   intro i hi t y W x ht f o N;have a1:i<m.length:=ag;obtain⟨e,he⟩:∃e,m[i]?=ae e:=⟨m[i],bf a1⟩;have aa:=cG he;have a2:=kA hQ f;obtain⟨g,cap,b0,hp,hc⟩:∃g cap,qv=.slice (ae ⟨g,0,af⟩) m.length cap/\oJ W g m/\m.length<=cap:=by
    rcases a2.cases with⟨rfl,_⟩|h;·simp at a1
    ·exact h
   have ai:=N _ _ hq;have al:W.cell? ⟨q,0,af⟩=ae (.slice (ae ⟨g,0,af⟩) m.length cap):=by rw[<-b0];exact a2.cell
   have a8:y g g:=xa (rp o ai al);obtain⟨c1,c2⟩:=hp i e he;have ac:(((m.take (i+1)).filter λe=>(lk e.1 l).isNone)).length=((m.take i).filter λe=>(lk e.1 l).isNone).length+(if(lk e.1 l).isNone=aq then 1 else 0):=by
    rw[mC,he,uV];simp only[Option.toList_some,CO,List.filter_nil,gJ];split<;>simp
   have bg:((m.take i).filter λe=>(lk e.1 l).isNone).length<=3000:=by
    have:=mB (λe:KV=>(lk e.1 l).isNone) (m.take i);simp at this;omega
   have hB:=Yb (Post:=Post) (key:=keyOf e) o (N _ _ hr) (kA h f) (by have:=EC hQ.short aa;omega);rw[ud]at hB;cases ab:lk e.1 l with
   |some aQ=>
    rw[ab]at hB ac;refine Xg (gb:=g) (m:=m.length) (cj:=cap) (kk:=keyOf e) (t:=t) (o.apart q ai) al a1 am ag (o.apart g a8) c1 hB λa6 j b U hu=> ?_;obtain⟨rfl,⟨ad,rfl⟩,c,s,v⟩:=hu;exact⟨ad,rfl,λx'=>ih (i+1) ag t b U x' (by rw[ac];simpa using ht) (f.trans c) s (N.trans v)⟩
   |none=>
    rw[ab]at hB ac;refine Xf (gb:=g) (m:=m.length) (cj:=cap) (kk:=keyOf e) (t:=t) (o.apart q ai) al a1 am ag (o.apart g a8) c1 hB λa6 j b U hu=> ?_;obtain⟨rfl,⟨ad,rfl⟩,c,s,v⟩:=hu;exact⟨ad,rfl,λx'=>ih (i+1) ag (t+1) b U x' (by rw[ac];simp;omega) (f.trans c) s (N.trans v)⟩
 refine Xj (ao:=ao) (n:=l.length) (ci:=ci) (hK.apart r hr) (by rw[<-b1];exact h.cell) λx=> ?_;exact bb m.length 0 ag l.length R w x az (aO.refl w) hK (BR.Sub.refl R)
end
