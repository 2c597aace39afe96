/- Own texts: GgA, GgB, OpOpen, AllA. -/
import Derived.Test.YtcgjppacnhmjlaaGreatMAP
import Derived.Test.YtcgjppacnhmjlaaGreatMR
import Derived.Test.YtcgjppacnhmjlaaGreatMAL
import Derived.Conc.LeavingOf
import Derived.ProofKit
import Derived.Deep.Slices
import Derived.Test.YtcgjppacnhmjlaaGreatRows
set_option linter.all false
set_option maxRecDepth 100000
set_option maxHeartbeats 1000000
open Array renaming getElem?_eq_some_iff->cq,getElem?_toList->zF
open Bool renaming true->aq
open Go renaming World->ak,Value->au,Frame->aC,TypeId->aK,heap_alloc_new->cY,Addr->aH,maxLen->cE,MemPlace->rX,DataW->nI
open Go.Addr renaming add_lit->jF,add->vf
open Go.DataW renaming trod->iN,trod_struct->az3
open Go.Proofs.Tryz renaming prog->aj,underlying34->CG,underlying9->Oi,underlying3->Oj,underlying22->az6
open Go.Proofs.YtcgjppacnhmjlaaGreat.Rows renaming uptoBulk->l8,uptoBulkAll->zM
open Go.Value renaming ownBlock->fX
open Go.World renaming block_lt_of_cell?->cC,size_alloc->dh,cell?_of_block->gV,cells?_some->GY
open Inhabited renaming default->fM
open List renaming getElem?_eq_getElem->bf,getElem?_eq_some_iff->cu,mem_of_getElem?->cG,mem_cons->dk,mem_range->eh,range->dn,getElem?_of_mem->lJ,mem_map->iL,length_cons->rM,take_succ_cons->NR,drop_succ_cons->NV,take_zero->Ow,drop_zero->Ox
open Nat renaming le_refl->aL,le_trans->bT,lt_of_lt_of_le->dG,mul_one->tj,lt_irrefl->OL
open Ne renaming symm->jm
open Option renaming some->ae,none->af,isSome_iff_exists->sO
namespace Go.Proofs.YtcgjppacnhmjlaaGreat
open Go Go.Conc Go.ConcN Go.Conc.Lib Go.ConcR.Gen Go.RowKit Go.ChangeShapes Go.WideShapes Go.ChangeAt Go.Deep
open Sim (OpV OpIn OpsIn OpIn2 ScriptIn)
namespace Sim
variable {U:Nat->Nat} {u:ak} {v:au} {a2:TS} {Z:BR} {j x:Nat} {y:List KV} {N:Nat->Prop} {B:List OpV} {a1:Option aH}
section
variable {o:au->ak->Prop} {a:ak} {W:Nat} {k:au} {f:Nat->Nat} {O:Nat->Prop} {R:BR} {w:ak} {b:TS}
def yd(a:ak)(W:Nat):au->(Nat->Prop)->BR->ak->Prop:=λv c f j=>v=.bool aq/\∃h k b,PW a W h k c f j b/\0<b.length
theorem PW.nf(h:PW a W k f O R w b)(o:Mv NZ f w U u)(s:Wd U u W 11 v a2)(p:aI Xm O Z u)(r:BR.Sub R Z):PW a W v U O Z u a2:=by
 have l:=h.cv;refine⟨p,s,r _ _ h.rW,⟨bT l.size o.size,λc j=> ?_,o.os.trans l.os,o.output.trans l.output⟩,λc j=>(o.agree c (dG j l.size)).trans (h.low c j),λc j=>(o.agree c (h.known.low c j)).trans (h.own c j)⟩;exact(o.block c (dG j l.size) (by rw[h.low c j];exact λh=>OL _ h.1)).trans (l.block c j)
theorem zu{a:Int}(h:Wd U u j a v a2)(b:Tape)(d:Nat):Wd U (Sim.re u b d) j a v a2:=Co (A:=λ_=>False) h (Mv.cv h.fresh ((aO.refl u).re b d)) (λh=>h) (λ_ _ _ h=>h)
theorem L6(h:PW a W k f O R w b)(a1:0<b.length)(hx:R j j)(hr:R x x)(ht:b.length<8->Twin f b.length w j x y):MC o 9 #[ptr W,ptr j,ptr x] O w (λa6 H N l=>yd a W a6 H N l/\H=O/\∀r,r<w.heap.size->f r=0->l.heap[r]?=w.heap[r]?):=by
 by_cases Z:b.length<8
 ·refine iD (kT (R:=R) (Post1:=λu l=>u=.bool aq/\∃s t,Mv NZ f w s l/\Wd s l W 11 t (b++[(j,x,y)])) JC (kS bc) h.known (iP (l:=[ptr W,ptr j,ptr x]) ⟨kD h.rW,kD hx,kD hr,trivial⟩) (λu l p d ⟨c,s,t,v,B⟩=>⟨c,s,t,v.re p d,zu B p d⟩) (λp=> ?_)) λu H N l hu=> ?_
  ·have a2:Twin f b.length (Sim.re w p 0) j x y:=rG (A:=λ_=>False) (ht Z) (Mv.cv h.wd.fresh ((aO.refl w).re p 0)) (λh=>h) (λ_ _ h=>h);refine(Ip (zu h.wd p 0) a2 Z).mono ?_;rintro e l ⟨rfl,s,t,c,v⟩;exact⟨_,rfl,rfl,s,t,.of c,v⟩
  ·obtain⟨rfl,⟨rfl,s,t,c,v⟩,B,_,U,_⟩:=hu;exact⟨⟨rfl,t,s,_,h.nf c v B U,az⟩,rfl,λr hk h0=>c.block r hk (by rw[h0];exact λh=>OL _ h.1)⟩
 ·refine iD (kT (R:=R) (Post1:=λu l=>u=.bool aq/\aO w l) JC (kS bc) h.known (iP (l:=[ptr W,ptr j,ptr x]) ⟨kD h.rW,kD hx,kD hr,trivial⟩) (λu l p d ⟨c,v⟩=>⟨c,v.re p d⟩) (λp=> ?_)) λu H N l hu=> ?_
  ·refine(PU (zu h.wd p 0) Z).mono ?_;rintro e l ⟨rfl,c⟩;exact⟨_,rfl,rfl,.of c⟩
  ·obtain⟨rfl,⟨rfl,c⟩,B,_,U,_⟩:=hu;exact⟨⟨rfl,k,f,b,h.on c B U,a1⟩,rfl,λr hk _=>c.block r hk⟩
open Classical in
theorem PW.mark(h:PW a W k f O R w b){p:ak}{y:BR}(s:aO w p)(hK:aI Xm O y p)(hs:BR.Sub R y){x r:Nat}{v:au}{l:List KV}{S:Nat->Prop}(hx:w.heap.size<=x)(hr:w.heap.size<=r)(a7:x≠r)(H:bB S p x l)(N:∀c,S c->c<w.heap.size/\f c=0)(u:bQ p r v l)(Z:∀g,v.ownBlock=ae g->w.heap.size<=g/\g≠x):∃o,PW a W k o O y p b/\(b.length<8->Twin o b.length p x r l)/\∀c,c<w.heap.size->o c=f c:=by
 have a1:=h.wd.fresh;have a6:=s.size;have aa:=H.lt;have a8:=cJ u.blk;let o:Nat->Nat:=λc=>if c=x then 3*b.length+1 else if c=r then 3*b.length+2 else if v.ownBlock=ae c then 3*b.length+3 else f c
 have t:∀c,c<w.heap.size->o c=f c:=λc j=>by
  show(if _ then _ else if _ then _ else if _ then _ else _)=_;rw[if_neg ag,if_neg ag,if_neg (λe=>by have:=(Z c e).1;omega)]
 have hm:Mv (λ_=>False) f w o p:=by
  refine⟨a6,t,λc j=> ?_,λc j _=>s.block c j,s.os,s.output⟩;show(if _ then _ else if _ then _ else if _ then _ else _)=_;rw[if_neg ag,if_neg ag,if_neg (λe=>by have:=(u.row.lt c e).2;omega)];exact a1 c ag
 have U:o x=3*b.length+1:=if_pos rfl;have a2:o r=3*b.length+2:=by
  show(if _ then _ else if _ then _ else _)=_;rw[if_neg (jm a7),if_pos rfl]
 refine⟨o,⟨hK,Co h.wd hm (λh=>h) (λ_ _ _ h=>h),hs _ _ h.rW,h.cv.trans s,λc j=>(t c (dG j h.cv.size)).trans (h.low c j),λc j=>(t c (h.known.low c j)).trans (h.own c j)⟩,λ_=>⟨?_,U,a2,v,u,λg B=> ?_⟩,t⟩;·exact tX H rfl (λ_ _ _=>rfl) (λc j _=>(t c (N c j).1).trans (N c j).2) (λe=>by rw[U]at e;omega)
 ·show(if _ then _ else if _ then _ else if _ then _ else _)=_;rw[if_neg (Z g B).2,if_neg (λe=>u.out (by rw[<-e];exact B)),if_pos B]
theorem Y0(s:aI Xm O R w):MC o 10 #[] O w (λu l c a=>l=O/\u=ptr w.heap.size/\aO w a/\w.heap.size<a.heap.size/\bB (λ_=>False) a w.heap.size []/\aI Xm O c a/\BR.Sub R c/\c w.heap.size w.heap.size):=by
 refine iD (kT (R:=R) (Post1:=λu a=>u=ptr w.heap.size/\aO w a/\bB (λ_=>False) a w.heap.size []) TY (kS bc) s (iP (l:=[]) trivial) (λu a b d ⟨j,f,k⟩=>⟨j,f.re b d,qj k b d⟩) (λb=> ?_)) λu l c a t=> ?_
 ·refine(Fe (Sim.re w b 0)).mono ?_;rintro e a ⟨rfl,rfl⟩;exact⟨_,rfl,rfl,aO.BB (dw (Sim.re w b 0) _),⟨⟨0,af,cY _ _,.inl ⟨rfl,rfl⟩⟩,λh=>h,az⟩⟩
 ·obtain⟨rfl,⟨rfl,j,f⟩,k,r,p,_⟩:=t;exact⟨rfl,rfl,j,f.lt,f,k,p,Cj r⟩
theorem Y4(v:aI Xm O R w)(U:R j j)(h:bB N w j y)(x:∀k,N k->k<w.heap.size):MC o 20 #[ptr j] O w (λu s f a=>s=O/\u=ptr w.heap.size/\aO w a/\bB N a w.heap.size y/\aI Xm O f a/\BR.Sub R f/\f w.heap.size w.heap.size):=by
 refine iD (kT (R:=R) (Post1:=λu a=>u=ptr w.heap.size/\aO w a/\bB N a w.heap.size y) U3 (kS bc) v (iP (l:=[ptr j]) ⟨kD U,trivial⟩) (λu a p d ⟨b,c,l⟩=>⟨b,c.re p d,qj l p d⟩) (λp=> ?_)) λu s f a H=> ?_
 ·refine(UO (qj h p 0)).mono ?_;rintro e a ⟨rfl,⟨n,W,b,c⟩,l,r⟩;exact⟨_,rfl,rfl,.of r,⟨⟨n,W,b,c⟩,λB=>by have:=x _ B;omega,h.cI⟩⟩
 ·obtain⟨rfl,⟨rfl,b,c⟩,l,t,r,_⟩:=H;exact⟨rfl,rfl,b,c,l,r,Cj t⟩
theorem an5(o:0<b.length)(h:lU a W k f O R w (b.map pp) v N Z u):yd a W v N Z u:=by
 obtain⟨l,p,j,c⟩:=h;exact⟨l,k,p,j,c.pw,by rw[c.len];simpa using o⟩
theorem Y1(h:PW a W k f O R w b)(a8:0<b.length){Z:OpV}{ms:List OpV}{ma:Option aH}(ho:OpIn2 a Z B ms a1 ma j x):MC o 11 #[ptr W,.agg Z.cells] O w (yd a W):=by
 intro c s hn;obtain⟨g,cap,a2,ht,hP,hx,hr⟩:=h.pick a8 (dw w (.cells Z.cells 39)) (ob:=w.heap.size) (fld:=1) (on:=Z.on) (h.new (aL _)) (kP w 39 rfl) ho.op.on;refine VV rfl rfl hP h.known hx hr λaQ R1 hy ac ar hs=> ?_;obtain⟨y,hw⟩:∃y,(w.alloc (.cells Z.cells 39)).alloc (.cells #[ptr a2.1,ptr a2.2.1] 42)=y:=⟨_,rfl⟩;have p:=h.opAt Z hw;have hb:aO w y:=hw▸(dw w _).trans (dw _ _);rw[hw]at ac⊢;have U:PW a W k f O R1 y b:=h.on hb ac hs;have fin:∀v t r l,lU a W k f O R1 y (b.map pp) v t r l->ay aj o t (aw (c.finish v) s) l:=λv t r l hy=>hn v t r l (an5 a8 hy);by_cases k6:Z.kd=6
 ·have hB:=F2 (Post:=o) U ht ho (.inl k6);unfold OpV.cells opC at hB;rw[k6]at p hB;exact W4 hy p hB fin
 by_cases k7:Z.kd=7
 ·have hB:=F2 (Post:=o) U ht ho (.inr k7);unfold OpV.cells opC at hB;rw[k7]at p hB;exact VY hy p hB fin
 by_cases k8:Z.kd=8
 ·rw[k8]at p;refine VW hy p (Y0 U.known) (λa6 t r l hu=> ?_) hn;obtain⟨rfl,rfl,H,q2,q3,q4,q5,q6⟩:=hu;have ad:=dw l (.cells #[.slice af 0 0] 36);have am:aI Xm t (r.add l.heap.size l.heap.size) (l.alloc (.cells #[.slice af 0 0] 36)):=q4.boxed (v:=.slice af 0 0) (.snil 0 0) 36;obtain⟨al,p1,p2,p3⟩:=U.mark (H.trans ad) am (q5.trans (BR.gF _ _ _)) (x:=y.heap.size) (r:=l.heap.size) (aL _) H.size ag (tX q3 (ad.block _ q2) (λ_ h _=>h.elim) (λ_ h _=>h) (λh=>h)) (λ_ h=>h.elim) (Mu (o:=fM) (cY l _)) (λg hg=>by simp[fX]at hg);exact iD (L6 p1 a8 (BR.gF _ _ _ _ _ q6) (.inr ⟨rfl,rfl⟩) p2) λv t r l hv=>hv.1
 by_cases k9:Z.kd=9
 ·rw[k9]at p;have ab:=U.wd.tw _ _ ht;obtain⟨rv,ap,aF⟩:=ab.ref;have hI:bB (λu=>f u=0/\u<y.heap.size) y a2.1 a2.2.2:=tX ab.ix rfl (λ_ _ _=>rfl) (λu U h2=>⟨U,h2⟩) (λe=>ab.ix.out e.1);refine VU (K1:=_) (K2:=λa6 v t r l=>∃yv N,aO y N/\bB (λu=>f u=0/\u<y.heap.size) N y.heap.size a2.2.2/\aO N l/\t=O/\a6=ptr y.heap.size/\v=ptr N.heap.size/\bQ l N.heap.size yv a2.2.2/\(∀g,yv.ownBlock=ae g->N.heap.size<=g)/\aI Xm O r l/\BR.Sub R1 r/\r y.heap.size y.heap.size/\r N.heap.size N.heap.size) (K3:=λv t r l=>yd a W v t r l/\¬t (w.heap.size+1)/\l.cell? ⟨w.heap.size+1,0,af⟩=ae (ptr a2.1)/\l.cell? ⟨w.heap.size+1,1,af⟩=ae (ptr a2.2.1)) hy p (Y4 U.known (hs _ _ hx) hI (λu hk=>hk.2)) (λa6 t r l hu=> ?_) (λa6 v t r l hu=> ?_) (λa6 t r l hu=>⟨hu.2,hn a6 t r l hu.1⟩)
  ·obtain⟨rfl,rfl,H,q2,q3,q4,q5⟩:=hu;refine⟨⟨p.jO,H.cell p.n0,H.cell p.n1⟩,iD (F3 q3 (q4 _ _ (hs _ _ hr)) (kA ap H)) λv O2 R2 W2 hv=> ?_⟩;obtain⟨rfl,rfl,⟨yv,p1,p2⟩,p3,p4,p5,p6⟩:=hv;exact⟨yv,l,H,q2,p3,rfl,rfl,rfl,p1,p2,p4,q4.trans p5,p5 _ _ q5,p6⟩
  ·obtain⟨yv,N,H,q2,q3,rfl,rfl,rfl,q4,q5,q6,q7,q8,q9⟩:=hu;have a7:=H.trans q3;have ao:=q2.lt;refine⟨⟨p.jO,a7.cell p.n0,a7.cell p.n1⟩,?_⟩;have aJ:=H.size;obtain⟨al,p1,p2,p3⟩:=U.mark a7 q6 q7 (x:=y.heap.size) (r:=N.heap.size) (aL _) H.size ag (tX q2 (q3.block _ ao) (λu hk an=>q3.block u an) (λu h _=>h) (λe=>q2.out e)) (λu hk=>⟨hk.2,hk.1⟩) q4 (λg hg=>⟨by have:=q5 g hg;omega,by have:=q5 g hg;omega⟩);have aP:y.heap.size=w.heap.size+2:=by rw[<-hw,dh,dh]
   have ai:∀(aa:Nat) v,l.cell? ⟨w.heap.size+1,aa,af⟩=ae v->∀W2:ak,(∀u,u<l.heap.size->al u=0->W2.heap[u]?=l.heap[u]?)->W2.cell? ⟨w.heap.size+1,aa,af⟩=ae v:=λaa v hc W2 hk=>(gV (a:=⟨w.heap.size+1,aa,af⟩) (hk _ (cC _ _ hc) ((p3 (w.heap.size+1) ag).trans (h.wd.fresh (w.heap.size+1) ag)))).trans hc;refine iD (L6 p1 a8 q8 q9 p2) λv O2 R2 W2 hv=> ?_;obtain⟨h3,rfl,h5⟩:=hv;exact⟨h3,p.jO,ai 0 _ (a7.cell p.n0) W2 h5,ai 1 _ (a7.cell p.n1) W2 h5⟩
 exact VZ hy p ⟨k6,k7,k8,k9⟩ (F4 U a8 ho.op) fin
end
def ScriptIn(a:ak)(c:Option aH)(t:List OpV):Prop:=∀(i:Nat) o,t[i]?=ae o->(∃k s f l h r,OpIn2 a o k s f l h r)/\∃b p,c=ae ⟨b,p,af⟩/\∀(j:Nat) u,o.cells[j]?=ae u->a.cell? ⟨b,p+i*9+j,af⟩=ae u
section
variable {o:au->ak->Prop} {a:ak} {W:Nat} {k:au} {f:Nat->Nat} {O:Nat->Prop} {R:BR} {w:ak} {b:TS} {c:aC} {s:List aC}
theorem Y2(s:aI Xm O R w)(v:R j j)(h:bB N w j y):MC o 12 #[ptr j] O w (λu k c a=>k=O/\u=.int .i64 (y.length:Int)/\aO w a/\aI Xm O c a/\BR.Sub R c):=by
 refine iD (kT (R:=R) (Post1:=λu a=>u=.int .i64 (y.length:Int)/\aO w a) TZ (kS bc) s (iP (l:=[ptr j]) ⟨kD v,trivial⟩) (λu a b d ⟨f,l⟩=>⟨f,l.re b d⟩) (λb=> ?_)) λu k c a t=> ?_
 ·refine(Kd (qj h b 0)).mono ?_;rintro e a ⟨rfl,rfl⟩;exact⟨_,rfl,rfl,(aO.refl w).re b 0⟩
 ·obtain⟨rfl,⟨rfl,f⟩,p,_,r,_⟩:=t;exact⟨rfl,rfl,f,p,r⟩
theorem Yg(h:PW a W (.slice af 0 0) f O R w []):MC o 8 #[ptr W,.int .i64 11] O w (yd a W):=by
 refine iD (kT (R:=R) (Post1:=λu l=>u=.bool aq/\∃b c t,Mv NZ f w b l/\Wd b l W 11 c [t]) Ue (kS bc) h.known (iP (l:=[ptr W,.int .i64 11]) ⟨kD h.rW,.int _ _,trivial⟩) (λu l p d ⟨j,b,c,t,k,r⟩=>⟨j,b,c,t,k.re p d,zu r p d⟩) (λp=> ?_)) λu x y l v=> ?_
 ·refine(Qf (zu h.wd p 0)).mono ?_;rintro e l ⟨rfl,b,c,t,j,k⟩;exact⟨_,rfl,rfl,b,c,t,.of j,k⟩
 ·obtain⟨rfl,⟨rfl,b,c,t,j,k⟩,r,_,s,_⟩:=v;exact⟨rfl,c,b,_,h.nf j k r s,az⟩
def pj:OpV:=⟨6,0,0,⟨#[]⟩,⟨#[]⟩, -1,af,[],0,.slice af 0 0,.slice af 0 0⟩
theorem YX:pj.cells=opC 6 0 0 ⟨#[]⟩ ⟨#[]⟩ (-1) (.slice af 0 0) (.slice af 0 0) (.slice af 0 0):=rfl
theorem YZ:pj.kd=6:=rfl
theorem YY(a:ak):OpIn2 a pj [] [] af af 0 0:=⟨⟨by unfold pj;decide,by unfold pj;decide,by unfold pj;decide,by unfold pj;decide,λi ps h=>(by simp[pj]at h),by unfold pj;decide,λps h=>(by simp[pj]at h),λps h=>(by simp[pj]at h)⟩,rfl,rfl,λi o h=>(by simp at h),λi o h=>(by simp at h),bc,bc⟩
theorem Q0{ps:List (Nat×Nat)}(b3:0<ps.length)(hn:∀O' R' w' aT fq,PW a W k aT O' R' w' fq->ay aj o O' (aw (c.finish (.bool aq)) s) w'):∀(a7 i:Nat),a7+i=ps.length->∀(f:Nat->Nat)(O:Nat->Prop)(R:BR)(w:ak)(b:TS) (x:Nat->au),PW a W k f O R w b->b.map pp=ps->ay aj o O (aw (FD 7 [] (T7 v (.int .i64 11) (ptr W) (.bool aq) (.int .i64 (i:Int)) (x 9) (x 10) x) ub) (c::s)) w:=by
 intro a7;induction a7 with
 |zero=>
  intro i hi f O R w b x h ab;have aF:b.length=ps.length:=by rw[<-ab];simp
  obtain⟨g,cap,e,hc,hg,am⟩:=h.list ag;have a6:=h.wd.tM;rw[e]at a6;exact XL h.oW a6 ag (hn O R w f b h)
 |succ a7 ih=>
  intro i hi f O R w b x h ab;have aF:b.length=ps.length:=by rw[<-ab];simp
  obtain⟨g,cap,e,hc,hg,am⟩:=h.list ag;have a6:=h.wd.tM;rw[e]at a6;obtain⟨t,ht⟩:∃t,b[i]?=ae t:=⟨_,bf ag⟩;obtain⟨c1,c2,hx,hr⟩:=am i t ht;have h8:=h.wd.cI;refine XO h.oW a6 ag h8 (h.known.apart g hg) c1 c2 rfl (h.new (aL _)) λx=> ?_;obtain⟨H,ac⟩:∃H,w.alloc (.cells #[ptr t.1,ptr t.2.1] 42)=H:=⟨_,rfl⟩;have h1:PW a W k f O R H b:=ac▸h.grown _;have b0:H.cell? ⟨w.heap.size,0,af⟩=ae (ptr t.1):=ac▸kP w 42 rfl;have b1:H.cell? ⟨w.heap.size,1,af⟩=ae (ptr t.2.1):=ac▸kP w 42 rfl;have a1:¬O w.heap.size:=h.new (aL _);rw[ac];have an:=h1.wd.tw i t ht;obtain⟨rv,a2,_⟩:=an.ref;obtain⟨ao,ci,aJ⟩:∃ao ci,rv=.slice ao t.2.2.length ci:=by
   rcases a2.cases with⟨e,rfl⟩|⟨g,cap,rfl,_⟩;·exact⟨af,0,by rw[e];rfl⟩
   ·exact⟨_,_,rfl⟩
  have aa:=a2.cell;rw[aJ]at aa;have tail:∀(r:BR)(p:ak) (x:Nat->au),aO H p->aI Xm O r p->BR.Sub R r->ay aj o O (aw (FD 7 [] (T7 v (.int .i64 11) (ptr W) (.bool aq) (.int .i64 (i:Int)) (ptr w.heap.size) (x 10) x) Bd) (c::s)) p:=by
   intro r p x j u B;have h2:=h1.on j u B;refine XN a1 (j.cell b0) (j.cell b1) (F1 h2 ag ht) λad O' R3 w3 y=> ?_;obtain⟨rfl,rfl,l,U,Z⟩:=y;refine⟨rfl,λx=> ?_⟩;have h3:=h2.on l U Z;have hB:=F2 (Post:=o) h3 ht (YY a) (.inl YZ);rw[YX]at hB;refine XF a1 (l.cell (j.cell b0)) (l.cell (j.cell b1)) ag hB λad O4 R4 w4 y=> ?_;obtain⟨rfl,aU,aR,hA⟩:=y;exact⟨rfl,λx=>ih (i+1) ag aU O4 R4 w4 aR x hA.pw (hA.ps.trans ab)⟩
  have yU:∀(a8 N:Nat),a8+N=t.2.2.length->∀(r:BR)(p:ak) (x:Nat->au),aO H p->aI Xm O r p->BR.Sub R r->ay aj o O (aw (FD 7 [] (T7 v (.int .i64 11) (ptr W) (.bool aq) (.int .i64 (i:Int)) (ptr w.heap.size) (.int .i64 (N:Int)) x) uc) (c::s)) p:=by
   intro a8;induction a8 with
   |zero=>
    intro N hk r p x j u B;exact XH a1 (j.cell b0) (j.cell b1) (u.apart _ (B _ _ hr)) (j.cell aa) ag λx=>tail r p x j u B
   |succ a8 aQ=>
    intro N hk r p x j u B;obtain⟨e,he⟩:∃e,t.2.2[N]?=ae e:=⟨_,bf ag⟩;obtain⟨kb,b2,aP,hp,_⟩:∃g cap,rv=.slice (ae ⟨g,0,af⟩) t.2.2.length cap/\oJ H g t.2.2/\t.2.2.length<=cap:=by
     rcases a2.cases with⟨e',_⟩|h;·rw[e']at he;simp at he
     ·exact h
    have ai:=a2.cell;rw[aP]at ai;have al:=B _ _ hr;have ap:r kb kb:=xa (rp u al (j.cell ai));have ar:(keyOf e).size<=9223372036854775807:=by have:=EC a2.short (cG he);omega
    refine XI a1 (j.cell b0) (j.cell b1) (u.apart _ al) (j.cell ai) ag a2.cI (u.apart _ ap) (j.cell (hp N e he).1) (KY (h1.on j u B) ag ht ar) λad O' R3 w3 y=> ?_;obtain⟨rfl,rfl,l,U,Z⟩:=y;exact⟨rfl,λx=>aQ (N+1) ag R3 w3 x (j.trans l) U (B.trans Z)⟩
  refine XJ a1 b0 b1 (h1.known.apart _ hr) aa (Y2 h1.known hx an.ix) (λad O' R' w' y=> ?_) λad O' R' w' y x=> ?_
  ·obtain⟨rfl,rfl,l,U,Z⟩:=y;exact⟨rfl,a1,l.cell b0,l.cell b1,U.apart _ (Z _ _ hr),l.cell aa⟩
  ·obtain⟨rfl,rfl,l,U,Z⟩:=y;exact yU t.2.2.length 0 ag R' w' x l U Z
theorem Yf(hK:aI Xm (λ_=>False) R a)(hS:ScriptIn a a1 B)(a7:B.length<=9223372036854775807):MC o 7 #[.slice a1 B.length j,.int .i64 11] (λ_=>False) a (λaa r t v=>aa=.bool aq/\∃k f b,PW a a.heap.size k f r t v b):=by
 intro c s hn;have ad:aI Xm (λ_=>False) (R.add a.heap.size a.heap.size) (a.alloc (.cells #[.slice af 0 0,.int .i64 11] 28)):=hK.boxed (v:=.agg #[.slice af 0 0,.int .i64 11]) (sK (iP (l:=[.slice af 0 0,.int .i64 11]) ⟨.snil 0 0,.int _ _,trivial⟩)) 28;have ai:=ar3 a 11;have h0:PW a a.heap.size (.slice af 0 0) (λa2=>if a2=a.heap.size then 100 else 0) (λ_=>False) (R.add a.heap.size a.heap.size) (a.alloc (.cells #[.slice af 0 0,.int .i64 11] 28)) []:=⟨ad,ai,.inr ⟨rfl,rfl⟩,dw a _,λa2 hk=>if_neg ag,λa2 h=>h.elim⟩;refine XG rfl (Yg h0) λu O1 R1 w1 hu=> ?_;obtain⟨rfl,ac,aJ,aF,h1,am⟩:=hu;refine⟨rfl,?_⟩;have ar:∀(y i:Nat),y+i=B.length->∀(k:au)(f:Nat->Nat)(O:Nat->Prop)(R:BR)(w:ak)(b:TS) (x:Nat->au),PW a a.heap.size k f O R w b->0<b.length->ay aj o O (GF 7 (c::s) (oL (.slice a1 B.length j) a.heap.size aq i x) i7) w:=by
  intro y;induction y with
  |zero=>
   intro i hi k f O R w b x h N;refine XE ag λx=> ?_;exact Q0 (ps:=b.map pp) (by simpa using N) (λr t v a6 U W=>hn _ r t v ⟨rfl,k,a6,U,W⟩) b.length 0 az f O R w b x h rfl
  |succ y ih=>
   intro i hi k f O R w b x h N;obtain⟨l,ho⟩:∃l,B[i]?=ae l:=⟨_,bf ag⟩;obtain⟨⟨fs,ms,fa,ma,fc,mc,ao⟩,pb,po,ap,an⟩:=hS i l ho;subst ap;have a8:∀(p:Nat) u,l.cells[p]?=ae u->¬O pb/\w.cell? ⟨pb,po+i*9+p,af⟩=ae u:=λp u Z=>h.cell (an p u Z);have H:=a8 0 _ rfl;by_cases hk:l.kd<=11
   ·refine XM (kd:=l.kd) (ov:=l.cells.toList.tail) ag a7 H.1 H.2 rfl (λp u Z=> ?_) hk (Y1 h N ao) λaa r t v hv=> ?_;·rw[jF];exact(a8 p u (by rw[<-Z];rw[<-zF];rfl)).2
    ·obtain⟨rfl,ab,a6,U,W,al⟩:=hv;exact⟨aq,rfl,λx=>ih (i+1) ag ab a6 r t v U x W al⟩
   ·exact XK ag a7 H.1 H.2 hk λx=>ih (i+1) ag k f O R w b x h N
 intro x;exact ar B.length 0 ag ac aJ O1 R1 w1 aF x h1 am
end
end Sim
variable {l r a6:Nat} {a7:Nat->Bool} {a8:Bool} {t:au} {p:List au}
theorem Z6:ownKnob aj.godebug=none:=ah
theorem laidOut:laidOutB aj=true:=ah
theorem yi:aj.cellsOf 3=1:=ah
theorem DU:aj.cellsOf 9=1:=ah
theorem QE:aj.cellsOf 37=1:=ah
theorem IX:aj.cellsOf 22=1:=ah
theorem IW:aj.cellsOf 39=9:=ah
theorem UH{n:Int}(h:(Lit.int .i64 n).wf=aq): -9223372036854775808<=n/\n<=9223372036854775807:=by
 simpa[Lit.wf,IntKind.min,IntKind.max,IntKind.signed,IntKind.bits]using h
section
variable {H:Type} {h:aK×au->H} {W:ak}
theorem yx{x:Option (nI H×List rX)}(f:x.isSome=aq)(b:iN h aj W r a7 a8 l 3 [t]=x):∃n,t=.int .i64 n/\ -9223372036854775808<=n/\n<=9223372036854775807:=by
 cases x with
 |none=>cases f
 |some x=>
  obtain⟨n,a,_,c⟩:=DataW.trod_int Oj b;simp at a;exact⟨n,a,UH c⟩
theorem Gk{x:Option (nI H×List rX)}(f:x.isSome=aq)(b:iN h aj W r a7 a8 l 9 [t]=x):∃s:ByteArray,t=.string s/\s.size<=9223372036854775807:=by
 cases x with
 |none=>cases f
 |some x=>
  obtain⟨n,a,_,c⟩:=DataW.trod_string Oi b;simp at a;exact⟨n,a,by unfold cE at c;omega⟩
end
section
variable {H:Type}
theorem Ql(d:nI H):1<=l8 d:=by
 cases d with
 |lit l=>cases l<;>simp[l8]
 |_=>simp[l8]
theorem Qk(l:List (nI H)):l.length<=zM l:=by
 induction l with
 |nil=>simp[zM]
 |cons x r a=>have:=Ql x;simp only[zM,rM];omega
theorem IJ{d:nI H}{l:List (nI H)}(h:d∈l):l8 d<=zM l:=by
 induction l with
 |nil=>cases h
 |cons x r a=>
  simp only[zM];rcases dk.1 h with e|e;·subst e;omega
  ·have:=a e;omega
variable {h:aK×au->H} {W:ak}
theorem C3{x:Type}[Inhabited x]{a1 e:aK}{p:Nat->Nat->x->Prop}(ht:aj.underlying a1=ae (.slice e))(N:aj.cellsOf e=l)(am:0<l){a7:nI H×List rX}(hf:iN h aj W 0 (λ_=>aq) aq a6 a1 [t]=ae a7)(B:l8 a7.1<=r)(hp:∀(k q:Nat)(s:List au)(a8:nI H×List rX) (n:Nat),W.cells? 0 ⟨k,q,af⟩ l=ae s->iN h aj W 0 (λ_=>aq) aq n e s=ae a8->l8 a8.1<=r->∃a,p k q a):∃(y:Option aH)(o:List x) (cap:Nat),t=.slice y o.length cap/\o.length<=r/\o.length<=9223372036854775807/\∀(i:Nat) a,o[i]?=ae a->∃k q,y=ae ⟨k,q,af⟩/\p k (q+i*l) a:=by
 rcases open_slice ht hf with⟨c,_⟩|⟨a,len,cap,m,n,D,Pl,c,_,hl,hm,U,ai,hx⟩
 ·simp at c;subst c;exact⟨af,[],0,rfl,az,az,λi a v=>by simp at v⟩
 ·simp at c;subst c;simp at U;subst U;unfold cE at hm;have al:zM ((dn len).map D)+1<=r:=by
   rw[ai]at B;simp only[l8]at B;omega
  have ac:=Qk ((dn len).map D);simp at ac;by_cases h0:len=0
  ·subst h0;exact⟨ae a,[],_,rfl,az,az,λi a v=>by simp at v⟩
  ·have Z:a.spot=none:=by
    obtain⟨u,f,_⟩:=hx 0 ag;obtain⟨_,ad,R⟩:=GY f;rw[N]at ad R;have b:=R 0 ag;have:(a.add (0*l)).add 0=a:=by cases a;simp[vf]
    rw[this]at b;obtain⟨a2,hu⟩:∃a2,u[0]?=ae a2:=⟨_,bf ag⟩;rw[hu]at b;exact World.cell?_spot b
   obtain⟨k,q,sp⟩:=a;simp at Z;subst Z;obtain⟨aa,ab⟩:=choose_lt (n:=len) (p:=λi a=>p k (q+i*l) a) (λi j=>by
    obtain⟨u,f,b⟩:=hx i ag;rw[N,jF]at f;refine hp k (q+i*l) u (D i,Pl i) n f b ?_;have:=IJ (d:=D i) (l:=(dn len).map D) (iL.2 ⟨i,eh.2 j,rfl⟩);show l8 (D i)<=r;omega)
   refine⟨ae ⟨k,q,af⟩,(dn len).map aa,m,az,by simp;omega,by simp;omega,λi a w=> ?_⟩;have j:i<len:=by have:=(cu.mp w).1;simpa using this
   simp[j]at w;subst w;exact⟨k,q,rfl,ab i j⟩
theorem QF:aj.cellsOf 46=2:=ah
theorem QG:aj.cellsOf 34=1:=ah
theorem YW(h:W.cells? 0 ⟨l,r,af⟩ 1=ae p):∃v,p=[v]/\W.cell? ⟨l,r,af⟩=ae v:=by
 obtain⟨_,b,a⟩:=GY h
 match p,b with
 |[v],_=>
  have:=a 0 ag;rw[jF]at this;exact⟨v,rfl,this⟩
def Dz(W:ak)(k q:Nat)(a:PP):Prop:=W.cell? ⟨k,q,af⟩=ae (.string a.1)/\W.cell? ⟨k,q+1,af⟩=ae (.int .i64 a.2)/\a.1.size<=9223372036854775807
theorem Za{n:Nat}{y:nI H×List rX}(x:W.cells? 0 ⟨l,r,af⟩ 2=ae p)(B:iN h aj W 0 (λ_=>aq) aq n 46 p=ae y):∃a,Dz W l r a:=by
 obtain⟨_,N,o⟩:=GY x;obtain⟨f,v,_,_,_,R,t⟩:=az3 Tryz.underlying46 B;simp at R
 match p,N with
 |[v0,w],_=>
  have u:∀i,i<2->(f[i]?).isSome=true:=λi Z=>by simp;omega
  have b:iN h aj W 0 (λ_=>aq) aq v 9 ((([v0,w]:List au).drop 0).take (aj.cellsOf 9))=f[0]?:=t 0 _ rfl;rw[DU]at b;have c:iN h aj W 0 (λ_=>aq) aq v 3 ((([v0,w]:List au).drop 1).take (aj.cellsOf 3))=f[1]?:=t 1 _ rfl;rw[yi]at c;simp only[Ox,NV,NR,Ow]at b c;obtain⟨s,rfl,U⟩:=Gk (u 0 ag) b;obtain⟨m,rfl,_⟩:=yx (u 1 ag) c;have j:=o 0 ag;have k:=o 1 ag;rw[jF]at j k;exact⟨(s,m),j,k,U⟩
def Ij(W:ak)(B:Nat)(k q:Nat)(ps:List PP):Prop:=∃b h,W.cell? ⟨k,q,af⟩=ae (.slice b ps.length h)/\ps.length<=B/\∀(j:Nat) a,ps[j]?=ae a->∃c f,b=ae ⟨c,f,af⟩/\Dz W c (f+j*2) a
theorem Zc{n:Nat}{y:nI H×List rX}(a:W.cells? 0 ⟨r,a6,af⟩ 1=ae p)(b:iN h aj W 0 (λ_=>aq) aq n 34 p=ae y)(k:l8 y.1<=l):∃ps,Ij W l r a6 ps:=by
 obtain⟨v,rfl,o⟩:=YW a;obtain⟨c,s,cap,rfl,f,_,j⟩:=C3 (p:=Dz W) CG QF ag b k (λr a6 p y n a b _=>Za a b);exact⟨s,c,cap,o,f,j⟩
theorem Zf{n:Nat}{y:nI H×List rX}(Z:iN h aj W 0 (λ_=>aq) aq n 37 [t]=ae y)(hB:l8 y.1<=l):∃N pss pc,t=.slice N pss.length pc/\Sim.xZ W N pss/\pss.length<=l/\(∀ps∈pss,ps.length<=l)/\∀ps∈pss,∀q∈ps,q.1.size<=9223372036854775807:=by
 obtain⟨R,a1,cap,rfl,U,_,o⟩:=C3 (p:=Ij W l) Tryz.underlying37 QG ag Z hB (λk q s y n h1 h2 h3=>Zc h1 h2 h3);refine⟨R,a1,cap,rfl,λi ps b=> ?_,U,λps r=> ?_,λps r a ha=> ?_⟩
 ·obtain⟨k,q,e,c,f,c1,_,c2⟩:=o i ps b;rw[tj]at c1;refine⟨k,q,c,f,e,c1,λj a p=> ?_⟩;obtain⟨v,w,u,x,B,_⟩:=c2 j a p;exact⟨v,w,u,x,B⟩
 ·obtain⟨i,b⟩:=lJ r;obtain⟨k,q,e,c,f,c1,c3,c2⟩:=o i ps b;exact c3
 ·obtain⟨i,b⟩:=lJ r;obtain⟨k,q,e,c,f,c1,c3,c2⟩:=o i ps b;obtain⟨j,p⟩:=lJ ha;obtain⟨v,w,u,x,B,p3⟩:=c2 j a p;exact p3
instance:Inhabited OpV:=⟨⟨0,0,0,⟨#[]⟩,⟨#[]⟩,0,af,[],0,.slice af 0 0,.slice af 0 0⟩⟩
theorem Ly{n:Nat}{aa:nI H×List rX}(h1:W.cells? 0 ⟨l,r,af⟩ 9=ae p)(h2:iN h aj W 0 (λ_=>aq) aq n 39 p=ae aa)(hB:l8 aa.1<=1048576):∃o:OpV,OpIn W o/\(∀(j:Nat) a2,o.cells[j]?=ae a2->W.cell? ⟨l,r+j,af⟩=ae a2)/\∃a y7 y8,iN h aj W 0 (λ_=>aq) aq a 22 [o.fv]=ae y7/\l8 y7.1<=1048576/\iN h aj W 0 (λ_=>aq) aq a 22 [o.mv]=ae y8/\l8 y8.1<=1048576:=by
 obtain⟨_,ad,ab⟩:=GY h1;obtain⟨b,a,_,hy,_,ai,k⟩:=az3 Tryz.underlying39 h2;simp at ai;have a1:∀(i:Nat) x,b[i]?=ae x->l8 x.1<=1048576:=λi x hx=>by
  rw[hy]at hB;simp only[l8]at hB;have:=IJ (d:=x.1) (l:=b.map (·.1)) (iL.2 ⟨x,cG hx,rfl⟩);omega
 match p,ad with
 |[v0,t,u,v3,v4,v5,v,c,f],_=>
  have s:∀i,i<9->(b[i]?).isSome=true:=λi hi=>by simp;omega
  have N:iN h aj W 0 (λ_=>aq) aq a 3 ((([v0,t,u,v3,v4,v5,v,c,f]:List au).drop 0).take (aj.cellsOf 3))=b[0]?:=k 0 _ rfl;rw[yi]at N;have R:iN h aj W 0 (λ_=>aq) aq a 3 ((([v0,t,u,v3,v4,v5,v,c,f]:List au).drop 1).take (aj.cellsOf 3))=b[1]?:=k 1 _ rfl;rw[yi]at R;have U:iN h aj W 0 (λ_=>aq) aq a 3 ((([v0,t,u,v3,v4,v5,v,c,f]:List au).drop 2).take (aj.cellsOf 3))=b[2]?:=k 2 _ rfl;rw[yi]at U;have Z:iN h aj W 0 (λ_=>aq) aq a 9 ((([v0,t,u,v3,v4,v5,v,c,f]:List au).drop 3).take (aj.cellsOf 9))=b[3]?:=k 3 _ rfl;rw[DU]at Z;have g4:iN h aj W 0 (λ_=>aq) aq a 9 ((([v0,t,u,v3,v4,v5,v,c,f]:List au).drop 4).take (aj.cellsOf 9))=b[4]?:=k 4 _ rfl;rw[DU]at g4;have g5:iN h aj W 0 (λ_=>aq) aq a 3 ((([v0,t,u,v3,v4,v5,v,c,f]:List au).drop 5).take (aj.cellsOf 3))=b[5]?:=k 5 _ rfl;rw[yi]at g5;have w:iN h aj W 0 (λ_=>aq) aq a 37 ((([v0,t,u,v3,v4,v5,v,c,f]:List au).drop 6).take (aj.cellsOf 37))=b[6]?:=k 6 _ rfl;rw[QE]at w;have y:iN h aj W 0 (λ_=>aq) aq a 22 ((([v0,t,u,v3,v4,v5,v,c,f]:List au).drop 7).take (aj.cellsOf 22))=b[7]?:=k 7 _ rfl;rw[IX]at y;have B:iN h aj W 0 (λ_=>aq) aq a 22 ((([v0,t,u,v3,v4,v5,v,c,f]:List au).drop 8).take (aj.cellsOf 22))=b[8]?:=k 8 _ rfl;rw[IX]at B;simp only[Ox,NV,NR,Ow]at N R U Z g4 g5 w y B;obtain⟨n0,rfl,_⟩:=yx (s 0 ag) N;obtain⟨n1,rfl,r1⟩:=yx (s 1 ag) R;obtain⟨n2,rfl,r2⟩:=yx (s 2 ag) U;obtain⟨s3,rfl,r3⟩:=Gk (s 3 ag) Z;obtain⟨s4,rfl,r4⟩:=Gk (s 4 ag) g4;obtain⟨n5,rfl,r5⟩:=yx (s 5 ag) g5;obtain⟨x6,a6⟩:=sO.1 (s 6 ag);obtain⟨x7,a7⟩:=sO.1 (s 7 ag);obtain⟨x8,a8⟩:=sO.1 (s 8 ag);rw[a6]at w;rw[a7]at y;rw[a8]at B;obtain⟨pa,pss,pc,rfl,q1,q2,q3,q4⟩:=Zf w (a1 6 x6 a6);refine⟨⟨n0,n1,n2,s3,s4,n5,pa,pss,pc,c,f⟩,⟨r1,r2,r3,r4,q1,q2,q3,q4⟩,λj a2 hj=> ?_,a,x7,x8,y,a1 7 x7 a7,B,a1 8 x8 a8⟩;have ac:j<9:=(cq.1 hj).1;have:=ab j ac;rw[jF]at this;rw[this,<-hj,<-zF];rfl
theorem LA{n:Nat}{y:nI H×List rX}(x:iN h aj W 0 (λ_=>aq) aq n 22 [t]=ae y)(N:l8 y.1<=1048576):∃a p c,t=.slice a p.length c/\OpsIn W a p/\p.length<=9223372036854775807:=by
 obtain⟨r,l,cap,rfl,_,v,w⟩:=C3 (p:=λk q o=>OpIn W o/\∀(j:Nat) u,o.cells[j]?=ae u->W.cell? ⟨k,q+j,af⟩=ae u) az6 IW ag x N (λk q s y n b f B=>by
  obtain⟨o,U,Z,_⟩:=Ly b f B;exact⟨o,U,Z⟩)
 refine⟨r,l,cap,rfl,λi o R=> ?_,v⟩;obtain⟨k,q,e,b,f⟩:=w i o R;exact⟨b,k,q,e,f⟩
theorem aj6{n:Nat}{v:au}{y:nI H×List rX}(a1:iN h aj W 0 (λ_=>aq) aq n 22 [v]=ae y)(hB:l8 y.1<=1048576):∃a B c,v=.slice a B.length c/\ScriptIn W a B/\B.length<=9223372036854775807:=by
 obtain⟨N,a2,cap,rfl,_,g1,g2⟩:=C3 (p:=λk q o=>(∃l x b t f w,OpIn2 W o l x b t f w)/\∀(j:Nat) u,o.cells[j]?=ae u->W.cell? ⟨k,q+j,af⟩=ae u) az6 IW ag a1 hB (λk q s y n p r h3=>by
  obtain⟨o,q1,q2,n',y7,y8,t7,b7,t8,b8⟩:=Ly p r h3;obtain⟨b,l,f,R,Z,f2⟩:=LA t7 b7;obtain⟨t,x,w,U,m1,m2⟩:=LA t8 b8;exact⟨o,⟨l,x,b,t,f,w,q1,R,U,Z,m1,f2,m2⟩,q2⟩)
 refine⟨N,a2,cap,rfl,λi o hi=> ?_,g1⟩;obtain⟨k,q,e,p,r⟩:=g2 i o hi;exact⟨p,k,q,e,r⟩
end
