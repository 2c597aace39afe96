/- Own texts: GgA, GgB. -/
import Derived.Test.YtcgjppacnhmjlaaGreatMAP
import Derived.Test.YtcgjppacnhmjlaaGreatMR
set_option linter.all false
set_option maxHeartbeats 1000000
open Array renaming getElem?_toList->zF
open Bool renaming true->aq
open Go renaming World->ak,Value->au,Frame->aC,heap_alloc_new->cY,Addr->aH
open Go.Addr renaming add_lit->jF
open Go.Proofs.Tryz renaming prog->aj
open Go.Value renaming ownBlock->fX
open Go.World renaming block_lt_of_cell?->cC,size_alloc->dh,cell?_of_block->gV
open Inhabited renaming default->fM
open List renaming getElem?_eq_getElem->bf,mem_of_getElem?->cG
open Nat renaming le_refl->aL,le_trans->bT,lt_of_lt_of_le->dG,lt_irrefl->OL
open Ne renaming symm->jm
open Option renaming some->ae,none->af
namespace Go.Proofs.YtcgjppacnhmjlaaGreat
open Go Go.Conc Go.ConcN Go.Conc.Lib Go.ConcR.Gen Go.RowKit
namespace Sim
variable {v:Nat->Nat} {l:ak} {o:au} {B:TS} {x:BR} {h p:Nat} {r:List KV} {u:Nat->Prop} {t:List OpV} {y:Option aH}
section
variable {k:au->ak->Prop} {a:ak} {W:Nat} {j:au} {f:Nat->Nat} {O:Nat->Prop} {R:BR} {w:ak} {b:TS}
def yd(a:ak)(W:Nat):au->(Nat->Prop)->BR->ak->Prop:=λv c f j=>v=.bool aq/\∃h k b,PW a W h k c f j b/\0<b.length
theorem PW.nf(h:PW a W j f O R w b)(r:Mv NZ f w v l)(u:Wd v l W 11 o B)(s:aI Xm O x l)(t:BR.Sub R x):PW a W o v O x l B:=by
 have p:=h.cv;refine⟨s,u,t _ _ h.rW,⟨bT p.size r.size,λk c=> ?_,r.os.trans p.os,r.output.trans p.output⟩,λk c=>(r.agree k (dG c p.size)).trans (h.low k c),λk c=>(r.agree k (h.known.low k c)).trans (h.own k c)⟩;exact(r.block k (dG c p.size) (by rw[h.low k c];exact λh=>OL _ h.1)).trans (p.block k c)
theorem zu{b:Int}(a:Wd v l h b o B)(c:Tape)(d:Nat):Wd v (Sim.re l c d) h b o B:=Co (A:=λ_=>False) a (Mv.cv a.fresh ((aO.refl l).re c d)) (λa=>a) (λ_ _ _ a=>a)
theorem L6(c:PW a W j f O R w b)(a1:0<b.length)(hx:R h h)(hr:R p p)(ht:b.length<8->Twin f b.length w h p r):MC k 9 #[ptr W,ptr h,ptr p] O w (λa6 H N o=>yd a W a6 H N o/\H=O/\∀t,t<w.heap.size->f t=0->o.heap[t]?=w.heap[t]?):=by
 by_cases Z:b.length<8
 ·refine iD (kT (R:=R) (Post1:=λu o=>u=.bool aq/\∃v x,Mv NZ f w v o/\Wd v o W 11 x (b++[(h,p,r)])) JC (kS bc) c.known (iP (l:=[ptr W,ptr h,ptr p]) ⟨kD c.rW,kD hx,kD hr,trivial⟩) (λu o s d ⟨l,v,x,y,B⟩=>⟨l,v,x,y.re s d,zu B s d⟩) (λs=> ?_)) λu H N o hu=> ?_
  ·have a2:Twin f b.length (Sim.re w s 0) h p r:=rG (A:=λ_=>False) (ht Z) (Mv.cv c.wd.fresh ((aO.refl w).re s 0)) (λc=>c) (λ_ _ c=>c);refine(Ip (zu c.wd s 0) a2 Z).mono ?_;rintro e o ⟨rfl,v,x,l,y⟩;exact⟨_,rfl,rfl,v,x,.of l,y⟩
  ·obtain⟨rfl,⟨rfl,v,x,l,y⟩,B,_,U,_⟩:=hu;exact⟨⟨rfl,x,v,_,c.nf l y B U,az⟩,rfl,λt hk h0=>l.block t hk (by rw[h0];exact λc=>OL _ c.1)⟩
 ·refine iD (kT (R:=R) (Post1:=λu o=>u=.bool aq/\aO w o) JC (kS bc) c.known (iP (l:=[ptr W,ptr h,ptr p]) ⟨kD c.rW,kD hx,kD hr,trivial⟩) (λu o s d ⟨l,y⟩=>⟨l,y.re s d⟩) (λs=> ?_)) λu H N o hu=> ?_
  ·refine(PU (zu c.wd s 0) Z).mono ?_;rintro e o ⟨rfl,l⟩;exact⟨_,rfl,rfl,.of l⟩
  ·obtain⟨rfl,⟨rfl,l⟩,B,_,U,_⟩:=hu;exact⟨⟨rfl,j,f,b,c.on l B U,a1⟩,rfl,λt hk _=>l.block t hk⟩
open Classical in
theorem PW.mark(h:PW a W j f O R w b){p:ak}{y:BR}(s:aO w p)(hK:aI Xm O y p)(hs:BR.Sub R y){x r:Nat}{v:au}{l:List KV}{S:Nat->Prop}(hx:w.heap.size<=x)(hr:w.heap.size<=r)(a7:x≠r)(H:bB S p x l)(N:∀k,S k->k<w.heap.size/\f k=0)(u:bQ p r v l)(Z:∀g,v.ownBlock=ae g->w.heap.size<=g/\g≠x):∃o,PW a W j o O y p b/\(b.length<8->Twin o b.length p x r l)/\∀k,k<w.heap.size->o k=f k:=by
 have a1:=h.wd.fresh;have a6:=s.size;have aa:=H.lt;have a8:=cJ u.blk;let o:Nat->Nat:=λk=>if k=x then 3*b.length+1 else if k=r then 3*b.length+2 else if v.ownBlock=ae k then 3*b.length+3 else f k
 have t:∀k,k<w.heap.size->o k=f k:=λk c=>by
  show(if _ then _ else if _ then _ else if _ then _ else _)=_;rw[if_neg ag,if_neg ag,if_neg (λe=>by have:=(Z k e).1;omega)]
 have hm:Mv (λ_=>False) f w o p:=by
  refine⟨a6,t,λk c=> ?_,λk c _=>s.block k c,s.os,s.output⟩;show(if _ then _ else if _ then _ else if _ then _ else _)=_;rw[if_neg ag,if_neg ag,if_neg (λe=>by have:=(u.row.lt k e).2;omega)];exact a1 k ag
 have U:o x=3*b.length+1:=if_pos rfl;have a2:o r=3*b.length+2:=by
  show(if _ then _ else if _ then _ else _)=_;rw[if_neg (jm a7),if_pos rfl]
 refine⟨o,⟨hK,Co h.wd hm (λh=>h) (λ_ _ _ h=>h),hs _ _ h.rW,h.cv.trans s,λk c=>(t k (dG c h.cv.size)).trans (h.low k c),λk c=>(t k (h.known.low k c)).trans (h.own k c)⟩,λ_=>⟨?_,U,a2,v,u,λg B=> ?_⟩,t⟩;·exact tX H rfl (λ_ _ _=>rfl) (λk c _=>(t k (N k c).1).trans (N k c).2) (λe=>by rw[U]at e;omega)
 ·show(if _ then _ else if _ then _ else if _ then _ else _)=_;rw[if_neg (Z g B).2,if_neg (λe=>u.out (by rw[<-e];exact B)),if_pos B]
theorem Y0(s:aI Xm O R w):MC k 10 #[] O w (λu o c a=>o=O/\u=ptr w.heap.size/\aO w a/\w.heap.size<a.heap.size/\bB (λ_=>False) a w.heap.size []/\aI Xm O c a/\BR.Sub R c/\c w.heap.size w.heap.size):=by
 refine iD (kT (R:=R) (Post1:=λu a=>u=ptr w.heap.size/\aO w a/\bB (λ_=>False) a w.heap.size []) TY (kS bc) s (iP (l:=[]) trivial) (λu a b d ⟨j,f,l⟩=>⟨j,f.re b d,qj l b d⟩) (λb=> ?_)) λu o c a t=> ?_
 ·refine(Fe (Sim.re w b 0)).mono ?_;rintro e a ⟨rfl,rfl⟩;exact⟨_,rfl,rfl,aO.BB (dw (Sim.re w b 0) _),⟨⟨0,af,cY _ _,.inl ⟨rfl,rfl⟩⟩,λh=>h,az⟩⟩
 ·obtain⟨rfl,⟨rfl,j,f⟩,l,r,p,_⟩:=t;exact⟨rfl,rfl,j,f.lt,f,l,p,Cj r⟩
theorem Y4(y:aI Xm O R w)(U:R h h)(t:bB u w h r)(B:∀v,u v->v<w.heap.size):MC k 20 #[ptr h] O w (λf s j a=>s=O/\f=ptr w.heap.size/\aO w a/\bB u a w.heap.size r/\aI Xm O j a/\BR.Sub R j/\j w.heap.size w.heap.size):=by
 refine iD (kT (R:=R) (Post1:=λf a=>f=ptr w.heap.size/\aO w a/\bB u a w.heap.size r) U3 (kS bc) y (iP (l:=[ptr h]) ⟨kD U,trivial⟩) (λf a o d ⟨b,c,l⟩=>⟨b,c.re o d,qj l o d⟩) (λo=> ?_)) λf s j a N=> ?_
 ·refine(UO (qj t o 0)).mono ?_;rintro e a ⟨rfl,⟨n,W,b,c⟩,l,p⟩;exact⟨_,rfl,rfl,.of p,⟨⟨n,W,b,c⟩,λH=>by have:=B _ H;omega,t.cI⟩⟩
 ·obtain⟨rfl,⟨rfl,b,c⟩,l,x,p,_⟩:=N;exact⟨rfl,rfl,b,c,l,p,Cj x⟩
theorem an5(r:0<b.length)(h:lU a W j f O R w (b.map pp) o u x l):yd a W o u x l:=by
 obtain⟨p,s,k,c⟩:=h;exact⟨p,j,s,k,c.pw,by rw[c.len];simpa using r⟩
theorem Y1(x:PW a W j f O R w b)(a8:0<b.length){a1:OpV}{ms:List OpV}{ma:Option aH}(ho:OpIn2 a a1 t ms y ma h p):MC k 11 #[ptr W,.agg a1.cells] O w (yd a W):=by
 intro c s hn;obtain⟨g,cap,a2,ht,hP,hx,hr⟩:=x.pick a8 (dw w (.cells a1.cells 39)) (ob:=w.heap.size) (fld:=1) (on:=a1.on) (x.new (aL _)) (kP w 39 rfl) ho.op.on;refine VV rfl rfl hP x.known hx hr λaQ R1 hy ac ar hs=> ?_;obtain⟨H,hw⟩:∃H,(w.alloc (.cells a1.cells 39)).alloc (.cells #[ptr a2.1,ptr a2.2.1] 42)=H:=⟨_,rfl⟩;have o:=x.opAt a1 hw;have hb:aO w H:=hw▸(dw w _).trans (dw _ _);rw[hw]at ac⊢;have Z:PW a W j f O R1 H b:=x.on hb ac hs;have fin:∀v u r l,lU a W j f O R1 H (b.map pp) v u r l->ay aj k u (aw (c.finish v) s) l:=λv u r l hy=>hn v u r l (an5 a8 hy);by_cases k6:a1.kd=6
 ·have hB:=F2 (Post:=k) Z ht ho (.inl k6);unfold OpV.cells opC at hB;rw[k6]at o hB;exact W4 hy o hB fin
 by_cases k7:a1.kd=7
 ·have hB:=F2 (Post:=k) Z ht ho (.inr k7);unfold OpV.cells opC at hB;rw[k7]at o hB;exact VY hy o hB fin
 by_cases k8:a1.kd=8
 ·rw[k8]at o;refine VW hy o (Y0 Z.known) (λa6 u r l hu=> ?_) hn;obtain⟨rfl,rfl,N,q2,q3,q4,q5,q6⟩:=hu;have ad:=dw l (.cells #[.slice af 0 0] 36);have am:aI Xm u (r.add l.heap.size l.heap.size) (l.alloc (.cells #[.slice af 0 0] 36)):=q4.boxed (v:=.slice af 0 0) (.snil 0 0) 36;obtain⟨al,p1,p2,p3⟩:=Z.mark (N.trans ad) am (q5.trans (BR.gF _ _ _)) (x:=H.heap.size) (r:=l.heap.size) (aL _) N.size ag (tX q3 (ad.block _ q2) (λ_ x _=>x.elim) (λ_ x _=>x) (λx=>x)) (λ_ x=>x.elim) (Mu (o:=fM) (cY l _)) (λg hg=>by simp[fX]at hg);exact iD (L6 p1 a8 (BR.gF _ _ _ _ _ q6) (.inr ⟨rfl,rfl⟩) p2) λv u r l hv=>hv.1
 by_cases k9:a1.kd=9
 ·rw[k9]at o;have ab:=Z.wd.tw _ _ ht;obtain⟨rv,ap,aF⟩:=ab.ref;have hI:bB (λB=>f B=0/\B<H.heap.size) H a2.1 a2.2.2:=tX ab.ix rfl (λ_ _ _=>rfl) (λB Z h2=>⟨Z,h2⟩) (λe=>ab.ix.out e.1);refine VU (K1:=_) (K2:=λa6 v u r l=>∃yv U,aO H U/\bB (λB=>f B=0/\B<H.heap.size) U H.heap.size a2.2.2/\aO U l/\u=O/\a6=ptr H.heap.size/\v=ptr U.heap.size/\bQ l U.heap.size yv a2.2.2/\(∀g,yv.ownBlock=ae g->U.heap.size<=g)/\aI Xm O r l/\BR.Sub R1 r/\r H.heap.size H.heap.size/\r U.heap.size U.heap.size) (K3:=λv u r l=>yd a W v u r l/\¬u (w.heap.size+1)/\l.cell? ⟨w.heap.size+1,0,af⟩=ae (ptr a2.1)/\l.cell? ⟨w.heap.size+1,1,af⟩=ae (ptr a2.2.1)) hy o (Y4 Z.known (hs _ _ hx) hI (λB hk=>hk.2)) (λa6 u r l hu=> ?_) (λa6 v u r l hu=> ?_) (λa6 u r l hu=>⟨hu.2,hn a6 u r l hu.1⟩)
  ·obtain⟨rfl,rfl,N,q2,q3,q4,q5⟩:=hu;refine⟨⟨o.jO,N.cell o.n0,N.cell o.n1⟩,iD (F3 q3 (q4 _ _ (hs _ _ hr)) (kA ap N)) λv O2 R2 W2 hv=> ?_⟩;obtain⟨rfl,rfl,⟨yv,p1,p2⟩,p3,p4,p5,p6⟩:=hv;exact⟨yv,l,N,q2,p3,rfl,rfl,rfl,p1,p2,p4,q4.trans p5,p5 _ _ q5,p6⟩
  ·obtain⟨yv,U,N,q2,q3,rfl,rfl,rfl,q4,q5,q6,q7,q8,q9⟩:=hu;have a7:=N.trans q3;have ao:=q2.lt;refine⟨⟨o.jO,a7.cell o.n0,a7.cell o.n1⟩,?_⟩;have aJ:=N.size;obtain⟨al,p1,p2,p3⟩:=Z.mark a7 q6 q7 (x:=H.heap.size) (r:=U.heap.size) (aL _) N.size ag (tX q2 (q3.block _ ao) (λB hk an=>q3.block B an) (λB x _=>x) (λe=>q2.out e)) (λB hk=>⟨hk.2,hk.1⟩) q4 (λg hg=>⟨by have:=q5 g hg;omega,by have:=q5 g hg;omega⟩);have aP:H.heap.size=w.heap.size+2:=by rw[<-hw,dh,dh]
   have ai:∀(aa:Nat) v,l.cell? ⟨w.heap.size+1,aa,af⟩=ae v->∀W2:ak,(∀B,B<l.heap.size->al B=0->W2.heap[B]?=l.heap[B]?)->W2.cell? ⟨w.heap.size+1,aa,af⟩=ae v:=λaa v hc W2 hk=>(gV (a:=⟨w.heap.size+1,aa,af⟩) (hk _ (cC _ _ hc) ((p3 (w.heap.size+1) ag).trans (x.wd.fresh (w.heap.size+1) ag)))).trans hc;refine iD (L6 p1 a8 q8 q9 p2) λv O2 R2 W2 hv=> ?_;obtain⟨h3,rfl,h5⟩:=hv;exact⟨h3,o.jO,ai 0 _ (a7.cell o.n0) W2 h5,ai 1 _ (a7.cell o.n1) W2 h5⟩
 exact VZ hy o ⟨k6,k7,k8,k9⟩ (F4 Z a8 ho.op) fin
end
def ScriptIn(a:ak)(c:Option aH)(t:List OpV):Prop:=∀(i:Nat) o,t[i]?=ae o->(∃k s f l h r,OpIn2 a o k s f l h r)/\∃b p,c=ae ⟨b,p,af⟩/\∀(j:Nat) u,o.cells[j]?=ae u->a.cell? ⟨b,p+i*9+j,af⟩=ae u
section
variable {k:au->ak->Prop} {a:ak} {W:Nat} {j:au} {f:Nat->Nat} {O:Nat->Prop} {R:BR} {w:ak} {b:TS} {c:aC} {s:List aC}
theorem Y2(v:aI Xm O R w)(y:R h h)(o:bB u w h r):MC k 12 #[ptr h] O w (λb l f a=>l=O/\b=.int .i64 (r.length:Int)/\aO w a/\aI Xm O f a/\BR.Sub R f):=by
 refine iD (kT (R:=R) (Post1:=λb a=>b=.int .i64 (r.length:Int)/\aO w a) TZ (kS bc) v (iP (l:=[ptr h]) ⟨kD y,trivial⟩) (λb a c d ⟨j,p⟩=>⟨j,p.re c d⟩) (λc=> ?_)) λb l f a x=> ?_
 ·refine(Kd (qj o c 0)).mono ?_;rintro e a ⟨rfl,rfl⟩;exact⟨_,rfl,rfl,(aO.refl w).re c 0⟩
 ·obtain⟨rfl,⟨rfl,j⟩,s,_,t,_⟩:=x;exact⟨rfl,rfl,j,s,t⟩
theorem Yg(h:PW a W (.slice af 0 0) f O R w []):MC k 8 #[ptr W,.int .i64 11] O w (yd a W):=by
 refine iD (kT (R:=R) (Post1:=λu o=>u=.bool aq/\∃b c t,Mv NZ f w b o/\Wd b o W 11 c [t]) Ue (kS bc) h.known (iP (l:=[ptr W,.int .i64 11]) ⟨kD h.rW,.int _ _,trivial⟩) (λu o p d ⟨j,b,c,t,l,r⟩=>⟨j,b,c,t,l.re p d,zu r p d⟩) (λp=> ?_)) λu x y o v=> ?_
 ·refine(Qf (zu h.wd p 0)).mono ?_;rintro e o ⟨rfl,b,c,t,j,l⟩;exact⟨_,rfl,rfl,b,c,t,.of j,l⟩
 ·obtain⟨rfl,⟨rfl,b,c,t,j,l⟩,r,_,s,_⟩:=v;exact⟨rfl,c,b,_,h.nf j l r s,az⟩
def pj:OpV:=⟨6,0,0,⟨#[]⟩,⟨#[]⟩, -1,af,[],0,.slice af 0 0,.slice af 0 0⟩
theorem YX:pj.cells=opC 6 0 0 ⟨#[]⟩ ⟨#[]⟩ (-1) (.slice af 0 0) (.slice af 0 0) (.slice af 0 0):=rfl
theorem YZ:pj.kd=6:=rfl
theorem YY(a:ak):OpIn2 a pj [] [] af af 0 0:=⟨⟨by unfold pj;decide,by unfold pj;decide,by unfold pj;decide,by unfold pj;decide,λi ps h=>(by simp[pj]at h),by unfold pj;decide,λps h=>(by simp[pj]at h),λps h=>(by simp[pj]at h)⟩,rfl,rfl,λi o h=>(by simp at h),λi o h=>(by simp at h),bc,bc⟩
theorem Q0{ps:List (Nat×Nat)}(b3:0<ps.length)(hn:∀O' R' w' aT fq,PW a W j aT O' R' w' fq->ay aj k O' (aw (c.finish (.bool aq)) s) w'):∀(a7 i:Nat),a7+i=ps.length->∀(f:Nat->Nat)(O:Nat->Prop)(R:BR)(w:ak)(b:TS) (x:Nat->au),PW a W j f O R w b->b.map pp=ps->ay aj k O (aw (FD 7 [] (T7 o (.int .i64 11) (ptr W) (.bool aq) (.int .i64 (i:Int)) (x 9) (x 10) x) ub) (c::s)) w:=by
 intro a7;induction a7 with
 |zero=>
  intro i hi f O R w b x h ab;have aF:b.length=ps.length:=by rw[<-ab];simp
  obtain⟨g,cap,e,hc,hg,am⟩:=h.list ag;have a6:=h.wd.tM;rw[e]at a6;exact XL h.oW a6 ag (hn O R w f b h)
 |succ a7 ih=>
  intro i hi f O R w b x h ab;have aF:b.length=ps.length:=by rw[<-ab];simp
  obtain⟨g,cap,e,hc,hg,am⟩:=h.list ag;have a6:=h.wd.tM;rw[e]at a6;obtain⟨t,ht⟩:∃t,b[i]?=ae t:=⟨_,bf ag⟩;obtain⟨c1,c2,hx,hr⟩:=am i t ht;have h8:=h.wd.cI;refine XO h.oW a6 ag h8 (h.known.apart g hg) c1 c2 rfl (h.new (aL _)) λx=> ?_;obtain⟨H,ac⟩:∃H,w.alloc (.cells #[ptr t.1,ptr t.2.1] 42)=H:=⟨_,rfl⟩;have h1:PW a W j f O R H b:=ac▸h.grown _;have b0:H.cell? ⟨w.heap.size,0,af⟩=ae (ptr t.1):=ac▸kP w 42 rfl;have b1:H.cell? ⟨w.heap.size,1,af⟩=ae (ptr t.2.1):=ac▸kP w 42 rfl;have a1:¬O w.heap.size:=h.new (aL _);rw[ac];have an:=h1.wd.tw i t ht;obtain⟨rv,a2,_⟩:=an.ref;obtain⟨ao,ci,aJ⟩:∃ao ci,rv=.slice ao t.2.2.length ci:=by
   rcases a2.cases with⟨e,rfl⟩|⟨g,cap,rfl,_⟩;·exact⟨af,0,by rw[e];rfl⟩
   ·exact⟨_,_,rfl⟩
  have aa:=a2.cell;rw[aJ]at aa;have tail:∀(u:BR)(r:ak) (x:Nat->au),aO H r->aI Xm O u r->BR.Sub R u->ay aj k O (aw (FD 7 [] (T7 o (.int .i64 11) (ptr W) (.bool aq) (.int .i64 (i:Int)) (ptr w.heap.size) (x 10) x) Bd) (c::s)) r:=by
   intro u r x l v B;have h2:=h1.on l v B;refine XN a1 (l.cell b0) (l.cell b1) (F1 h2 ag ht) λad O' R3 w3 y=> ?_;obtain⟨rfl,rfl,p,U,Z⟩:=y;refine⟨rfl,λx=> ?_⟩;have h3:=h2.on p U Z;have hB:=F2 (Post:=k) h3 ht (YY a) (.inl YZ);rw[YX]at hB;refine XF a1 (p.cell (l.cell b0)) (p.cell (l.cell b1)) ag hB λad O4 R4 w4 y=> ?_;obtain⟨rfl,aU,aR,hA⟩:=y;exact⟨rfl,λx=>ih (i+1) ag aU O4 R4 w4 aR x hA.pw (hA.ps.trans ab)⟩
  have yU:∀(a8 N:Nat),a8+N=t.2.2.length->∀(u:BR)(r:ak) (x:Nat->au),aO H r->aI Xm O u r->BR.Sub R u->ay aj k O (aw (FD 7 [] (T7 o (.int .i64 11) (ptr W) (.bool aq) (.int .i64 (i:Int)) (ptr w.heap.size) (.int .i64 (N:Int)) x) uc) (c::s)) r:=by
   intro a8;induction a8 with
   |zero=>
    intro N hk u r x l v B;exact XH a1 (l.cell b0) (l.cell b1) (v.apart _ (B _ _ hr)) (l.cell aa) ag λx=>tail u r x l v B
   |succ a8 aQ=>
    intro N hk u r x l v B;obtain⟨e,he⟩:∃e,t.2.2[N]?=ae e:=⟨_,bf ag⟩;obtain⟨kb,b2,aP,hp,_⟩:∃g cap,rv=.slice (ae ⟨g,0,af⟩) t.2.2.length cap/\oJ H g t.2.2/\t.2.2.length<=cap:=by
     rcases a2.cases with⟨e',_⟩|h;·rw[e']at he;simp at he
     ·exact h
    have ai:=a2.cell;rw[aP]at ai;have al:=B _ _ hr;have ap:u kb kb:=xa (rp v al (l.cell ai));have ar:(keyOf e).size<=9223372036854775807:=by have:=EC a2.short (cG he);omega
    refine XI a1 (l.cell b0) (l.cell b1) (v.apart _ al) (l.cell ai) ag a2.cI (v.apart _ ap) (l.cell (hp N e he).1) (KY (h1.on l v B) ag ht ar) λad O' R3 w3 y=> ?_;obtain⟨rfl,rfl,p,U,Z⟩:=y;exact⟨rfl,λx=>aQ (N+1) ag R3 w3 x (l.trans p) U (B.trans Z)⟩
  refine XJ a1 b0 b1 (h1.known.apart _ hr) aa (Y2 h1.known hx an.ix) (λad O' R' w' y=> ?_) λad O' R' w' y x=> ?_
  ·obtain⟨rfl,rfl,p,U,Z⟩:=y;exact⟨rfl,a1,p.cell b0,p.cell b1,U.apart _ (Z _ _ hr),p.cell aa⟩
  ·obtain⟨rfl,rfl,p,U,Z⟩:=y;exact yU t.2.2.length 0 ag R' w' x p U Z
theorem Yf(hK:aI Xm (λ_=>False) R a)(hS:ScriptIn a y t)(a6:t.length<=9223372036854775807):MC k 7 #[.slice y t.length h,.int .i64 11] (λ_=>False) a (λa8 r v B=>a8=.bool aq/\∃j f b,PW a a.heap.size j f r v B b):=by
 intro c s hn;have ac:aI Xm (λ_=>False) (R.add a.heap.size a.heap.size) (a.alloc (.cells #[.slice af 0 0,.int .i64 11] 28)):=hK.boxed (v:=.agg #[.slice af 0 0,.int .i64 11]) (sK (iP (l:=[.slice af 0 0,.int .i64 11]) ⟨.snil 0 0,.int _ _,trivial⟩)) 28;have ad:=ar3 a 11;have h0:PW a a.heap.size (.slice af 0 0) (λa1=>if a1=a.heap.size then 100 else 0) (λ_=>False) (R.add a.heap.size a.heap.size) (a.alloc (.cells #[.slice af 0 0,.int .i64 11] 28)) []:=⟨ac,ad,.inr ⟨rfl,rfl⟩,dw a _,λa1 hk=>if_neg ag,λa1 l=>l.elim⟩;refine XG rfl (Yg h0) λu O1 R1 w1 hu=> ?_;obtain⟨rfl,ab,aF,ar,h1,al⟩:=hu;refine⟨rfl,?_⟩;have ap:∀(H i:Nat),H+i=t.length->∀(j:au)(f:Nat->Nat)(O:Nat->Prop)(R:BR)(w:ak)(b:TS) (x:Nat->au),PW a a.heap.size j f O R w b->0<b.length->ay aj k O (GF 7 (c::s) (oL (.slice y t.length h) a.heap.size aq i x) i7) w:=by
  intro H;induction H with
  |zero=>
   intro i hi j f O R w b x l U;refine XE ag λx=> ?_;exact Q0 (ps:=b.map pp) (by simpa using U) (λr v B a2 W Z=>hn _ r v B ⟨rfl,j,a2,W,Z⟩) b.length 0 az f O R w b x l rfl
  |succ H ih=>
   intro i hi j f O R w b x l U;obtain⟨o,ho⟩:∃o,t[i]?=ae o:=⟨_,bf ag⟩;obtain⟨⟨fs,ms,fa,ma,fc,mc,an⟩,pb,po,ao,am⟩:=hS i o ho;subst ao;have a7:∀(p:Nat) u,o.cells[p]?=ae u->¬O pb/\w.cell? ⟨pb,po+i*9+p,af⟩=ae u:=λp u hj=>l.cell (am p u hj);have N:=a7 0 _ rfl;by_cases hk:o.kd<=11
   ·refine XM (kd:=o.kd) (ov:=o.cells.toList.tail) ag a6 N.1 N.2 rfl (λp u hj=> ?_) hk (Y1 l U an) λa8 r v B hv=> ?_;·rw[jF];exact(a7 p u (by rw[<-hj];rw[<-zF];rfl)).2
    ·obtain⟨rfl,aa,a2,W,Z,ai⟩:=hv;exact⟨aq,rfl,λx=>ih (i+1) ag aa a2 r v B W x Z ai⟩
   ·exact XK ag a6 N.1 N.2 hk λx=>ih (i+1) ag j f O R w b x l U
 intro x;exact ap t.length 0 ag ab aF O1 R1 w1 ar x h1 al
end
