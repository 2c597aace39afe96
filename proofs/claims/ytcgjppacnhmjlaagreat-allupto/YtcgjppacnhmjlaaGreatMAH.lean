/- Own texts: GdA, UnG, RefA, RefB. -/
import Derived.Test.YtcgjppacnhmjlaaGreatMAE
import Derived.Test.YtcgjppacnhmjlaaGreatMW
import Derived.Test.YtcgjppacnhmjlaaGreatMQ
set_option linter.all false
set_option maxRecDepth 100000
set_option maxHeartbeats 2000000
open Array renaming getElem?_toList->zF
open Bool renaming true->aq,false->ax,eq_iff_iff->xx
open Decidable renaming decide->aM
open Go renaming World->ak,Value->au,cell_later->aS,Frame->aC,Goroutine->aX,Calls->aE,heap_alloc_new->cY,Addr->aH,undef->aN,execOp->bp,maxLen->cE,wp_loop_rounds->mE,rounds_succ->mH,resolve->mI,TypeInfo->qI,binOp->kh,invoke->pL,builtin->Af,run_eql_ptr_same->aH4
open Go.Frame renaming enter->bG
open Go.IntKind renaming i64->cZ,wrap_i64->ft
open Go.Lib renaming toList_data->Ot
open Go.Op renaming bytesLess->dt
open Go.Proofs.Tryz renaming prog->aj,func70->D7,ntmps70->Hf,func57->OZ,func41->P1,underlying31->az5,ntmps57->aF1,ntmps41->aF7,ntmps25->aG0,func25->aJ4
open Go.Result renaming andThen_ok->GX
open Go.RowKit renaming Below->aA,Hid->aB
open Go.RowKit.Below renaming refl->cD
open Go.Sem renaming run_pure->Hm,run_bind->Hn
open Go.Value renaming ownBlock->fX
open Go.World renaming cell?->bL,size_alloc->dh,frozen?->gu,setCell_alloc_new->xg,drewN_drewN->sT
open Inhabited renaming default->fM
open List renaming getElem?_eq_getElem->bf,getElem?_eq_some_iff->cu,mem_of_getElem?->cG,take_of_length_le->fU,take_append_drop->jW,length_eq_zero_iff->kY,getElem?_of_mem->lJ,pairwise_cons->kZ,take_add_one->mC,getElem?_take->nv,getElem?_drop->ny,length->jk,append_nil->og,length_take->sW,map_cons->qG,drop_eq_nil_of_le->zD,pairwise_iff_getElem->Cu,exists_cons_of_ne_nil->GO,map_toArray->CM,map_nil->zZ,countP_cons_of_pos->ND,getElem_cons_drop->NG,countP_eq_zero->NW,countP_cons_of_neg->aw3
open Nat renaming le_refl->aL,zero_le->fL,lt_or_ge->l9,lt_trichotomy->sV,lt_or_eq_of_le->xp,not_lt_zero->xy,min_eq_left->Oo,le_of_lt_succ->aA1
open Option renaming some->ae,none->af,map_eq_some_iff->ji
open Option.some renaming inj->er
open UInt8 renaming toNat_inj->xv
namespace Go.Proofs.YtcgjppacnhmjlaaGreat
open Go Go.Conc Go.ConcN Go.Conc.Lib Go.ConcR.Gen Go.RowKit
namespace Sim
section
variable {o:au->ak->Prop} {O:Nat->Prop} {g:aX} {w:ak} {R:BR}
theorem ay.Q4{e base size bytes n m c:Nat}{k:qI}{z v:au}{xs news:List au}{ad:aH}(s x t:Nat)(hi:aj.info? e=ae k)(hz:k.zero=ae z)(ac:k.size=size)(a6:k.bytes=bytes)(ao:z.cells.size=size)(B:0<size)(hK:aI Xm O R w)(hv:VR Xm.G R v v)(am:VR Xm.G R (.slice (ae ad) m c) (.slice (ae ad) m c))(aa:w.ownsRow base e size v n xs)(hl:news.length=m*size)(a8:∀j u,news[j]?=ae u->w.cell? (ad.add j)=ae u)(U:∀u∈news,u.oneCell'=aq)(hm:0<m)(a1:n+m<=cE)(a7:(n+m)*bytes<=140737488355328)(a2:base<=w.heap.size)(hn:∀a cap b f,b.ownsRow base e size (.slice (ae ⟨a,0,af⟩) (n+m) cap) (n+m) (xs++news)->xY v.ownBlock w b->aI Xm O f b->VR Xm.G f (.slice (ae ⟨a,0,af⟩) (n+m) cap) (.slice (ae ⟨a,0,af⟩) (n+m) cap)->BR.Sub R f->(v.ownBlock=ae a\/a=w.heap.size)->ay aj o O (bt g (.slice (ae ⟨a,0,af⟩) (n+m) cap)) b)(ab:g.status=.running:=by kernel_rfl)(h:dW g (lr g):=by exact bJ)(r:(oG g).op=.call {callee:=.builtin .append,args:= #[.tmp s,.tmp x],argTypes:= #[t,t]}:=by kernel_rfl)(ok:iu aj fj aq [71] (oG g).op=true:=by kernel_rfl)(p:aj.underlying t=ae (.slice e):=by kernel_rfl)(y:(aG g).eval (.tmp s)=v:=by kernel_rfl)(H:(aG g).eval (.tmp x)=.slice (ae ad) m c:=by kernel_rfl):ay aj o O g w:=by
 refine .Z0 (U:=[s,x]) (St:=λN b=>∃a cap,N=.slice (ae ⟨a,0,af⟩) (n+m) cap/\b.ownsRow base e size (.slice (ae ⟨a,0,af⟩) (n+m) cap) (n+m) (xs++news)/\xY v.ownBlock w b/\(v.ownBlock=ae a\/a=w.heap.size)) ab h (by rw[r];simp[lx,sJ]) ok hK (λt p=> ?_) (λtp d=> ?_) λN b f ai hk an al B=> ?_
 ·simp at p;rcases p with rfl|rfl;·rw[y];exact hv
  ·rw[H];exact am
 ·obtain⟨a,cap,b,hr,W,l,Z,h5⟩:=run_append_lies (P:=aj) (Sim.re w tp d) t (oG g).type base e k z size bytes p hi hz ac a6 ao B v n xs aa ad m c news hl a8 U hm a1 a7 a2 w.heap.size rfl;refine⟨_,b,?_,a,cap,rfl,W,⟨l.size,l.block,l.os,l.output⟩,Z⟩;unfold bp;simp only[r,mI,pL,Af,Hn,Hm,GX,CM,qG,zZ,y,H,hr]
 ·obtain⟨a,cap,rfl,q1,q2,q3⟩:=ai;exact hn a cap b f q1 q2 hk an al q3
end
noncomputable def vz:Code:=(Tryz.f21.body).getD .skip
def Ar(v0 v3:au)(x:Nat->au):Array Value:= #[v0,x 1,x 2,v3,x 4,x 5,x 6,x 7,x 8,x 9,x 10,x 11,x 12,x 13,x 14,x 15,x 16,x 17,x 18]
theorem UQ:∃a,aj.info? 46=ae a/\a.zero=ae (.agg #[.string ⟨#[]⟩,.int .i64 0])/\a.size=2/\a.bytes=24:=⟨(aj.info? 46).getD fM,ah,ah,ah,ah⟩
section
variable {o:au->ak->Prop} {O:Nat->Prop} {W:ak} {R:BR} {f b gb m ci:Nat} {ao:Option aH} {c:aC} {k:List aC}
noncomputable def wz:Array Oper:=rO (cd [1,1,0] vz)
noncomputable def Kj:List Item:=[.code (cd [1,1,1] vz)]
theorem Wz(U:¬O f)(a1:W.cell? ⟨f,0,af⟩=ae (.slice ao 0 ci))(t:W.heap.size=b)(B:¬O b)(hn:ay aj o O (aw (c.finish (ptr b)) k) (W.alloc (.cells #[.slice af 0 0] 36))):ay aj o O (aw (bG aj 21 #[ptr f] .normal) (c::k)) W:=by
 have w:(W.alloc (.cells #[.slice af 0 0] 36)).cell? ⟨b,0,af⟩=ae (.slice af 0 0):=by unfold bL;rw[<-t,cY];rfl
 have zy:(W.alloc (.cells #[.slice af 0 0] 36)).frozen? ⟨b,0,af⟩=false:=by unfold gu;rw[<-t,cY];rfl
 have R:=(dw W (.cells #[.slice af 0 0] 36)).cell a1;refine .K 7 ?_;refine .Bx #[.slice af 0 0] b t 36 ?_;refine .K 3 ?_;refine .T 21 [] (c::k) (λx=>Ar (ptr f) (ptr b) x) [.code (cd [1,1,0] vz),.code (cd [1,1,1] vz)] λx=> ?_
 have key:=ay.mixed (Post:=o) (ops:=wz) (id:=2) (df:=[]) (fr:=FD 21 [] #[] []) (cs:=c::k) (k:=Kj) (tm:=Ar (ptr f) (ptr b) x) (O:=O) (W:=(W.alloc (.cells #[.slice af 0 0] 36))) [9,12] (λi=>VN [ptr b,ptr b,ptr b,ptr b,.slice af 0 0,ptr f,ptr f,ptr f,.slice ao 0 ci,aN,ptr b,ptr b] i) (λs u a j=>(s=0/\u=[]/\a=O/\j=(W.alloc (.cells #[.slice af 0 0] 36)))\/(s=1/\u=[.slice af 0 0]/\a=O/\j=(W.alloc (.cells #[.slice af 0 0] 36)))\/(s=2/\a=O/\j=(W.alloc (.cells #[.slice af 0 0] 36))))
  ah ah (λs u a j p aa i Z r=> ?_) (λs u a j y rest p a7 a6 H hq l=> ?_) (λu a j y p a6 hq=> ?_) (.inl ⟨rfl,rfl,rfl,rfl⟩)
 ·exact .E _ key
 ·have hf:¬a b/\j.cell? ⟨b,0,af⟩=ae (.slice af 0 0)/\¬a f/\j.cell? ⟨f,0,af⟩=ae (.slice ao 0 ci):=by
   have ab:s<2:=aa;rcases p with⟨_,_,rfl,rfl⟩|⟨_,_,rfl,rfl⟩|⟨rfl,_⟩;·exact⟨B,w,U,R⟩
   ·exact⟨B,w,U,R⟩
   ·omega
  obtain⟨f1,f2,f3,f4⟩:=hf;have a2:i<13:=Z
  match i,a2,r with
  |0,_,_=>exact .I
  |1,_,_=>exact .I
  |2,_,_=>exact .I
  |3,_,_=>exact .I
  |4,_,_=>exact .D ⟨b,0,af⟩ f1 f2
  |5,_,_=>exact .I
  |6,_,_=>exact .I
  |7,_,_=>exact .I
  |8,_,_=>exact .D ⟨f,0,af⟩ f3 f4
  |9,_,r=>cases r
  |10,_,_=>exact .I
  |11,_,_=>exact .I
  |12,_,r=>cases r
  |i+13,Z,_=>omega
 ·have a8:s<2:=a7;have e0:cA wz wz.size=[6,7,8,9,10,11,12,13,14,15,16,17]:=ah
  match s,a8 with
  |0,_=>
   have v:cB y 10 (.slice af 0 0)=y:=gU (H 4 ah ah);have N:cB (cB y 10 (.slice af 0 0)) 14 (.slice ao 0 ci)=y:=by rw[v];exact gU (H 8 ah ah)
   rw[<-N]at l⊢;rcases p with⟨_,rfl,rfl,rfl⟩|⟨h,_⟩|⟨h,_⟩;·exact .Bp (f:=21) (i:=9) (v:=.slice af 0 0) ah ah ah (by cases ao<;>exact .I) (l (.slice af 0 0) _ _ (.inr (.inl ⟨rfl,rfl,rfl,rfl⟩)))
   ·cases h
   ·cases h
  |1,_=>
   rcases p with⟨h,_⟩|⟨_,rfl,rfl,rfl⟩|⟨h,_⟩;·cases h
   ·have v:cB y 15 (.slice af 0 0)=y:=gU (hq 0 ag);have N:cB (cB y 15 (.slice af 0 0)) 17 (ptr b)=y:=by rw[v];exact gU (H 11 ah ah)
    have l:=l aN _ _ (.inr (.inr ⟨rfl,rfl,rfl⟩));rw[show([9,12]:List Nat).getD 1 0=12 from rfl,Le ah]at l;rw[<-N]at l⊢;refine .S ⟨b,0,af⟩ (.slice af 0 0) (.slice af 0 0) rfl B w zy ?_;rw[<-t,xg];rw[t];exact .E _ l
   ·cases h
 ·rcases p with⟨h,_⟩|⟨h,_⟩|⟨_,rfl,rfl⟩;·cases h
  ·cases h
  ·refine .K 6 ?_;refine .K 2 ?_;exact .E (aw (c.finish (ptr b)) k) hn
theorem WA{news:List au}(a8:¬O f)(ac:W.cell? ⟨f,0,af⟩=ae (.slice (ae ⟨gb,0,af⟩) m ci))(a6:W.heap.size=b)(a1:¬O b)(hm:0<m)(ap:m<=3000)(hK:aI Xm O R (W.alloc (.cells #[.slice af 0 0] 36)))(hv:VR Xm.G R (.slice (ae ⟨gb,0,af⟩) m ci) (.slice (ae ⟨gb,0,af⟩) m ci))(hl:news.length=m*2)(ai:∀aa u,news[aa]?=ae u->(W.alloc (.cells #[.slice af 0 0] 36)).cell? ((⟨gb,0,af⟩:aH).add aa)=ae u)(h1:∀u∈news,u.oneCell'=aq)(hn:∀a cap l p,l.ownsRow W.heap.size 46 2 (.slice (ae ⟨a,0,af⟩) (0+m) cap) (0+m) ([]++news)->aO (W.alloc (.cells #[.slice af 0 0] 36)) l->aI Xm O p l->VR Xm.G p (.slice (ae ⟨a,0,af⟩) (0+m) cap) (.slice (ae ⟨a,0,af⟩) (0+m) cap)->BR.Sub R p->a=(W.alloc (.cells #[.slice af 0 0] 36)).heap.size->ay aj o O (aw (c.finish (ptr b)) k) (l.setCell ⟨b,0,af⟩ (.slice (ae ⟨a,0,af⟩) (0+m) cap))):ay aj o O (aw (bG aj 21 #[ptr f] .normal) (c::k)) W:=by
 have Z:(W.alloc (.cells #[.slice af 0 0] 36)).cell? ⟨b,0,af⟩=ae (.slice af 0 0):=by unfold bL;rw[<-a6,cY];rfl
 have zy:(W.alloc (.cells #[.slice af 0 0] 36)).frozen? ⟨b,0,af⟩=false:=by unfold gu;rw[<-a6,cY];rfl
 have cr:=(dw W (.cells #[.slice af 0 0] 36)).cell ac;refine .K 7 ?_;refine .Bx #[.slice af 0 0] b a6 36 ?_;refine .K 3 ?_;refine .T 21 [] (c::k) (λx=>Ar (ptr f) (ptr b) x) [.code (cd [1,1,0] vz),.code (cd [1,1,1] vz)] λx=> ?_
 have key:=ay.mixed (Post:=o) (ops:=wz) (id:=2) (df:=[]) (fr:=FD 21 [] #[] []) (cs:=c::k) (k:=Kj) (tm:=Ar (ptr f) (ptr b) x) (O:=O) (W:=(W.alloc (.cells #[.slice af 0 0] 36))) [9,12] (λi=>VN [ptr b,ptr b,ptr b,ptr b,.slice af 0 0,ptr f,ptr f,ptr f,.slice (ae ⟨gb,0,af⟩) m ci,aN,ptr b,ptr b] i) (λs B v t=>v=O/\((s=0/\B=[]/\t=(W.alloc (.cells #[.slice af 0 0] 36)))\/∃a cap l p,(l.ownsRow W.heap.size 46 2 (.slice (ae ⟨a,0,af⟩) (0+m) cap) (0+m) ([]++news)/\aO (W.alloc (.cells #[.slice af 0 0] 36)) l/\aI Xm O p l/\VR Xm.G p (.slice (ae ⟨a,0,af⟩) (0+m) cap) (.slice (ae ⟨a,0,af⟩) (0+m) cap)/\BR.Sub R p/\a=(W.alloc (.cells #[.slice af 0 0] 36)).heap.size)/\((s=1/\B=[.slice (ae ⟨a,0,af⟩) (0+m) cap]/\t=l)\/(s=2/\t=l.setCell ⟨b,0,af⟩ (.slice (ae ⟨a,0,af⟩) (0+m) cap)))))
  ah ah (λs B v t j ao i hi w=> ?_) (λs B v t y rest j am al hd hq r=> ?_) (λB v t y j al hq=> ?_) ⟨rfl,.inl ⟨rfl,rfl,rfl⟩⟩
 ·exact .E _ key
 ·have hf:¬v b/\t.cell? ⟨b,0,af⟩=ae (.slice af 0 0)/\¬v f/\t.cell? ⟨f,0,af⟩=ae (.slice (ae ⟨gb,0,af⟩) m ci):=by
   have ar:s<2:=ao;obtain⟨rfl,j⟩:=j;rcases j with⟨_,_,rfl⟩|⟨a,cap,l,p,⟨_,H,_⟩,⟨_,_,rfl⟩|⟨rfl,_⟩⟩;·exact⟨a1,Z,a8,cr⟩
   ·exact⟨a1,H.cell Z,a8,H.cell cr⟩
   ·omega
  obtain⟨f1,f2,f3,f4⟩:=hf;have ad:i<13:=hi
  match i,ad,w with
  |0,_,_=>exact .I
  |1,_,_=>exact .I
  |2,_,_=>exact .I
  |3,_,_=>exact .I
  |4,_,_=>exact .D ⟨b,0,af⟩ f1 f2
  |5,_,_=>exact .I
  |6,_,_=>exact .I
  |7,_,_=>exact .I
  |8,_,_=>exact .D ⟨f,0,af⟩ f3 f4
  |9,_,w=>cases w
  |10,_,_=>exact .I
  |11,_,_=>exact .I
  |12,_,w=>cases w
  |i+13,hi,_=>omega
 ·have an:s<2:=am;have e0:cA wz wz.size=[6,7,8,9,10,11,12,13,14,15,16,17]:=ah
  match s,an with
  |0,_=>
   have U:cB y 10 (.slice af 0 0)=y:=gU (hd 4 ah ah);have a2:cB (cB y 10 (.slice af 0 0)) 14 (.slice (ae ⟨gb,0,af⟩) m ci)=y:=by rw[U];exact gU (hd 8 ah ah)
   rw[<-a2]at r⊢;obtain⟨rfl,j⟩:=j;rcases j with⟨_,rfl,rfl⟩|⟨_,_,_,_,_,⟨h,_⟩|⟨h,_⟩⟩
   ·obtain⟨ti,q1,q2,q3,q4⟩:=UQ;refine .Q4 (R:=R) (base:=W.heap.size) (n:=0) (m:=m) (xs:=[]) (news:=news) (ad:=⟨gb,0,af⟩) (c:=ci) 10 14 34 q1 q2 q3 q4 rfl ag hK (.snil 0 0) hv ⟨az,.inl ⟨rfl,rfl⟩⟩ hl ai h1 hm (by unfold cE;omega) ag (by rw[dh];omega) λg2 a7 W2 R2 k1 N k3 k4 k5 k6=> ?_;have r:=r (.slice (ae ⟨g2,0,af⟩) (0+m) a7) v W2 ⟨rfl,.inr ⟨g2,a7,W2,R2,⟨k1,⟨N.size,λab H=>N.block ab H (by simp[fX]),N.os,N.output⟩,k3,k4,k5,k6.elim (λh=>by simp[fX]at h) id⟩,.inl ⟨rfl,rfl,rfl⟩⟩⟩;rw[show([9,12]:List Nat).getD 0 0=9 from rfl]at r;exact .E _ r
   ·cases h
   ·cases h
  |1,_=>
   obtain⟨rfl,j⟩:=j;rcases j with⟨h,_⟩|⟨a,cap,l,p,hh,⟨_,rfl,rfl⟩|⟨h,_⟩⟩;·cases h
   ·have U:cB y 15 (.slice (ae ⟨a,0,af⟩) (0+m) cap)=y:=gU (hq 0 ag);have a2:cB (cB y 15 (.slice (ae ⟨a,0,af⟩) (0+m) cap)) 17 (ptr b)=y:=by rw[U];exact gU (hd 11 ah ah)
    have r:=r aN _ _ ⟨rfl,.inr ⟨a,cap,t,p,hh,.inr ⟨rfl,rfl⟩⟩⟩;rw[show([9,12]:List Nat).getD 1 0=12 from rfl,Le ah]at r;rw[<-a2]at r⊢;refine .S ⟨b,0,af⟩ (.slice (ae ⟨a,0,af⟩) (0+m) cap) (.slice af 0 0) rfl a1 (hh.2.1.cell Z) ((World.frozen?_of_block (a:=⟨b,0,af⟩) (hh.2.1.block b (by rw[dh];omega))).trans zy) ?_;exact .E _ r
   ·cases h
 ·obtain⟨rfl,j⟩:=j;rcases j with⟨h,_⟩|⟨a,cap,l,p,⟨h1,h2,h3,h4,h5,h6⟩,⟨h,_⟩|⟨_,rfl⟩⟩;·cases h
  ·cases h
  ·refine .K 6 ?_;refine .K 2 ?_;exact .E (aw (c.finish (ptr b)) k) (hn a cap l p h1 h2 h3 h4 h5 h6)
end
noncomputable def gd:Code:=(Tryz.f58.body).getD .skip
def il(v0 a v5 b c v9 v10:au)(x:Nat->au):Array Value:= #[v0,a,x 2,x 3,x 4,v5,b,x 7,c,v9,v10,x 11,x 12,x 13,x 14,x 15,x 16,x 17,x 18,x 19,x 20,x 21,x 22,x 23,x 24,x 25,x 26,x 27,x 28,x 29,x 30,x 31,x 32,x 33,x 34,x 35,x 36,x 37,x 38,x 39,x 40,x 41,x 42,x 43,x 44,x 45,x 46,x 47,x 48,x 49,x 50,x 51,x 52,x 53,x 54,x 55,x 56,x 57,x 58,x 59,x 60,x 61,x 62,x 63,x 64,x 65,x 66,x 67,x 68,x 69,x 70,x 71,x 72]
noncomputable def oY:List Item:=[.code (cd [1,1,0,1,2,2] gd),.inLoop (cd [1,1,0,1,2,2] gd),.inBlock 0,.code (cd [1,1,1] gd)]
noncomputable def ua:List Item:=[.code (cd [1,1,1,1,1,0,1,2,2] gd),.inLoop (cd [1,1,1,1,1,0,1,2,2] gd),.inBlock 2,.code (cd [1,1,1,1,1,1] gd)]
section
variable {o:au->ak->Prop} {O:Nat->Prop} {W:ak} {f l b gb m n ci cj i t:Nat} {ao bo:Option aH} {c:aC} {k:List aC} {x:Nat->au} {kk:ByteArray} {K:au->(Nat->Prop)->BR->ak->Prop}
theorem Xj(a:¬O f)(b:W.cell? ⟨f,0,af⟩=ae (.slice ao n ci))(h:∀x,ay aj o O (aw (FD 58 [] (il (ptr f) (ptr l) (.int .i64 (n:Int)) (.int .i64 ((0:Nat):Int)) (x 8) (x 9) (x 10) x) oY) (c::k)) W):ay aj o O (aw (bG aj 58 #[ptr f,ptr l] .normal) (c::k)) W:=by
 refine .K 9 ?_;refine .L ⟨f,0,af⟩ (.slice ao n ci) a b ?_;refine .K 10 ?_;exact .T 58 [] (c::k) (λx=>il (ptr f) (ptr l) (.int .i64 (n:Int)) (.int .i64 ((0:Nat):Int)) (x 8) (x 9) (x 10) x) oY h
theorem Xg(r:¬O l)(s:W.cell? ⟨l,0,af⟩=ae (.slice (ae ⟨gb,0,af⟩) m cj))(R:i<m)(U:m<=3000)(Z:t<=6000)(y:¬O gb)(B:W.cell? ⟨gb,i*2,af⟩=ae (.string kk))(w:MC o 41 #[ptr f,.string kk] O W K)(p:∀u b j h,K u b j h->∃a,u=.tuple #[.int .i64 a,.bool aq]/\∀x,ay aj o b (aw (FD 58 [] (il (ptr f) (ptr l) (.int .i64 (t:Int)) (.int .i64 ((i+1:Nat):Int)) (x 8) (x 9) (x 10) x) oY) (c::k)) h):ay aj o O (aw (FD 58 [] (il (ptr f) (ptr l) (.int .i64 (t:Int)) (.int .i64 (i:Int)) (x 8) (x 9) (x 10) x) oY) (c::k)) W:=by
 have v:cZ.wrap ((i:Int)+1)=((i+1:Nat):Int):=by rw[ft];omega
 have N:cZ.wrap ((t:Int)+1)=((t+1:Nat):Int):=by rw[ft];omega
 refine .K 7 ?_;refine .L ⟨l,0,af⟩ (.slice (ae ⟨gb,0,af⟩) m cj) r s ?_;refine .K 2 ?_;refine .V 22 (.bool (aM ((i:Int)<(m:Int)))) (.bool aq) (by rw[decide_eq_true ag]) ?_;refine .K 11 ?_;refine .L ⟨l,0,af⟩ (.slice (ae ⟨gb,0,af⟩) m cj) r s ?_;refine .K 1 ?_;refine .X ⟨gb,0,af⟩ m cj (i:Int) 2 ⟨gb,i*2,af⟩ ⟨ag,ag⟩ (dr ag) ?_;refine .K 1 ?_;refine .L ⟨gb,i*2,af⟩ (.string kk) y B ?_;refine .K 1 ?_;refine .C 41 #[ptr f,.string kk] (λx=>FD 58 [] (il (ptr f) (ptr l) (.int .i64 (t:Int)) (.int .i64 (i:Int)) (x 8) (x 9) (x 10) x) [.inRegion (rO (cd [1,1,0,1,2,2,1,0,2,0] gd)) [9,10,11,12,13,14],.code (cd [1,1,0,1,2,2,1,0,2,1] gd),.inBlock 1,.code (cd [1,1,0,1,2,2,1,1] gd),.inLoop (cd [1,1,0,1,2,2] gd),.inBlock 0,.code (cd [1,1,1] gd)]) (c::k) w λx u b j h H=> ?_;obtain⟨a,rfl,p⟩:=p u b j h H;refine .K 17 ?_;refine .V 24 (.int .i64 (cZ.wrap ((i:Int)+1))) (.int .i64 ((i+1:Nat):Int)) (by rw[v]) ?_;refine .K 3 ?_;exact .T 58 [] (c::k) (λx=>il (ptr f) (ptr l) (.int .i64 (t:Int)) (.int .i64 ((i+1:Nat):Int)) (x 8) (x 9) (x 10) x) oY p
theorem Xf(r:¬O l)(s:W.cell? ⟨l,0,af⟩=ae (.slice (ae ⟨gb,0,af⟩) m cj))(R:i<m)(U:m<=3000)(Z:t<=6000)(B:¬O gb)(H:W.cell? ⟨gb,i*2,af⟩=ae (.string kk))(y:MC o 41 #[ptr f,.string kk] O W K)(p:∀u b j h,K u b j h->∃a,u=.tuple #[.int .i64 a,.bool ax]/\∀x,ay aj o b (aw (FD 58 [] (il (ptr f) (ptr l) (.int .i64 ((t+1:Nat):Int)) (.int .i64 ((i+1:Nat):Int)) (x 8) (x 9) (x 10) x) oY) (c::k)) h):ay aj o O (aw (FD 58 [] (il (ptr f) (ptr l) (.int .i64 (t:Int)) (.int .i64 (i:Int)) (x 8) (x 9) (x 10) x) oY) (c::k)) W:=by
 have v:cZ.wrap ((i:Int)+1)=((i+1:Nat):Int):=by rw[ft];omega
 have w:cZ.wrap ((t:Int)+1)=((t+1:Nat):Int):=by rw[ft];omega
 refine .K 7 ?_;refine .L ⟨l,0,af⟩ (.slice (ae ⟨gb,0,af⟩) m cj) r s ?_;refine .K 2 ?_;refine .V 22 (.bool (aM ((i:Int)<(m:Int)))) (.bool aq) (by rw[decide_eq_true ag]) ?_;refine .K 11 ?_;refine .L ⟨l,0,af⟩ (.slice (ae ⟨gb,0,af⟩) m cj) r s ?_;refine .K 1 ?_;refine .X ⟨gb,0,af⟩ m cj (i:Int) 2 ⟨gb,i*2,af⟩ ⟨ag,ag⟩ (dr ag) ?_;refine .K 1 ?_;refine .L ⟨gb,i*2,af⟩ (.string kk) B H ?_;refine .K 1 ?_;refine .C 41 #[ptr f,.string kk] (λx=>FD 58 [] (il (ptr f) (ptr l) (.int .i64 (t:Int)) (.int .i64 (i:Int)) (x 8) (x 9) (x 10) x) [.inRegion (rO (cd [1,1,0,1,2,2,1,0,2,0] gd)) [9,10,11,12,13,14],.code (cd [1,1,0,1,2,2,1,0,2,1] gd),.inBlock 1,.code (cd [1,1,0,1,2,2,1,1] gd),.inLoop (cd [1,1,0,1,2,2] gd),.inBlock 0,.code (cd [1,1,1] gd)]) (c::k) y λx u b j h N=> ?_;obtain⟨a,rfl,p⟩:=p u b j h N;refine .K 15 ?_;refine .V 41 (.int .i64 (cZ.wrap ((t:Int)+1))) (.int .i64 ((t+1:Nat):Int)) (by rw[w]) ?_;refine .K 6 ?_;refine .V 24 (.int .i64 (cZ.wrap ((i:Int)+1))) (.int .i64 ((i+1:Nat):Int)) (by rw[v]) ?_;refine .K 3 ?_;exact .T 58 [] (c::k) (λx=>il (ptr f) (ptr l) (.int .i64 ((t+1:Nat):Int)) (.int .i64 ((i+1:Nat):Int)) (x 8) (x 9) (x 10) x) oY p
theorem Xk(a:¬O l)(b:W.cell? ⟨l,0,af⟩=ae (.slice bo m cj))(j:¬i<m)(p:3000<t)(h:ay aj o O (aw (c.finish (.int .i64 2)) k) W):ay aj o O (aw (FD 58 [] (il (ptr f) (ptr l) (.int .i64 (t:Int)) (.int .i64 (i:Int)) (x 8) (x 9) (x 10) x) oY) (c::k)) W:=by
 refine .K 7 ?_;refine .L ⟨l,0,af⟩ (.slice bo m cj) a b ?_;refine .K 2 ?_;refine .V 22 (.bool (aM ((i:Int)<(m:Int)))) (.bool ax) (by rw[decide_eq_false ag]) ?_;refine .K 8 ?_;refine .V 43 (.bool (aM ((t:Int)>3000))) (.bool aq) (by rw[decide_eq_true ag]) ?_;refine .K 6 ?_;refine .K 2 ?_;exact .E (aw (c.finish (.int .i64 2)) k) h
theorem Xi(s:¬O l)(v:W.cell? ⟨l,0,af⟩=ae (.slice bo m cj))(y:¬i<m)(B:¬3000<t)(r:MC o 21 #[ptr l] O W K)(p:∀u a j h,K u a j h->∃b,u=ptr b/\∀x,ay aj o a (aw (FD 58 [] (il (ptr f) (ptr l) (x 5) (x 6) (x 8) (ptr b) (.int .i64 ((0:Nat):Int)) x) ua) (c::k)) h):ay aj o O (aw (FD 58 [] (il (ptr f) (ptr l) (.int .i64 (t:Int)) (.int .i64 (i:Int)) (x 8) (x 9) (x 10) x) oY) (c::k)) W:=by
 refine .K 7 ?_;refine .L ⟨l,0,af⟩ (.slice bo m cj) s v ?_;refine .K 2 ?_;refine .V 22 (.bool (aM ((i:Int)<(m:Int)))) (.bool ax) (by rw[decide_eq_false ag]) ?_;refine .K 8 ?_;refine .V 43 (.bool (aM ((t:Int)>3000))) (.bool ax) (by rw[decide_eq_false ag]) ?_;refine .K 7 ?_;refine .C 21 #[ptr l] (λx=>FD 58 [] (il (ptr f) (ptr l) (.int .i64 (t:Int)) (.int .i64 (i:Int)) (x 8) (x 9) (x 10) x) [.inRegion (rO (cd [1,1,1,1,0] gd)) [1,2],.code (cd [1,1,1,1,1] gd)]) (c::k) r λx u a j h w=> ?_;obtain⟨b,rfl,p⟩:=p u a j h w;refine .K 9 ?_;exact .T 58 [] (c::k) (λx=>il (ptr f) (ptr l) (x 5) (x 6) (x 8) (ptr b) (.int .i64 ((0:Nat):Int)) x) ua p
theorem Xh(p:¬O b)(r:W.cell? ⟨b,0,af⟩=ae (.slice (ae ⟨gb,0,af⟩) m cj))(N:i<m)(R:m<=3000){kv:Int}(t:¬O gb)(y:W.cell? ⟨gb,i*2,af⟩=ae (.string kk))(B:W.cell? ⟨gb,i*2+1,af⟩=ae (.int .i64 kv))(w:MC o 32 #[ptr f,.string kk,.int .i64 kv] O W K)(s:∀u a j h,K u a j h->∀x,ay aj o a (aw (FD 58 [] (il (ptr f) (ptr l) (x 5) (x 6) (x 8) (ptr b) (.int .i64 ((i+1:Nat):Int)) x) ua) (c::k)) h):ay aj o O (aw (FD 58 [] (il (ptr f) (ptr l) (x 5) (x 6) (x 8) (ptr b) (.int .i64 (i:Int)) x) ua) (c::k)) W:=by
 have v:cZ.wrap ((i:Int)+1)=((i+1:Nat):Int):=by rw[ft];omega
 refine .K 7 ?_;refine .L ⟨b,0,af⟩ (.slice (ae ⟨gb,0,af⟩) m cj) p r ?_;refine .K 2 ?_;refine .V 52 (.bool (aM ((i:Int)<(m:Int)))) (.bool aq) (by rw[decide_eq_true ag]) ?_;refine .K 5 ?_;refine .T 58 [] (c::k) (λx=>il (ptr f) (ptr l) (x 5) (x 6) (x 8) (ptr b) (.int .i64 (i:Int)) x) [.code (cd [1,1,1,1,1,0,1,2,2,1,0,2] gd),.inBlock 3,.code (cd [1,1,1,1,1,0,1,2,2,1,1] gd),.inLoop (cd [1,1,1,1,1,0,1,2,2] gd),.inBlock 2,.code (cd [1,1,1,1,1,1] gd)] λx=> ?_;refine .Q 17 [ptr f,ptr b,ptr b,ptr b,.slice (ae ⟨gb,0,af⟩) m cj,.int .i64 (i:Int),.pointer (ae ⟨gb,i*2,af⟩),.pointer (ae ⟨gb,i*2,af⟩),.string kk,ptr b,ptr b,ptr b,.slice (ae ⟨gb,0,af⟩) m cj,.int .i64 (i:Int),.pointer (ae ⟨gb,i*2,af⟩),.pointer (ae ⟨gb,i*2+1,af⟩),.int .i64 kv] ⟨.I,.I,.I,.I,.D ⟨b,0,af⟩ p r,.I,.X ⟨gb,0,af⟩ m cj (i:Int) 2 ⟨gb,i*2,af⟩ ⟨ag,ag⟩ (dr ag),.I,.D ⟨gb,i*2,af⟩ t y,.I,.I,.I,.D ⟨b,0,af⟩ p r,.I,.X ⟨gb,0,af⟩ m cj (i:Int) 2 ⟨gb,i*2,af⟩ ⟨ag,ag⟩ (dr ag),.I,.D ⟨gb,i*2+1,af⟩ t B,trivial⟩ ?_;refine .K 1 ?_;refine .C 32 #[ptr f,.string kk,.int .i64 kv] (λx=>FD 58 [] (il (ptr f) (ptr l) (x 5) (x 6) (x 8) (ptr b) (.int .i64 (i:Int)) x) [.inRegion (rO (cd [1,1,1,1,1,0,1,2,2,1,0,2] gd)) [17],.inBlock 3,.code (cd [1,1,1,1,1,0,1,2,2,1,1] gd),.inLoop (cd [1,1,1,1,1,0,1,2,2] gd),.inBlock 2,.code (cd [1,1,1,1,1,1] gd)]) (c::k) w λx u a j h H=> ?_;have s:=s u a j h H;refine .K 5 ?_;refine .V 54 (.int .i64 (cZ.wrap ((i:Int)+1))) (.int .i64 ((i+1:Nat):Int)) (by rw[v]) ?_;refine .K 3 ?_;exact .T 58 [] (c::k) (λx=>il (ptr f) (ptr l) (x 5) (x 6) (x 8) (ptr b) (.int .i64 ((i+1:Nat):Int)) x) ua s
theorem Xl(a:¬O b)(h:W.cell? ⟨b,0,af⟩=ae (.slice bo m cj))(p:¬i<m)(j:ay aj o O (aw (c.finish (.int .i64 0)) k) W):ay aj o O (aw (FD 58 [] (il (ptr f) (ptr l) (x 5) (x 6) (x 8) (ptr b) (.int .i64 (i:Int)) x) ua) (c::k)) W:=by
 refine .K 7 ?_;refine .L ⟨b,0,af⟩ (.slice bo m cj) a h ?_;refine .K 2 ?_;refine .V 52 (.bool (aM ((i:Int)<(m:Int)))) (.bool ax) (by rw[decide_eq_false ag]) ?_;refine .K 7 ?_;refine .K 2 ?_;exact .E (aw (c.finish (.int .i64 0)) k) j
end
end Sim
variable {p:Nat->Prop} {j:ak} {h u:Nat} {a:List KV} {s:KV} {r:List UInt8} {v:au}
theorem QI{bx:Nat}{m:List KV}(hS:Open p j)(w:bB p j h a)(U:bB p j u m)(W:j.cell? ⟨bx,0,af⟩=ae (.pointer (ae ⟨u,0,af⟩)))(hf:a.length+m.length<=1000000):aE aj 70 #[.pointer (ae ⟨h,0,af⟩),.func (.func 71) #[] #[.pointer (ae ⟨bx,0,af⟩)]] j λe f=>e=.returned (.int .i64 (full (aW a m)))/\bB p f h (room a (aW a m))/\cF h j f:=by
 obtain⟨n,R,r,s⟩:=w.tree;have N:=cJ r;have HL:aB (∀b,aA j.heap.size j b->aE aj 23 #[.pointer (ae ⟨h,0,af⟩)] b λe f=>e=.returned (.pointer R)/\f=b):=λb c=>n9 (jc ((c.block h N).trans r)) (s.on c).ptr;have HF:aB (∀b,aA j.heap.size j b->aE aj 71 #[.pointer R,.pointer (ae ⟨bx,0,af⟩)] b λe f=>∃l H,e=.returned (.pointer H)/\bD p l f H (aW a m)/\aA j.heap.size j f):=λb c=>(aq0 (hS.later c) (s.on c) (U.on c) (aS c W) hf).mono λe f he=>by
  obtain⟨l,H,h1,h2,h3⟩:=he;exact⟨l,H,h1,h2,c.trans (h3.mono c.size)⟩
 have HZ:aB (∀b l k,bD p l b k (aW a m)->aE aj 24 #[.pointer k] b λe f=>e=.returned (.int .i64 (aW a m).length)/\f=b):=λb l k y=>uK y;have Z:aB (∀b l k L,aA j.heap.size j b->bD p l b k L->aE aj 49 #[.pointer (ae ⟨h,0,af⟩),.pointer R,.pointer k] b λe f=>e=.returned (.bool aq)/\f=b.setCell ⟨h,0,af⟩ (.pointer k)):=λb l k L c y=>yh (jc ((c.block h N).trans r)) (vS ((c.block h N).trans r)) (s.on c).ptr y.ptr;have a1:aB (∀b l k L,aA j.heap.size j b->bD p l b k L->L.length<=3000->bB p (b.setCell ⟨h,0,af⟩ (.pointer k)) h L/\cF h j (b.setCell ⟨h,0,af⟩ (.pointer k))):=λb l k L c y hL=>⟨bB.swap ((c.block h N).trans r) w.out y hL,(cF.jQ c).trans (cF.set h b _)⟩;have a2:aB (∀b,aA j.heap.size j b->bD p n b R a):=λb c=>s.on c;have B:aB (aA j.heap.size j j):=cD _ _;have a7:=w.cI;by_cases t:3000<(aW a m).length
 ·have v:aB (full (aW a m)=2/\room a (aW a m)=a):=by unfold full room;rw[if_pos t,if_pos t];exact⟨rfl,rfl⟩
  have a6:(3000:Int)<((aW a m).length:Int):=ag;clear r s w U W t
  go_enter D7,Hf
  go_wp2
  refine mE 1 ?_;rw[mH]
  go_wp2_with (first
   |(go_at_call 23;refine(HL.out _ B.out).mono ?_;rintro e f ⟨rfl,rfl⟩)
   |(go_at_call 71;refine(HF.out _ B.out).mono ?_;rintro e w2 ⟨l,k,rfl,x,o⟩)
   |(go_at_call 24;refine(HZ.out _ _ _ x).mono ?_;rintro e f ⟨rfl,rfl⟩)
   |(go_at_call 49;refine(Z.out _ _ _ _ o (a2.out _ o)).mono ?_;rintro e w4 ⟨rfl,rfl⟩))
  go_ret
  rw[v.out.1,v.out.2];exact⟨rfl,a1.out _ _ _ _ o (a2.out _ o) a7⟩
 ·have v:aB (full (aW a m)=0/\room a (aW a m)=aW a m):=by unfold full room;rw[if_neg t,if_neg t];exact⟨rfl,rfl⟩
  have a6:¬(3000:Int)<((aW a m).length:Int):=ag;have a8:(aW a m).length<=3000:=ag;clear r s w U W t
  go_enter D7,Hf
  go_wp2
  refine mE 1 ?_;rw[mH]
  go_wp2_with (first
   |(go_at_call 23;refine(HL.out _ B.out).mono ?_;rintro e f ⟨rfl,rfl⟩)
   |(go_at_call 71;refine(HF.out _ B.out).mono ?_;rintro e w2 ⟨l,k,rfl,x,o⟩)
   |(go_at_call 24;refine(HZ.out _ _ _ x).mono ?_;rintro e f ⟨rfl,rfl⟩)
   |(go_at_call 49;refine(Z.out _ _ _ _ o x).mono ?_;rintro e w4 ⟨rfl,rfl⟩))
  go_ret
  rw[v.out.1,v.out.2];exact⟨rfl,a1.out _ _ _ _ o x a8⟩
theorem Tg{x:Nat}{w:ak}:(kh .eql 31 (.pointer (ae ⟨x,0,af⟩)) (.pointer (ae ⟨x,0,af⟩))).run aj w=.ok (.bool aq) w:=by
 obtain⟨i,a,b⟩:=ji.1 Kg;exact aH4 w _ az5 a
theorem Va{w:ak}{m:List KV}(v:Open p w)(f:bB p w h a)(j:bB p w u m)(x:h≠u):aE aj 57 #[.pointer (ae ⟨h,0,af⟩),.pointer (ae ⟨u,0,af⟩)] w λe c=>e=.returned (.int .i64 (full (aW a m)))/\bB p c h (room a (aW a m))/\cF h w c:=by
 have b:=cH w (.cells #[.pointer (ae ⟨u,0,af⟩)] 31);have k:=f.cI;have l:=j.cI;have t:aB (aE aj 70 #[.pointer (ae ⟨h,0,af⟩),.func (.func 71) #[] #[.pointer (ae ⟨w.heap.size,0,af⟩)]] (w.alloc (.cells #[.pointer (ae ⟨u,0,af⟩)] 31)) λe c=>e=.returned (.int .i64 (full (aW a m)))/\bB p c h (room a (aW a m))/\cF h w c):=(QI (v.later b) (f.on b) (j.on b) az ag).mono λe c o=>⟨o.1,o.2.1,(cF.jQ b).trans o.2.2⟩;obtain⟨y,H,r,_⟩:=(f.on b).tree;obtain⟨B,N,s,_⟩:=(j.on b).tree;have heq:=Te x r s;clear f j b r s k l
 go_enter OZ,aF1
 go_wp2_with (go_at_call 70;refine t.out.mono ?_;rintro e c ⟨rfl,k,l⟩)
 go_ret
 exact⟨rfl,k,l⟩
theorem Vb(c:bB p j h a):aE aj 57 #[.pointer (ae ⟨h,0,af⟩),.pointer (ae ⟨h,0,af⟩)] j λe f=>e=.returned (.int .i64 0)/\bB p f h a/\cF h j f:=by
 have b:=cH j (.cells #[.pointer (ae ⟨h,0,af⟩)] 31);have k:aB (bB p (j.alloc (.cells #[.pointer (ae ⟨h,0,af⟩)] 31)) h a/\cF h j (j.alloc (.cells #[.pointer (ae ⟨h,0,af⟩)] 31))):=⟨c.on b,cF.jQ b⟩;have heq:=Tg (x:=h) (w:=j.alloc (.cells #[.pointer (ae ⟨h,0,af⟩)] 31));clear c b
 go_enter OZ,aF1
 go_wp2
 go_ret
 exact⟨rfl,k.out⟩
theorem Qu(a b:List UInt8)(j:Nat)(k:a.take j=b.take j)(o:j<a.length)(p:j<b.length)(l:a[j]≠b[j]):aM (a[j]<b[j])=dt a b:=by
 have c:a=a.take j++a[j]::a.drop (j+1):=by rw[NG,jW]
 have f:b=a.take j++b[j]::b.drop (j+1):=by rw[k,NG,jW]
 rw[xx,decide_eq_true_iff,Bg];constructor
 ·intro h;have:=EE (a.take j) (a.drop (j+1)) (b.drop (j+1)) h;rwa[<-c,<-f]at this
 ·intro h;rw[c,f]at h;rcases o9.mp ((Be _ _ _).mp h)with h|⟨h,_⟩;·exact h
  ·exact absurd h l
theorem Qv(a b:List UInt8)(j:Nat)(k:a.take j=b.take j)(t:j<=a.length)(v:j<=b.length)(w:¬(j<a.length/\j<b.length)):aM (a.length<b.length)=dt a b:=by
 rw[xx,decide_eq_true_iff,Bg];by_cases r:j<a.length
 ·have s:b.length=j:=ag;have e:b=a.take j:=by rw[k];exact(fU ag).symm
  constructor;·intro h;omega
  ·intro h;exfalso;have c:a=b++a.drop j:=by rw[e,jW]
   rw[c]at h;have:bV (b++a.drop j) (b++[]):=by rw[og];exact h
   exact yB _ ((Be _ _ _).mp this)
 ·have e:a=b.take j:=by rw[<-k];exact(fU ag).symm
  have c:b=a++b.drop j:=by rw[e,jW]
  have u:a.length=j:=ag;constructor
  ·intro h;rw[c];have o:b.drop j≠[]:=by intro l;have:=congrArg jk l;simp at this;omega
   obtain⟨y,q,p⟩:=GO o;rw[p];exact Bi a y q
  ·intro h;rcases l9 a.length b.length with f|f;·exact f
   ·exfalso;have:b.drop j=[]:=zD ag;rw[this,og]at c;rw[c]at h;exact kx _ h
theorem Qh(a b:ByteArray)(j:Nat)(l:a.data.toList.take j=b.data.toList.take j)(f:j<a.size)(k:j<b.size)(o:(a[j].toNat:Int)≠(b[j].toNat:Int)):aM (a[j].toNat<b[j].toNat)=dt a.data.toList b.data.toList:=by
 have h:=Qu a.data.toList b.data.toList j l (by simpa using f) (by simpa using k) (λh=>o (by
  have c:a[j]=b[j]:=h;rw[c]))
 rw[<-h,xx,decide_eq_true_iff,decide_eq_true_iff];exact UInt8.lt_iff_toNat_lt
theorem II(a b:ByteArray)(j:Nat)(k:a.data.toList.take j=b.data.toList.take j)(c:j<=a.size)(f:j<=b.size)(l:¬(j<a.size/\j<b.size)):aM (a.size<b.size)=dt a.data.toList b.data.toList:=by
 have h:=Qv a.data.toList b.data.toList j k (by simpa using c) (by simpa using f) (by simpa using l);rw[<-h,xx,decide_eq_true_iff,decide_eq_true_iff];simp
theorem Qi(a b:ByteArray)(j:Nat)(p:a.data.toList.take j=b.data.toList.take j)(l:j<a.size)(o:j<b.size)(h:(a[j].toNat:Int)=(b[j].toNat:Int)):a.data.toList.take (j+1)=b.data.toList.take (j+1):=by
 have c:a.data.toList[j]?=ae a[j]:=bf (by simpa using l);have f:b.data.toList[j]?=ae b[j]:=bf (by simpa using o);have k:a[j]=b[j]:=xv.mp ag;rw[mC,mC,p,c,f,k]
theorem KF(a b:ByteArray)(w:ak)(u:a.size<=9223372036854775807)(v:b.size<=9223372036854775807):aE aj 46 #[.string a,.string b] w λe t=>e=.returned (.bool (dt a.data.toList b.data.toList))/\∃n,t=w.drewN n:=by
 go_enter Tryz.func46,Tryz.ntmps46
 go_wp2
 go_loopg [5] a.size (λgk s5 wr=>∃j:Nat,s5=.int .i64 j/\j<=a.size/\j<=b.size/\gk+j=a.size/\(∃n,wr=w.drewN n)/\aB (a.data.toList.take j=b.data.toList.take j))
 case atStart=>exact⟨0,rfl,fL _,fL _,ag,⟨0,rfl⟩,rfl⟩
 case round=>
  obtain⟨j,rfl,p,r,x,⟨y,rfl⟩,f⟩:=hrel;by_cases k:j<a.size
  ·by_cases l:j<b.size
   ·by_cases o:(a[j].toNat:Int)=(b[j].toNat:Int)
    ·have s:aB (a.data.toList.take (j+1)=b.data.toList.take (j+1)):=Qi a b j f.out k l o
     go_wp2
     go_quiet (fail)
     go_wp2
     go_roundg (gk-1)
     case measure=>omega
     case rel=>exact⟨j+1,by go_num,ag,ag,ag,⟨_,by first|rfl|exact World.drewN_drewN _ _ _⟩,s.out⟩
    ·have h:=Qh a b j f.out k l o;have c:aB (aM (a[j].toNat<b[j].toNat)=dt a.data.toList b.data.toList):=h;clear h
     go_wp2
     go_quiet (fail)
     go_wp2
     go_quiet (fail)
     go_wp2
     go_ret
     exact⟨uF c.out,_,by first|rfl|exact sT _ _ _|(rw[sT,sT])⟩
   ·have c:aB (aM (a.size<b.size)=dt a.data.toList b.data.toList):=II a b j f.out p r ag
    go_wp2
    go_ret
    exact⟨uF c.out,_,rfl⟩
  ·have c:aB (aM (a.size<b.size)=dt a.data.toList b.data.toList):=II a b j f.out p r ag
   go_wp2
   go_ret
   exact⟨uF c.out,_,rfl⟩
def keyOf(e:KV):ByteArray:=⟨e.1.toArray⟩
theorem ud(e:KV):(keyOf e).data.toList=e.1:=by simp[keyOf]
theorem rm(e:KV):(keyOf e).size=e.1.length:=by simp[keyOf,ByteArray.size]
def oJ(w:ak)(g:Nat)(l:List KV):Prop:=∀(i:Nat) (e:KV),l[i]?=ae e->w.cell? ⟨g,i*2,af⟩=ae (.string (keyOf e))/\w.cell? ⟨g,i*2+1,af⟩=ae (.int .i64 e.2)
def cU(k:List UInt8)(l:List KV):Nat:=l.countP λe=>dt e.1 k
theorem ah2(k:List UInt8)(l:List KV)(i:Nat)(h:i<=l.length)(c:∀(t:Nat) e,t<i->l[t]?=ae e->bV e.1 k)(f:∀(t:Nat) e,i<=t->l[t]?=ae e->¬bV e.1 k):cU k l=i:=by
 unfold cU;rw[show l.countP (λe=>dt e.1 k)=(l.take i++l.drop i).countP (λe=>dt e.1 k) by rw[jW],List.countP_append];have j:(l.take i).countP (λe=>dt e.1 k)=i:=by
  have:(l.take i).countP (λe=>dt e.1 k)=(l.take i).length:=List.countP_eq_length.mpr λe b=>by
   obtain⟨t,a⟩:=lJ b;rw[nv]at a;split at a;·exact c t e (by assumption) a
   ·cases a
  rw[this,sW,Oo h]
 have o:(l.drop i).countP (λe=>dt e.1 k)=0:=NW.mpr λe b=>by
  obtain⟨t,a⟩:=lJ b;rw[ny]at a;exact f (i+t) e ag a
 omega
theorem C7(c:bh a){i:Nat}{b:KV}(k:a[i]?=ae s)(l:a[h]?=ae b)(o:i<h):bV s.1 b.1:=by
 obtain⟨f,rfl⟩:=cu.mp k;obtain⟨j,rfl⟩:=cu.mp l;exact Cu.mp c i h f j o
def fJ(k:List UInt8)(l:List KV):Bool:=(lk k l).isSome
theorem wU(k:List UInt8):∀(l:List KV),bh l->cU k l<=l.length/\(∀(t:Nat) e,t<cU k l->l[t]?=ae e->bV e.1 k)/\(∀(t:Nat) e,cU k l<=t->l[t]?=ae e->¬bV e.1 k)
 |[],_=>⟨aL _,λt e h=>absurd h (xy _),λt e _ h=>by simp at h⟩
 |a::l,v=>by
  have o:=(kZ.mp v);obtain⟨w,r,s⟩:=wU k l o.2;by_cases c:bV a.1 k
  ·have e:cU k (a::l)=cU k l+1:=ND c;rw[e];refine⟨by simp;omega,λt x f b=> ?_,λt x f b=> ?_⟩
   ·cases t with
    |zero=>simp at b;exact b▸c
    |succ t=>exact r t x ag (by simpa using b)
   ·cases t with
    |zero=>omega
    |succ t=>exact s t x ag (by simpa using b)
  ·have j:∀e∈l,¬bV e.1 k:=λe u h=>c (rn (o.1 e u) h);have p:cU k l=0:=NW.mpr j;have e:cU k (a::l)=cU k l:=aw3 c;rw[e,p];refine⟨fL _,λt x f=>absurd f (xy _),λt x _ b=> ?_⟩;cases t with
   |zero=>simp at b;exact b▸c
   |succ t=>exact j x (cG (by simpa using b))
theorem Iu(k:bh a)(c:a[cU r a]?=ae s)(p:s.1≠r):lk r a=none:=by
 obtain⟨v,l,o⟩:=wU r a k;refine vX λx u f=> ?_;obtain⟨t,b⟩:=lJ u;rcases sV t (cU r a)with h|h|h;·have:=l t x h b;rw[f]at this;exact kx _ this
 ·rw[h,c]at b;exact p (by rw[er b];exact f)
 ·have j:=C7 k c b h;rw[f]at j;exact o _ s (aL _) c j
theorem LM(h:bh a)(o:¬cU r a<a.length):lk r a=none:=by
 obtain⟨k,c,l⟩:=wU r a h;refine vX λx j f=> ?_;obtain⟨t,b⟩:=lJ j;have:=c t x (by have:=(cu.mp b).1;omega) b;rw[f]at this;exact kx _ this
theorem Ui(c:bh a)(b:¬cU r a<a.length):ax=fJ r a:=by
 unfold fJ;rw[LM c b];rfl
theorem Uj{key:ByteArray}(f:bh a)(eq:cU key.data.toList a=h)(c:a[h]?=ae s):((keyOf s).toList==key.toList)=fJ key.data.toList a:=by
 rw[Ot,Ot,ud];unfold fJ;by_cases b:s.1=key.data.toList
 ·have:lk key.data.toList a=ae s.2:=vY f (b▸cG c);rw[this,b];simp
 ·rw[Iu f (eq▸c) b];simpa using b
theorem Ef(f:bh a){v:Int}(h:lk r a=ae v):a[cU r a]?=ae (r,v):=by
 have k:cU r a<a.length:=by
  rcases l9 (cU r a) a.length with j|j;·exact j
  ·rw[LM f ag]at h;cases h
 obtain⟨e,b⟩:∃e,a[cU r a]?=ae e:=⟨_,bf k⟩;by_cases c:e.1=r
 ·have:=vY f (show(r,e.2)∈a from c▸cG b);rw[h]at this;rw[b,<-c,er this]
 ·rw[Iu f b c]at h;cases h
def pR(l:List KV):Prop:=∀e∈l,e.1.length<=64
theorem MG(a2 g cap:Nat)(l:List KV)(key:ByteArray)(w:ak)(hr:w.cell? ⟨a2,0,af⟩=ae (.slice (ae ⟨g,0,af⟩) l.length cap))(hp:oJ w g l)(hs:bh l)(Z:pR l)(hk:key.size<=9223372036854775807)(U:l.length<=100000):aE aj 41 #[.pointer (ae ⟨a2,0,af⟩),.string key] w λe k=>e=.returned (.tuple #[.int .i64 (cU key.data.toList l),.bool (fJ key.data.toList l)])/\∃n,k=w.drewN n:=by
 have W:aB (oJ w g l):=hp;have s:aB (bh l):=hs;have a6:aB (pR l):=Z;clear hp hs Z
 go_enter P1,aF7
 go_wp2
 go_loopg [6,7] l.length (λgk s6 s7 wr=>∃a b:Nat,s6=.int .i64 a/\s7=.int .i64 b/\a<=b/\b<=l.length/\b-a<=gk/\(∃n,wr=w.drewN n)/\
  aB ((∀(t:Nat) e,t<a->l[t]?=ae e->bV e.1 key.data.toList)/\(∀(t:Nat) e,b<=t->l[t]?=ae e->¬bV e.1 key.data.toList)))
 case atStart=>
  exact⟨0,l.length,rfl,rfl,fL _,aL _,ag,⟨0,rfl⟩,⟨λt x r=>absurd r (xy _),λt x R f=>by
   have:=(cu.mp f).1;omega⟩⟩
 case round=>
  obtain⟨a,b,rfl,rfl,ad,a1,hg,⟨nd,rfl⟩,I⟩:=hrel;by_cases ai:a<b
  ·have aa:(a+b)/2<l.length:=ag;obtain⟨e,c⟩:∃e,l[(a+b)/2]?=ae e:=⟨l[(a+b)/2],bf aa⟩;have a8:=(W.out _ _ c).1;have u:aB (l[(a+b)/2]?=ae e):=c;have ab:(keyOf e).size<=9223372036854775807:=by have:=a6.out e (cG c);rw[rm];omega
   have H:aB (∀n,aE aj 46 #[.string (keyOf e),.string key] (w.drewN n) λv k=>v=.returned (.bool (dt e.1 key.data.toList))/\∃n,k=w.drewN n):=λn=>(KF (keyOf e) key (w.drewN n) ab hk).mono λv k hh=>by
    obtain⟨R,m,f⟩:=hh;rw[ud]at R;exact⟨R,_,f.trans (sT _ _ _)⟩
   clear c;have o:aB ((dt e.1 key.data.toList=aq->bV e.1 key.data.toList)/\(dt e.1 key.data.toList=ax->¬bV e.1 key.data.toList)):=⟨λh=>h,λh f=>by unfold bV at f;rw[h]at f;cases f⟩;generalize dt e.1 key.data.toList=bl at H o;cases bl with
   |true=>
    have p:aB (bV e.1 key.data.toList):=o.out.1 rfl;clear o
    go_wp2_with (go_at_call 46;refine(H.out _).mono ?_;rintro v k ⟨rfl,nq,rfl⟩)
    go_roundg (b-((a+b)/2+1))
    case measure=>omega
    case rel=>
     have N:aB ((∀(t:Nat) e,t<(a+b)/2+1->l[t]?=ae e->bV e.1 key.data.toList)/\(∀(t:Nat) e,b<=t->l[t]?=ae e->¬bV e.1 key.data.toList)):=by
      refine⟨λt ac r j=> ?_,I.out.2⟩;rcases xp (aA1 r)with h|h;·exact rn (C7 s.out j u.out h) p.out
      ·subst h;rw[u.out]at j;exact er j▸p.out
     exact⟨(a+b)/2+1,b,by rw[show((a:Int)+(b:Int))/2+1=(((a+b)/2+1:Nat):Int) by omega],rfl,by omega,a1,aL _,⟨_,rfl⟩,N⟩
   |false=>
    have p:aB (¬bV e.1 key.data.toList):=o.out.2 rfl;clear o
    go_wp2_with (go_at_call 46;refine(H.out _).mono ?_;rintro v k ⟨rfl,nq,rfl⟩)
    go_roundg ((a+b)/2-a)
    case measure=>omega
    case rel=>
     have N:aB ((∀(t:Nat) e,t<a->l[t]?=ae e->bV e.1 key.data.toList)/\(∀(t:Nat) e,(a+b)/2<=t->l[t]?=ae e->¬bV e.1 key.data.toList)):=by
      refine⟨I.out.1,λt ac r j=> ?_⟩;rcases xp r with h|h
      ·have:=C7 s.out u.out j h;exact λh3=>p.out (rn this h3)
      ·rw[<-h,u.out]at j;exact er j▸p.out
     exact⟨a,(a+b)/2,rfl,by rw[show((a:Int)+(b:Int))/2=(((a+b)/2:Nat):Int) by omega],by omega,by omega,aL _,⟨_,rfl⟩,N⟩
  ·have a7:a=b:=ag;subst a7;have eq:cU key.data.toList l=a:=ah2 _ _ _ a1 I.out.1 I.out.2;by_cases U:a<l.length
   ·obtain⟨e,c⟩:∃e,l[a]?=ae e:=⟨l[a],bf U⟩;have a8:=(W.out _ _ c).1;have B:aB (((keyOf e).toList==key.toList)=fJ key.data.toList l):=Uj s.out eq c;have y:aB (cU key.data.toList l=a):=eq;clear c eq
    go_wp2
    go_quiet (fail)
    go_wp2
    go_ret2
    refine⟨?_,_,by first|rfl|exact sT _ _ _⟩;exact BX y.out.symm B.out
   ·have B:aB (ax=fJ key.data.toList l):=Ui s.out (by rw[eq];exact U);have y:aB (cU key.data.toList l=a):=eq;clear eq
    go_wp2
    go_quiet (fail)
    go_wp2
    go_ret2
    refine⟨?_,_,by first|rfl|exact sT _ _ _⟩;exact BX y.out.symm B.out
theorem MF(r:Nat)(ao:Option aH)(c:Nat)(key:ByteArray)(w:ak)(b:w.cell? ⟨r,0,af⟩=ae (.slice ao 0 c)):aE aj 41 #[.pointer (ae ⟨r,0,af⟩),.string key] w λe a=>e=.returned (.tuple #[.int .i64 0,.bool ax])/\∃n,a=w.drewN n:=by
 go_enter P1,aF7
 go_wp2
 refine mE 1 ?_;rw[mH]
 go_wp2
 go_quiet (fail)
 go_wp2
 go_ret2
 exact⟨rfl,_,rfl⟩
def flat(l:List KV):List Value:=l.flatMap λe=>[.string (keyOf e),.int .i64 e.2]
theorem Jy(l:List KV):(flat l).length=l.length*2:=by
 induction l with
 |nil=>rfl
 |cons e l a=>simp[flat]at a⊢;omega
theorem Ea:∀(l:List KV)(i:Nat) (e:KV),l[i]?=ae e->(flat l)[i*2]?=ae (.string (keyOf e))/\(flat l)[i*2+1]?=ae (.int .i64 e.2)
 |[],i,e,h=>by simp at h
 |a::l,0,e,h=>by simp at h;subst h;simp[flat]
 |a::l,i+1,e,h=>by
  have:=Ea l i e (by simpa using h);have b:(i+1)*2=i*2+1+1:=ag;rw[b];simpa[flat]using this
structure bQ(w:ak)(r:Nat)(av:au)(l:List KV):Prop where
 blk:w.heap[r]?=ae (.cells #[av] 36 (0,0))
 row:w.ownsRow 0 46 2 av l.length (flat l)
 out:av.ownBlock≠ae r
 ck:bh l
 short:pR l
 cI:l.length<=3000
theorem bQ.cell{w:ak}{r:Nat}{a:au}{l:List KV}(h:bQ w r a l):w.cell? ⟨r,0,af⟩=ae a:=by simp[bL,h.blk]
theorem bQ.free(b:bQ j h v a):j.frozen? ⟨h,0,af⟩=false:=by simp[gu,b.blk]
theorem FF{g n cap:Nat}(l:j.ownsRow h 46 2 (.slice (ae ⟨g,0,af⟩) n cap) a.length (flat a)):oJ j g a:=by
 intro i e k;obtain⟨u,b|⟨t,r,s,b,v,o,w,x,y,p⟩⟩:=l;·cases b.1
 ·cases b;have B:=(cu.mp k).1;obtain⟨c,f⟩:=Ea a i e k;rw[<-p,nv,if_pos ag]at c f;simp only[bL,o];rw[<-zF,<-zF,c,f];exact⟨rfl,rfl⟩
theorem bQ.cases(c:bQ j h v a):(a=[]/\v=.slice af 0 0)\/∃g cap,v=.slice (ae ⟨g,0,af⟩) a.length cap/\oJ j g a/\a.length<=cap:=by
 have l:=c.row;obtain⟨r,b|⟨k,f,p,b,s,t,o,u,w,x⟩⟩:=l;·exact .inl ⟨kY.mp b.2,b.1⟩
 ·refine .inr ⟨k,f,b,?_,o⟩;have:=c.row;rw[b]at this;exact FF this
theorem wT(b:bQ j h v a)(key:ByteArray)(c:key.size<=9223372036854775807):aE aj 41 #[.pointer (ae ⟨h,0,af⟩),.string key] j λe k=>e=.returned (.tuple #[.int .i64 (cU key.data.toList a),.bool (fJ key.data.toList a)])/\∃n,k=j.drewN n:=by
 rcases b.cases with⟨rfl,rfl⟩|⟨g,cap,rfl,f,l⟩;·exact MF h af 0 key j b.cell
 ·exact MG h g cap a key j b.cell f b.ck b.short c (by have:=b.cI;omega)
theorem af8(b:bQ j h v a)(key:ByteArray)(r:key.size<=9223372036854775807):aE aj 25 #[.pointer (ae ⟨h,0,af⟩),.string key] j λe k=>e=.returned (.tuple #[.int .i64 (gm (lk key.data.toList a)),.bool (lk key.data.toList a).isSome])/\∃n,k=j.drewN n:=by
 have l:aB (aE aj 41 #[.pointer (ae ⟨h,0,af⟩),.string key] j λe k=>e=.returned (.tuple #[.int .i64 (cU key.data.toList a),.bool (fJ key.data.toList a)])/\∃n,k=j.drewN n):=wT b key r;have x:=b.cI;cases f:lk key.data.toList a with
 |none=>
  have c:fJ key.data.toList a=false:=by unfold fJ;rw[f];rfl
  rw[c]at l;clear b f c
  go_enter aJ4,aG0
  go_wp2_with (go_at_call 41;refine l.out.mono ?_;rintro e k ⟨rfl,n,rfl⟩)
  go_ret2
  exact⟨rfl,_,rfl⟩
 |some u=>
  have c:fJ key.data.toList a=true:=by unfold fJ;rw[f];rfl
  rw[c]at l;have o:=Ef b.ck f;have s:=(cu.mp o).1;rcases b.cases with⟨rfl,rfl⟩|⟨g,cap,rfl,p,t⟩;·simp at s
  ·have w:=(p _ _ o).2;have y:=b.cell;clear p o b f c;generalize cU key.data.toList a=q at*
   go_enter aJ4,aG0
   go_wp2_with (go_at_call 41;refine l.out.mono ?_;rintro e k ⟨rfl,n,rfl⟩)
   go_ret2
   exact⟨rfl,_,rfl⟩
