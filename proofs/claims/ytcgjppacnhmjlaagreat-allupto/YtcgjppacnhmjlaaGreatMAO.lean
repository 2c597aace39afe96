/- Own texts: GeG, GeH, GeI, GfA. -/
import Derived.Test.YtcgjppacnhmjlaaGreatMAN
set_option linter.all false
set_option maxHeartbeats 2000000
open Array renaming getElem?_eq_some_iff->cq,getElem?_modify->fV
open Bool renaming true->aq
open Go renaming World->ak,Value->au,TypeId->aK,heap_alloc_new->cY,Addr->aH
open Go.Addr renaming add_lit->jF
open Go.Proofs.Tryz renaming prog->aj
open Go.Value renaming ownBlock->fX,slice->iM
open Go.World renaming block_lt_of_cell?->cC,cell?->bL,size_alloc->dh,cell?_of_block->gV,setCell->eK,size_setCell->jX
open List renaming getElem?_eq_getElem->bf,getElem?_eq_some_iff->cu,mem_of_getElem?->cG,take_of_length_le->fU,mem_append->dU,getElem?_map->iI,getElem?_append_right->np,getElem?_append_left->nu,mem_map->iL,replicate->rR,length_map->sY,not_mem_nil->CL,mem_flatMap->aA3,nodup_nil->aC5
open Nat renaming le_refl->aL,le_trans->bT,lt_of_lt_of_le->dG,zero_le->fL,zero_add->ia,sub_self->xC,le_succ->Hu
open Ne renaming symm->jm
open Option renaming some->ae,none->af
namespace Go.Proofs.YtcgjppacnhmjlaaGreat
open Go Go.Conc Go.ConcN Go.Conc.Lib Go.ConcR.Gen Go.RowKit
namespace Sim
variable {a6:Nat->Prop} {p a7:ak} {s ab:Nat} {a8:Array au} {aa:au}
theorem tX{f:Nat->Prop}{l:List KV}(h:bB a6 p s l)(B:a7.heap[s]?=p.heap[s]?)(w:∀k,a6 k->k<p.heap.size->a7.heap[k]?=p.heap[k]?)(v:∀k,a6 k->k<p.heap.size->f k)(x:¬f s):bB f a7 s l:=by
 obtain⟨n,H,y,j⟩:=h.tree;refine⟨⟨n,H,B.trans y,?_⟩,x,h.cI⟩;rcases j with j|⟨t,o,r⟩;·exact .inl j
 ·refine .inr ⟨t,o,?_⟩;have u:aY (λk=>a6 k/\k<p.heap.size) n p t l:=r.weaken (λk a b=>⟨a,b⟩);exact u.bK (λk c=>w k c.1 c.2) (λk c _=>v k c.1 c.2) (aL _)
theorem xZ.q{O:Nat->Prop}{b w:ak}{pa:Option aH}{pss:List (List PP)}(h:xZ b pa pss)(u:∀a,a<b.heap.size->¬O a)(x:∀a,a<b.heap.size->w.heap[a]?=b.heap[a]?):sc O w pa pss:=λi ps y=>by
 have f:∀{a o:Nat} {v:au},b.cell? ⟨a,o,af⟩=ae v->¬O a/\w.cell? ⟨a,o,af⟩=ae v:=λ{a o v} c=>⟨u a (cC _ _ c),(gV (a:=⟨a,o,af⟩) (x a (cC _ _ c))).trans c⟩;obtain⟨R,po,l,p,e,c,s⟩:=h i ps y;exact⟨R,po,l,p,e,(f c).1,(f c).2,λk q B=>by
  obtain⟨H,N,r,j,t⟩:=s k q B;exact⟨H,N,r,(f j).1,(f j).2,(f t).2⟩⟩
theorem Zm(ps:List PP):∀v∈laid ps,DC v:=λv a=>by
 unfold laid at a;rcases dU.1 a with a|a
 ·unfold ll at a;obtain⟨q,_,b⟩:=aA3.1 a;simp at b;rcases b with rfl|rfl;·exact .inl ⟨_,rfl⟩
  ·exact .inr ⟨_,_,rfl⟩
 ·simp at a;rcases a with rfl|rfl;·exact .inl ⟨_,rfl⟩
  ·exact .inr ⟨_,_,rfl⟩
section
variable {U:au->ak->Prop} {b w:ak} {W:Nat} {c:au} {ρ:Nat->Nat} {O:Nat->Prop} {R:BR} {a:TS} {i:Nat} {t:Nat×Nat×List KV} {pa:Option aH} {pc:Nat} {pss:List (List PP)}
open Classical in
theorem Ya(h:PW b W c ρ O R w a)(e4:0<a.length)(hi:a[i]?=ae t)(hP:xZ b pa pss)(aU:pss.length<=1048576)(bi:∀ps∈pss,ps.length<=1048576)(dC:∀ps∈pss,∀q∈ps,q.1.size<=9223372036854775807):MC U 39 #[.agg #[ptr t.1,ptr t.2.1],.slice pa pss.length pc] O w (lU b W c ρ O R w (a.map pp)):=by
 intro c5 cs hn;obtain⟨x,r,a7⟩:=t;obtain⟨g0,ej,_,_,_,ec⟩:=h.list e4;obtain⟨_,_,hx,hr⟩:=ec i _ hi;have b2:=h.wd.tw i _ hi;obtain⟨rv,bP,ar⟩:=b2.ref;dsimp only at hx hr b2 bP ar hn⊢;have bo:x<w.heap.size:=(h.known.wr.lt hx).1;have bl:r<w.heap.size:=(h.known.wr.lt hr).1;have es:=(h.wd.lt hi).2;have am:=b2.px;have ap:=b2.pr;have et:=h.cv.size;obtain⟨w1,aF⟩:∃w1,w.alloc (.cells #[ptr x,ptr r] 42)=w1:=⟨_,rfl⟩;have cc:aO w w1:=aF▸dw w _;have e6:w1.heap.size=w.heap.size+1:=by rw[<-aF,dh]
 have cS:aI Xm O R w1:=aF▸h.known.grown _;have cr:w1.cell? ⟨w.heap.size,0,af⟩=ae (ptr x):=by rw[<-aF];unfold bL;rw[cY];rfl
 have ct:w1.cell? ⟨w.heap.size,1,af⟩=ae (ptr r):=by rw[<-aF];unfold bL;rw[cY];rfl
 have b9:∀f,w.heap.size<=f->¬O f:=λf p=>h.new p;have d2:sc O w1 pa pss:=hP.q (λl hb=>h.AV hb) λl hb=>(cc.block l ag).trans (h.cv.block l hb);refine X0 aU rfl rfl λa6=> ?_;rw[aF];have em:Fa (pss.length+1)=(rR (pss.length+1) (iM af 0 0)).toArray:=XU _ _;rw[em];have bg:w1.heap.size=w.heap.size+1:=e6;obtain⟨y,dd⟩:∃y,w.heap.size+1=y:=⟨_,rfl⟩;rw[dd]at bg⊢;have cy:FL O R w1 y pss [] (.slice af 0 0) (R.add y y) (w1.alloc (.cells (rR (pss.length+1) (iM af 0 0)).toArray 102)):=by
  refine⟨dw w1 _,?_,BR.gF _ _ _,.inr ⟨rfl,rfl⟩,?_,j9.nil _ _ _ _ _,.snil 0 0,λd o=>(CL o).elim,aC5,λg B=>(by cases B),rfl⟩
  ·rw[<-bg];exact cS.cells (λb6 hv=>by rw[List.eq_of_mem_replicate hv];exact .snil 0 0) 102
  ·rw[<-bg];exact eS.new w1 102 _
 refine TN bg d2 aU bi (λD lv R1 V a6 hF an=> ?_) pss.length [] _ _ _ a6 az cy;have c6:D.map (·.2)=pss:=by rw[hF.parts,fU ag]
 have cb:y<V.heap.size:=hF.own.lt;have cj:eS V y 102 (D.map kB++[.slice af 0 0]):=by
  have:=hF.own;rw[show pss.length+1-D.length=1 by omega]at this;exact this
 have d6:R1 x x:=hF.sub _ _ hx;have ev:R1 r r:=hF.sub _ _ hr;have a8:aO w V:=cc.trans hF.cv;have b0:∀f,f<w.heap.size->∀d∈D,f≠d.1:=λf p d o=>by have:=(hF.blk d o).1;omega
 have hI:bB (λf=>ρ f=0/\(f<w.heap.size\/V.heap.size<=f)) V x a7:=tX b2.ix (a8.block x bo) (λf p ac=>a8.block f ac) (λf p ac=>⟨p,.inl ac⟩) (λe=>by rw[am]at e;omega);have cx:MC U 59 #[ptr x,.slice (ae ⟨y,0,af⟩) pss.length (pss.length+1)] O V (λbZ k R' Z=>bZ=.int .i64 (jb pss a7)/\∃Rm wm,Left (D.map kB) O k R1 Rm V wm/\aI Xm k R' Z/\BR.Sub Rm R'/\lN x wm Z/\bB (λf=>ρ f=0/\(f<w.heap.size\/V.heap.size<=f)) Z x (jw pss a7)):=by
  intro c' ek p;refine Xn (Pb:=y) (po:=0) (n:=pss.length) (cap:=pss.length+1) (vs:=D.map kB) (pss:=pss) (by simp[an]) rfl hF.known (λcw=> ?_) d6 hI (λf p=>⟨h.wd.fresh f ag,.inr p⟩) ag λk Rm R' wm Z hL cR hs aa cI=>p _ k R' Z ⟨rfl,Rm,wm,hL,cR,hs,aa,cI⟩;refine⟨⟨by simp[an,cw],by simp[an]⟩,λps bk=>⟨by have:=bi ps bk;omega,dC ps bk⟩,hF.rg,λv b6 hj=> ?_,λv b6 ps hj bk=> ?_⟩
  ·rw[ia];exact cj.cell (by rw[nu (cu.1 hj).1];exact hj)
  ·rw[iI]at hj;cases bd:D[v]? with
   |none=>rw[bd]at hj;cases hj
   |some d=>
    rw[bd]at hj;cases hj;have cf:d.2=ps:=by
     have:(D.map (·.2))[v]?=ae d.2:=by rw[iI,bd];rfl
     rw[c6,bk]at this;cases this;rfl
    obtain⟨q1,q2,q3⟩:=hF.blk d (cG bd);refine .inr ⟨d.1,0,d.2.length+1,(laid d.2).toArray,103,(0,0),q2,by rw[<-cf];rfl,fL _,q3,λf q p=> ?_,λb6 hv=>Zm d.2 b6 (by simpa using hv)⟩;rw[<-cf]at p;obtain⟨a1,a2⟩:=VB p;rw[ia];exact⟨q3.cell a1,q3.cell a2⟩
 refine WW (K:=_) (rb:=r) aU ag (b9 _ (aL _)) (hF.cv.cell cr) cx λbZ O1 R2 Vf hu=> ?_;obtain⟨rfl,Rm,wm,hL,aP,ea,aa,cM⟩:=hu;have aT:∀l,l<V.heap.size->¬O l->¬O1 l:=λl hb hO d0=>(hL.fresh l d0).elim hO λh=>ag;have al:∀l,l<V.heap.size->¬O l->l≠x->(∀d∈D,l≠d.1)->Vf.heap[l]?=V.heap[l]?:=λl hb hO da d8=>by
  have u:l<wm.heap.size:=dG hb hL.size;refine(aa.block l u da).trans (hL.exact l hb hO λb6 hv ds=> ?_);obtain⟨d,o,rfl⟩:=iL.1 hv;obtain⟨eP,l',c',e⟩:=ds;unfold kB at e;cases e;exact d8 d o rfl
 have ex:V.heap.size<=Vf.heap.size:=bT hL.size aa.size;have br:∀d∈D,eS Vf d.1 103 (laid d.2):=λd o=>by
  obtain⟨q1,q2,q3⟩:=hF.blk d o;obtain⟨f1,u⟩:=hL.same d.1 q3.lt (hF.known.apart d.1 q2) _ _ _ q3;have e0:f1.1=(0,0):=f1.2 rfl;rw[e0]at u;exact(aa.block d.1 (dG q3.lt hL.size) ag).trans u
 have eb:BR.Sub R1 R2:=hL.sub.trans ea;have bm:BR.Sub R R2:=hF.sub.trans eb;have c7:∀l,l<b.heap.size->¬O1 l:=λl hb=>aT l ag (h.AV hb);have ci:∀l,l<b.heap.size->Vf.heap[l]?=b.heap[l]?:=λl hb=>by
  have bE:=h.low l hb;exact(al l ag (h.AV hb) (λe=>by rw[e,am]at bE;omega) (b0 l ag)).trans ((a8.block l ag).trans (h.cv.block l hb))
 have co:r≠x:=λe=>by rw[e,am]at ap;omega
 have d1:¬O r:=h.known.apart r hr;have b1:∀g,rv.ownBlock=ae g->g<w.heap.size/\¬O g/\g≠x/\g≠r:=λg B=>by
  have u:=ar g B;refine⟨(bP.row.lt g B).2,h.free ag,λe=>by rw[e,am]at u;omega,λe=>by rw[e,ap]at u;omega⟩
 have d4:bQ Vf r rv a7:=ze bP ((al r ag d1 co (b0 r bl)).trans (a8.block r bl)) λg B=>by
  obtain⟨q1,q2,q3,_⟩:=b1 g B;exact(al g ag q2 q3 (b0 g q1)).trans (a8.block g q1)
 have ce:¬O w.heap.size:=b9 _ (aL _);have d7:Vf.heap[w.heap.size]?=w1.heap[w.heap.size]?:=(al _ ag ce ag (λd o=>by have:=(hF.blk d o).1;omega)).trans (hF.cv.block _ ag);refine⟨jb pss a7,_,rfl,aT _ ag ce,(gV (a:=⟨w.heap.size,1,af⟩) d7).trans ct,Ye aP (bm _ _ hr) d4 (hP.q c7 ci) aU bi,λu2 ab R3 N ef=> ?_⟩;obtain⟨rfl,rfl,⟨aJ,ba,bU⟩,ai,aQ,cp⟩:=ef;have c8:¬ab y:=aT y cb (b9 y ag);have ad:∀l,l<Vf.heap.size->l≠r->ae l≠rv.ownBlock->N.heap[l]?=Vf.heap[l]?:=ai.block;have ao:∀l,w.heap.size<=l->l≠r/\ae l≠rv.ownBlock:=λl hb=>⟨ag,λe=>by have:=(b1 l e.symm).1;omega⟩;have ch:eS N y 102 (D.map kB++[.slice af 0 0]):=cj.bK ((ad y ag (ao y ag).1 (ao y ag).2).trans (al y cb (b9 y ag) ag (λd o=>by have:=(hF.blk d o).1;omega)));have cg:∀d∈D,eS N d.1 103 (laid d.2):=λd o=>by
  have u:=(hF.blk d o).1;have h2:=(br d o).lt;exact(br d o).bK (ad d.1 h2 (ao d.1 ag).1 (ao d.1 ag).2)
 refine⟨jb pss a7,rfl,c8,ch.cell (by rw[np (by simp[an]),sY,an,xC];rfl),λa6=> ?_⟩;have fin:∀s R4,N.heap.size<=s.heap.size->s.os=N.os->s.output=N.output->(∀v,v<N.heap.size->v∉D.map (·.1)->s.heap[v]?=N.heap[v]?)->aI Xm ab R4 s->BR.Sub R3 R4->ay aj U ab (aw (c5.finish (.bool aq)) cs) s:=by
  intro s R4 z1 z2 z3 z4 aR bY;have eO:=ai.size;have eE:=aP.low;let j:Nat->Nat:=λf=>if ab f/\w.heap.size<=f then 200 else if aJ.ownBlock=ae f/\w.heap.size<=f then 3*i+3 else ρ f
  have b3:∀f,f<w.heap.size->j f=ρ f:=λf p=>by
   show(if _ then _ else if _ then _ else _)=_;rw[if_neg ag,if_neg ag]
  have bM:∀f,f<w.heap.size->f∉D.map (·.1):=λf p hm=>by
   obtain⟨d,o,e⟩:=iL.1 hm;exact b0 f p d o e.symm
  have be:∀g,aJ.ownBlock=ae g->g<N.heap.size/\g∉D.map (·.1)/\¬ab g:=λg B=>by
   have ac:=(ba.row.lt g B).2;refine⟨ac,λhm=> ?_,?_⟩
   ·obtain⟨d,o,e⟩:=iL.1 hm;have u:=(hF.blk d o).1;have h2:=(br d o).lt;rcases bU g B with h3|h3;·have:=(b1 g h3).1;omega
    ·omega
   ·have u:VR Xm.G R3 aJ aJ:=rp aQ (cp _ _ (bm _ _ hr)) ba.cell;rcases ba.cases with⟨_,e⟩|⟨g',cap,e,_⟩;·rw[e]at B;simp[fX]at B
    ·rw[e]at B u;simp[fX]at B;subst B;exact aQ.apart _ (xa u)
  have d3:bQ s r aJ (jw pss a7):=ze ba (z4 r ag (bM r bl)) λg B=>z4 g (be g B).1 (be g B).2.1;have d9:∀f,f<w.heap.size->¬qP i (ρ f)->s.heap[f]?=w.heap[f]?:=λf p bj=>by
   have e1:f≠x:=λe=>bj (by rw[e,am];exact .inl (.inl rfl));have bw:f≠r:=λe=>bj (by rw[e,ap];exact .inl (.inr (.inl rfl)));have bv:ae f≠rv.ownBlock:=λe=>bj (by rw[ar f e.symm];exact .inl (.inr (.inr rfl)));have bs:¬O f:=h.free λe=>bj (.inr e);exact(z4 f ag (bM f p)).trans ((ad f ag bw bv).trans ((al f ag bs e1 (b0 f p)).trans (a8.block f p)))
  have dv:bB (λf=>j f=0) s x (jw pss a7):=by
   have u:=Ew aP (bm _ _ hx) cM;refine tX u ?_ (λf p ac=> ?_) (λf p ac=> ?_) (λe=> ?_)
   ·have ei:ae x≠rv.ownBlock:=λe=>(b1 x e.symm).2.2.1 rfl;exact(z4 x ag (bM x bo)).trans (ad x ag (jm co) ei)
   ·obtain⟨⟨k1,k2⟩,k3⟩:=p;have bw:f≠r:=λe=>by rw[e,ap]at k1;omega
    have bv:ae f≠rv.ownBlock:=λe=>by have:=ar f e.symm;omega
    have dI:f∉D.map (·.1):=λhm=>by
     obtain⟨d,o,e⟩:=iL.1 hm;have h2:=(hF.blk d o);have:=h2.2.2.lt;omega
    exact(z4 f ag dI).trans (ad f ac bw bv)
   ·obtain⟨⟨k1,k2⟩,k3⟩:=p;have bs:=aP.apart f k3;show(if _ then _ else if _ then _ else _)=_;rw[if_neg (λhh=>bs hh.1),if_neg,k1];rintro⟨dl,eB⟩;rcases bU f dl with h3|h3;·have:=(b1 f h3).1;omega
    ·omega
   ·rw[b3 x bo,am]at e;omega
  have ee:Twin j i s x r (jw pss a7):=by
   refine⟨dv,(b3 x bo).trans am,(b3 r bl).trans ap,aJ,d3,λg B=> ?_⟩;by_cases df:g<w.heap.size
   ·rw[b3 g df];rcases bU g B with h3|h3;·exact ar g h3
    ·omega
   ·show(if _ then _ else if _ then _ else _)=_;rw[if_neg (λhh=>(be g B).2.2 hh.1),if_pos ⟨B,ag⟩]
  have e2:Mv (qP i) ρ w j s:=by
   refine⟨ag,b3,λf p=> ?_,d9,?_,?_⟩
   ·show(if _ then _ else if _ then _ else _)=_;rw[if_neg (λhh=>by have:=aP.low f hh.1;omega),if_neg (λhh=>by have:=(be f hh.1).1;omega)];exact h.wd.fresh f ag
   ·exact z2.trans (ai.os.trans (aa.os.trans (hL.os.trans a8.os)))
   ·exact z3.trans (ai.output.trans (aa.output.trans (hL.output.trans a8.output)))
  refine hn _ ab R4 s ⟨rfl,j,_,fw.set h hi e2 ee aR (bm.trans (cp.trans bY)) λf p=> ?_⟩;rcases hL.fresh f p with u|u;·exact .inl u
  ·refine .inr ⟨ag,?_⟩;show(if _ then _ else if _ then _ else _)=_;rw[if_pos ⟨p,ag⟩]
 have last:∀s R4 lv a6,N.heap.size<=s.heap.size->s.os=N.os->s.output=N.output->(∀v,v<N.heap.size->v∉D.map (·.1)->s.heap[v]?=N.heap[v]?)->aI Xm ab R4 s->BR.Sub R3 R4->ay aj U ab (aw (FD 39 [] (dF (.slice pa pss.length pc) (ptr w.heap.size) (.slice (ae ⟨y,0,af⟩) (pss.length+1) (pss.length+1)) lv (a6 7) (a6 8) (a6 9) (.int .i64 (jb pss a7)) (.int .i64 (jb pss a7)) (.bool aq) (.int .i64 (pss.length:Int)) (a6 14) (a6 15) a6) rj) (c5::cs)) s:=by
  intro s R4 lv a6 z1 z2 z3 z4 aR bY;refine X4 ag (L5 aR) λbZ k R' V5 hu=> ?_;obtain⟨rfl,rfl,bb,cV,e9⟩:=hu;exact⟨rfl,fin V5 R' (bT z1 bb.size) (bb.os.trans z2) (bb.output.trans z3) (λv hj hD=>(bb.block v ag).trans (z4 v hj hD)) cV (bY.trans e9)⟩
 by_cases e3:pss.length=0
 ·have e0:((0:Nat):Int)=((pss.length:Nat):Int):=by rw[e3]
  rw[e0];exact last N R3 lv a6 (aL _) rfl rfl (λ_ _ _=>rfl) aQ (BR.Sub.refl _)
 ·obtain⟨H,qc,rfl,eM,cl⟩:∃H qc,lv=.slice (ae ⟨H,0,af⟩) pss.length qc/\y<H/\H<V.heap.size:=by
   rcases hF.row.2 with⟨_,u⟩|⟨g,cap,el,u,h2,h3,_⟩;·omega
   ·rw[an]at u;exact⟨g,cap,u,ag,(cq.1 h3).1⟩
  have cn:=(hF.apart H (by simp[fX])).2;have d5:R1 H H:=xa hF.vl;have ca:¬O H:=hF.known.apart H d5;have e5:N.heap[H]?=V.heap[H]?:=(ad H ag (ao H ag).1 (ao H ag).2).trans (al H cl ca ag λd o e=>cn d o e.symm);refine TO (w1:=b) (W2:=N) (R2:=R3) (D:=D) (gb:=y) (qb:=H) (qc:=qc) c6 (hP.q c7 λl hb=>rfl) aU bi ⟨by have:=ai.size;omega,λl hb=> ?_,ai.os.trans (aa.os.trans (hL.os.trans (a8.os.trans h.cv.os))),ai.output.trans (aa.output.trans (hL.output.trans (a8.output.trans h.cv.output)))⟩ c8 (aT H cl ca) ch (λv d hj=> ?_) (λd o=>⟨by have:=(hF.blk d o).1;omega,aT d.1 (hF.blk d o).2.2.lt (hF.known.apart d.1 (hF.blk d o).2.1),by have:=(hF.blk d o).1;omega,cn d o,cg d o⟩) hF.yN aQ (λs a6 z1 z2 z3 z4 aR=>last s R3 _ a6 (by rw[z1];exact aL _) z2 z3 (λv _ hj=>z4 v hj) aR (BR.Sub.refl _)) pss.length 0 ag N a6 rfl rfl rfl (λ_ _=>rfl) (λv d _ hj=>cg d (cG hj)) aQ
  ·have bE:=h.low l hb;exact(ad l ag (λe=>by rw[e,ap]at bE;omega) (λe=>by have:=ar l e.symm;omega)).trans (ci l hb)
  ·refine(gV (a:=⟨H,v,af⟩) e5).trans ?_;have u:(D.map lF)[v]?=ae (lF d):=by rw[iI,hj];rfl
   have:=hF.row.own.cells (g:=H) rfl v (lF d) u;rw[jF,ia]at this;exact this
end
section
variable {U:au->ak->Prop} {b w:ak} {W:Nat} {c:au} {ρ:Nat->Nat} {O:Nat->Prop} {R:BR} {a:TS} {i:Nat} {t:Nat×Nat×List KV}
theorem kP(w:ak)(ty:aK)(h:a8[s]?=ae aa):(w.alloc (.cells a8 ty)).cell? ⟨w.heap.size,s,af⟩=ae aa:=by
 unfold bL;rw[cY];exact h
theorem PW.pick(h:PW b W c ρ O R w a)(j:0<a.length)(f:aO w p){ob fld:Nat}{on:Int}(r:¬O ob)(o:p.cell? ⟨ob,fld,af⟩=ae (.int .i64 on))(x: -9223372036854775808<=on/\on<=9223372036854775807):∃g cap t,a[eC on a.length]?=ae t/\cT O W ob fld g 0 a.length cap on t.1 t.2.1 p/\R t.1 t.1/\R t.2.1 t.2.1:=by
 obtain⟨g,cap,e,_,v,B⟩:=h.list j;have y:=(yV on j).1;obtain⟨t,l⟩:∃t,a[eC on a.length]?=ae t:=⟨_,bf y⟩;obtain⟨c1,c2,s,u⟩:=B _ t l;have k:=h.wd.tM;rw[e]at k;exact⟨g,cap,t,l,⟨h.oW,r,h.known.apart g v,f.cell k,o,by rw[ia];exact f.cell c1,by rw[ia];exact f.cell c2,j,h.wd.cI,x⟩,s,u⟩
open Classical in
theorem fw.ap2(h:PW b W c ρ O R w a)(u:a[i]?=ae t){w2 w3:ak}{rv':au}{l':List KV}{R':BR}(gC:w.heap.size<=w2.heap.size)(ab:w2.heap.size<=w3.heap.size)(a2:w3.os=w.os)(a6:w3.output=w.output)(B:∀k,k<w.heap.size->¬Part i (ρ k)->w3.heap[k]?=w.heap[k]?)(U:bB (λk=>ρ k=0) w2 t.1 l')(aa:w3.heap[t.1]?=w2.heap[t.1]?)(Z:∀k,k<w2.heap.size->ρ k=0->w3.heap[k]?=w2.heap[k]?)(x:bQ w3 t.2.1 rv' l')(a7:∀g,rv'.ownBlock=ae g->ρ g=3*i+3\/w2.heap.size<=g)(y:aI Xm O R' w3)(hs:BR.Sub R R'):∃v,fw b W c ρ O R w (a.map pp) v O R' w3 (a.set i (t.1,t.2.1,l')):=by
 have o:=h.wd.tw i _ u;obtain⟨rv,a8,_⟩:=o.ref;have ac:=cJ a8.blk;have ad:=o.ix.lt;let j:Nat->Nat:=λk=>if rv'.ownBlock=ae k/\w2.heap.size<=k then 3*i+3 else ρ k
 have l:∀k,k<w2.heap.size->j k=ρ k:=λk f=>by
  show(if _ then _ else _)=_;rw[if_neg ag]
 have a1:Mv (Part i) ρ w j w3:=by
  refine⟨ag,λk f=>l k ag,λk f=> ?_,B,a2,a6⟩;show(if _ then _ else _)=_;rw[if_neg (λN=>by have:=(x.row.lt k N.1).2;omega)];exact h.wd.fresh k ag
 refine⟨j,fw.set h u (Fb a1) ⟨?_,(l _ ag).trans o.px,(l _ ag).trans o.pr,rv',x,λg s=> ?_⟩ y hs λk f=>.inl f⟩
 ·refine tX U aa (λk f p=>Z k p f) (λk f p=>(l k p).trans f) (λe=> ?_);rw[l _ ag,o.px]at e;omega
 ·by_cases H:w2.heap.size<=g
  ·show(if _ then _ else _)=_;rw[if_pos ⟨s,H⟩]
  ·rw[l g ag];rcases a7 g s with r|r;·exact r
   ·omega
theorem Y9(h:PW b W c ρ O R w a)(b3:0<a.length)(hi:a[i]?=ae t){ot:Int}(ho:a8[2]?=ae (.int .i64 ot))(bs: -9223372036854775808<=ot/\ot<=9223372036854775807):MC U 38 #[ptr W,.agg #[ptr t.1,ptr t.2.1],.agg a8] O w (lU b W c ρ O R w (a.map pp)):=by
 intro bP cs hn;obtain⟨x,r,l⟩:=t;obtain⟨g0,bU,_,_,_,bw⟩:=h.list b3;obtain⟨_,_,hx,hr⟩:=bw i _ hi;have ai:=h.wd.tw i _ hi;obtain⟨rv,aJ,aa⟩:=ai.ref;dsimp only at hx hr ai aJ aa hn⊢;have c8:x<w.heap.size:=(h.known.wr.lt hx).1;have c7:r<w.heap.size:=(h.known.wr.lt hr).1;have bY:=(h.wd.lt hi).2;have a1:=ai.px;have am:=ai.pr;have ab:∀f,w.heap.size<=f->¬O f:=λf s=>h.new s;obtain⟨B,al⟩:∃B,(w.alloc (.cells #[ptr x,ptr r] 42)).alloc (.cells a8 39)=B:=⟨_,rfl⟩;have bb:(w.alloc (.cells #[ptr x,ptr r] 42)).heap.size=w.heap.size+1:=dh _ _;have b0:aO (w.alloc (.cells #[ptr x,ptr r] 42)) B:=al▸dw _ _;have aU:aO w B:=(dw w _).trans b0;have bv:B.heap.size=w.heap.size+2:=by rw[<-al,dh,bb]
 have bl:B.cell? ⟨w.heap.size+1,2,af⟩=ae (.int .i64 ot):=by rw[<-al,<-bb];exact kP _ 39 ho
 obtain⟨g,cap,bM,hu,hP,aT,aR⟩:=h.pick b3 aU (ob:=w.heap.size+1) (ab _ ag) bl bs;obtain⟨ux,ur,m⟩:=bM;have ad:=h.wd.tw _ _ hu;obtain⟨qv,an,ba⟩:=ad.ref;have bZ:=(h.wd.lt hu).2;have b9:=ad.px;have b6:=ad.pr;dsimp only at hP aT aR ad an ba b9 b6;refine WN rfl rfl rfl (by rw[al];exact hP) h.known aT aR λca R1 hy ap c5 ac=> ?_;rw[al]at ap⊢;obtain⟨p,ao⟩:∃p,B.alloc (.cells #[ptr ux,ptr ur] 42)=p:=⟨_,rfl⟩;have b1:aO B p:=ao▸dw _ _;have a7:aO w p:=aU.trans b1;rw[ao]at ap⊢;have ct:∀(a2:Nat) a6,(#[ptr x,ptr r]:Array au)[a2]?=ae a6->p.cell? ⟨w.heap.size,a2,af⟩=ae a6:=λa2 a6 hj=>b1.cell (b0.cell (kP w 42 hj));have cn:∀(a2:Nat) a6,(#[ptr ux,ptr ur]:Array au)[a2]?=ae a6->p.cell? ⟨w.heap.size+1+1,a2,af⟩=ae a6:=λa2 a6 hj=>by
  rw[<-ao,show w.heap.size+1+1=B.heap.size by omega];exact kP B 42 hj
 have b2:Mv (λ_=>False) ρ w ρ p:=Mv.cv h.wd.fresh a7;have be:bB (λf=>ρ f=0) p x l:=Ba ai.ix b2 (λh=>h) (λh=>h);have bd:bB (λf=>ρ f=0) p ux m:=Ba ad.ix b2 (λh=>h) (λh=>h);have c6:p.heap.size=w.heap.size+3:=by rw[<-ao,dh,bv]
 have heq:x=ux->l=m:=λe=>by
  subst e;have e1:eC ot a.length=i:=by rw[a1]at b9;omega
  rw[e1,hi]at hu;cases hu;rfl
 refine WO (K1:=_) (K2:=λu1 u2 k R' W'=>(∃j:ak,bB (λf=>ρ f=0) j x (room l (aW l m))/\lN x p j/\jJ r rv.ownBlock j W'/\∃H,bQ W' r H (room l (aW l m))/\(H.ownBlock=rv.ownBlock\/∃g,H.ownBlock=ae g/\j.heap.size<=g))/\k=O/\u1=.int .i64 (full (aW l m))/\u2=.int .i64 (full (aW l m))/\aI Xm O R' W'/\BR.Sub R R') (K3:=λo u3 k R' W'=>o=full (aW l m)/\u3=.int .i64 (full (aW l m))/\k=O/\aI Xm O R' W'/\BR.Sub R R'/\∃j N:ak,bB (λf=>ρ f=0) j x (room l (aW l m))/\lN x p j/\jJ r rv.ownBlock j N/\aO N W'/\∃H,bQ N r H (room l (aW l m))/\(H.ownBlock=rv.ownBlock\/∃g,H.ownBlock=ae g/\j.heap.size<=g))
  (ra:=r) (rb:=ur) hy (ab _ (aL _)) (ab _ ag) (ct 0 _ rfl) (cn 0 _ rfl) (Yc ap (ac _ _ hx) (ac _ _ aT) (λf s=>h.wd.fresh f ag) be bd heq) (λu1 O1 R2 j bE=> ?_) (λu1 u2 O2 R3 N aP=> ?_) (λo u3 O3 R4 W3 aQ=> ?_)
 ·obtain⟨rfl,rfl,h1,h2,h3,u⟩:=bE;have s:∀o,o<p.heap.size->o≠x->j.heap[o]?=p.heap[o]?:=h2.block;refine⟨ab _ (aL _),ab _ ag,(gV (a:=⟨w.heap.size,1,af⟩) (s w.heap.size ag ag)).trans (ct 1 _ rfl),(gV (a:=⟨w.heap.size+1+1,1,af⟩) (s (w.heap.size+1+1) ag ag)).trans (cn 1 _ rfl),?_⟩;have bi:bQ j r rv l:=ze (kA aJ a7) (s _ ag λe=>by rw[e,a1]at am;omega) λg y=>s g (by have:=(aJ.row.lt g y).2;omega) λe=>by have:=aa g y;rw[e,a1]at this;omega
  have bg:bQ j ur qv m:=ze (kA an a7) (s _ (by have:=cJ an.blk;omega) λe=>by rw[e,a1]at b6;omega) λg y=>s g (by have:=(an.row.lt g y).2;omega) λe=>by have:=ba g y;rw[e,a1]at this;omega
  refine iD (Yd h3 (u _ _ (ac _ _ hr)) (u _ _ (ac _ _ aR)) bi bg) λu2 O2 R3 N aP=> ?_;obtain⟨rfl,rfl,k1,k2,k3,k4⟩:=aP;exact⟨⟨j,h1,h2,k2,k1⟩,rfl,rfl,rfl,k3,ac.trans (u.trans k4)⟩
 ·obtain⟨⟨j,h1,h2,h3,u⟩,rfl,rfl,rfl,h5,Z⟩:=aP;refine⟨_,rfl,iD (L5 h5) λu3 O3 R4 W3 aQ=> ?_⟩;obtain⟨rfl,rfl,k1,k2,k3⟩:=aQ;exact⟨rfl,rfl,rfl,k2,Z.trans k3,j,N,h1,h2,h3,k1,u⟩
 ·obtain⟨rfl,rfl,rfl,h1,h2,j,N,h3,u,h5,Z,H,h7,h8⟩:=aQ;refine⟨_,rfl,?_⟩;rw[decide_eq_true rfl];have q1:=u.size;have q2:=h5.size;have q3:=Z.size;have ar:∀o,o<j.heap.size->o≠r->ae o≠rv.ownBlock->W3.heap[o]?=j.heap[o]?:=λo hb bk bj=>(Z.block o ag).trans (h5.block o hb bk bj);have hA:∃v,fw b W c ρ O3 R w (a.map pp) v O3 R4 W3 (a.set i (x,r,room l (aW l m))):=by
   refine fw.ap2 h hi (w2:=j) (w3:=W3) (rv':=H) (l':=room l (aW l m)) (R':=R4) ag ag (Z.os.trans (h5.os.trans (u.os.trans a7.os))) (Z.output.trans (h5.output.trans (u.output.trans a7.output))) (λf s aF=> ?_) h3 ?_ (λf s h0=> ?_) (kA h7 Z) (λg y=> ?_) h1 h2
   ·have br:f≠x:=λe=>aF (by rw[e,a1];exact .inl rfl);have bo:f≠r:=λe=>aF (by rw[e,am];exact .inr (.inl rfl));have bm:ae f≠rv.ownBlock:=λe=>aF (by rw[aa f e.symm];exact .inr (.inr rfl));exact(ar f ag bo bm).trans ((u.block f ag br).trans (a7.block f s))
   ·exact ar x ag (λe=>by rw[e,am]at a1;omega) (λe=>by have:=aa x e.symm;omega)
   ·exact ar f s (λe=>by rw[e,am]at h0;omega) (λe=>by have:=aa f e.symm;omega)
   ·rcases h8 with h8|⟨g',h8,h9⟩;·rw[h8]at y;exact .inl (aa g y)
    ·rw[h8]at y;cases y;exact .inr h9
  obtain⟨v,hA⟩:=hA;exact hn _ _ _ _ ⟨rfl,v,_,hA⟩
end
structure OpV where
 kd:Int
 on:Int
 ot:Int
 key:ByteArray
 gT:ByteArray
 nn:Int
 pa:Option aH
 pss:List (List PP)
 pc:Nat
 fv:au
 mv:au
def OpV.cells(o:OpV):Array Value:=opC o.kd o.on o.ot o.key o.gT o.nn (.slice o.pa o.pss.length o.pc) o.fv o.mv
structure OpIn(b:ak)(o:OpV):Prop where
 on: -9223372036854775808<=o.on/\o.on<=9223372036854775807
 ot: -9223372036854775808<=o.ot/\o.ot<=9223372036854775807
 key:o.key.size<=9223372036854775807
 gT:o.gT.size<=9223372036854775807
 parts:xZ b o.pa o.pss
 Yp:o.pss.length<=1048576
 VT:∀ps∈o.pss,ps.length<=1048576
 Vo:∀ps∈o.pss,∀q∈ps,q.1.size<=9223372036854775807
section
variable {U:au->ak->Prop} {b w Z:ak} {W:Nat} {c:au} {ρ:Nat->Nat} {O:Nat->Prop} {R R':BR} {a:TS} {i:Nat} {t:Nat×Nat×List KV}
theorem PW.QC(h:PW b W c ρ O R w a):w.cell? ⟨W,1,af⟩=ae (.int .i64 11):=by
 unfold bL;rw[h.wd.blk];rfl
theorem lU.on(h:PW b W c ρ O R w a)(s:aO w Z)(r:aI Xm O R' Z)(t:BR.Sub R R'){k:au}{f:Nat->Prop}{j:BR}{l:ak}(u:lU b W c ρ O R' Z (a.map pp) k f j l):lU b W c ρ O R w (a.map pp) k f j l:=by
 obtain⟨o,v,fq,p⟩:=u;exact⟨o,v,fq,(fw.on (R0:=R) h s r t).trans p⟩
theorem GK(h:PW b W c ρ O R w a){f:BR}(o:aa=.bool aq/\a6=O/\aO w p/\aI Xm O f p/\BR.Sub R f):lU b W c ρ O R w (a.map pp) aa a6 f p:=by
 obtain⟨rfl,rfl,j,k,l⟩:=o;exact⟨rfl,ρ,a,.on (R0:=R) h j k l⟩
theorem PW.opAt(h:PW b W c ρ O R w a)(o:OpV)(t:(w.alloc (.cells o.cells 39)).alloc (.cells #[ptr s,ptr ab] 42)=p):lQ O W w.heap.size (w.heap.size+1) s ab o.kd o.on o.ot o.key o.gT o.nn (.slice o.pa o.pss.length o.pc) o.fv o.mv 11 p:=by
 have u:(w.alloc (.cells o.cells 39)).heap.size=w.heap.size+1:=dh _ _;have l:aO (w.alloc (.cells o.cells 39)) p:=t▸dw _ _;have f:∀(j:Nat) v,o.cells[j]?=ae v->p.cell? ⟨w.heap.size,j,af⟩=ae v:=λj v k=>l.cell (kP w 39 k);have r:∀(j:Nat) v,(#[ptr s,ptr ab]:Array au)[j]?=ae v->p.cell? ⟨w.heap.size+1,j,af⟩=ae v:=λj v k=>by rw[<-t,<-u];exact kP _ 42 k
 exact⟨h.oW,h.new (aL _),h.new (Hu _),r 0 _ rfl,r 1 _ rfl,f 0 _ rfl,f 1 _ rfl,f 2 _ rfl,f 3 _ rfl,f 4 _ rfl,f 5 _ rfl,f 6 _ rfl,f 7 _ rfl,f 8 _ rfl,l.cell ((dw w _).cell h.QC)⟩
theorem F4(h:PW b W c ρ O R w a)(r:0<a.length){o:OpV}(l:OpIn b o):MC U 22 #[ptr W,.agg o.cells] O w (lU b W c ρ O R w (a.map pp)):=by
 intro a6 cs hn;obtain⟨g,cap,t,u,hP,hx,hr⟩:=h.pick r (dw w (.cells o.cells 39)) (ob:=w.heap.size) (fld:=1) (on:=o.on) (h.new (aL _)) (kP w 39 rfl) l.on;refine WG rfl rfl hP h.known hx hr λa8 N p B a7 hs=> ?_;obtain⟨y,H⟩:∃y,(w.alloc (.cells o.cells 39)).alloc (.cells #[ptr t.1,ptr t.2.1] 42)=y:=⟨_,rfl⟩;have f:=h.opAt o H;have Z:aO w y:=H▸(dw w _).trans (dw _ _);rw[H]at B⊢;have j:PW b W c ρ O N y a:=h.on Z B hs;have fin:∀v k R' s,lU b W c ρ O N y (a.map pp) v k R' s->ay aj U k (aw (a6.finish v) cs) s:=λv k R' s p=>hn v k R' s (p.on h Z B hs);by_cases k1:o.kd=1
 ·rw[k1]at f;exact WJ p f (Y3 j r u l.key) fin
 by_cases k2:o.kd=2
 ·rw[k2]at f;exact WC p f (KY j r u l.key) λv k R' s x=>fin _ _ _ _ (GK j x)
 by_cases k3:o.kd=3
 ·rw[k3]at f;exact WE p f (Y8 j r u l.key) fin
 by_cases k4:o.kd=4
 ·rw[k4]at f;exact WK p f (F1 j r u) λv k R' s x=>fin _ _ _ _ (GK j x)
 by_cases k5:o.kd=5
 ·rw[k5]at f;exact WL p f (F1 j r u) λv k R' s x=>fin _ _ _ _ (GK j x)
 by_cases a1:o.kd=10
 ·rw[a1]at f;exact WH p f (Y9 j r u rfl l.ot) fin
 by_cases a2:o.kd=11
 ·rw[a2]at f;exact WB p f (Ya j r u l.parts l.Yp l.VT l.Vo) fin
 exact WI f ⟨k1,k2,k3,k4,k5,a1,a2⟩ (fin _ _ _ _ ⟨rfl,ρ,a,.refl j⟩)
end
section
variable {b:ak} {W:Nat} {c:au} {j:Nat->Nat} {x:Nat->Prop} {y:BR} {r:ak} {ps:List (Nat×Nat)} {o:ak} {u:Nat->Nat} {B:BR} {h f:Nat} {ρ l v ow:Nat->Nat} {O k:Nat->Prop} {R R':BR} {A A':ak} {a fq:TS} {H:Nat} {N:Bool}
theorem fw.same{M:Nat->Prop}(h:fw b W c j x y r ps l O R A a)(o:Mv M l A ow A')(t:¬M 0)(w:∀s,0<s->s<150->¬M s)(v:aI Xm O R' A')(u:BR.Sub R R')(B:∀k,k<r.heap.size->A'.heap[k]?=A.heap[k]?):fw b W c j x y r ps ow O R' A' a:=by
 have N:=h.mv.size;have p:=h.pw.cv;refine⟨⟨v,Co h.pw.wd o t w,u _ _ h.pw.rW,⟨bT p.size o.size,λk f=> ?_,o.os.trans p.os,o.output.trans p.output⟩,λk f=>(o.agree k (dG f p.size)).trans (h.pw.low k f),λk f=>(o.agree k (h.pw.known.low k f)).trans (h.pw.own k f)⟩,⟨bT N o.size,λk f=>(o.agree k ag).trans (h.mv.agree k f),o.fresh,λk f H=>(B k f).trans (h.mv.block k f H),o.os.trans h.mv.os,o.output.trans h.mv.output⟩,h.sub.trans u,h.own,h.ps⟩;exact(o.block k (dG f p.size) (by rw[h.pw.low k f];exact t)).trans (p.block k f)
structure fy(b:ak)(W:Nat)(c:au)(j:Nat->Nat)(x:Nat->Prop)(y:BR)(r:ak)(ps:List (Nat×Nat))(o:ak)(u:Nat->Nat)(B:BR)(h f:Nat)(ρ l:Nat->Nat)(O:Nat->Prop)(R:BR)(A:ak)(a:TS)(H:Nat)(N:Bool):Prop where
 fH:fw b W c j x y r ps l O R A a
 bK:∀k,k<o.heap.size->u k=0\/u k=202->A.heap[k]?=o.heap[k]?
 jP:∀k,k<o.heap.size->ρ k=u k/\l k=u k
 it:∀k,o.heap.size<=k->k<A.heap.size->ρ k=0->l k=202
 fresh:∀k,A.heap.size<=k->ρ k=0
 size:o.heap.size<=A.heap.size
 sub:BR.Sub B R
 oP:A.heap[h]?=ae (.cells #[.int .i64 (H:Int)] 3 (0,0))
 oQ:A.heap[f]?=ae (.cells #[.bool N] 4 (0,0))
 zv:r.heap.size<=h
 zw:r.heap.size<=f
 zx:r.heap.size<=o.heap.size
 qk:h<o.heap.size
 ql:f<o.heap.size
 ne:h≠f
 rq:u h=201
 rr:u f=201
theorem fy.no(k:fy b W c j x y r ps o u B h f ρ l O R A a H N)(p:s<o.heap.size)(t:u s≠200):¬O s:=k.fH.pw.free (by rw[(k.jP s p).2];exact t)
theorem fy.own(p:fy b W c j x y r ps o u B h f ρ l O R A a H N){k:Nat}(s:O k):ρ k≠0:=λe=>by
 have w:=p.fH.pw.own k s;have t:=p.fH.pw.known.low k s;by_cases v:k<o.heap.size;·have:=p.jP k v;omega
 ·have:=p.it k ag t e;omega
open Classical in
theorem fy.grow(p:fy b W c j x y r ps o u B h f ρ l O R A a H N)(hs:A.heap.size<=A'.heap.size)(t:∀k,k<A.heap.size->(k<o.heap.size\/ρ k≠0)->A'.heap[k]?=A.heap[k]?)(ho:A'.os=A.os)(hu:A'.output=A.output)(hK:aI Xm O R' A')(a1:BR.Sub R R'):∃ow,(∀k,k<A.heap.size->ow k=l k)/\fy b W c j x y r ps o u B h f ρ ow O R' A' a H N:=by
 have a7:=p.size;have a8:=p.zx;let w:Nat->Nat:=λk=>if A.heap.size<=k/\k<A'.heap.size then 202 else l k
 have v:∀k,k<A.heap.size->w k=l k:=λk s=>by
  show(if _ then _ else _)=_;rw[if_neg ag]
 have hm:Mv (λU=>U=202) l A w A':=by
  refine⟨hs,v,λk s=> ?_,λk s hn=>t k s ?_,ho,hu⟩
  ·show(if _ then _ else _)=_;rw[if_neg ag];exact p.fH.pw.wd.fresh k ag
  ·by_cases a6:k<o.heap.size;·exact .inl a6
   ·exact .inr λe=>hn (p.it k ag s e)
 refine⟨w,v,p.fH.same hm bc (λU _ hc e=>ag) hK a1 (λk s=>t k ag (.inl ag)),λk s hl=>(t k ag (.inl s)).trans (p.bK k s hl),λk s=>⟨(p.jP k s).1,(v k ag).trans (p.jP k s).2⟩,λk s a2 e=> ?_,λk s=>p.fresh k ag,ag,p.sub.trans a1,(t h (by have:=p.qk;omega) (.inl p.qk)).trans p.oP,(t f (by have:=p.ql;omega) (.inl p.ql)).trans p.oQ,p.zv,p.zw,p.zx,p.qk,p.ql,p.ne,p.rq,p.rr⟩;by_cases Z:k<A.heap.size;·rw[v k Z];exact p.it k s Z e
 ·show(if _ then _ else _)=_;rw[if_pos ⟨ag,a2⟩]
structure oE(l:Nat)(ρ:Nat->Nat)(A:ak)(v:Nat->Nat)(A':ak):Prop where
 size:A.heap.size<=A'.heap.size
 agree:∀k,k<A.heap.size->v k=ρ k
 block:∀k,k≠l->k<A.heap.size->ρ k=0->A'.heap[k]?=A.heap[k]?
theorem oE.trans{l:Nat}{f j:Nat->Nat}(h:oE l ρ A f p)(k:oE l f p j a7):oE l ρ A j a7:=⟨bT h.size k.size,λi a=>(k.agree i (dG a h.size)).trans (h.agree i a),λi c a b=>(k.block i c (dG a h.size) ((h.agree i a).trans b)).trans (h.block i c a b)⟩
theorem oE.e{f:Prop}(h:oE s ρ A v A'):Dv ab f s ρ A v A':=⟨h.size,h.agree,λk c _ b a=>h.block k c b a⟩
theorem ni(A:ak)(b:Nat)(v:au){k:Nat}(a:k≠b):(A.setCell ⟨b,0,af⟩ v).heap[k]?=A.heap[k]?:=by simp[eK,fV,jm a]
theorem G6{v:au}{ty:aK}(h:p.heap[s]?=ae (.cells #[aa] ty (0,0))):(p.setCell ⟨s,0,af⟩ v).heap[s]?=ae (.cells #[v] ty (0,0)):=by simp[eK,fV,h]
theorem fy.setCell(p:fy b W c j x y r ps o u B h f ρ l O R A a H N){s:Nat}(U:s=h\/s=f){v:au}(hv:VR Xm.G R v v):fw b W c j x y r ps l O R (A.setCell ⟨s,0,af⟩ v) a:=by
 have Z:l s=201/\r.heap.size<=s:=by
  rcases U with rfl|rfl;·exact⟨(p.jP _ p.qk).2.trans p.rq,p.zv⟩
  ·exact⟨(p.jP _ p.ql).2.trans p.rr,p.zw⟩
 refine p.fH.same (M:=λw=>w=201) ⟨by rw[jX];exact aL _,λ_ _=>rfl,λk t=>p.fH.pw.wd.fresh k (by rw[jX]at t;exact t),λk t hn=>ni A s v λe=>hn (by rw[e];exact Z.1),rfl,rfl⟩ bc (λw _ hc e=>ag) (p.fH.pw.known.set _ hv) (BR.Sub.refl _) λk t=>ni A s v ag
theorem fy.G5(p:fy b W c j x y r ps o u B h f ρ l O R A a H N)(Z:Nat)(t:Bool):fy b W c j x y r ps o u B h f ρ l O R (A.setCell ⟨f,0,af⟩ (.bool t)) a H t/\oE Z ρ A ρ (A.setCell ⟨f,0,af⟩ (.bool t)):=by
 have U:(A.setCell ⟨f,0,af⟩ (.bool t)).heap.size=A.heap.size:=jX _ _ _;refine⟨⟨p.setCell (.inr rfl) (.bool _),λk s v=>(ni A f _ λe=>by rw[e,p.rr]at v;omega).trans (p.bK k s v),p.jP,λk s a1=>p.it k s ag,λk s=>p.fresh k ag,by rw[U];exact p.size,p.sub,(ni A f _ p.ne).trans p.oP,G6 p.oQ,p.zv,p.zw,p.zx,p.qk,p.ql,p.ne,p.rq,p.rr⟩,⟨ag,λ_ _=>rfl,λk _ s w=>ni A f _ λe=> ?_⟩⟩;rw[e,(p.jP _ p.ql).1,p.rr]at w;omega
theorem fy.setAt(p:fy b W c j x y r ps o u B h f ρ l O R A a H N)(U:Nat)(n:Nat):fy b W c j x y r ps o u B h f ρ l O R (A.setCell ⟨h,0,af⟩ (.int .i64 (n:Int))) a n N/\oE U ρ A ρ (A.setCell ⟨h,0,af⟩ (.int .i64 (n:Int))):=by
 have w:(A.setCell ⟨h,0,af⟩ (.int .i64 (n:Int))).heap.size=A.heap.size:=jX _ _ _;refine⟨⟨p.setCell (.inl rfl) (.int _ _),λk s t=>(ni A h _ λe=>by rw[e,p.rq]at t;omega).trans (p.bK k s t),p.jP,λk s Z=>p.it k s ag,λk s=>p.fresh k ag,by rw[w];exact p.size,p.sub,G6 p.oP,(ni A h _ (jm p.ne)).trans p.oQ,p.zv,p.zw,p.zx,p.qk,p.ql,p.ne,p.rq,p.rr⟩,⟨ag,λ_ _=>rfl,λk _ s v=>ni A h _ λe=> ?_⟩⟩;rw[e,(p.jP _ p.qk).1,p.rq]at v;omega
theorem YC:¬y3 201:=λh=>h.elim (λh=>by have:=h.2;omega) λh=>ag
theorem YD:¬y3 202:=λh=>h.elim (λh=>by have:=h.2;omega) λh=>ag
open Classical in
theorem fy.plain(s:fy b W c j x y r ps o u B h f ρ l O R A a H N)(w:fw b W c l O R A (a.map pp) ow k R' A' fq)(aa:Nat):(∃v,fy b W c j x y r ps o u B h f v ow k R' A' fq H N/\oE aa ρ A v A')/\∀p,p<A.heap.size->l p=202->A'.heap[p]?=A.heap[p]?:=by
 have ab:=s.size;have hs:=w.mv.size;let a6:Nat->Nat:=λp=>if A.heap.size<=p/\p<A'.heap.size then 201 else ρ p
 have a2:∀p,p<A.heap.size->a6 p=ρ p:=λp t=>by
  show(if _ then _ else _)=_;rw[if_neg ag]
 have U:∀p,p<A.heap.size->l p=0\/l p=201\/l p=202->A'.heap[p]?=A.heap[p]?:=λp t Z=>w.mv.block p t (by
  rcases Z with e|e|e<;>rw[e];·exact Lo
  ·exact YC
  ·exact YD)
 have gg:=s.qk;have eP:=s.ql;refine⟨⟨a6,⟨s.fH.trans (by rw[<-s.fH.ps]at*;exact w),λp t Z=>(U p ag (by rw[(s.jP p t).2];omega)).trans (s.bK p t Z),λp t=>⟨(a2 p ag).trans (s.jP p t).1,(w.mv.agree p ag).trans (s.jP p t).2⟩,λp t a7 e=> ?_,λp t=> ?_,ag,s.sub.trans w.sub,(U h ag (by rw[(s.jP _ gg).2,s.rq];omega)).trans s.oP,(U f ag (by rw[(s.jP _ eP).2,s.rr];omega)).trans s.oQ,s.zv,s.zw,s.zx,gg,eP,s.ne,s.rq,s.rr⟩,⟨hs,a2,λp _ t h0=>U p t ?_⟩⟩,λp t Z=>U p t ag⟩
 ·by_cases a1:p<A.heap.size
  ·rw[a2 p a1]at e;exact(w.mv.agree p a1).trans (s.it p t a1 e)
  ·have e':(if A.heap.size<=p/\p<A'.heap.size then 201 else ρ p)=0:=e;rw[if_pos ⟨ag,a7⟩]at e';omega
 ·show(if _ then _ else _)=_;rw[if_neg ag];exact s.fresh p ag
 ·by_cases a8:p<o.heap.size;·have:=s.jP p a8;omega
  ·have:=s.it p ag t h0;omega
end
