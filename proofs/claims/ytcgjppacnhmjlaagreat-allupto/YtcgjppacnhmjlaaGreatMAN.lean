/- Own texts: GeF, GeG, GeH, GeI. -/
import Derived.Test.YtcgjppacnhmjlaaGreatMAM
set_option linter.all false
set_option maxHeartbeats 2000000
open Array renaming getElem?_eq_some_iff->cq
open Bool renaming true->aq
open Go renaming World->ak,Value->au,Frame->aC,TypeId->aK,heap_alloc_new->cY,Addr->aH,heap_alloc_old->xu,Obj->dV
open Go.Addr renaming add_lit->jF
open Go.Proofs.Tryz renaming prog->aj
open Go.Value renaming ownBlock->fX,slice->iM
open Go.World renaming block_lt_of_cell?->cC,cell?->bL,size_alloc->dh,cell?_of_block->gV,size_setCell->jX
open List renaming getElem?_eq_getElem->bf,getElem?_eq_some_iff->cu,mem_of_getElem?->cG,take_of_length_le->fU,mem_append->dU,length_append->gJ,getElem?_map->iI,getElem?_append_right->np,getElem?_append_left->nu,getElem?_of_mem->lJ,mem_map->iL,take_add_one->mC,append_assoc->sU,replicate->rR,length_map->sY,map_append->zT,not_mem_nil->CL,set_append_right->NJ,length_singleton->NK,replicate_succ->NS,set_cons_zero->O5,getElem?_replicate->aw2,mem_flatMap->aA3,nodup_nil->aC5
open Nat renaming le_refl->aL,le_trans->bT,lt_of_lt_of_le->dG,zero_le->fL,zero_add->ia,sub_self->xC,le_succ->Hu
open Ne renaming symm->jm
open Option renaming some->ae,none->af
namespace Go.Proofs.YtcgjppacnhmjlaaGreat
open Go Go.Conc Go.ConcN Go.Conc.Lib Go.ConcR.Gen Go.RowKit
namespace Sim
variable {j:ak} {p y:Nat} {u:au} {r:Int} {v:Nat->Prop} {x:Array au}
def kB(d:Nat×List PP):Value:=.slice (ae ⟨d.1,0,af⟩) d.2.length (d.2.length+1)
def lF(d:Nat×List PP):Value:=.slice (ae ⟨d.1,0,af⟩) (d.2.length+1) (d.2.length+1)
structure FL(O:Nat->Prop)(R:BR)(w1:ak)(gb:Nat)(pss:List (List PP))(D:List (Nat×List PP))(lv:au)(R1:BR)(W:ak):Prop where
 cv:aO w1 W
 known:aI Xm O R1 W
 sub:BR.Sub R R1
 rg:R1 gb gb
 own:eS W gb 102 (D.map kB++rR (pss.length+1-D.length) (.slice af 0 0))
 row:j9 (λ_=>True) W (gb+1) 102 1 lv D.length (D.map lF)
 vl:VR Xm.G R1 lv lv
 blk:∀d∈D,gb<d.1/\R1 d.1 d.1/\eS W d.1 103 (laid d.2)
 yN:(D.map (·.1)).Nodup
 apart:∀g,lv.ownBlock=ae g->g≠gb/\∀d∈D,d.1≠g
 parts:D.map (·.2)=pss.take D.length
section
variable {k:au->ak->Prop} {O:Nat->Prop} {R:BR} {w1:ak} {gb s pc:Nat} {pa:Option aH} {pss:List (List PP)} {c:aC} {o:List aC}
theorem ah0{a:au->Prop}{e:aK}{n:Nat}{b:List au}(h:j9 a j p e y u n b)(o:dV):j9 a (j.alloc o) p e y u n b:=h.bK λk c=>xu j o (h.own.lt k c).2
theorem TN(c6:w1.heap.size=gb)(hP:sc O w1 pa pss)(a7:pss.length<=1048576)(bv:∀ps∈pss,ps.length<=1048576)(bl:∀D p h W x,FL O R w1 gb pss D p h W->D.length=pss.length->ay aj k O (aw (FD 39 [] (dF (.slice pa pss.length pc) (ptr s) (.slice (ae ⟨gb,0,af⟩) (pss.length+1) (pss.length+1)) p (.int .i64 (pss.length:Int)) (x 8) (x 9) (x 10) (x 11) (x 12) (x 13) (x 14) (x 15) x) su) (c::o)) W):∀(a2:Nat) (D:List (Nat×List PP)) (p:au) (h:BR) (W:ak) (x:Nat->au),a2+D.length=pss.length->FL O R w1 gb pss D p h W->ay aj k O (aw (FD 39 [] (dF (.slice pa pss.length pc) (ptr s) (.slice (ae ⟨gb,0,af⟩) (pss.length+1) (pss.length+1)) p (.int .i64 (D.length:Int)) (x 8) (x 9) (x 10) (x 11) (x 12) (x 13) (x 14) (x 15) x) su) (c::o)) W:=by
 intro a2;induction a2 with
 |zero=>
  intro D p h W x ha hF;have e:D.length=pss.length:=ag;rw[e];exact bl D p h W x hF e
 |succ a2 ih=>
  intro D p h W x ha hF;have N:D.length<pss.length:=ag;obtain⟨ps,aJ⟩:∃ps,pss[D.length]?=ae ps:=⟨pss[D.length],bf N⟩;have am:=bv ps (cG aJ);obtain⟨pb,po,ai,ci,rfl,cR,al,bi⟩:=(hP.on hF.cv) D.length ps aJ;have bs:=hF.known.low;have gQ:¬O W.heap.size:=λhO=>by have:=bs _ hO;omega
  have bb:¬O gb:=hF.known.apart gb hF.rg;have bo:=hF.own.lt;obtain⟨a,a1⟩:∃a,W.heap.size=a:=⟨_,rfl⟩;refine WQ cR al a7 N am a1 λx=> ?_;rw[XV];have aQ:aI Xm O (h.add a a) (W.alloc (.cells (zP (ps.length+1)).toArray 103)):=by
   rw[<-a1];refine hF.known.cells (λc5 hv=> ?_) 103;obtain⟨l,Z⟩:=lJ hv;rw[GL]at Z;split at Z
   ·cases Z;split;·exact .string _
    ·exact .int _ _
   ·cases Z
  have ap:(h.add a a) a a:=.inr ⟨rfl,rfl⟩;obtain⟨t,aa⟩:∃t,W.alloc (.cells (zP (ps.length+1)).toArray 103)=t:=⟨_,rfl⟩;rw[aa]at aQ⊢;have w:aO W t:=aa▸dw W _;have bP:t.heap.size=a+1:=by rw[<-aa,dh,a1]
  have ba:eS t a 103 (lay ps 0):=by rw[VF,<-a1,<-aa];exact eS.new W 103 _
  have inner:∀(a6 l:Nat),a6+l=ps.length->∀(V:ak) (x:Nat->au),V.heap.size=t.heap.size->V.os=t.os->V.output=t.output->(∀j,j≠a->V.heap[j]?=t.heap[j]?)->aI Xm O (h.add a a) V->eS V a 103 (lay ps l)->
    ay aj k O (aw (FD 39 [] (dF (.slice (ae ⟨pb,po,af⟩) pss.length pc) (ptr s) (.slice (ae ⟨gb,0,af⟩) (pss.length+1) (pss.length+1)) p (.int .i64 (D.length:Int)) (.slice (ae ⟨a,0,af⟩) (ps.length+1) (ps.length+1)) (.int .i64 (l:Int)) (x 10) (x 11) (x 12) (x 13) (x 14) (x 15) x) tY) (c::o)) V:=by
   intro a6;induction a6 with
   |zero=>
    intro l Z V x v1 v2 v3 v4 ao r;have br:l=ps.length:=ag;subst br;have u:aO W V:=⟨by rw[v1];exact w.size,λj f=>(v4 j ag).trans (w.block j f),v2.trans w.os,v3.trans w.output⟩;obtain⟨l1,l2⟩:=Kq (ps:=ps) (aL _);refine WT cR (u.cell al) a7 N am ag (by rw[<-a1];exact gQ) (r.cell l1) (r.cell l2) (r.free _) (r.free _) λx=> ?_;have H:=(r.set (ps.length*2) (.string lW)).set (ps.length*2+1) (.int .i64 0);rw[VD]at H;have aR:=(ao.set ⟨a,ps.length*2,af⟩ (v:=.string lW) (.string _)).set ⟨a,ps.length*2+1,af⟩ (v:=.int .i64 0) (.int _ _);obtain⟨U,hU⟩:∃U,(V.setCell ⟨a,ps.length*2,af⟩ (.string lW)).setCell ⟨a,ps.length*2+1,af⟩ (.int .i64 0)=U:=⟨_,rfl⟩;have be:∀j,j≠a->U.heap[j]?=V.heap[j]?:=λj f=>by rw[<-hU,uI f,uI f]
    have a8:U.heap.size=V.heap.size/\U.os=V.os/\U.output=V.output:=by rw[<-hU];exact⟨by rw[jX,jX],rfl,rfl⟩
    rw[hU]at H aR⊢;have y:aO W U:=⟨by rw[a8.1];exact u.size,λj f=>(be j ag).trans (u.block j f),a8.2.1.trans u.os,a8.2.2.trans u.output⟩;have aF:=hF.own.bK (y.block gb bo);have bm:(D.map kB++rR (pss.length+1-D.length) (iM af 0 0))[D.length]?=ae (.slice af 0 0):=by
     rw[np az,sY,xC,aw2,if_pos ag]
    refine WU cR (y.cell al) a7 N bb (aF.cell bm) (aF.free _) λx=> ?_;have bU:VR Xm.G (h.add a a) (kB (a,ps)) (kB (a,ps)):=.slice _ _ ⟨ap,rfl,rfl⟩;have bY:VR Xm.G (h.add a a) (lF (a,ps)) (lF (a,ps)):=.slice _ _ ⟨ap,rfl,rfl⟩;have aT:=aR.set ⟨gb,D.length,af⟩ (v:=kB (a,ps)) bU;have c7:gb≠a:=ag;obtain⟨Y,hY⟩:∃Y,U.setCell ⟨gb,D.length,af⟩ (kB (a,ps))=Y:=⟨_,rfl⟩;have ad:∀j,j≠gb->Y.heap[j]?=U.heap[j]?:=λj f=>by rw[<-hY,uI f]
    have ar:Y.heap.size=a+1/\Y.os=U.os/\Y.output=U.output:=by rw[<-hY];exact⟨by rw[jX,a8.1,v1,bP],rfl,rfl⟩
    have bE:eS Y gb 102 ((D++[(a,ps)]).map kB++rR (pss.length+1-(D++[(a,ps)]).length) (.slice af 0 0)):=by
     have:=aF.set D.length (kB (a,ps));rw[hY]at this;rw[show pss.length+1-D.length=(pss.length+1-(D++[(a,ps)]).length)+1 by simp;omega,NS,NJ _ _ az,sY,xC,O5]at this;rw[zT,sU];exact this
    have eY:U.setCell ⟨gb,D.length,af⟩ (.slice (ae ⟨a,0,af⟩) ps.length (ps.length+1))=Y:=hY;rw[eY];rw[hY]at aT;have bM:j9 (λ_=>True) Y (gb+1) 102 1 p D.length (D.map lF):=hF.row.bK λj f=>by
     have B:=hF.apart j f;have h2:=(hF.row.own.lt j f).2;exact(ad j B.1).trans (y.block j h2)
    have av:aO w1 Y:=by
     refine⟨by have:=hF.cv.size;omega,λj f=>(ad j ag).trans ((y.block j (by have:=hF.cv.size;omega)).trans (hF.cv.block j f)),ar.2.1.trans (y.os.trans hF.cv.os),ar.2.2.trans (y.output.trans hF.cv.output)⟩
    obtain⟨v,aU⟩:∃v,Y.heap.size=v:=⟨_,rfl⟩;have b9:aI Xm O ((h.add a a).add v v) (Y.alloc (.cells #[lF (a,ps)] 102)):=by rw[<-aU];exact aT.cells (xs:=[lF (a,ps)]) (λc5 hv=>by simp at hv;subst hv;exact bY) 102
    have an:BR.Sub h ((h.add a a).add v v):=(BR.gF _ _ _).trans (BR.gF _ _ _);refine WV (pa:=ae ⟨pb,po,af⟩) (R:=(h.add a a).add v v) (Pl:=λ_=>True) (base:=gb+1) (xs:=D.map lF) a7 N am aU (λ_ _=>trivial) trivial b9 (hF.vl.mono an) (.slice _ _ ⟨.inr ⟨rfl,rfl⟩,rfl,rfl⟩) (ah0 bM _) (by rw[dh];omega) λb3 W' R' k1 k2 k3 k4 k5 k6 x=> ?_;have b1:(Y.alloc (.cells #[iM (ae ⟨a,0,af⟩) (ps.length+1) (ps.length+1)] 102)).heap.size=a+2:=by rw[dh,ar.1]
    rw[b1]at k6;have ac:∀j,j<a+1->ae j≠p.ownBlock->W'.heap[j]?=Y.heap[j]?:=λj f bw=>(k2.block j (by rw[b1];omega) bw).trans (xu Y _ ag);have aP:∀g,p.ownBlock=ae g->g<a/\gb<g:=λg hg=>by have:=hF.row.own.lt g hg;omega
    have b6:FL O R w1 gb pss (D++[(a,ps)]) b3 R' W':=by
     refine⟨?_,k3,hF.sub.trans (an.trans k5),k5 _ _ (an _ _ hF.rg),bE.bK (ac gb ag λe=>(hF.apart gb e.symm).1 rfl),?_,k4,?_,?_,?_,?_⟩;·refine⟨by have:=k2.size;have:=hF.cv.size;omega,λj f=>(ac j (by have:=hF.cv.size;omega) λe=>by have:=aP j e.symm;omega).trans (av.block j f),k2.os.trans av.os,k2.output.trans av.output⟩
     ·have e:(D++[(a,ps)]).map lF=D.map lF++[.slice (ae ⟨a,0,af⟩) (ps.length+1) (ps.length+1)]:=by simp[lF]
      rw[e];simpa using k1
     ·intro d b;rcases dU.1 b with b|b
      ·obtain⟨q1,q2,q3⟩:=hF.blk d b;have bk:=q3.lt;refine⟨q1,k5 _ _ (an _ _ q2),q3.bK ?_⟩;exact(ac d.1 ag λe=>(hF.apart d.1 e.symm).2 d b rfl).trans ((ad d.1 ag).trans (y.block d.1 bk))
      ·simp at b;subst b;refine⟨by show gb<a;omega,k5 _ _ (.inl ap),H.bK ?_⟩;exact(ac a ag λe=>by have:=aP a e.symm;omega).trans (ad a ag)
     ·rw[zT,List.map_singleton,List.nodup_append];refine⟨hF.yN,az,λa2 ha a6 hb=> ?_⟩;simp at hb;subst hb;obtain⟨d,b,rfl⟩:=iL.1 ha;have:=(hF.blk d b).2.2.lt;omega
     ·intro g hg;rcases k6 g hg with B|B
      ·refine⟨(hF.apart g B).1,λd b=> ?_⟩;rcases dU.1 b with b|b;·exact(hF.apart g B).2 d b
       ·simp at b;subst b;have:=aP g B;show a≠g;omega
      ·refine⟨ag,λd b=> ?_⟩;rcases dU.1 b with b|b;·have:=(hF.blk d b).2.2.lt;omega
       ·simp at b;subst b;show a≠g;omega
     ·rw[zT,hF.parts,gJ,NK,mC,aJ];rfl
    have:=ih (D++[(a,ps)]) b3 R' W' x (by simp;omega) b6;rw[gJ,NK]at this;exact this
   |succ a6 bZ=>
    intro l Z V x v1 v2 v3 v4 ao r;have b0:l<ps.length:=ag;obtain⟨q,hq⟩:∃q,ps[l]?=ae q:=⟨ps[l],bf b0⟩;obtain⟨kb,ko,rfl,bd,bg,bj⟩:=bi l q hq;have u:aO W V:=⟨by rw[v1];exact w.size,λj f=>(v4 j ag).trans (w.block j f),v2.trans w.os,v3.trans w.output⟩;obtain⟨l1,l2⟩:=Kq (ps:=ps) (k:=l) ag;refine WS cR (u.cell al) a7 N bd (u.cell bg) (u.cell bj) am b0 (by rw[<-a1];exact gQ) (r.cell l1) (r.cell l2) (r.free _) (r.free _) λx=> ?_;have H:=(r.set (l*2) (.string q.1)).set (l*2+1) (.int .i64 q.2);rw[VE hq]at H;exact bZ (l+1) ag _ x (by rw[jX,jX,v1]) v2 v3 (λj f=>by rw[uI f,uI f];exact v4 j f) ((ao.set _ (.string _)).set _ (.int _ _)) H
  exact inner ps.length 0 ag t x rfl rfl rfl (λ_ _=>rfl) aQ ba
theorem TO{W2:ak}{R2:BR}{D:List (Nat×List PP)}{qb qc:Nat}{ff:Int}(hD:D.map (·.2)=pss)(hP:sc O w1 pa pss)(a7:pss.length<=1048576)(b1:∀ps∈pss,ps.length<=1048576)(H:aO w1 W2)(ar:¬O gb)(aF:¬O qb)(hg:eS W2 gb 102 (D.map kB++[.slice af 0 0]))(hq:∀(i:Nat) d,D[i]?=ae d->W2.cell? ⟨qb,i,af⟩=ae (lF d))(R:∀d∈D,w1.heap.size<=d.1/\¬O d.1/\d.1≠gb/\d.1≠qb/\eS W2 d.1 103 (laid d.2))(b3:(D.map (·.1)).Nodup)(hK:aI Xm O R2 W2)(aR:∀W x,W.heap.size=W2.heap.size->W.os=W2.os->W.output=W2.output->(∀j,j∉D.map (·.1)->W.heap[j]?=W2.heap[j]?)->aI Xm O R2 W->ay aj k O (aw (FD 39 [] (dF (.slice pa pss.length pc) (ptr s) (.slice (ae ⟨gb,0,af⟩) (pss.length+1) (pss.length+1)) (.slice (ae ⟨qb,0,af⟩) pss.length qc) (x 7) (x 8) (x 9) (.int .i64 r) (.int .i64 ff) (.bool aq) (.int .i64 (pss.length:Int)) (x 14) (x 15) x) rj) (c::o)) W):∀(a i:Nat),a+i=pss.length->∀(W:ak) (x:Nat->au),W.heap.size=W2.heap.size->W.os=W2.os->W.output=W2.output->(∀j,j∉D.map (·.1)->W.heap[j]?=W2.heap[j]?)->(∀(j:Nat) d,i<=j->D[j]?=ae d->eS W d.1 103 (laid d.2))->aI Xm O R2 W->ay aj k O (aw (FD 39 [] (dF (.slice pa pss.length pc) (ptr s) (.slice (ae ⟨gb,0,af⟩) (pss.length+1) (pss.length+1)) (.slice (ae ⟨qb,0,af⟩) pss.length qc) (x 7) (x 8) (x 9) (.int .i64 r) (.int .i64 ff) (.bool aq) (.int .i64 (i:Int)) (x 14) (x 15) x) rj) (c::o)) W:=by
 have be:D.length=pss.length:=by rw[<-hD];simp
 intro a;induction a with
 |zero=>
  intro i hi W x Z v2 v3 v4 v5 a2;have:i=pss.length:=ag;subst this;exact aR W x Z v2 v3 v4 a2
 |succ a ih=>
  intro i hi W x Z v2 v3 v4 v5 a2;have a6:i<pss.length:=ag;obtain⟨d,w⟩:∃d,D[i]?=ae d:=⟨D[i],bf ag⟩;have U:pss[i]?=ae d.2:=by rw[<-hD,iI,w];rfl
  have al:=cG w;obtain⟨d1,d2,d3,d4,d5⟩:=R d al;have an:=b1 d.2 (cG U);have u:aO w1 W:=⟨by rw[Z];exact H.size,λj f=>(v4 j λh=>by obtain⟨p,t,rfl⟩:=iL.1 h;have:=(R p t).1;omega).trans (H.block j f),v2.trans H.os,v3.trans H.output⟩;obtain⟨B,po,ai,ci,rfl,cR,ac,bd⟩:=(hP.on u) i d.2 U;have aU:eS W gb 102 (D.map kB++[.slice af 0 0]):=hg.bK (v4 gb λh=>by obtain⟨p,t,y⟩:=iL.1 h;exact(R p t).2.2.1 y);have b6:W.cell? ⟨qb,i,af⟩=ae (lF d):=(gV (a:=⟨qb,i,af⟩) (v4 qb λh=>by obtain⟨p,t,y⟩:=iL.1 h;exact(R p t).2.2.2.1 y)).trans (hq i d w);have hL:=v5 i d (aL _) w;have aT:(D.map kB++[iM af 0 0])[i]?=ae (kB d):=by rw[nu (by simp;omega),iI,w];rfl
  refine WX (lb:=d.1) cR ac a7 a6 an aF b6 ar (aU.cell aT) d2 (hL.cell (VC d.2)) λx=> ?_
  have inner:∀(b l:Nat),b+l=d.2.length->∀(V:ak) (x:Nat->au),V.heap.size=W.heap.size->V.os=W.os->V.output=W.output->(∀j,j≠d.1->V.heap[j]?=W.heap[j]?)->aI Xm O R2 V->eS V d.1 103 (over d.2 l)->
    ay aj k O (aw (FD 39 [] (dF (.slice (ae ⟨B,po,af⟩) pss.length pc) (ptr s) (.slice (ae ⟨gb,0,af⟩) (pss.length+1) (pss.length+1)) (.slice (ae ⟨qb,0,af⟩) pss.length qc) (x 7) (x 8) (x 9) (.int .i64 r) (.int .i64 ff) (.bool aq) (.int .i64 (i:Int)) (.slice (ae ⟨d.1,0,af⟩) (d.2.length+1) (d.2.length+1)) (.int .i64 (l:Int)) x) tZ) (c::o)) V:=by
   intro b;induction b with
   |zero=>
    intro l hk V x u1 u2 u3 u4 a1 v;have N:aO w1 V:=⟨by rw[u1];exact u.size,λj f=>(u4 j ag).trans (u.block j f),u2.trans u.os,u3.trans u.output⟩;have aP:V.cell? ⟨B,po+i,af⟩=ae (.slice ai d.2.length ci):=by
     have a8:B≠d.1:=λr=>by
      subst r;obtain⟨ba,bb,ao,ap,e1,_,e2,_⟩:=hP i d.2 U;cases e1;have h9:d.1<w1.heap.size:=cC _ _ e2;omega
     exact(gV (a:=⟨B,po+i,af⟩) (u4 B a8)).trans ac
    refine X3 cR aP a7 a6 ag λx=> ?_;refine ih (i+1) ag V x (u1.trans Z) (u2.trans v2) (u3.trans v3) (λj f=>(u4 j λe'=>f (iL.2 ⟨d,al,e'.symm⟩)).trans (v4 j f)) (λj p f ad=> ?_) a1;have a8:p.1≠d.1:=λe'=>by
     have t:(D.map (·.1))[j]?=ae p.1:=by rw[iI,ad];rfl
     have y:(D.map (·.1))[i]?=ae d.1:=by rw[iI,w];rfl
     rw[e']at t;have b0:j<(D.map (·.1)).length:=(cu.1 t).1;have:=(List.getElem?_inj b0 b3).1 (t.trans y.symm);omega
    exact(v5 j p ag ad).bK (u4 p.1 a8)
   |succ b b9=>
    intro l hk V x u1 u2 u3 u4 a1 v;have am:l<d.2.length:=ag;obtain⟨q,aa⟩:∃q,d.2[l]?=ae q:=⟨d.2[l],bf am⟩;obtain⟨ba,bb,ao,ap,e1,_,e2,e3⟩:=hP i d.2 U;cases e1;obtain⟨kb,ko,rfl,av,aJ,aQ⟩:=e3 l q aa;have N:aO w1 V:=⟨by rw[u1];exact u.size,λj f=>(u4 j ag).trans (u.block j f),u2.trans u.os,u3.trans u.output⟩;obtain⟨l1,l2⟩:=Z3 aa;refine WY cR (N.cell e2) a7 a6 av (N.cell aJ) (N.cell aQ) an am d2 (v.cell l1) (v.cell l2) (v.free _) (v.free _) λx=> ?_;have ab:=(v.set (l*2) (.string wh)).set (l*2+1) (.int .i64 (-7));rw[Z4 aa]at ab;exact b9 (l+1) ag _ x (by rw[jX,jX,u1]) u2 u3 (λj f=>by rw[uI f,uI f];exact u4 j f) ((a1.set _ (.string _)).set _ (.int _ _)) ab
  exact inner d.2.length 0 ag W x rfl rfl rfl (λ_ _=>rfl) a2 (by rw[Z5];exact hL)
end
theorem tX{f:Nat->Prop}{l:ak}{r:List KV}(h:bB v j p r)(N:l.heap[p]?=j.heap[p]?)(y:∀k,v k->k<j.heap.size->l.heap[k]?=j.heap[k]?)(x:∀k,v k->k<j.heap.size->f k)(B:¬f p):bB f l p r:=by
 obtain⟨n,R,H,o⟩:=h.tree;refine⟨⟨n,R,N.trans H,?_⟩,B,h.cI⟩;rcases o with o|⟨t,s,u⟩;·exact .inl o
 ·refine .inr ⟨t,s,?_⟩;have w:aY (λk=>v k/\k<j.heap.size) n j t r:=u.weaken (λk a b=>⟨a,b⟩);exact w.bK (λk c=>y k c.1 c.2) (λk c _=>x k c.1 c.2) (aL _)
theorem xZ.q{O:Nat->Prop}{f w:ak}{pa:Option aH}{pss:List (List PP)}(h:xZ f pa pss)(u:∀b,b<f.heap.size->¬O b)(x:∀b,b<f.heap.size->w.heap[b]?=f.heap[b]?):sc O w pa pss:=λi ps y=>by
 have c:∀{b o:Nat} {v:au},f.cell? ⟨b,o,af⟩=ae v->¬O b/\w.cell? ⟨b,o,af⟩=ae v:=λ{b o v} a=>⟨u b (cC _ _ a),(gV (a:=⟨b,o,af⟩) (x b (cC _ _ a))).trans a⟩;obtain⟨R,po,l,p,e,a,s⟩:=h i ps y;exact⟨R,po,l,p,e,(c a).1,(c a).2,λk q B=>by
  obtain⟨H,N,r,j,t⟩:=s k q B;exact⟨H,N,r,(c j).1,(c j).2,(c t).2⟩⟩
theorem Zm(ps:List PP):∀v∈laid ps,DC v:=λv a=>by
 unfold laid at a;rcases dU.1 a with a|a
 ·unfold ll at a;obtain⟨q,_,b⟩:=aA3.1 a;simp at b;rcases b with rfl|rfl;·exact .inl ⟨_,rfl⟩
  ·exact .inr ⟨_,_,rfl⟩
 ·simp at a;rcases a with rfl|rfl;·exact .inl ⟨_,rfl⟩
  ·exact .inr ⟨_,_,rfl⟩
section
variable {k:au->ak->Prop} {f w:ak} {W:Nat} {h:au} {a:Nat->Nat} {O:Nat->Prop} {R:BR} {b:TS} {i:Nat} {t:Nat×Nat×List KV} {pa:Option aH} {pc:Nat} {pss:List (List PP)}
open Classical in
theorem Ya(y:PW f W h a O R w b)(e4:0<b.length)(hi:b[i]?=ae t)(hP:xZ f pa pss)(aU:pss.length<=1048576)(bj:∀ps∈pss,ps.length<=1048576)(dC:∀ps∈pss,∀q∈ps,q.1.size<=9223372036854775807):MC k 39 #[.agg #[ptr t.1,ptr t.2.1],.slice pa pss.length pc] O w (lU f W h a O R w (b.map pp)):=by
 intro c o hn;obtain⟨x,r,a7⟩:=t;obtain⟨g0,ej,_,_,_,ec⟩:=y.list e4;obtain⟨_,_,hx,hr⟩:=ec i _ hi;have b2:=y.wd.tw i _ hi;obtain⟨rv,bU,ar⟩:=b2.ref;dsimp only at hx hr b2 bU ar hn⊢;have br:x<w.heap.size:=(y.known.wr.lt hx).1;have bm:r<w.heap.size:=(y.known.wr.lt hr).1;have es:=(y.wd.lt hi).2;have am:=b2.px;have ap:=b2.pr;have et:=y.cv.size;obtain⟨w1,aF⟩:∃w1,w.alloc (.cells #[ptr x,ptr r] 42)=w1:=⟨_,rfl⟩;have cc:aO w w1:=aF▸dw w _;have e6:w1.heap.size=w.heap.size+1:=by rw[<-aF,dh]
 have cS:aI Xm O R w1:=aF▸y.known.grown _;have cr:w1.cell? ⟨w.heap.size,0,af⟩=ae (ptr x):=by rw[<-aF];unfold bL;rw[cY];rfl
 have ct:w1.cell? ⟨w.heap.size,1,af⟩=ae (ptr r):=by rw[<-aF];unfold bL;rw[cY];rfl
 have ba:∀p,w.heap.size<=p->¬O p:=λp v=>y.new v;have d2:sc O w1 pa pss:=hP.q (λs hb=>y.AV hb) λs hb=>(cc.block s ag).trans (y.cv.block s hb);refine X0 aU rfl rfl λa6=> ?_;rw[aF];have em:Fa (pss.length+1)=(rR (pss.length+1) (iM af 0 0)).toArray:=XU _ _;rw[em];have bi:w1.heap.size=w.heap.size+1:=e6;obtain⟨gb,dd⟩:∃gb,w.heap.size+1=gb:=⟨_,rfl⟩;rw[dd]at bi⊢;have cy:FL O R w1 gb pss [] (.slice af 0 0) (R.add gb gb) (w1.alloc (.cells (rR (pss.length+1) (iM af 0 0)).toArray 102)):=by
  refine⟨dw w1 _,?_,BR.gF _ _ _,.inr ⟨rfl,rfl⟩,?_,j9.nil _ _ _ _ _,.snil 0 0,λd u=>(CL u).elim,aC5,λg N=>(by cases N),rfl⟩
  ·rw[<-bi];exact cS.cells (λb6 hv=>by rw[List.eq_of_mem_replicate hv];exact .snil 0 0) 102
  ·rw[<-bi];exact eS.new w1 102 _
 refine TN bi d2 aU bj (λD lv R1 V a6 hF an=> ?_) pss.length [] _ _ _ a6 az cy;have c6:D.map (·.2)=pss:=by rw[hF.parts,fU ag]
 have cb:gb<V.heap.size:=hF.own.lt;have cj:eS V gb 102 (D.map kB++[.slice af 0 0]):=by
  have:=hF.own;rw[show pss.length+1-D.length=1 by omega]at this;exact this
 have d6:R1 x x:=hF.sub _ _ hx;have ev:R1 r r:=hF.sub _ _ hr;have a8:aO w V:=cc.trans hF.cv;have b0:∀p,p<w.heap.size->∀d∈D,p≠d.1:=λp v d u=>by have:=(hF.blk d u).1;omega
 have hI:bB (λp=>a p=0/\(p<w.heap.size\/V.heap.size<=p)) V x a7:=tX b2.ix (a8.block x br) (λp v ac=>a8.block p ac) (λp v ac=>⟨v,.inl ac⟩) (λe=>by rw[am]at e;omega);have cx:MC k 59 #[ptr x,.slice (ae ⟨gb,0,af⟩) pss.length (pss.length+1)] O V (λc5 O' R' l=>c5=.int .i64 (jb pss a7)/\∃Rm wm,Left (D.map kB) O O' R1 Rm V wm/\aI Xm O' R' l/\BR.Sub Rm R'/\lN x wm l/\bB (λp=>a p=0/\(p<w.heap.size\/V.heap.size<=p)) l x (jw pss a7)):=by
  intro c' ek v;refine Xn (Pb:=gb) (po:=0) (n:=pss.length) (cap:=pss.length+1) (vs:=D.map kB) (pss:=pss) (by simp[an]) rfl hF.known (λcw=> ?_) d6 hI (λp v=>⟨y.wd.fresh p ag,.inr v⟩) ag λO' Rm R' wm l hL cR hs aa cI=>v _ O' R' l ⟨rfl,Rm,wm,hL,cR,hs,aa,cI⟩;refine⟨⟨by simp[an,cw],by simp[an]⟩,λps bl=>⟨by have:=bj ps bl;omega,dC ps bl⟩,hF.rg,λj b6 hj=> ?_,λj b6 ps hj bl=> ?_⟩
  ·rw[ia];exact cj.cell (by rw[nu (cu.1 hj).1];exact hj)
  ·rw[iI]at hj;cases be:D[j]? with
   |none=>rw[be]at hj;cases hj
   |some d=>
    rw[be]at hj;cases hj;have cf:d.2=ps:=by
     have:(D.map (·.2))[j]?=ae d.2:=by rw[iI,be];rfl
     rw[c6,bl]at this;cases this;rfl
    obtain⟨q1,q2,q3⟩:=hF.blk d (cG be);refine .inr ⟨d.1,0,d.2.length+1,(laid d.2).toArray,103,(0,0),q2,by rw[<-cf];rfl,fL _,q3,λp q v=> ?_,λb6 hv=>Zm d.2 b6 (by simpa using hv)⟩;rw[<-cf]at v;obtain⟨a1,a2⟩:=VB v;rw[ia];exact⟨q3.cell a1,q3.cell a2⟩
 refine WW (K:=_) (rb:=r) aU ag (ba _ (aL _)) (hF.cv.cell cr) cx λc5 O1 R2 Vf hu=> ?_;obtain⟨rfl,Rm,wm,hL,aP,ea,aa,cM⟩:=hu;have aT:∀s,s<V.heap.size->¬O s->¬O1 s:=λs hb hO d0=>(hL.fresh s d0).elim hO λy=>ag;have al:∀s,s<V.heap.size->¬O s->s≠x->(∀d∈D,s≠d.1)->Vf.heap[s]?=V.heap[s]?:=λs hb hO da d8=>by
  have H:s<wm.heap.size:=dG hb hL.size;refine(aa.block s H da).trans (hL.exact s hb hO λb6 hv ds=> ?_);obtain⟨d,u,rfl⟩:=iL.1 hv;obtain⟨eP,l',c',e⟩:=ds;unfold kB at e;cases e;exact d8 d u rfl
 have ex:V.heap.size<=Vf.heap.size:=bT hL.size aa.size;have bs:∀d∈D,eS Vf d.1 103 (laid d.2):=λd u=>by
  obtain⟨q1,q2,q3⟩:=hF.blk d u;obtain⟨f1,H⟩:=hL.same d.1 q3.lt (hF.known.apart d.1 q2) _ _ _ q3;have e0:f1.1=(0,0):=f1.2 rfl;rw[e0]at H;exact(aa.block d.1 (dG q3.lt hL.size) ag).trans H
 have eb:BR.Sub R1 R2:=hL.sub.trans ea;have bo:BR.Sub R R2:=hF.sub.trans eb;have c7:∀s,s<f.heap.size->¬O1 s:=λs hb=>aT s ag (y.AV hb);have ci:∀s,s<f.heap.size->Vf.heap[s]?=f.heap[s]?:=λs hb=>by
  have bM:=y.low s hb;exact(al s ag (y.AV hb) (λe=>by rw[e,am]at bM;omega) (b0 s ag)).trans ((a8.block s ag).trans (y.cv.block s hb))
 have co:r≠x:=λe=>by rw[e,am]at ap;omega
 have d1:¬O r:=y.known.apart r hr;have b1:∀g,rv.ownBlock=ae g->g<w.heap.size/\¬O g/\g≠x/\g≠r:=λg N=>by
  have H:=ar g N;refine⟨(bU.row.lt g N).2,y.free ag,λe=>by rw[e,am]at H;omega,λe=>by rw[e,ap]at H;omega⟩
 have d4:bQ Vf r rv a7:=ze bU ((al r ag d1 co (b0 r bm)).trans (a8.block r bm)) λg N=>by
  obtain⟨q1,q2,q3,_⟩:=b1 g N;exact(al g ag q2 q3 (b0 g q1)).trans (a8.block g q1)
 have ce:¬O w.heap.size:=ba _ (aL _);have d7:Vf.heap[w.heap.size]?=w1.heap[w.heap.size]?:=(al _ ag ce ag (λd u=>by have:=(hF.blk d u).1;omega)).trans (hF.cv.block _ ag);refine⟨jb pss a7,_,rfl,aT _ ag ce,(gV (a:=⟨w.heap.size,1,af⟩) d7).trans ct,Ye aP (bo _ _ hr) d4 (hP.q c7 ci) aU bj,λu2 ab R3 Z ef=> ?_⟩;obtain⟨rfl,rfl,⟨aJ,bb,bY⟩,ai,aQ,cp⟩:=ef;have c8:¬ab gb:=aT gb cb (ba gb ag);have ad:∀s,s<Vf.heap.size->s≠r->ae s≠rv.ownBlock->Z.heap[s]?=Vf.heap[s]?:=ai.block;have ao:∀s,w.heap.size<=s->s≠r/\ae s≠rv.ownBlock:=λs hb=>⟨ag,λe=>by have:=(b1 s e.symm).1;omega⟩;have ch:eS Z gb 102 (D.map kB++[.slice af 0 0]):=cj.bK ((ad gb ag (ao gb ag).1 (ao gb ag).2).trans (al gb cb (ba gb ag) ag (λd u=>by have:=(hF.blk d u).1;omega)));have cg:∀d∈D,eS Z d.1 103 (laid d.2):=λd u=>by
  have H:=(hF.blk d u).1;have h2:=(bs d u).lt;exact(bs d u).bK (ad d.1 h2 (ao d.1 ag).1 (ao d.1 ag).2)
 refine⟨jb pss a7,rfl,c8,ch.cell (by rw[np (by simp[an]),sY,an,xC];rfl),λa6=> ?_⟩;have fin:∀B R4,Z.heap.size<=B.heap.size->B.os=Z.os->B.output=Z.output->(∀j,j<Z.heap.size->j∉D.map (·.1)->B.heap[j]?=Z.heap[j]?)->aI Xm ab R4 B->BR.Sub R3 R4->ay aj k ab (aw (c.finish (.bool aq)) o) B:=by
  intro B R4 z1 z2 z3 z4 aR bZ;have eO:=ai.size;have eE:=aP.low;let b9:Nat->Nat:=λp=>if ab p/\w.heap.size<=p then 200 else if aJ.ownBlock=ae p/\w.heap.size<=p then 3*i+3 else a p
  have b3:∀p,p<w.heap.size->b9 p=a p:=λp v=>by
   show(if _ then _ else if _ then _ else _)=_;rw[if_neg ag,if_neg ag]
  have bP:∀p,p<w.heap.size->p∉D.map (·.1):=λp v hm=>by
   obtain⟨d,u,e⟩:=iL.1 hm;exact b0 p v d u e.symm
  have bg:∀g,aJ.ownBlock=ae g->g<Z.heap.size/\g∉D.map (·.1)/\¬ab g:=λg N=>by
   have ac:=(bb.row.lt g N).2;refine⟨ac,λhm=> ?_,?_⟩
   ·obtain⟨d,u,e⟩:=iL.1 hm;have H:=(hF.blk d u).1;have h2:=(bs d u).lt;rcases bY g N with h3|h3;·have:=(b1 g h3).1;omega
    ·omega
   ·have H:VR Xm.G R3 aJ aJ:=rp aQ (cp _ _ (bo _ _ hr)) bb.cell;rcases bb.cases with⟨_,e⟩|⟨g',cap,e,_⟩;·rw[e]at N;simp[fX]at N
    ·rw[e]at N H;simp[fX]at N;subst N;exact aQ.apart _ (xa H)
  have d3:bQ B r aJ (jw pss a7):=ze bb (z4 r ag (bP r bm)) λg N=>z4 g (bg g N).1 (bg g N).2.1;have d9:∀p,p<w.heap.size->¬qP i (a p)->B.heap[p]?=w.heap[p]?:=λp v bk=>by
   have e1:p≠x:=λe=>bk (by rw[e,am];exact .inl (.inl rfl));have bE:p≠r:=λe=>bk (by rw[e,ap];exact .inl (.inr (.inl rfl)));have bw:ae p≠rv.ownBlock:=λe=>bk (by rw[ar p e.symm];exact .inl (.inr (.inr rfl)));have bv:¬O p:=y.free λe=>bk (.inr e);exact(z4 p ag (bP p v)).trans ((ad p ag bE bw).trans ((al p ag bv e1 (b0 p v)).trans (a8.block p v)))
  have dv:bB (λp=>b9 p=0) B x (jw pss a7):=by
   have H:=Ew aP (bo _ _ hx) cM;refine tX H ?_ (λp v ac=> ?_) (λp v ac=> ?_) (λe=> ?_)
   ·have ei:ae x≠rv.ownBlock:=λe=>(b1 x e.symm).2.2.1 rfl;exact(z4 x ag (bP x br)).trans (ad x ag (jm co) ei)
   ·obtain⟨⟨k1,k2⟩,k3⟩:=v;have bE:p≠r:=λe=>by rw[e,ap]at k1;omega
    have bw:ae p≠rv.ownBlock:=λe=>by have:=ar p e.symm;omega
    have dI:p∉D.map (·.1):=λhm=>by
     obtain⟨d,u,e⟩:=iL.1 hm;have h2:=(hF.blk d u);have:=h2.2.2.lt;omega
    exact(z4 p ag dI).trans (ad p ac bE bw)
   ·obtain⟨⟨k1,k2⟩,k3⟩:=v;have bv:=aP.apart p k3;show(if _ then _ else if _ then _ else _)=_;rw[if_neg (λhh=>bv hh.1),if_neg,k1];rintro⟨dl,eB⟩;rcases bY p dl with h3|h3;·have:=(b1 p h3).1;omega
    ·omega
   ·rw[b3 x br,am]at e;omega
  have ee:Twin b9 i B x r (jw pss a7):=by
   refine⟨dv,(b3 x br).trans am,(b3 r bm).trans ap,aJ,d3,λg N=> ?_⟩;by_cases df:g<w.heap.size
   ·rw[b3 g df];rcases bY g N with h3|h3;·exact ar g h3
    ·omega
   ·show(if _ then _ else if _ then _ else _)=_;rw[if_neg (λhh=>(bg g N).2.2 hh.1),if_pos ⟨N,ag⟩]
  have e2:Mv (qP i) a w b9 B:=by
   refine⟨ag,b3,λp v=> ?_,d9,?_,?_⟩
   ·show(if _ then _ else if _ then _ else _)=_;rw[if_neg (λhh=>by have:=aP.low p hh.1;omega),if_neg (λhh=>by have:=(bg p hh.1).1;omega)];exact y.wd.fresh p ag
   ·exact z2.trans (ai.os.trans (aa.os.trans (hL.os.trans a8.os)))
   ·exact z3.trans (ai.output.trans (aa.output.trans (hL.output.trans a8.output)))
  refine hn _ ab R4 B ⟨rfl,b9,_,fw.set y hi e2 ee aR (bo.trans (cp.trans bZ)) λp v=> ?_⟩;rcases hL.fresh p v with H|H;·exact .inl H
  ·refine .inr ⟨ag,?_⟩;show(if _ then _ else if _ then _ else _)=_;rw[if_pos ⟨v,ag⟩]
 have last:∀B R4 lv a6,Z.heap.size<=B.heap.size->B.os=Z.os->B.output=Z.output->(∀j,j<Z.heap.size->j∉D.map (·.1)->B.heap[j]?=Z.heap[j]?)->aI Xm ab R4 B->BR.Sub R3 R4->ay aj k ab (aw (FD 39 [] (dF (.slice pa pss.length pc) (ptr w.heap.size) (.slice (ae ⟨gb,0,af⟩) (pss.length+1) (pss.length+1)) lv (a6 7) (a6 8) (a6 9) (.int .i64 (jb pss a7)) (.int .i64 (jb pss a7)) (.bool aq) (.int .i64 (pss.length:Int)) (a6 14) (a6 15) a6) rj) (c::o)) B:=by
  intro B R4 lv a6 z1 z2 z3 z4 aR bZ;refine X4 ag (L5 aR) λc5 O' R' V5 hu=> ?_;obtain⟨rfl,rfl,bd,cV,e9⟩:=hu;exact⟨rfl,fin V5 R' (bT z1 bd.size) (bd.os.trans z2) (bd.output.trans z3) (λj hj hD=>(bd.block j ag).trans (z4 j hj hD)) cV (bZ.trans e9)⟩
 by_cases e3:pss.length=0
 ·have e0:((0:Nat):Int)=((pss.length:Nat):Int):=by rw[e3]
  rw[e0];exact last Z R3 lv a6 (aL _) rfl rfl (λ_ _ _=>rfl) aQ (BR.Sub.refl _)
 ·obtain⟨U,qc,rfl,eM,cl⟩:∃U qc,lv=.slice (ae ⟨U,0,af⟩) pss.length qc/\gb<U/\U<V.heap.size:=by
   rcases hF.row.2 with⟨_,H⟩|⟨g,cap,el,H,h2,h3,_⟩;·omega
   ·rw[an]at H;exact⟨g,cap,H,ag,(cq.1 h3).1⟩
  have cn:=(hF.apart U (by simp[fX])).2;have d5:R1 U U:=xa hF.vl;have ca:¬O U:=hF.known.apart U d5;have e5:Z.heap[U]?=V.heap[U]?:=(ad U ag (ao U ag).1 (ao U ag).2).trans (al U cl ca ag λd u e=>cn d u e.symm);refine TO (w1:=f) (W2:=Z) (R2:=R3) (D:=D) (gb:=gb) (qb:=U) (qc:=qc) c6 (hP.q c7 λs hb=>rfl) aU bj ⟨by have:=ai.size;omega,λs hb=> ?_,ai.os.trans (aa.os.trans (hL.os.trans (a8.os.trans y.cv.os))),ai.output.trans (aa.output.trans (hL.output.trans (a8.output.trans y.cv.output)))⟩ c8 (aT U cl ca) ch (λj d hj=> ?_) (λd u=>⟨by have:=(hF.blk d u).1;omega,aT d.1 (hF.blk d u).2.2.lt (hF.known.apart d.1 (hF.blk d u).2.1),by have:=(hF.blk d u).1;omega,cn d u,cg d u⟩) hF.yN aQ (λB a6 z1 z2 z3 z4 aR=>last B R3 _ a6 (by rw[z1];exact aL _) z2 z3 (λj _ hj=>z4 j hj) aR (BR.Sub.refl _)) pss.length 0 ag Z a6 rfl rfl rfl (λ_ _=>rfl) (λj d _ hj=>cg d (cG hj)) aQ
  ·have bM:=y.low s hb;exact(ad s ag (λe=>by rw[e,ap]at bM;omega) (λe=>by have:=ar s e.symm;omega)).trans (ci s hb)
  ·refine(gV (a:=⟨U,j,af⟩) e5).trans ?_;have H:(D.map lF)[j]?=ae (lF d):=by rw[iI,hj];rfl
   have:=hF.row.own.cells (g:=U) rfl j (lF d) H;rw[jF,ia]at this;exact this
end
section
variable {k:au->ak->Prop} {f w:ak} {W:Nat} {h:au} {a:Nat->Nat} {O:Nat->Prop} {R:BR} {b:TS} {i:Nat} {t:Nat×Nat×List KV}
theorem kP(w:ak)(ty:aK)(h:x[p]?=ae u):(w.alloc (.cells x ty)).cell? ⟨w.heap.size,p,af⟩=ae u:=by
 unfold bL;rw[cY];exact h
theorem PW.pick(c:PW f W h a O R w b)(l:0<b.length)(k:aO w j){ob fld:Nat}{on:Int}(s:¬O ob)(r:j.cell? ⟨ob,fld,af⟩=ae (.int .i64 on))(y: -9223372036854775808<=on/\on<=9223372036854775807):∃g cap t,b[eC on b.length]?=ae t/\cT O W ob fld g 0 b.length cap on t.1 t.2.1 j/\R t.1 t.1/\R t.2.1 t.2.1:=by
 obtain⟨g,cap,e,_,x,H⟩:=c.list l;have B:=(yV on l).1;obtain⟨t,p⟩:∃t,b[eC on b.length]?=ae t:=⟨_,bf B⟩;obtain⟨c1,c2,u,v⟩:=H _ t p;have o:=c.wd.tM;rw[e]at o;exact⟨g,cap,t,p,⟨c.oW,s,c.known.apart g x,k.cell o,r,by rw[ia];exact k.cell c1,by rw[ia];exact k.cell c2,l,c.wd.cI,y⟩,u,v⟩
open Classical in
theorem fw.ap2(o:PW f W h a O R w b)(v:b[i]?=ae t){w2 w3:ak}{rv':au}{l':List KV}{R':BR}(gC:w.heap.size<=w2.heap.size)(ac:w2.heap.size<=w3.heap.size)(a2:w3.os=w.os)(a6:w3.output=w.output)(B:∀k,k<w.heap.size->¬Part i (a k)->w3.heap[k]?=w.heap[k]?)(U:bB (λk=>a k=0) w2 t.1 l')(aa:w3.heap[t.1]?=w2.heap[t.1]?)(Z:∀k,k<w2.heap.size->a k=0->w3.heap[k]?=w2.heap[k]?)(x:bQ w3 t.2.1 rv' l')(a7:∀g,rv'.ownBlock=ae g->a g=3*i+3\/w2.heap.size<=g)(y:aI Xm O R' w3)(hs:BR.Sub R R'):∃ab,fw f W h a O R w (b.map pp) ab O R' w3 (b.set i (t.1,t.2.1,l')):=by
 have l:=o.wd.tw i _ v;obtain⟨rv,a8,_⟩:=l.ref;have ad:=cJ a8.blk;have ai:=l.ix.lt;let r:Nat->Nat:=λk=>if rv'.ownBlock=ae k/\w2.heap.size<=k then 3*i+3 else a k
 have j:∀k,k<w2.heap.size->r k=a k:=λk c=>by
  show(if _ then _ else _)=_;rw[if_neg ag]
 have a1:Mv (Part i) a w r w3:=by
  refine⟨ag,λk c=>j k ag,λk c=> ?_,B,a2,a6⟩;show(if _ then _ else _)=_;rw[if_neg (λN=>by have:=(x.row.lt k N.1).2;omega)];exact o.wd.fresh k ag
 refine⟨r,fw.set o v (Fb a1) ⟨?_,(j _ ag).trans l.px,(j _ ag).trans l.pr,rv',x,λg u=> ?_⟩ y hs λk c=>.inl c⟩
 ·refine tX U aa (λk c p=>Z k p c) (λk c p=>(j k p).trans c) (λe=> ?_);rw[j _ ag,l.px]at e;omega
 ·by_cases H:w2.heap.size<=g
  ·show(if _ then _ else _)=_;rw[if_pos ⟨u,H⟩]
  ·rw[j g ag];rcases a7 g u with s|s;·exact s
   ·omega
theorem Y9(p:PW f W h a O R w b)(b6:0<b.length)(hi:b[i]?=ae t)(ho:x[2]?=ae (.int .i64 r))(bv: -9223372036854775808<=r/\r<=9223372036854775807):MC k 38 #[ptr W,.agg #[ptr t.1,ptr t.2.1],.agg x] O w (lU f W h a O R w (b.map pp)):=by
 intro c o hn;obtain⟨v,y,l⟩:=t;obtain⟨g0,bU,_,_,_,bE⟩:=p.list b6;obtain⟨_,_,hx,hr⟩:=bE i _ hi;have ai:=p.wd.tw i _ hi;obtain⟨rv,aJ,aa⟩:=ai.ref;dsimp only at hx hr ai aJ aa hn⊢;have c8:v<w.heap.size:=(p.known.wr.lt hx).1;have c7:y<w.heap.size:=(p.known.wr.lt hr).1;have bY:=(p.wd.lt hi).2;have a2:=ai.px;have am:=ai.pr;have ab:∀j,w.heap.size<=j->¬O j:=λj H=>p.new H;obtain⟨Z,al⟩:∃Z,(w.alloc (.cells #[ptr v,ptr y] 42)).alloc (.cells x 39)=Z:=⟨_,rfl⟩;have bd:(w.alloc (.cells #[ptr v,ptr y] 42)).heap.size=w.heap.size+1:=dh _ _;have b1:aO (w.alloc (.cells #[ptr v,ptr y] 42)) Z:=al▸dw _ _;have b0:aO w Z:=(dw w _).trans b1;have bw:Z.heap.size=w.heap.size+2:=by rw[<-al,dh,bd]
 have bm:Z.cell? ⟨w.heap.size+1,2,af⟩=ae (.int .i64 r):=by rw[<-al,<-bd];exact kP _ 39 ho
 obtain⟨g,cap,bP,hu,hP,aT,aR⟩:=p.pick b6 b0 (ob:=w.heap.size+1) (ab _ ag) bm bv;obtain⟨ux,ur,m⟩:=bP;have ad:=p.wd.tw _ _ hu;obtain⟨qv,an,bb⟩:=ad.ref;have bZ:=(p.wd.lt hu).2;have ba:=ad.px;have b9:=ad.pr;dsimp only at hP aT aR ad an bb ba b9;refine WN rfl rfl rfl (by rw[al];exact hP) p.known aT aR λca R1 hy ap c5 ac=> ?_;rw[al]at ap⊢;obtain⟨B,ao⟩:∃B,Z.alloc (.cells #[ptr ux,ptr ur] 42)=B:=⟨_,rfl⟩;have b2:aO Z B:=ao▸dw _ _;have a8:aO w B:=b0.trans b2;rw[ao]at ap⊢;have ct:∀(a6:Nat) a7,(#[ptr v,ptr y]:Array au)[a6]?=ae a7->B.cell? ⟨w.heap.size,a6,af⟩=ae a7:=λa6 a7 hj=>b2.cell (b1.cell (kP w 42 hj));have cn:∀(a6:Nat) a7,(#[ptr ux,ptr ur]:Array au)[a6]?=ae a7->B.cell? ⟨w.heap.size+1+1,a6,af⟩=ae a7:=λa6 a7 hj=>by
  rw[<-ao,show w.heap.size+1+1=Z.heap.size by omega];exact kP Z 42 hj
 have b3:Mv (λ_=>False) a w a B:=Mv.cv p.wd.fresh a8;have bg:bB (λj=>a j=0) B v l:=Ba ai.ix b3 (λp=>p) (λp=>p);have be:bB (λj=>a j=0) B ux m:=Ba ad.ix b3 (λp=>p) (λp=>p);have c6:B.heap.size=w.heap.size+3:=by rw[<-ao,dh,bw]
 have heq:v=ux->l=m:=λe=>by
  subst e;have e1:eC r b.length=i:=by rw[a2]at ba;omega
  rw[e1,hi]at hu;cases hu;rfl
 refine WO (K1:=_) (K2:=λu1 u2 O' R' W'=>(∃s:ak,bB (λj=>a j=0) s v (room l (aW l m))/\lN v B s/\jJ y rv.ownBlock s W'/\∃a1,bQ W' y a1 (room l (aW l m))/\(a1.ownBlock=rv.ownBlock\/∃g,a1.ownBlock=ae g/\s.heap.size<=g))/\O'=O/\u1=.int .i64 (full (aW l m))/\u2=.int .i64 (full (aW l m))/\aI Xm O R' W'/\BR.Sub R R') (K3:=λu u3 O' R' W'=>u=full (aW l m)/\u3=.int .i64 (full (aW l m))/\O'=O/\aI Xm O R' W'/\BR.Sub R R'/\∃s W2:ak,bB (λj=>a j=0) s v (room l (aW l m))/\lN v B s/\jJ y rv.ownBlock s W2/\aO W2 W'/\∃a1,bQ W2 y a1 (room l (aW l m))/\(a1.ownBlock=rv.ownBlock\/∃g,a1.ownBlock=ae g/\s.heap.size<=g))
  (ra:=y) (rb:=ur) hy (ab _ (aL _)) (ab _ ag) (ct 0 _ rfl) (cn 0 _ rfl) (Yc ap (ac _ _ hx) (ac _ _ aT) (λj H=>p.wd.fresh j ag) bg be heq) (λu1 O1 R2 s bM=> ?_) (λu1 u2 O2 R3 W2 aP=> ?_) (λu u3 O3 R4 W3 aQ=> ?_)
 ·obtain⟨rfl,rfl,h1,h2,h3,N⟩:=bM;have H:∀u,u<B.heap.size->u≠v->s.heap[u]?=B.heap[u]?:=h2.block;refine⟨ab _ (aL _),ab _ ag,(gV (a:=⟨w.heap.size,1,af⟩) (H w.heap.size ag ag)).trans (ct 1 _ rfl),(gV (a:=⟨w.heap.size+1+1,1,af⟩) (H (w.heap.size+1+1) ag ag)).trans (cn 1 _ rfl),?_⟩;have bj:bQ s y rv l:=ze (kA aJ a8) (H _ ag λe=>by rw[e,a2]at am;omega) λg U=>H g (by have:=(aJ.row.lt g U).2;omega) λe=>by have:=aa g U;rw[e,a2]at this;omega
  have bi:bQ s ur qv m:=ze (kA an a8) (H _ (by have:=cJ an.blk;omega) λe=>by rw[e,a2]at b9;omega) λg U=>H g (by have:=(an.row.lt g U).2;omega) λe=>by have:=bb g U;rw[e,a2]at this;omega
  refine iD (Yd h3 (N _ _ (ac _ _ hr)) (N _ _ (ac _ _ aR)) bj bi) λu2 O2 R3 W2 aP=> ?_;obtain⟨rfl,rfl,k1,k2,k3,k4⟩:=aP;exact⟨⟨s,h1,h2,k2,k1⟩,rfl,rfl,rfl,k3,ac.trans (N.trans k4)⟩
 ·obtain⟨⟨s,h1,h2,h3,N⟩,rfl,rfl,rfl,h5,h6⟩:=aP;refine⟨_,rfl,iD (L5 h5) λu3 O3 R4 W3 aQ=> ?_⟩;obtain⟨rfl,rfl,k1,k2,k3⟩:=aQ;exact⟨rfl,rfl,rfl,k2,h6.trans k3,s,W2,h1,h2,h3,k1,N⟩
 ·obtain⟨rfl,rfl,rfl,h1,h2,s,W2,h3,N,h5,h6,a1,h7,h8⟩:=aQ;refine⟨_,rfl,?_⟩;rw[decide_eq_true rfl];have q1:=N.size;have q2:=h5.size;have q3:=h6.size;have ar:∀u,u<s.heap.size->u≠y->ae u≠rv.ownBlock->W3.heap[u]?=s.heap[u]?:=λu hb bl bk=>(h6.block u ag).trans (h5.block u hb bl bk);have hA:∃aU,fw f W h a O3 R w (b.map pp) aU O3 R4 W3 (b.set i (v,y,room l (aW l m))):=by
   refine fw.ap2 p hi (w2:=s) (w3:=W3) (rv':=a1) (l':=room l (aW l m)) (R':=R4) ag ag (h6.os.trans (h5.os.trans (N.os.trans a8.os))) (h6.output.trans (h5.output.trans (N.output.trans a8.output))) (λj H aF=> ?_) h3 ?_ (λj H h0=> ?_) (kA h7 h6) (λg U=> ?_) h1 h2
   ·have bs:j≠v:=λe=>aF (by rw[e,a2];exact .inl rfl);have br:j≠y:=λe=>aF (by rw[e,am];exact .inr (.inl rfl));have bo:ae j≠rv.ownBlock:=λe=>aF (by rw[aa j e.symm];exact .inr (.inr rfl));exact(ar j ag br bo).trans ((N.block j ag bs).trans (a8.block j H))
   ·exact ar v ag (λe=>by rw[e,am]at a2;omega) (λe=>by have:=aa v e.symm;omega)
   ·exact ar j H (λe=>by rw[e,am]at h0;omega) (λe=>by have:=aa j e.symm;omega)
   ·rcases h8 with h8|⟨g',h8,h9⟩;·rw[h8]at U;exact .inl (aa g U)
    ·rw[h8]at U;cases U;exact .inr h9
  obtain⟨aU,hA⟩:=hA;exact hn _ _ _ _ ⟨rfl,aU,_,hA⟩
end
structure OpV where
 kd:Int
 on:Int
 ot:Int
 key:ByteArray
 gT:ByteArray
 nn:Int
 pa:Option aH
 pss:List (List PP)
 pc:Nat
 fv:au
 mv:au
def OpV.cells(o:OpV):Array Value:=opC o.kd o.on o.ot o.key o.gT o.nn (.slice o.pa o.pss.length o.pc) o.fv o.mv
structure OpIn(f:ak)(o:OpV):Prop where
 on: -9223372036854775808<=o.on/\o.on<=9223372036854775807
 ot: -9223372036854775808<=o.ot/\o.ot<=9223372036854775807
 key:o.key.size<=9223372036854775807
 gT:o.gT.size<=9223372036854775807
 parts:xZ f o.pa o.pss
 Yp:o.pss.length<=1048576
 VT:∀ps∈o.pss,ps.length<=1048576
 Vo:∀ps∈o.pss,∀q∈ps,q.1.size<=9223372036854775807
section
variable {k:au->ak->Prop} {f w l:ak} {W:Nat} {h:au} {a:Nat->Nat} {O:Nat->Prop} {R R':BR} {b:TS} {i:Nat} {t:Nat×Nat×List KV}
theorem PW.QC(c:PW f W h a O R w b):w.cell? ⟨W,1,af⟩=ae (.int .i64 11):=by
 unfold bL;rw[c.wd.blk];rfl
theorem lU.on(p:PW f W h a O R w b)(u:aO w l)(t:aI Xm O R' l)(x:BR.Sub R R'){v:au}{c:Nat->Prop}{j:BR}{k:ak}(y:lU f W h a O R' l (b.map pp) v c j k):lU f W h a O R w (b.map pp) v c j k:=by
 obtain⟨r,B,o,s⟩:=y;exact⟨r,B,o,(fw.on (R0:=R) p u t x).trans s⟩
theorem GK(k:PW f W h a O R w b){c:BR}(r:u=.bool aq/\v=O/\aO w j/\aI Xm O c j/\BR.Sub R c):lU f W h a O R w (b.map pp) u v c j:=by
 obtain⟨rfl,rfl,l,o,p⟩:=r;exact⟨rfl,a,b,.on (R0:=R) k l o p⟩
theorem PW.opAt(l:PW f W h a O R w b)(o:OpV)(u:(w.alloc (.cells o.cells 39)).alloc (.cells #[ptr p,ptr y] 42)=j):lQ O W w.heap.size (w.heap.size+1) p y o.kd o.on o.ot o.key o.gT o.nn (.slice o.pa o.pss.length o.pc) o.fv o.mv 11 j:=by
 have x:(w.alloc (.cells o.cells 39)).heap.size=w.heap.size+1:=dh _ _;have s:aO (w.alloc (.cells o.cells 39)) j:=u▸dw _ _;have c:∀(k:Nat) v,o.cells[k]?=ae v->j.cell? ⟨w.heap.size,k,af⟩=ae v:=λk v r=>s.cell (kP w 39 r);have t:∀(k:Nat) v,(#[ptr p,ptr y]:Array au)[k]?=ae v->j.cell? ⟨w.heap.size+1,k,af⟩=ae v:=λk v r=>by rw[<-u,<-x];exact kP _ 42 r
 exact⟨l.oW,l.new (aL _),l.new (Hu _),t 0 _ rfl,t 1 _ rfl,c 0 _ rfl,c 1 _ rfl,c 2 _ rfl,c 3 _ rfl,c 4 _ rfl,c 5 _ rfl,c 6 _ rfl,c 7 _ rfl,c 8 _ rfl,s.cell ((dw w _).cell l.QC)⟩
theorem F4(H:PW f W h a O R w b)(u:0<b.length){l:OpV}(r:OpIn f l):MC k 22 #[ptr W,.agg l.cells] O w (lU f W h a O R w (b.map pp)):=by
 intro c o hn;obtain⟨g,cap,t,B,hP,hx,hr⟩:=H.pick u (dw w (.cells l.cells 39)) (ob:=w.heap.size) (fld:=1) (on:=l.on) (H.new (aL _)) (kP w 39 rfl) r.on;refine WG rfl rfl hP H.known hx hr λa7 R1 s U a6 hs=> ?_;obtain⟨w1,Z⟩:∃w1,(w.alloc (.cells l.cells 39)).alloc (.cells #[ptr t.1,ptr t.2.1] 42)=w1:=⟨_,rfl⟩;have j:=H.opAt l Z;have hb:aO w w1:=Z▸(dw w _).trans (dw _ _);rw[Z]at U⊢;have p:PW f W h a O R1 w1 b:=H.on hb U hs;have fin:∀v x R' y,lU f W h a O R1 w1 (b.map pp) v x R' y->ay aj k x (aw (c.finish v) o) y:=λv x R' y s=>hn v x R' y (s.on H hb U hs);by_cases k1:l.kd=1
 ·rw[k1]at j;exact WJ s j (Y3 p u B r.key) fin
 by_cases k2:l.kd=2
 ·rw[k2]at j;exact WC s j (KY p u B r.key) λv x R' y N=>fin _ _ _ _ (GK p N)
 by_cases k3:l.kd=3
 ·rw[k3]at j;exact WE s j (Y8 p u B r.key) fin
 by_cases k4:l.kd=4
 ·rw[k4]at j;exact WK s j (F1 p u B) λv x R' y N=>fin _ _ _ _ (GK p N)
 by_cases k5:l.kd=5
 ·rw[k5]at j;exact WL s j (F1 p u B) λv x R' y N=>fin _ _ _ _ (GK p N)
 by_cases a1:l.kd=10
 ·rw[a1]at j;exact WH s j (Y9 p u B rfl r.ot) fin
 by_cases a2:l.kd=11
 ·rw[a2]at j;exact WB s j (Ya p u B r.parts r.Yp r.VT r.Vo) fin
 exact WI j ⟨k1,k2,k3,k4,k5,a1,a2⟩ (fin _ _ _ _ ⟨rfl,a,b,.refl p⟩)
end
