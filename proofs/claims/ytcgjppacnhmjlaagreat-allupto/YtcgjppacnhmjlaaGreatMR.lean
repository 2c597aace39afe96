/- Own texts: UniC, UniD, UniE, UniF, LawFacts, Chg. -/
import Derived.Test.YtcgjppacnhmjlaaGreatMQ
set_option linter.all false
set_option maxRecDepth 100000
set_option maxHeartbeats 1000000
open Bool renaming false->ax
open Go renaming World->ak,Value->au,cell_later->aS,Calls->aE,heap_alloc_new->cY,Addr->aH,maxLen->cE,info_parts->nF,binOp->kh,Ending->nH,callFunc->vi,run_callFunc_extern->Oc,run_store->Di,asAddr->vm,store->tz,run_eql_ptr_other->aD8
open Go.Addr renaming add_lit->jF,block->aL1
open Go.Addr.mk renaming injEq->aB1
open Go.Calls renaming quiet_of_same->Cx,quiet_of->Ou
open Go.Extern.Atomic renaming storeT->GR
open Go.IntKind renaming i64->cZ,wrap_i64->ft
open Go.Lib renaming size_eq->fY
open Go.Proofs.Tryz renaming prog->aj,underlying69->kH,func72->A7,ntmps72->CX,ntmps87->OO,func87->OV,underlying31->az5,func20->aJ7
open Go.Result renaming andThen->rP
open Go.RowKit renaming Below->aA,Hid->aB
open Go.RowKit.Below renaming refl->cD,grown->pI
open Go.Sem renaming run->fu
open Go.Value renaming oneCell'->qF,pointer->tg
open Go.Value.pointer renaming injEq->av3
open Go.Value.string renaming injEq->aM1
open Go.World renaming block_lt_of_cell?->cC,news_of_block->qA,cell?_setCells_out->GQ
open Int renaming natCast_nonneg->qC
open List renaming getElem?_eq_getElem->bf,getElem?_eq_some_iff->cu,take_of_length_le->fU,mem_cons_self->gq,length_append->gJ,drop_eq_getElem_cons->lG,take_append_drop->jW,length_eq_zero_iff->kY,getElem?_map->iI,length_pos_iff->kE,getElem?_eq_none->lI,ext_getElem?->mD,append_nil->og,cons_append->pF,prefix_append->sS,length_cons->rM,length_take->sW,exists_cons_of_ne_nil->GO,length_nil->zV,nil_prefix->CP,map_nil->zZ,pairwise_map->GZ,take_append_of_le_length->av0
open Nat renaming le_refl->aL,le_trans->bT,lt_of_lt_of_le->dG,zero_le->fL,lt_or_ge->l9,add_zero->th,add_assoc->CU,ne_of_lt->aH1
open Option renaming some->ae,none->af,map_eq_some_iff->ji,isSome_iff_exists->sO
open Option.some renaming injEq->iY
open Pure renaming pure->bN
namespace Go.Proofs.YtcgjppacnhmjlaaGreat
open Go.RowKit
variable {k l U ab:Nat} {h:ak} {u R:List Nat} {p al:Nat->Prop} {a8:List UInt8} {a6 a7:List (dq Int)} {ai:au} {aa ac:Option aH} {a2:List KV} {Z:ByteArray}
section
attribute [local go_sem↓] Go.wp_at_zero Go.wp_at_succ
section
variable {S:Nat->Prop} {w wr f:ak} {g C n1 n2 K:Nat} {c:List UInt8} {A:List (dq Int)} {o v j:List Nat} {a b d:List (dq Int)} {k0 B H W r N x y t:Nat} {q s:dq Int}
theorem MS.step(h:MS S w g C n1 n2 K c A o v j a b d k0 B H W r N wr)(l:aA wr.heap.size wr f){e:dq Int}(u:aY (λk=>S k/\k≠g) K f t e.2)(s:j.length+1<=C):Kids (λk=>S k/\k≠g) K (f.setCells g j.length [ptr t]) (j++[t]) (d++[e])/\oz (f.setCells g j.length [ptr t]) g C (j++[t])/\cF g f (f.setCells g j.length [ptr t]):=
 have p:cF g f (f.setCells g j.length [ptr t]):=AH g [ptr t] j.length f
 ⟨((h.qd.on l).append (Kids.one u)).but p,(h.bo.on l).put [t] s,p⟩
theorem vJ(q:dq Int)(a:List (dq Int)):(eW (q::a)).length=q.2.length+(eW a).length:=by rw[sr,gJ]
theorem MS.left(h:MS S w g C n1 n2 K c A (x::o) (y::v) j (q::a) (s::b) d k0 B H W r N wr)(t:q.1<s.1)(u:n1<=K)(l:aA wr.heap.size wr f):MS S w g C n1 n2 K c A o (y::v) (j++[x]) a (s::b) (d++[q]) k0 (if H=1 then B else B+1) (H-1) W r N (f.setCells g j.length [ptr x]):=by
 have p:=h.cap;simp at p;have R:=h.sm;rw[vJ q a]at R;obtain⟨s1,s2,s3⟩:=h.step l ((h.q0.head.on l).fuel u) ag;have k:=h.on l;refine⟨(k.l0.tail).but s3,k.l1.but s3,k.q0.tail.but s3,k.q1.but s3,s1,s2,by simp;omega,?_,h.g0.tail,h.g1,ag,k.AG s3,h.hg.1,dG k.hg.2 s3.size⟩;rw[<-h.eq,F7 t];simp
theorem MS.right(h:MS S w g C n1 n2 K c A (x::o) (y::v) j (q::a) (s::b) d k0 B H W r N wr)(t:s.1<q.1)(u:n2<=K)(l:aA wr.heap.size wr f):MS S w g C n1 n2 K c A (x::o) v (j++[y]) (q::a) b (d++[s]) k0 B H W (if N=1 then r else r+1) (N-1) (f.setCells g j.length [ptr y]):=by
 have p:=h.cap;simp at p;have R:=h.sm;rw[vJ s b]at R;obtain⟨s1,s2,s3⟩:=h.step l ((h.q1.head.on l).fuel u) ag;have k:=h.on l;refine⟨k.l0.but s3,(k.l1.tail).but s3,k.q0.but s3,k.q1.tail.but s3,s1,s2,by simp;omega,?_,h.g0,h.g1.tail,ag,k.AG s3,h.hg.1,dG k.hg.2 s3.size⟩;rw[<-h.eq,F6 t];simp
theorem MS.same(h:MS S w g C n1 n2 K c A (x::o) (y::v) j (q::a) (s::b) d k0 B H W r N wr)(R:q.1=s.1)(p:aA wr.heap.size wr f)(Z:aY (λk=>S k/\k≠g) K f t (aW q.2 s.2)):MS S w g C n1 n2 K c A o v (j++[t]) a b (d++[(q.1,aW q.2 s.2)]) k0 (if H=1 then B else B+1) (H-1) W (if N=1 then r else r+1) (N-1) (f.setCells g j.length [ptr t]):=by
 have u:=h.cap;simp at u;have U:=h.sm;rw[vJ q a,vJ s b]at U;obtain⟨s1,s2,s3⟩:=h.step p (e:=(q.1,aW q.2 s.2)) Z ag;have l:=h.on p;refine⟨(l.l0.tail).but s3,(l.l1.tail).but s3,l.q0.tail.but s3,l.q1.tail.but s3,s1,s2,by simp;omega,?_,h.g0.tail,h.g1.tail,ag,l.AG s3,h.hg.1,dG l.hg.2 s3.size⟩;rw[<-h.eq,Lc R];simp
def oA(o p a b:Nat):Prop:=(p=1/\a=o/\b=0)\/(p≠1/\a=o+1/\b=p-1)
theorem oA.eq(h:oA k l U ab):(if l=1 then k else k+1)=U/\l-1=ab:=by
 unfold oA at h;split<;>omega
theorem MS.VI(h:MS S w g C n1 n2 K c A (x::o) (y::v) j (q::a) (s::b) d k0 B H W r N wr)(u:q.1<s.1)(R:n1<=K)(t:aA wr.heap.size wr f)(p:oA B H k l):MS S w g C n1 n2 K c A o (y::v) (j++[x]) a (s::b) (d++[q]) k0 k l W r N (f.setCells g j.length [ptr x]):=by
 have:=h.left u R t;rw[p.eq.1,p.eq.2]at this;exact this
theorem MS.right'(h:MS S w g C n1 n2 K c A (x::o) (y::v) j (q::a) (s::b) d k0 B H W r N wr)(u:s.1<q.1)(R:n2<=K)(t:aA wr.heap.size wr f)(p:oA r N k l):MS S w g C n1 n2 K c A (x::o) v (j++[y]) (q::a) b (d++[s]) k0 B H W k l (f.setCells g j.length [ptr y]):=by
 have:=h.right u R t;rw[p.eq.1,p.eq.2]at this;exact this
theorem MS.aj3(h:MS S w g C n1 n2 K c A (x::o) (y::v) j (q::a) (s::b) d k0 B H W r N wr)(a1:q.1=s.1)(Z:aA wr.heap.size wr f)(ht:aY (λR=>S R/\R≠g) K f t (aW q.2 s.2))(p:oA B H k l)(u:oA r N U ab):MS S w g C n1 n2 K c A o v (j++[t]) a b (d++[(q.1,aW q.2 s.2)]) k0 k l W U ab (f.setCells g j.length [ptr t]):=by
 have:=h.same a1 Z ht;rw[p.eq.1,p.eq.2,u.eq.1,u.eq.2]at this;exact this
theorem Lh(f:eH h k l u):∀j a,(u.map ptr)[j]?=ae a->h.cell? ((⟨k,l,af⟩:aH).add j)=ae a:=by
 intro j a b;simp only[iI,ji]at b;obtain⟨c,o,rfl⟩:=b;rw[jF];exact f j c o
theorem MS.fin(h:MS S w g C n1 n2 K c A o v j a b d k0 B H W r N wr)(Z:a=[]\/b=[])(u:A≠[])(x:C<=cE)(y:Open S w)(a1:n1<=K)(a2:n2<=K):eF S ((wr.setCells g j.length (o.map ptr)).setCells g (j.length+o.length) (v.map ptr)) (.slice (ae ⟨g,0,af⟩) (j.length+o.length+v.length) C) (j++o++v)/\Kids S K ((wr.setCells g j.length (o.map ptr)).setCells g (j.length+o.length) (v.map ptr)) (j++o++v) A/\aA w.heap.size w ((wr.setCells g j.length (o.map ptr)).setCells g (j.length+o.length) (v.map ptr)):=by
 have a6:=h.cap;have k:cF g wr (wr.setCells g j.length (o.map ptr)):=AH g _ _ _;have l:cF g (wr.setCells g j.length (o.map ptr)) ((wr.setCells g j.length (o.map ptr)).setCells g (j.length+o.length) (v.map ptr)):=AH g _ _ _;have R:=h.bo.put o ag;have p:=R.put v (by simp;omega);rw[gJ]at p;have f:=((h.qd.append (h.q0.fuel a1)).append (h.q1.fuel a2)).but (k.trans l);have U:d++a++b=A:=by
  rw[<-h.eq];rcases Z with rfl|rfl;·rw[Bv];simp
  ·rw[Br];simp
 rw[U]at f;refine⟨.inr ⟨g,0,C,y g h.hg.1,by simp[CU],by simp;omega,x,p.br,λs=> ?_⟩,f.weaken λa7 t _=>t.1,h.AG (k.trans l)⟩;have:=f.1;rw[s]at this;exact u (kY.mp this.symm)
end
theorem Yl{B H W r N:Nat}(hS:Open p h)(h0:mQ h.heap.size h ab B H u)(h1:mQ h.heap.size h W r N R)(bU:Kids p k h u a6)(bY:Kids p l h R a7)(be:u≠[])(bg:R≠[])(b9:GP a8 a6)(ba:GP a8 a7)(hc:a8.length<=64)(aT:k<=U)(aU:l<=U)(hm:(eW a6).length+(eW a7).length<=1000000)(bm:u.length<=256)(bs:R.length<=256)(hU:∀(S':Nat->Prop)(b:ak)(t a2:Nat) (ac q:List KV),Open S' b->aY S' k b t ac->aY S' l b a2 q->ac.length+q.length<=1000000->(∃z:UInt8,(∀e∈ac,∃an,e.1=a8++z::an)/\∀e∈q,∃an,e.1=a8++z::an)->aE aj 72 #[.pointer (ae ⟨t,0,af⟩),.pointer (ae ⟨a2,0,af⟩)] b λe f=>∃t',e=.returned (.pointer (ae ⟨t',0,af⟩))/\aY S' U f t' (aW ac q)/\aA b.heap.size b f):aE aj 87 #[.slice (ae ⟨ab,B,af⟩) u.length H,.slice (ae ⟨W,r,af⟩) R.length N,.int .i64 a8.length] h λe f=>∃bv j,e=.returned bv/\eF p f bv j/\Kids p U f j (mg a6 a7)/\aA h.heap.size h f:=by
 obtain⟨i0,ad,cg,ai,ch⟩:=nF yw;obtain⟨w0,aR,bM,bi⟩:=run_make_own (P:=aj) h h.heap.size 69 56 i0 (.pointer af) 1 kH ad cg ai .i64 .i64 (u.length+R.length) (by rw[ch];omega) (by unfold cE;omega) (aL _);have ao:aA h.heap.size h w0:=pI (cD _ _) bi (aL _) (λ_ v=>by cases v);obtain⟨g,aQ⟩:∃g,h.heap.size=g:=⟨_,rfl⟩;obtain⟨C,hC⟩:∃C,u.length+R.length=C:=⟨_,rfl⟩;have bP:0<u.length/\0<R.length:=⟨kE.mpr be,kE.mpr bg⟩;have a:aB (MS p h g C k l U a8 (mg a6 a7) u R [] a6 a7 [] ab B H W r N w0):=by
  have aP:=oz.of bM;rw[aQ,hC]at aP;rw[aQ]at h0 h1;refine⟨h0.on ao,h1.on ao,(bU.weaken λaa h1 h2=>⟨h1,ag⟩).on ao,(bY.weaken λaa h1 h2=>⟨h1,ag⟩).on ao,Kids.nil,aP,by simp;omega,rfl,b9,ba,hm,ao,ag,?_⟩;obtain⟨a2,hu⟩:=sO.1 (aP.room 0 ag).1;exact cC _ _ hu
 rw[aQ,hC]at aR;have ec:(C:Int)=(u.length:Int)+(R.length:Int):=ag;rw[ec]at aR;have cf:cZ.wrap ((u.length:Int)+(R.length:Int))=(u.length:Int)+(R.length:Int):=by rw[ft];omega
 have cb:((u.length:Int)==0)=false:=by simp;omega
 have cc:((R.length:Int)==0)=false:=by simp;omega
 have HU:aB (∀(S':Nat->Prop)(b:ak)(t a2:Nat) (ac q:List KV),Open S' b->aY S' k b t ac->aY S' l b a2 q->ac.length+q.length<=1000000->(∃z:UInt8,(∀e∈ac,∃an,e.1=a8++z::an)/\∀e∈q,∃an,e.1=a8++z::an)->aE aj 72 #[.pointer (ae ⟨t,0,af⟩),.pointer (ae ⟨a2,0,af⟩)] b λe f=>∃t',e=.returned (.pointer (ae ⟨t',0,af⟩))/\aY S' U f t' (aW ac q)/\aA b.heap.size b f):=hU;have HS:aB (Open p h):=hS;clear h0 h1 bU bY b9 ba hm hU hS bM bi ao ec be bg;have b3:aB (mg a6 a7≠[]):=λe0=>by
  have h5:=(w9 _ (aL _) a.out.g0 a.out.g1).2.2.2.1;rw[e0]at h5;have h6:=a.out.q0.1;simp at h5;have h7:=bP.1;rw[h6,h5]at h7;simp at h7
 generalize hA:mg a6 a7=A at*;have HA:aB (A≠[]):=b3;have bb:C<=maxLen:=by unfold cE;omega
 clear hA b3
 go_enter OV,OO
 go_wp2_with fail
 clear aR cf cb cc
 go_loopg [0,1,7] (u.length+R.length) (λgk s0 s1 s7 wr=>∃(u R j:List Nat) (a6 a7 d:List (dq Int)) (ab B H W r N:Nat),gk=u.length+R.length/\u.length<=256/\R.length<=256/\s0=.slice (ae ⟨ab,B,af⟩) u.length H/\s1=.slice (ae ⟨W,r,af⟩) R.length N/\s7=.slice (ae ⟨g,0,af⟩) j.length C/\aB (MS p h g C k l U a8 A u R j a6 a7 d ab B H W r N wr))
 case atStart=>exact⟨u,R,[],a6,a7,[],ab,B,H,W,r,N,rfl,bm,bs,rfl,rfl,rfl,a.out⟩
 case round=>
  clear a bP hC bm bs;obtain⟨o,c,j,Z,b1,d,k2,o2,p2,k3,o3,p3,rfl,am,ap,rfl,rfl,rfl,a⟩:=hrel
  match o,c,Z,b1,a,am,ap with
  |[],c,Z,b1,a,am,ap=>
   have hE:Z=[]:=kY.mp (by have:=a.out.q0.1;simpa using this.symm);have aJ:=a.out.cap;have HF:aB _:=a.out.fin (.inl hE) HA.out bb HS.out aT aU;simp only[zV,th,zZ,og]at HF aJ⊢;have al:=HF;clear hE
   go_wp2_with (first
    |(at_builtin;refine Cp rfl _ _ _ rfl 56 i0 kH ad ai g j.length C rfl ⟨k2,o2,af⟩ 0 p2 [] rfl rfl (λcj a2 v=>by simp at v) (λa2 v=>by simp at v) ag a.out.bo.room ?_)
    |(at_builtin;refine Cp rfl _ _ _ rfl 56 i0 kH ad ai g j.length C rfl ⟨k3,o3,af⟩ c.length p3 (c.map ptr) rfl az (Lh a.out.l1.br) (wH _) ag a.out.bo.room ?_))
   go_ret
   exact⟨_,j++c,rfl,al.out.1,al.out.2.1,al.out.2.2⟩
  |x::o,[],Z,b1,a,am,ap=>
   have hE:b1=[]:=kY.mp (by have:=a.out.q1.1;simpa using this.symm);have aJ:=a.out.cap;have HF:aB _:=a.out.fin (.inr hE) HA.out bb HS.out aT aU;obtain⟨zs,b2⟩:∃zs,x::o=zs:=⟨_,rfl⟩;rw[b2]at HF a aJ am⊢;have ci:zs.length=o.length+1:=by rw[<-b2];rfl
   have d2:(0:Int)<(zs.length:Int):=ag;clear ci;clear b2;simp only[zV,th,zZ,og]at HF aJ⊢;have al:=HF;clear hE
   go_wp2_with (first
    |(at_builtin;refine Cp rfl _ _ _ rfl 56 i0 kH ad ai g j.length C rfl ⟨k2,o2,af⟩ zs.length p2 (zs.map ptr) rfl az (Lh a.out.l0.br) (wH _) ag a.out.bo.room ?_)
    |(at_builtin;refine Cp rfl _ _ _ rfl 56 i0 kH ad ai g (j.length+zs.length) C rfl ⟨k3,o3,af⟩ 0 p3 [] rfl rfl (λcj a2 v=>by simp at v) (λa2 v=>by simp at v) ag (a.out.bo.put zs ag).room ?_))
   go_ret
   exact⟨_,j++zs,rfl,al.out.1,al.out.2.1,al.out.2.2⟩
  |x::o,y::c,[],b1,a,_,_=>exact absurd a.out.q0.1 az
  |x::o,y::c,q::Z,[],a,_,_=>exact absurd a.out.q1.1 az
  |x::o,y::c,q::Z,s::b1,a,am,ap=>
   obtain⟨px,co,cs,cp,cr⟩:=a.out.q0.head.byte (a.out.g0.each q gq).2.2;obtain⟨py,ct,cM,cw,cI⟩:=a.out.q1.head.byte (a.out.g1.each s gq).2.2;have cx:=a.out.l0.br 0 x rfl;have cy:=a.out.l1.br 0 y rfl;have c6:=a.out.l0.fits;have c7:=a.out.l1.fits;have c8:=a.out.l0.bZ;have ca:=a.out.l1.bZ;unfold cE at c8 ca;rw[th]at cx cy;simp only[rM]at am ap c6 c7⊢;have cR:(0:Int)<(o.length:Int)+1:=ag;have cV:(0:Int)<(c.length:Int)+1:=ag;have bE:(1:Int)<=(o.length:Int)+1:=ag;have d0:(1:Int)<=(c.length:Int)+1:=ag;have cS:(o.length:Int)+1<=(p2:Int):=ag;have d1:(c.length:Int)+1<=(p3:Int):=ag;have b0:j.length+1<=C:=by have:=a.out.cap;simp at this;omega
   have bk:=a.out.l0.ne;have bl:=a.out.l1.ne;have HX:aB (∀f vs,aA wr.heap.size wr f->(f.setCells g j.length vs).cell? ⟨k2,o2,af⟩=ae (.pointer (ae ⟨x,0,af⟩))/\(f.setCells g j.length vs).cell? ⟨k3,o3,af⟩=ae (.pointer (ae ⟨y,0,af⟩))):=λf vs w=>⟨(GQ g _ _ _ _ (λe _=>absurd e bk)).trans (aS w cx),(GQ g _ _ _ _ (λe _=>absurd e bl)).trans (aS w cy)⟩;have HB:aB (∀n av,aA wr.heap.size wr ((wr.drewN n).alloc av)):=λn av=>(kr (cD _ _) _).alloc (aL _) _;clear bk bl;rcases Gv q.1 s.1 with bw|heq|bj
   ·have bd:=J0 bw
    go_wp2_with fail
    go_quiet ((go_at_call 82;exact Cx (AL _ _ _)))
    go_wp2_with fail
    go_region_held3 (λf=>f.cell? ⟨k2,o2,af⟩=ae (.pointer (ae ⟨x,0,af⟩))) (first|exact cx|exact aS (((cD _ _).alloc (aL _) _).drew) cx|exact(HX.out _ _ (HB.out _ _)).1|go_keep)
     (first|(refine step_append_room (by rfl) (.tmp 65) (.tmp 69) 69 ?_ 56 i0 kH ad ai g j.length C (by rfl) ⟨wr.heap.size,0,af⟩ 1 1 [ptr x] (by rfl) (by rfl) (qA (cs:= #[ptr x]) (t:=56) (fr:=(0,0)) (cY wr _)) (by simp[qF,ptr]) b0 ?_ ?_;rfl;exact(a.out.bo.on (((cD _ _).alloc (aL _) _).drew)).room))
    go_wp2_with fail
    all_goals
     go_roundg (o.length+(c.length+1))
     case measure=>omega
     case rel=>
      refine⟨o,y::c,j++[x],Z,s::b1,d++[q],k2,_,_,k3,o3,p3,az,ag,by simpa using ap,rfl,az,az,?_⟩;exact a.out.VI bw aT (HB.out _ _) (by unfold oA;omega)
   ·have bd:=IY (congrArg UInt8.toNat heq);have c5:aB (∀b,aA wr.heap.size wr b->aE aj 72 #[.pointer (ae ⟨x,0,af⟩),.pointer (ae ⟨y,0,af⟩)] b λe f=>∃t',e=.returned (.pointer (ae ⟨t',0,af⟩))/\aB (aY (λaa=>p aa/\aa≠g) U f t' (aW q.2 s.2))/\aA wr.heap.size wr f):=λb w=>by
     have ce:=a.out.sm;rw[vJ q Z,vJ s b1]at ce;refine(HU.out (λaa=>p aa/\aa≠g) b x y q.2 s.2 (λaa hk=>⟨HS.out aa ?_,?_⟩) (a.out.q0.head.on w) (a.out.q1.head.on w) ag ⟨q.1,(a.out.g0.each q gq).2.2,λe he=>by rw[heq];exact(a.out.g1.each s gq).2.2 e he⟩).mono ?_;·have h6:=a.out.cv.size;have h7:=w.size;omega
     ·have h6:=a.out.hg.2;have h7:=w.size;omega
     ·rintro e f ⟨t',rfl,h6,h7⟩;exact⟨t',rfl,h6,w.trans (h7.mono w.size)⟩
    have b6:aB (∀f,aA wr.heap.size wr f->f.cell? ⟨k2,o2,af⟩=ae (.pointer (ae ⟨x,0,af⟩))/\f.cell? ⟨k3,o3,af⟩=ae (.pointer (ae ⟨y,0,af⟩))):=λf w=>⟨aS w cx,aS w cy⟩;have aF:aB (∀w2 av,aA wr.heap.size wr w2->aA wr.heap.size wr (w2.alloc av)):=λw2 av v=>v.alloc v.size _;have HEq:aB (q.1=s.1):=heq;clear heq;by_cases cl:p2=1<;>by_cases cn:p3=1
    all_goals
     go_wp2_with fail
     go_quiet ((go_at_call 82;exact Cx (AL _ _ _)))
     go_wp2_with fail
     go_region_held3 (λf=>f.cell? ⟨k2,o2,af⟩=ae (.pointer (ae ⟨x,0,af⟩))/\f.cell? ⟨k3,o3,af⟩=ae (.pointer (ae ⟨y,0,af⟩))) (first|exact⟨cx,cy⟩|exact b6.out _ ar|exact b6.out _ (aF.out _ _ ar)|exact HX.out _ _ (aF.out _ _ ar)|go_keep)
      (first
       |(go_at_call 72;refine(c5.out _ (kr (cD _ _) _)).mono ?_;rintro e w2 ⟨t,rfl,hT,ar⟩)
       |(refine step_append_room (by rfl) (.tmp 48) (.tmp 56) 69 ?_ 56 i0 kH ad ai g j.length C (by rfl) ⟨w2.heap.size,0,af⟩ 1 1 [ptr t] (by rfl) (by rfl) (qA (cs:= #[ptr t]) (t:=56) (fr:=(0,0)) (cY w2 _)) (by simp[qF,ptr]) b0 ?_ ?_;rfl;exact(a.out.bo.on (aF.out _ _ ar)).room))
     go_wp2_with fail
     go_quiet (fail)
     go_wp2_with fail
     go_roundg (o.length+c.length)
     case measure=>simp only[rM];omega
     case rel=>
      refine⟨o,c,j++[t],Z,b1,d++[(q.1,aW q.2 s.2)],k2,_,_,k3,_,_,rfl,ag,ag,rfl,rfl,az,?_⟩;exact(a.out.aj3 HEq.out (aF.out _ _ ar) (hT.out.on ((cD _ _).alloc (aL _) _)) (by unfold oA;omega) (by unfold oA;omega)).on (kr (cD _ _) _)
   ·have bd:=IZ bj
    go_wp2_with fail
    go_quiet ((go_at_call 82;exact Cx (AL _ _ _)))
    go_wp2_with fail
    go_region_held3 (λf=>f.cell? ⟨k3,o3,af⟩=ae (.pointer (ae ⟨y,0,af⟩))) (first|exact cy|exact aS (((cD _ _).alloc (aL _) _).drew) cy|exact(HX.out _ _ (HB.out _ _)).2|go_keep)
     (first|(refine step_append_room (by rfl) (.tmp 76) (.tmp 80) 69 ?_ 56 i0 kH ad ai g j.length C (by rfl) ⟨wr.heap.size,0,af⟩ 1 1 [ptr y] (by rfl) (by rfl) (qA (cs:= #[ptr y]) (t:=56) (fr:=(0,0)) (cY wr _)) (by simp[qF,ptr]) b0 ?_ ?_;rfl;exact(a.out.bo.on (((cD _ _).alloc (aL _) _).drew)).room))
    go_wp2_with fail
    all_goals
     go_roundg ((o.length+1)+c.length)
     case measure=>omega
     case rel=>
      refine⟨x::o,c,j++[y],q::Z,b1,d++[s],k2,o2,p2,k3,_,_,az,by simpa using am,ag,az,rfl,az,?_⟩;exact a.out.right' bj aU (HB.out _ _) (by unfold oA;omega)
theorem Ym(a:au)(n:Int)(w:ak):aE aj 87 #[.slice af 0 0,a,.int .i64 n] w λe f=>e=.returned a/\f=w:=by
 go_enter OV,OO
 go_wp2
 go_ret
 exact⟨rfl,rfl⟩
theorem Yk(a:aH)(len cap:Nat)(n:Int)(w:ak)(h:0<len)(b:len<=256):aE aj 87 #[.slice (ae a) len cap,.slice af 0 0,.int .i64 n] w λe f=>e=.returned (.slice (ae a) len cap)/\f=w:=by
 have c:((len:Int)==0)=false:=by simp;omega
 go_enter OV,OO
 go_wp2
 go_ret
 exact⟨rfl,rfl⟩
theorem GP.len(h:GP a8 a6):a6.length<=256:=by
 have:=qu (GZ.mpr h.pw:(a6.map (·.1)).Pairwise (·<·));simpa using this
theorem Yj{K:Nat}{c:List UInt8}{v0:au}(hS:Open p h)(h0:eF p h v0 u)(h1:eF p h ai R)(v:Kids p k h u a6)(w:Kids p l h R a7)(Z:GP c a6)(g1:GP c a7)(hc:c.length<=64)(a2:k<=K)(a8:l<=K)(hm:(eW a6).length+(eW a7).length<=1000000)(hU:∀(b:Nat->Prop)(a:ak)(t aa:Nat) (s q:List KV),Open b a->aY b k a t s->aY b l a aa q->s.length+q.length<=1000000->(∃z:UInt8,(∀e∈s,∃y,e.1=c++z::y)/\∀e∈q,∃y,e.1=c++z::y)->aE aj 72 #[.pointer (ae ⟨t,0,af⟩),.pointer (ae ⟨aa,0,af⟩)] a λe f=>∃t',e=.returned (.pointer (ae ⟨t',0,af⟩))/\aY b K f t' (aW s q)/\aA a.heap.size a f):aE aj 87 #[v0,ai,.int .i64 c.length] h λe f=>∃U j,e=.returned U/\eF p f U j/\Kids p K f j (mg a6 a7)/\aA h.heap.size h f:=by
 have a1:u.length<=256:=by rw[v.1];exact Z.len
 have ad:R.length<=256:=by rw[w.1];exact g1.len
 rcases h0 with⟨rfl,rfl⟩|⟨k0,B,H,i1,rfl,i3,i4,i5,o⟩
 ·have ha:a6=[]:=kY.mp (by have:=v.1;simpa using this.symm);subst ha;refine(Ym ai c.length h).mono ?_;rintro e f ⟨rfl,x⟩;subst x;exact⟨_,R,rfl,h1,by rw[Bv];exact w.fuel a8,cD _ _⟩
 ·have al:0<u.length:=kE.mpr o;have ab:k0≠h.heap.size:=by
   obtain⟨c0,cr,rfl⟩:=GO o;have:=cC _ _ (i5 0 c0 rfl);exact aH1 this
  rcases h1 with⟨rfl,rfl⟩|⟨W,r,N,j1,rfl,j3,j4,j5,j6⟩
  ·have hb:a7=[]:=kY.mp (by have:=w.1;simpa using this.symm);subst hb;refine(Yk ⟨k0,B,af⟩ u.length H c.length h al a1).mono ?_;rintro e f ⟨rfl,x⟩;subst x;exact⟨_,u,rfl,.inr ⟨k0,B,H,i1,rfl,i3,i4,i5,o⟩,by rw[Br];exact v.fuel a2,cD _ _⟩
  ·have ac:W≠h.heap.size:=by
    obtain⟨c0,cr,rfl⟩:=GO j6;have:=cC _ _ (j5 0 c0 rfl);exact aH1 this
   exact Yl hS ⟨i3,i4,i5,ab⟩ ⟨j3,j4,j5,ac⟩ v w o j6 Z g1 hc a2 a8 hm a1 ad hU
end
theorem jK.uniq{o b:Option Int}(j:jK p h aa o)(c:jK al h aa b):o=b:=by
 cases o with
 |none=>
  cases b with
  |none=>rfl
  |some v=>obtain⟨s,_,a,_⟩:=c;have f:aa=none:=j;rw[f]at a;cases a
 |some v=>
  obtain⟨s,_,a,r⟩:=j;cases b with
  |none=>have f:aa=none:=c;rw[f]at a;cases a
  |some t=>
   obtain⟨u,_,k,l⟩:=c;rw[a]at k;cases k;rw[r]at l;cases l;rfl
theorem eF.uniq(r:eF p h ai u)(j:eF al h ai R):u=R:=by
 rcases r with⟨rfl,rfl⟩|⟨k,o,cap,_,rfl,_,_,s,B⟩
 ·rcases j with⟨rfl,_⟩|⟨x,y,l,_,a,_⟩;·rfl
  ·cases a
 ·rcases j with⟨_,a⟩|⟨x,y,l,_,a,_,_,t,H⟩;·cases a
  ·simp only[Value.slice.injEq,iY,aB1]at a;obtain⟨⟨rfl,rfl,_⟩,N,rfl⟩:=a;refine mD λi=> ?_;by_cases w:i<u.length
   ·have c:=bf w;have f:=bf (l:=R) (i:=i) ag;have v:=s i _ c;have b:=t i _ f;rw[v]at b;simp only[iY,av3,aB1]at b;rw[c,f,b.1]
   ·rw[lI ag,lI ag]
theorem aY.uniq{S t:Nat->Prop}{w:ak}:∀{n m b:Nat} {l f:List KV},aY S n w b l->aY t m w b f->l=f
 |0,_,_,_,_,h,_=>h.elim
 |n+1,0,_,_,_,_,h=>h.elim
 |n+1,m+1,b,l,f,⟨pre,vp,bv,ov,o,xs,r,a,H,R,hl,y,Z⟩,⟨aa,ab,a2,a8,a6,bk,s,c,N,U,a7,B,a1⟩=>by
  have j:=a.c0.symm.trans c.c0;have k:=a.c1.symm.trans c.c1;have p:=a.c2.symm.trans c.c2;simp only[iY,aM1,av3]at j k p;subst j;subst k;subst p;have u:=H.uniq N;have v:=R.uniq U;subst u;subst v;have x:r=s:=by
   refine mD λi=> ?_;by_cases W:i<o.length
   ·have c1:=bf W;have c2:=bf (l:=r) (i:=i) ag;have c3:=bf (l:=s) (i:=i) ag;rw[c2,c3,aY.uniq (y i _ _ c1 c2) (B i _ _ c1 c3)]
   ·rw[lI ag,lI ag]
  subst x;rw[Z.eq,a1.eq]
section
attribute [local go_sem↓] Go.wp_at_zero Go.wp_at_succ
theorem Kw:∀{c a b:List UInt8},c<+:a->c<+:b->c.length<=cX a b
 |[],_,_,_,_=>fL _
 |z::c,a,b,⟨r,f⟩,⟨s,h⟩=>by
  subst f;subst h;have:=Kw (c:=c) (a:=c++r) (b:=c++s) (sS _ _) (sS _ _);simp only[pF,cX,if_true,rM];omega
theorem aY.tight{S:Nat->Prop}{w:ak}:∀{n t:Nat} {l:List KV} {c:List UInt8},aY S n w t l->(∀e∈l,c<+:e.1)->c.length<=64/\aY S (65-c.length) w t l
 |0,_,_,_,h,_=>h.elim
 |n+1,t,l,c,⟨pre,vp,j,Z,o,xs,k,f,u,v,B,s,a⟩,N=>by
  have H:=(a.uy N).length_le;have U:=f.short;rw[fY]at U;refine⟨ag,?_⟩;rw[show 65-c.length=(64-c.length)+1 by omega];refine⟨pre,vp,j,Z,o,xs,k,f,u,v,B,λi d g p b=> ?_,a⟩;obtain⟨x,W⟩:=a.aT.byte b;have:=(aY.tight (c:=pre.data.toList++[x]) (s i d g p b) λe y=>by
   obtain⟨r,R⟩:=a.aT.pre i x g W b e y;exact⟨r,by rw[R];simp⟩).2
  exact this.fuel (by simp;simp at H;omega)
structure PH(S:Nat->Prop)(K:Nat)(w:ak)(t k:Nat)(c:List UInt8)(l:List KV)(vp:Option aH)(ov:Option Int)(a:List (dq Int)):Prop where
 view:View c ov a l
 own:jK S w vp ov
 call:∀w1,aA w.heap.size w w1->aE aj 86 #[.pointer (ae ⟨t,0,af⟩),.int .i64 k] w1 λe f=>∃bv o,e=.returned (.tuple #[.pointer vp,bv])/\eF S f bv o/\Kids S K f o a/\aA w.heap.size w f/\aA w1.heap.size w1 f
theorem MM{n:Nat}(hS:Open p h)(hT:aY p n h k a2)(a6:h.cell? ⟨k,0,af⟩=ae (.string Z))(hk:l<=Z.size):Z.size<=64/\∃vp R a,PH p (64-l) h k l (Z.data.toList.take l) a2 vp R a/\(R=af->2<=a.length\/∃y,Z.data.toList[l]?=ae y/\a=[(y,a2)]):=by
 cases n with
 |zero=>exact hT.elim
 |succ n=>
  have a7:=hT;obtain⟨b,vp,bv,R,o,xs,gs,H,hO,hR,hl,hC,s⟩:=hT;obtain rfl:b=Z:=by have:=H.c0.symm.trans a6;simpa using this
  have hp:=H.short;refine⟨hp,?_⟩;rcases l9 l b.size with U|U
  ·have a1:l<b.data.toList.length:=by simpa using U
   have aa:∀e∈a2,∃r,e.1=b.data.toList.take l++b.data.toList[l]::r:=λe v=>by
    obtain⟨r,w⟩:=s.front v;refine⟨b.data.toList.drop (l+1)++r,?_⟩;rw[<-w]
    conv=>lhs;rw[<-jW l b.data.toList]
    rw[lG a1];simp
   refine⟨af,af,[(b.data.toList[l],a2)],⟨aq7 s.ck a7.ne aa,rfl,λB j=> ?_⟩,λ_=>.inr ⟨_,bf a1,rfl⟩⟩;refine(aj9 (aS j a6) hp U).mono ?_;rintro e f ⟨rfl,N⟩;have u:aA B.heap.size B f:=N▸cH _ _;have t:=j.trans (u.mono j.size);refine⟨_,[k],rfl,row_one (hS _ j.size) (by rw[N];simp[ptr]),Kids.one ?_,t,u⟩;have:=(a7.tight (c:=b.data.toList.take l++[b.data.toList[l]]) λe v=>by obtain⟨r,w⟩:=aa e v;exact⟨r,by rw[w];simp⟩).2;refine aY.on (w:=h) ?_ t;exact this.fuel (by simp at a1⊢;omega)
  ·have a8:l=b.size:=ag;have ab:b.data.toList.take l=b.data.toList:=fU (by rw[a8,fY];exact aL _);refine⟨vp,R,xs.zip gs,⟨by rw[ab];exact s.view,hO,λB j=> ?_⟩,λh0=>.inl ?_⟩
   ·refine(ak0 (aS j a6) (aS j H.c1) (aS j H.c2) hp a8).mono ?_;rintro e f ⟨rfl,m,N⟩;have u:aA B.heap.size B f:=N▸tK _ _;have t:=j.trans (u.mono j.size);refine⟨_,o,rfl,hR.later t,(Kids.of hl s.aT.len (λi c g h1 W=> ?_)),t,u⟩;obtain⟨x,hx⟩:=s.aT.byte W;have:=((hC i c g h1 W).tight (c:=b.data.toList++[x]) λe v=>by
     obtain⟨r,w⟩:=s.aT.pre i x g hx W e v;exact⟨r,by rw[w];simp⟩).2
    refine aY.on (w:=h) ?_ t;exact this.fuel (by simp;omega)
   ·have:=s.two h0;have h3:=s.aT.len;simp;omega
theorem aq1(u:Option aH)(w:ak):aE aj 72 #[.pointer af,.pointer u] w λe f=>e=.returned (.pointer u)/\f=w:=by
 go_enter A7,CX
 go_wp2
 go_ret
 exact⟨rfl,rfl⟩
theorem aq2(t:Nat)(w:ak):aE aj 72 #[.pointer (ae ⟨t,0,af⟩),.pointer af] w λe f=>e=.returned (.pointer (ae ⟨t,0,af⟩))/\f=w:=by
 go_enter A7,CX
 go_wp2
 go_ret
 exact⟨rfl,rfl⟩
theorem aq3(t:Nat)(w:ak):aE aj 72 #[.pointer (ae ⟨t,0,af⟩),.pointer (ae ⟨t,0,af⟩)] w λe f=>e=.returned (.pointer (ae ⟨t,0,af⟩))/\f=w:=by
 have heq:=Jg t w
 go_enter A7,CX
 go_wp2
 go_ret
 exact⟨rfl,rfl⟩
theorem aq4{r:ByteArray}{vp vq:Option aH}{L1:ak->au->Prop}{L2:ak->au->au->Prop}{L3:ak->au->Prop}{u:nH->ak->Prop}(heq:(kh .eql 56 (.pointer (ae ⟨k,0,af⟩)) (.pointer (ae ⟨l,0,af⟩))).run aj h=.ok (.bool ax) h)(a2:h.cell? ⟨k,0,af⟩=ae (.string Z))(a7:h.cell? ⟨l,0,af⟩=ae (.string r))(hp:Z.size<=64)(hq:r.size<=64)(a1:cX Z.data.toList r.data.toList=U)(a8:U<=Z.size)(hA:∀a,aA h.heap.size h a->aE aj 86 #[.pointer (ae ⟨k,0,af⟩),.int .i64 U] a λe f=>∃b,e=.returned (.tuple #[.pointer vp,b])/\L1 f b/\aA h.heap.size h f)(hB:∀a b,L1 a b->aA h.heap.size h a->aE aj 86 #[.pointer (ae ⟨l,0,af⟩),.int .i64 U] a λe f=>∃c,e=.returned (.tuple #[.pointer vq,c])/\L2 f b c/\aA h.heap.size h f)(hD:∀a b c,L2 a b c->L2 a.drew b c)(hM:∀a b c,L2 a b c->aA h.heap.size h a->aE aj 87 #[b,c,.int .i64 U] a λe f=>∃bx,e=.returned bx/\L3 f bx/\aA h.heap.size h f)(hJ:∀a bx,L3 a bx->aA h.heap.size h a->aE aj 75 #[.string (Z.extract 0 U),.pointer (vq.or vp),bx] a λe f=>∃s,e=.returned (.pointer (ae ⟨s,0,af⟩))/\aA h.heap.size h f/\u e f):aE aj 72 #[.pointer (ae ⟨k,0,af⟩),.pointer (ae ⟨l,0,af⟩)] h u:=by
 have N:=λa=>zk Z r a (by unfold cE;omega) (by unfold cE;omega);rw[a1]at N;have HS:aB (∀a,aE aj 76 #[.string Z,.string r] a λe f=>e=.returned (.int .i64 U)/\∃n,f=a.drewN n):=N;have R:aB (∀a,aA h.heap.size h a->aE aj 86 #[.pointer (ae ⟨k,0,af⟩),.int .i64 U] a λe f=>∃b,e=.returned (.tuple #[.pointer vp,b])/\L1 f b/\aA h.heap.size h f):=hA;have W:aB (∀a b,L1 a b->aA h.heap.size h a->aE aj 86 #[.pointer (ae ⟨l,0,af⟩),.int .i64 U] a λe f=>∃c,e=.returned (.tuple #[.pointer vq,c])/\L2 f b c/\aA h.heap.size h f):=hB;have HD:aB (∀a b c,L2 a b c->L2 a.drew b c):=hD;have HM:aB (∀a b c,L2 a b c->aA h.heap.size h a->aE aj 87 #[b,c,.int .i64 U] a λe f=>∃bx,e=.returned bx/\L3 f bx/\aA h.heap.size h f):=hM;have t:aB (∀a bx,L3 a bx->aA h.heap.size h a->aE aj 75 #[.string (Z.extract 0 U),.pointer (vq.or vp),bx] a λe f=>∃s,e=.returned (.pointer (ae ⟨s,0,af⟩))/\aA h.heap.size h f/\u e f):=hJ;have j:aB (h.cell? ⟨k,0,af⟩=ae (.string Z)):=a2;have h0:(0:Int)<=(U:Int):=qC _;have h1:(U:Int)<=(Z.size:Int):=ag;clear N hA hB hD hM hJ a1;cases vq with
 |none=>
  simp only[Option.none_or]at t
  go_enter A7,CX
  go_wp2_with fail
  go_quiet ((go_at_call 76;exact Ou (HS.out _)))
  go_wp2_with (first
   |(go_at_call_of 86 (tg (ae (Addr.mk k 0 af)));refine(R.out _ (tK _ _)).mono ?_;rintro e a ⟨b,rfl,x,v⟩)
   |(go_at_call_of 86 (tg (ae (Addr.mk l 0 af)));refine(W.out _ _ x v).mono ?_;rintro e w2 ⟨c,rfl,y,o⟩))
  have a6:=aS o j.out
  go_region_held3 (λf=>f.cell? ⟨k,0,af⟩=ae (.string Z))
   (first|exact aS w j.out|exact aS p j.out|exact aS o j.out|go_keep)
   (first
    |(go_at_call 87;refine(HM.out _ _ _ (HD.out _ _ _ y) o.drew).mono ?_;rintro e w3 ⟨bx,rfl,B,p⟩)
    |(go_at_call 75;refine(t.out _ _ B p).mono ?_;rintro e w4 ⟨s,rfl,w,H⟩))
  go_wp2
  exact H
 |some q=>
  simp only[Option.some_or]at t
  go_enter A7,CX
  go_wp2_with fail
  go_quiet ((go_at_call 76;exact Ou (HS.out _)))
  go_wp2_with (first
   |(go_at_call_of 86 (tg (ae (Addr.mk k 0 af)));refine(R.out _ (tK _ _)).mono ?_;rintro e a ⟨b,rfl,x,v⟩)
   |(go_at_call_of 86 (tg (ae (Addr.mk l 0 af)));refine(W.out _ _ x v).mono ?_;rintro e w2 ⟨c,rfl,y,o⟩))
  have a6:=aS o j.out
  go_region_held3 (λf=>f.cell? ⟨k,0,af⟩=ae (.string Z))
   (first|exact aS w j.out|exact aS p j.out|exact aS o j.out|go_keep)
   (first
    |(go_at_call 87;refine(HM.out _ _ _ (HD.out _ _ _ y) o.drew).mono ?_;rintro e w3 ⟨bx,rfl,B,p⟩)
    |(go_at_call 75;refine(t.out _ _ B p).mono ?_;rintro e w4 ⟨s,rfl,w,H⟩))
  go_wp2
  exact H
theorem jK.or{S:Nat->Prop}{w:ak}{j f:Option aH}{r b:Option Int}(k:jK S w j r)(h:jK S w f b):jK S w (f.or j) (b.or r):=by
 cases b with
 |none=>rw[show f=af from h];simpa using k
 |some v=>obtain⟨l,a,rfl,c⟩:=h;exact⟨l,a,rfl,c⟩
theorem Nl:∀(a6:Nat){c0:List UInt8} {S:Nat->Prop} {w:ak} {t a1 n1 n2:Nat} {l m:List KV},65<=c0.length+a6->Open S w->aY S n1 w t l->aY S n2 w a1 m->(∀e∈l,c0<+:e.1)->(∀e∈m,c0<+:e.1)->l.length+m.length<=1000000->aE aj 72 #[.pointer (ae ⟨t,0,af⟩),.pointer (ae ⟨a1,0,af⟩)] w (oy S a6 (aW l m) w)
 |0,c0,S,w,t,a1,n1,n2,l,m,hk,hS,B,Z,hl,hm,hs=>by
  have:=(B.tight hl).1;omega
 |a6+1,c0,S,w,t,a1,n1,n2,l,m,hk,hS,B,Z,hl,hm,hs=>by
  by_cases an:t=a1
  ·subst an;have e:=B.uniq Z;subst e;refine(aq3 t w).mono ?_;rintro e f ⟨rfl,hw⟩;subst hw;refine⟨t,rfl,?_,cD _ _⟩;rw[Ni B.ck];have:=(B.tight hl).2;exact this.fuel ag
  ·obtain⟨pre,ai,ar⟩:∃pre:ByteArray,w.cell? ⟨t,0,af⟩=ae (.string pre)/\c0<+:pre.data.toList:=by
    cases n1 with
    |zero=>exact B.elim
    |succ n=>obtain⟨pre,vp,s,ov,o,xs,gs,hN,hO,hR,aP,hC,a8⟩:=B;exact⟨pre,hN.c0,a8.uy hl⟩
   obtain⟨a2,al,av⟩:∃pre:ByteArray,w.cell? ⟨a1,0,af⟩=ae (.string pre)/\c0<+:pre.data.toList:=by
    cases n2 with
    |zero=>exact Z.elim
    |succ n=>obtain⟨pre,vp,s,ov,o,xs,gs,hN,hO,hR,aP,hC,a8⟩:=Z;exact⟨pre,hN.c0,a8.uy hm⟩
   obtain⟨N,p2,p3⟩:=Kx pre.data.toList a2.data.toList;have a7:=Ku pre.data.toList a2.data.toList;have aa:=Kv pre.data.toList a2.data.toList;rw[<-fY]at a7 aa;have aJ:=Kw ar av;obtain⟨same,am⟩:∃same,cX pre.data.toList a2.data.toList=same:=⟨_,rfl⟩;rw[am]at N p2 p3 a7 aa aJ;have b1:a2.data.toList.take same=pre.data.toList.take same:=by
    have U:(pre.data.toList.take same).length=same:=by rw[sW,<-fY];omega
    conv=>lhs;rw[p2]
    rw[av0 ag,fU ag]
   obtain⟨aT,vp,r,a,s1,t1⟩:=MM hS B ai a7;obtain⟨aU,vq,o2,b,s2,t2⟩:=MM hS Z al aa;rw[b1]at s2;obtain⟨c,hc⟩:∃c,pre.data.toList.take same=c:=⟨_,rfl⟩;have ap:c.length=same:=by rw[<-hc,sW,<-fY];omega
   rw[hc]at s1 s2;have ad:=w9 _ (aL _) s1.view.gp s2.view.gp;have b0:=(s1.view.aW s2.view).shaped (λh0=>by
    have e2:o2=none:=by cases o2 with
     |none=>rfl
     |some b6=>simp at h0
    have e1:r=none:=by rw[e2]at h0;simpa using h0
    rcases t1 e1 with h|⟨y,hy,ha⟩;·exact bT h ad.2.2.2.1
    ·rcases t2 e2 with h|⟨z,hz,p⟩;·exact bT h ad.2.2.2.2
     ·have b2:y≠z:=by
       obtain⟨i1,j1⟩:=cu.mp hy;obtain⟨i2,j2⟩:=cu.mp hz;exact p3 y z _ _ (by rw[lG i1,j1]) (by rw[lG i2,j2])
      rw[ha,p];rcases Gv y z with h|h|h;·rw[F7 h,Bv];simp
      ·exact absurd h b2
      ·rw[F6 h,Br];simp)
   have aQ:(aW l m).length<=1000000:=bT (EM s1.view.ck) hs;have aF:(eW a).length+(eW b).length<=1000000:=by
    have e1:=s1.view.eq;have e2:=s2.view.eq;have e3:l.length=(c9 c r).length+(eW a).length:=by rw[e1,gJ]
    have e4:m.length=(c9 c o2).length+(eW b).length:=by rw[e2,gJ]
    omega
   refine aq4 (L1:=λf s=>aA w.heap.size w f/\∃o,eF S f s o/\Kids S (64-same) f o a) (L2:=λf s bw=>∃o v,eF S f s o/\Kids S (64-same) f o a/\eF S f bw v/\Kids S (64-same) f v b) (L3:=λf bx=>∃j,eF S f bx j/\Kids S (64-same) f j (mg a b)) (vp:=vp) (vq:=vq) (by obtain⟨ca,u⟩:=B.blk;obtain⟨cb,x⟩:=Z.blk;exact Jf an u x) ai al aT aU am a7 ?_ ?_ ?_ ?_ ?_
   ·intro H p;refine(s1.call H p).mono ?_;rintro e f ⟨s,o,rfl,u,x,R,_⟩;exact⟨s,rfl,⟨R,o,u,x⟩,R⟩
   ·rintro H s ⟨_,o,u,x⟩ p;refine(s2.call H p).mono ?_;rintro e f ⟨bw,v,rfl,R,h4,U,k⟩;exact⟨bw,rfl,⟨o,v,u.later k,x.on k,R,h4⟩,U⟩
   ·rintro H s bw ⟨o,v,u,x,R,h4⟩;have k:aA H.heap.size H H.drew:=(cD _ _).drew;exact⟨o,v,u.later k,x.on k,R.later k,h4.on k⟩
   ·rintro H s bw ⟨o,v,u,x,R,h4⟩ p;have:=Yj (c:=c) (K:=64-same) (hS.later p) u R x h4 s1.view.gp s2.view.gp ag (aL _) (aL _) aF (λS' w2 t' u' b3 q ao hp hq aR hz=>by
     obtain⟨z,z1,z2⟩:=hz;have zp:∀e∈b3,c++[z]<+:e.1:=λe W=>by obtain⟨ab,hr⟩:=z1 e W;exact⟨ab,by rw[hr];simp⟩
     have zq:∀e∈q,c++[z]<+:e.1:=λe W=>by obtain⟨ab,hr⟩:=z2 e W;exact⟨ab,by rw[hr];simp⟩
     refine(Nl a6 (c0:=c++[z]) (by simp;omega) ao hp hq zp zq aR).mono ?_;rintro e f ⟨ac,W,U,k⟩;refine⟨ac,W,?_,k⟩;have:=(U.tight (c:=c++[z]) λe W=>by
      rcases(ug hq.ck).mp W with h|⟨h,_⟩;·exact zq e h
      ·exact zp e h).2
     exact this.fuel (by simp;omega))
    rw[ap]at this;refine this.mono ?_;rintro e f ⟨bx,j,rfl,U,k,h7⟩;exact⟨bx,rfl,⟨j,U,k⟩,p.trans (h7.mono p.size)⟩
   ·rintro H bx ⟨j,U,k⟩ p;refine(mZ (S:=S) (n:=64-same) (hS.later p) (by simp;omega) ((s1.own.or s2.own).later p) U k.to.1 k.to.2 (by rw[ED,hc];exact b0) aQ).mono ?_;intro e f h;obtain⟨t',h7,h8,h9⟩:=AA p h;obtain⟨ac,dI,eO,gC⟩:=h9;exact⟨t',h7,h8,ac,dI,eO.fuel ag,gC⟩
end
def eG(s:ByteArray):List UInt8:=s.data.toList
theorem bB.on{S:Nat->Prop}{w f:ak}{y:Nat}{l:List KV}(h:bB S w y l)(a:aA w.heap.size w f):bB S f y l:=by
 obtain⟨n,j,b,c⟩:=h.tree;exact⟨⟨n,j,(a.block y (cJ b)).trans b,c.on a⟩,h.out,h.cI⟩
theorem bB.lt(a:bB p h k a2):k<h.heap.size:=by
 obtain⟨n,f,b,c⟩:=a.tree;exact cJ b
theorem Rh(l:Open p h)(b:bB p h k a2)(j:Z.size<=9223372036854775807):aE aj 55 #[.pointer (ae ⟨k,0,af⟩),.string Z] h λe f=>e=.returned (.tuple #[.int .i64 (gm (lk (eG Z) a2)),.bool (lk (eG Z) a2).isSome])/\bB p f k (del (eG Z) a2)/\cF k h f:=by
 unfold eG;cases c:lk Z.data.toList a2 with
 |none=>exact(Ri b j c).mono λe f a=>⟨a.1,by rw[DW c];exact b.on a.2,cF.jQ a.2⟩
 |some u=>exact(Rj l b j c).mono λe f a=>a
section
attribute [local go_sem↓] Go.wp_at_zero Go.wp_at_succ
theorem ai9{a:aH}{q:Option aH}(b:h.cell? a=ae (.pointer aa))(c:h.frozen? a=ax):(vi 54 #[.pointer (ae a),.pointer q]).run aj h=.ok (.value (.tuple #[])) (h.setCell a (.pointer q)):=by
 rw[Oc (e:=GR) Tryz.func54 ah ah ah ah];change (fu aj (do tz (<-vm (.pointer (ae a))) (.pointer q) .atomic;bN (Value.tuple #[])) h).andThen _=_;simp[vm,b,c,Di aj h a (.pointer q) .atomic rfl,rP]
theorem an4(a:h.cell? ⟨k,0,af⟩=ae (.pointer aa))(c:h.frozen? ⟨k,0,af⟩=ax)(b:lg h ac):aE aj 36 #[.pointer (ae ⟨k,0,af⟩),.pointer ac] h λe f=>e=.returned (.tuple #[])/\f=h.setCell ⟨k,0,af⟩ (.pointer ac):=by
 have l:=ai9 (q:=ac) a c;have j:=DV b;clear b a c
 go_enter Tryz.func36,Tryz.ntmps36
 go_wp2
 go_end0
 exact⟨rfl,rfl⟩
theorem UO(u:bB p h k a2):aE aj 20 #[.pointer (ae ⟨k,0,af⟩)] h λe f=>e=.returned (.pointer (ae ⟨h.heap.size,0,af⟩))/\(∃n c,f.heap[h.heap.size]?=ae (.cells #[.pointer c] 64 (0,0))/\bD p n f c a2)/\h.heap.size<f.heap.size/\aA h.heap.size h f:=by
 obtain⟨n,c,s,l⟩:=u.tree;have r:aA h.heap.size h (h.alloc (.cells #[.pointer af] 64)):=cH h _;have j:∀a,aA (h.alloc (.cells #[.pointer af] 64)).heap.size (h.alloc (.cells #[.pointer af] 64)) a->aA h.heap.size h a:=λa b=>r.trans (b.mono r.size);have o:∀a,aA (h.alloc (.cells #[.pointer af] 64)).heap.size (h.alloc (.cells #[.pointer af] 64)) a->a.heap[h.heap.size]?=ae (.cells #[.pointer af] 64 (0,0)):=λa b=>(b.block _ az).trans (cY h _);have H:aB (∀a,aA (h.alloc (.cells #[.pointer af] 64)).heap.size (h.alloc (.cells #[.pointer af] 64)) a->aE aj 23 #[.pointer (ae ⟨k,0,af⟩)] a λe f=>e=.returned (.pointer c)/\f=a):=λa b=>n9 (jc (((j a b).block k (cJ s)).trans s)) (l.on (j a b)).ptr;have N:aB (∀a,aA (h.alloc (.cells #[.pointer af] 64)).heap.size (h.alloc (.cells #[.pointer af] 64)) a->aE aj 36 #[.pointer (ae ⟨h.heap.size,0,af⟩),.pointer c] a λe f=>e=.returned (.tuple #[])/\aB ((∃n y,f.heap[h.heap.size]?=ae (.cells #[.pointer y] 64 (0,0))/\bD p n f y a2)/\h.heap.size<f.heap.size/\aA h.heap.size h f)):=λa b=>by
  refine(an4 (jc (o a b)) (vS (o a b)) (l.on (j a b)).ptr).mono ?_;rintro e f ⟨rfl,x⟩;have v:aA h.heap.size h f:=by rw[x];exact(j a b).setCell (aL _) _
  have w:f.heap[h.heap.size]?=ae (.cells #[.pointer c] 64 (0,0)):=by rw[x];exact MP (o a b)
  exact⟨rfl,⟨n,c,w,l.on v⟩,cJ w,v⟩
 have t:aB (aA (h.alloc (.cells #[.pointer af] 64)).heap.size (h.alloc (.cells #[.pointer af] 64)) (h.alloc (.cells #[.pointer af] 64)).drew):=(cD _ _).drew;clear s l u j o r
 go_enter aJ7,Tryz.ntmps20
 go_wp2_with (go_at_call 10;refine(Fe _).mono ?_;rintro e f ⟨rfl,rfl⟩)
 go_region_held3 (λ_=>True) (trivial) (first
  |(go_at_call 23;refine(H.out _ t.out).mono ?_;rintro e f ⟨rfl,rfl⟩)
  |(go_at_call 36;refine(N.out _ t.out).mono ?_;rintro e R ⟨rfl,B⟩))
 go_wp2
 go_ret
 exact⟨rfl,B.out⟩
theorem Gx{S:Nat->Prop}{w:ak}{m:List KV}(r:Open S w)(s:bD S k w aa a2)(a:bD S l w ac m)(v:a2.length+m.length<=1000000):aE aj 72 #[.pointer aa,.pointer ac] w λe f=>∃x c,e=.returned (.pointer c)/\bD S x f c (aW a2 m)/\aA w.heap.size w f:=by
 rcases s with⟨rfl,rfl⟩|⟨t,rfl,h⟩
 ·refine(aq1 ac w).mono ?_;rintro e f ⟨rfl,b⟩;subst b;exact⟨l,ac,rfl,by rw[Yw (wX a)];exact a,cD _ _⟩
 ·rcases a with⟨rfl,rfl⟩|⟨u,rfl,p⟩
  ·refine(aq2 t w).mono ?_;rintro e f ⟨rfl,b⟩;subst b;exact⟨k,_,rfl,.inr ⟨t,rfl,h⟩,cD _ _⟩
  ·refine(Nl 65 (c0:=[]) az r h p (λe _=>CP) (λe _=>CP) v).mono ?_;rintro e f ⟨y,rfl,j,o⟩;exact⟨65,_,rfl,.inr ⟨y,rfl,j⟩,o⟩
theorem aq0{m:List KV}(H:Open p h)(u:bD p U h aa a2)(v:bB p h k m)(W:h.cell? ⟨l,0,af⟩=ae (.pointer (ae ⟨k,0,af⟩)))(R:a2.length+m.length<=1000000):aE aj 71 #[.pointer aa,.pointer (ae ⟨l,0,af⟩)] h λe f=>∃j b,e=.returned (.pointer b)/\bD p j f b (aW a2 m)/\aA h.heap.size h f:=by
 obtain⟨n2,w,t,s⟩:=v.tree;have c:∀a,aA h.heap.size h (h.drewN a):=λa=>tK h a;have x:aB (∀a,aE aj 23 #[.pointer (ae ⟨k,0,af⟩)] (h.drewN a) λe f=>e=.returned (.pointer w)/\f=h.drewN a):=λa=>n9 (jc (((c a).block k (cJ t)).trans t)) (s.on (c a)).ptr;have y:aB (∀a,aE aj 72 #[.pointer aa,.pointer w] (h.drewN a) λe f=>∃j b,e=.returned (.pointer b)/\bD p j f b (aW a2 m)/\aA h.heap.size h f):=λa=>(Gx (H.later (c a)) (u.on (c a)) (s.on (c a)) R).mono λe f N=>by
  obtain⟨j,b,o,r,B⟩:=N;exact⟨j,b,o,r,(c a).trans (B.mono (c a).size)⟩
 clear c s t v u
 go_enter Tryz.func71,Tryz.ntmps71
 go_wp2_with (first
  |(go_at_call 23;refine(x.out 0).mono ?_;rintro e f ⟨rfl,rfl⟩)
  |(go_at_call 72;refine(y.out 0).mono ?_;rintro e f ⟨j,b,rfl,o,r⟩))
 go_ret
 exact⟨j,b,rfl,o,r⟩
theorem Kg:(aj.info? 64).map (·.size)=ae 1:=ah
theorem Te(p:k≠l){a b:Array au}(f:h.heap[k]?=ae (.cells a 64 (0,0)))(j:h.heap[l]?=ae (.cells b 64 (0,0))):(kh .eql 31 (.pointer (ae ⟨k,0,af⟩)) (.pointer (ae ⟨l,0,af⟩))).run aj h=.ok (.bool ax) h:=by
 obtain⟨i,o,r⟩:=ji.1 Kg;exact aD8 h az5 o (by rw[r];decide) (λc=>p (congrArg aL1 c)) f j
end
