/- Own texts: GfA, GfB, GfC, GfD. -/
import Derived.Test.YtcgjppacnhmjlaaGreatMAN
set_option linter.all false
set_option maxRecDepth 100000
set_option maxHeartbeats 4000000
open Array renaming getElem?_modify->fV,toArray_toList->ax0
open Bool renaming true->aq,false->ax
open Go renaming World->ak,Value->au,Frame->aC,TypeId->aK,heap_alloc_new->cY,Addr->aH,Deferred->jH,Code->du,Loop->nK,Func->pO
open Go.Addr renaming add_lit->jF
open Go.Frame renaming round->D5
open Go.Proofs.Tryz renaming prog->aj
open Go.Value renaming func->Dc
open Go.World renaming block_lt_of_cell?->cC,cell?->bL,size_alloc->dh,cell?_of_block->gV,setCell->eK,putObj_heap_other->kX,size_setCell->jX,frozen?->gu,putObj_heap_same->Cv
open List renaming getElem?_eq_getElem->bf,getElem?_eq_some_iff->cu,mem_cons->dk,length_append->gJ,length_eq_zero_iff->kY,getElem?_map->iI,length_filter_le->mB,attach_map_subtype_val->xe,prefix_append->sS,length_attach->az1,prefix_refl->aA2
open Nat renaming le_refl->aL,le_trans->bT,lt_of_lt_of_le->dG,zero_le->fL
open Ne renaming symm->jm
open Option renaming some->ae,none->af
namespace Go.Proofs.YtcgjppacnhmjlaaGreat
open Go Go.Conc Go.ConcN Go.Conc.Lib Go.ConcR.Gen Go.RowKit
namespace Sim
variable {a8 a1:Nat} {a7 al:ak} {ac:au} {ad:Option aH} {a2:ByteArray} {ai:List KV}
section
variable {u:ak} {W:Nat} {B:au} {Z:Nat->Nat} {H:Nat->Prop} {N:BR} {j:ak} {ps:List (Nat×Nat)} {b:ak} {f:Nat->Nat} {RB:BR} {s o:Nat} {ρ h aa ow:Nat->Nat} {O O':Nat->Prop} {R R':BR} {A A':ak} {t fq:TS} {p:Nat} {y:Bool}
theorem fw.same{M:Nat->Prop}(a:fw u W B Z H N j ps h O R A t)(f:Mv M h A ow A')(o:¬M 0)(s:∀c,0<c->c<150->¬M c)(r:aI Xm O R' A')(p:BR.Sub R R')(v:∀k,k<j.heap.size->A'.heap[k]?=A.heap[k]?):fw u W B Z H N j ps ow O R' A' t:=by
 have x:=a.mv.size;have l:=a.pw.cv;refine⟨⟨r,Co a.pw.wd f o s,p _ _ a.pw.rW,⟨bT l.size f.size,λk b=> ?_,f.os.trans l.os,f.output.trans l.output⟩,λk b=>(f.agree k (dG b l.size)).trans (a.pw.low k b),λk b=>(f.agree k (a.pw.known.low k b)).trans (a.pw.own k b)⟩,⟨bT x f.size,λk b=>(f.agree k ag).trans (a.mv.agree k b),f.fresh,λk b w=>(v k b).trans (a.mv.block k b w),f.os.trans a.mv.os,f.output.trans a.mv.output⟩,a.sub.trans p,a.own,a.ps⟩;exact(f.block k (dG b l.size) (by rw[a.pw.low k b];exact o)).trans (l.block k b)
structure fy(u:ak)(W:Nat)(B:au)(Z:Nat->Nat)(H:Nat->Prop)(N:BR)(j:ak)(ps:List (Nat×Nat))(b:ak)(f:Nat->Nat)(RB:BR)(s o:Nat)(ρ h:Nat->Nat)(O:Nat->Prop)(R:BR)(A:ak)(t:TS)(p:Nat)(y:Bool):Prop where
 fH:fw u W B Z H N j ps h O R A t
 bK:∀k,k<b.heap.size->f k=0\/f k=202->A.heap[k]?=b.heap[k]?
 jP:∀k,k<b.heap.size->ρ k=f k/\h k=f k
 it:∀k,b.heap.size<=k->k<A.heap.size->ρ k=0->h k=202
 fresh:∀k,A.heap.size<=k->ρ k=0
 size:b.heap.size<=A.heap.size
 sub:BR.Sub RB R
 oP:A.heap[s]?=ae (.cells #[.int .i64 (p:Int)] 3 (0,0))
 oQ:A.heap[o]?=ae (.cells #[.bool y] 4 (0,0))
 zv:j.heap.size<=s
 zw:j.heap.size<=o
 zx:j.heap.size<=b.heap.size
 qk:s<b.heap.size
 ql:o<b.heap.size
 ne:s≠o
 rq:f s=201
 rr:f o=201
theorem fy.no(a:fy u W B Z H N j ps b f RB s o ρ h O R A t p y)(c:a8<b.heap.size)(k:f a8≠200):¬O a8:=a.fH.pw.free (by rw[(a.jP a8 c).2];exact k)
theorem fy.own(a:fy u W B Z H N j ps b f RB s o ρ h O R A t p y){k:Nat}(c:O k):ρ k≠0:=λe=>by
 have v:=a.fH.pw.own k c;have l:=a.fH.pw.known.low k c;by_cases r:k<b.heap.size;·have:=a.jP k r;omega
 ·have:=a.it k ag l e;omega
open Classical in
theorem fy.grow(a:fy u W B Z H N j ps b f RB s o ρ h O R A t p y)(hs:A.heap.size<=A'.heap.size)(r:∀k,k<A.heap.size->(k<b.heap.size\/ρ k≠0)->A'.heap[k]?=A.heap[k]?)(ho:A'.os=A.os)(hu:A'.output=A.output)(hK:aI Xm O R' A')(U:BR.Sub R R'):∃ow,(∀k,k<A.heap.size->ow k=h k)/\fy u W B Z H N j ps b f RB s o ρ ow O R' A' t p y:=by
 have a6:=a.size;have a7:=a.zx;let w:Nat->Nat:=λk=>if A.heap.size<=k/\k<A'.heap.size then 202 else h k
 have v:∀k,k<A.heap.size->w k=h k:=λk l=>by
  show(if _ then _ else _)=_;rw[if_neg ag]
 have hm:Mv (λc=>c=202) h A w A':=by
  refine⟨hs,v,λk l=> ?_,λk l hn=>r k l ?_,ho,hu⟩
  ·show(if _ then _ else _)=_;rw[if_neg ag];exact a.fH.pw.wd.fresh k ag
  ·by_cases a2:k<b.heap.size;·exact .inl a2
   ·exact .inr λe=>hn (a.it k ag l e)
 refine⟨w,v,a.fH.same hm bc (λc _ hc e=>ag) hK U (λk l=>r k ag (.inl ag)),λk l hl=>(r k ag (.inl l)).trans (a.bK k l hl),λk l=>⟨(a.jP k l).1,(v k ag).trans (a.jP k l).2⟩,λk l a1 e=> ?_,λk l=>a.fresh k ag,ag,a.sub.trans U,(r s (by have:=a.qk;omega) (.inl a.qk)).trans a.oP,(r o (by have:=a.ql;omega) (.inl a.ql)).trans a.oQ,a.zv,a.zw,a.zx,a.qk,a.ql,a.ne,a.rq,a.rr⟩;by_cases x:k<A.heap.size;·rw[v k x];exact a.it k l x e
 ·show(if _ then _ else _)=_;rw[if_pos ⟨ag,a1⟩]
structure oE(l:Nat)(ρ:Nat->Nat)(A:ak)(aa:Nat->Nat)(A':ak):Prop where
 size:A.heap.size<=A'.heap.size
 agree:∀k,k<A.heap.size->aa k=ρ k
 block:∀k,k≠l->k<A.heap.size->ρ k=0->A'.heap[k]?=A.heap[k]?
theorem oE.trans{l:Nat}{ab f:Nat->Nat}(h:oE l ρ A ab a7)(k:oE l ab a7 f al):oE l ρ A f al:=⟨bT h.size k.size,λi a=>(k.agree i (dG a h.size)).trans (h.agree i a),λi c a b=>(k.block i c (dG a h.size) ((h.agree i a).trans b)).trans (h.block i c a b)⟩
theorem oE.e{f:Prop}(h:oE a8 ρ A aa A'):Dv a1 f a8 ρ A aa A':=⟨h.size,h.agree,λk c _ b a=>h.block k c b a⟩
theorem ni(A:ak)(b:Nat)(v:au){k:Nat}(a:k≠b):(A.setCell ⟨b,0,af⟩ v).heap[k]?=A.heap[k]?:=by simp[eK,fV,jm a]
theorem G6{v:au}{ty:aK}(h:a7.heap[a8]?=ae (.cells #[ac] ty (0,0))):(a7.setCell ⟨a8,0,af⟩ v).heap[a8]?=ae (.cells #[v] ty (0,0)):=by simp[eK,fV,h]
theorem fy.setCell(a:fy u W B Z H N j ps b f RB s o ρ h O R A t p y){l:Nat}(w:l=s\/l=o){v:au}(hv:VR Xm.G R v v):fw u W B Z H N j ps h O R (A.setCell ⟨l,0,af⟩ v) t:=by
 have x:h l=201/\j.heap.size<=l:=by
  rcases w with rfl|rfl;·exact⟨(a.jP _ a.qk).2.trans a.rq,a.zv⟩
  ·exact⟨(a.jP _ a.ql).2.trans a.rr,a.zw⟩
 refine a.fH.same (M:=λc=>c=201) ⟨by rw[jX];exact aL _,λ_ _=>rfl,λk r=>a.fH.pw.wd.fresh k (by rw[jX]at r;exact r),λk r U=>ni A l v λe=>U (by rw[e];exact x.1),rfl,rfl⟩ bc (λc _ hc e=>ag) (a.fH.pw.known.set _ hv) (BR.Sub.refl _) λk r=>ni A l v ag
theorem fy.G5(a:fy u W B Z H N j ps b f RB s o ρ h O R A t p y)(l:Nat)(r:Bool):fy u W B Z H N j ps b f RB s o ρ h O R (A.setCell ⟨o,0,af⟩ (.bool r)) t p r/\oE l ρ A ρ (A.setCell ⟨o,0,af⟩ (.bool r)):=by
 have x:(A.setCell ⟨o,0,af⟩ (.bool r)).heap.size=A.heap.size:=jX _ _ _;refine⟨⟨a.setCell (.inr rfl) (.bool _),λk c v=>(ni A o _ λe=>by rw[e,a.rr]at v;omega).trans (a.bK k c v),a.jP,λk c U=>a.it k c ag,λk c=>a.fresh k ag,by rw[x];exact a.size,a.sub,(ni A o _ a.ne).trans a.oP,G6 a.oQ,a.zv,a.zw,a.zx,a.qk,a.ql,a.ne,a.rq,a.rr⟩,⟨ag,λ_ _=>rfl,λk _ c w=>ni A o _ λe=> ?_⟩⟩;rw[e,(a.jP _ a.ql).1,a.rr]at w;omega
theorem fy.setAt(a:fy u W B Z H N j ps b f RB s o ρ h O R A t p y)(l:Nat)(n:Nat):fy u W B Z H N j ps b f RB s o ρ h O R (A.setCell ⟨s,0,af⟩ (.int .i64 (n:Int))) t n y/\oE l ρ A ρ (A.setCell ⟨s,0,af⟩ (.int .i64 (n:Int))):=by
 have w:(A.setCell ⟨s,0,af⟩ (.int .i64 (n:Int))).heap.size=A.heap.size:=jX _ _ _;refine⟨⟨a.setCell (.inl rfl) (.int _ _),λk c r=>(ni A s _ λe=>by rw[e,a.rq]at r;omega).trans (a.bK k c r),a.jP,λk c x=>a.it k c ag,λk c=>a.fresh k ag,by rw[w];exact a.size,a.sub,G6 a.oP,(ni A s _ (jm a.ne)).trans a.oQ,a.zv,a.zw,a.zx,a.qk,a.ql,a.ne,a.rq,a.rr⟩,⟨ag,λ_ _=>rfl,λk _ c v=>ni A s _ λe=> ?_⟩⟩;rw[e,(a.jP _ a.qk).1,a.rq]at v;omega
theorem YC:¬y3 201:=λh=>h.elim (λh=>by have:=h.2;omega) λh=>ag
theorem YD:¬y3 202:=λh=>h.elim (λh=>by have:=h.2;omega) λh=>ag
open Classical in
theorem fy.plain(a:fy u W B Z H N j ps b f RB s o ρ h O R A t p y)(r:fw u W B h O R A (t.map pp) ow O' R' A' fq)(l:Nat):(∃aa,fy u W B Z H N j ps b f RB s o aa ow O' R' A' fq p y/\oE l ρ A aa A')/\∀k,k<A.heap.size->h k=202->A'.heap[k]?=A.heap[k]?:=by
 have a7:=a.size;have hs:=r.mv.size;let a1:Nat->Nat:=λk=>if A.heap.size<=k/\k<A'.heap.size then 201 else ρ k
 have U:∀k,k<A.heap.size->a1 k=ρ k:=λk c=>by
  show(if _ then _ else _)=_;rw[if_neg ag]
 have v:∀k,k<A.heap.size->h k=0\/h k=201\/h k=202->A'.heap[k]?=A.heap[k]?:=λk c w=>r.mv.block k c (by
  rcases w with e|e|e<;>rw[e];·exact Lo
  ·exact YC
  ·exact YD)
 have gg:=a.qk;have eP:=a.ql;refine⟨⟨a1,⟨a.fH.trans (by rw[<-a.fH.ps]at*;exact r),λk c w=>(v k ag (by rw[(a.jP k c).2];omega)).trans (a.bK k c w),λk c=>⟨(U k ag).trans (a.jP k c).1,(r.mv.agree k ag).trans (a.jP k c).2⟩,λk c a2 e=> ?_,λk c=> ?_,ag,a.sub.trans r.sub,(v s ag (by rw[(a.jP _ gg).2,a.rq];omega)).trans a.oP,(v o ag (by rw[(a.jP _ eP).2,a.rr];omega)).trans a.oQ,a.zv,a.zw,a.zx,gg,eP,a.ne,a.rq,a.rr⟩,⟨hs,U,λk _ c h0=>v k c ?_⟩⟩,λk c w=>v k c ag⟩
 ·by_cases x:k<A.heap.size
  ·rw[U k x]at e;exact(r.mv.agree k x).trans (a.it k c x e)
  ·have e':(if A.heap.size<=k/\k<A'.heap.size then 201 else ρ k)=0:=e;rw[if_pos ⟨ag,a2⟩]at e';omega
 ·show(if _ then _ else _)=_;rw[if_neg ag];exact a.fresh k ag
 ·by_cases a6:k<b.heap.size;·have:=a.jP k a6;omega
  ·have:=a.it k ag c h0;omega
end
def OpsIn(u:ak)(a:Option aH)(f:List OpV):Prop:=∀(i:Nat) o,f[i]?=ae o->OpIn u o/\∃b p,a=ae ⟨b,p,af⟩/\∀(j:Nat) c,o.cells[j]?=ae c->u.cell? ⟨b,p+i*9+j,af⟩=ae c
structure Aq(b:ak)(f:Nat->Nat)(b3 b4 b5 ba bg U wb xb rb:Nat)(kd:Int)(key aP:ByteArray)(nn:Int)(fv mv:au)(tn:Nat)(k:Option aH)(wc a:Nat)(v:List KV):Prop where
 uP:eo (λ_=>False) b3 b4 b5 wb xb rb kd key aP nn fv mv b
 r3:f b3=0
 r4:f b4=0
 r5:f b5=0
 ZJ:f ba=0
 ZK:f bg=0
 ZL:f U=0
 ju:b.cell? ⟨ba,0,af⟩=ae (.int .i64 (tn:Int))
 iB:b.cell? ⟨bg,0,af⟩=ae (.slice k v.length wc)
 qW:b.cell? ⟨U,0,af⟩=ae (.int .i64 (a:Int))
 row:∀(i:Nat) e,v[i]?=ae e->∃g,k=ae ⟨g,0,af⟩/\f g=0/\b.cell? ⟨g,i*2,af⟩=ae (.string (keyOf e))/\b.cell? ⟨g,i*2+1,af⟩=ae (.int .i64 e.2)
 le:a<=v.length
 cut:0<=nn\/a=v.length
 cI:v.length<=3000
section
variable {a6:au->ak->Prop} {u:ak} {W:Nat} {B:au} {Z:Nat->Nat} {H:Nat->Prop} {N:BR} {j:ak} {ps:List (Nat×Nat)} {b:ak} {f:Nat->Nat} {RB:BR} {s o:Nat} {ρ h aa ow:Nat->Nat} {O O':Nat->Prop} {R R':BR} {A A':ak} {t fq:TS} {p:Nat} {y:Bool}
variable {b3 b4 b5 ba bg U wb xb rb:Nat} {kd:Int} {key aP:ByteArray} {nn:Int} {fv mv:au} {tn:Nat} {k:Option aH} {wc a:Nat} {v:List KV}
theorem fy.cell(k:fy u W B Z H N j ps b f RB s o ρ h O R A t p y){a c:Nat}{v:au}(w:f a=0)(l:b.cell? ⟨a,c,af⟩=ae v):¬O a/\A.cell? ⟨a,c,af⟩=ae v:=by
 have r:a<b.heap.size:=cC _ _ l;exact⟨k.no r ag,(gV (a:=⟨a,c,af⟩) (k.bK a r (.inl w))).trans l⟩
theorem fy.uP(l:fy u W B Z H N j ps b f RB s o ρ h O R A t p y)(c:Aq b f b3 b4 b5 ba bg U wb xb rb kd key aP nn fv mv tn k wc a v):eo O b3 b4 b5 wb xb rb kd key aP nn fv mv A:=by
 refine c.uP.on λa7 hb=> ?_;have r:b3<b.heap.size:=cC _ _ c.uP.c3;have w:b4<b.heap.size:=cC _ _ c.uP.sn;have x:b5<b.heap.size:=cC _ _ c.uP.o0;have a1:=c.r3;have a2:=c.r4;have a6:=c.r5;rcases hb with rfl|rfl|rfl;·exact⟨l.bK _ r (.inl a1),l.no r ag⟩
 ·exact⟨l.bK _ w (.inl a2),l.no w ag⟩
 ·exact⟨l.bK _ x (.inl a6),l.no x ag⟩
theorem fy.zc(c:fy u W B Z H N j ps b f RB s o ρ h O R A t p y)(l:Aq b f b3 b4 b5 ba bg U wb xb rb kd key aP nn fv mv tn k wc a v):mS O ba bg U s o tn p k v.length wc (a:Int) y A:=by
 have r:=c.cell l.ZJ l.ju;have w:=c.cell l.ZK l.iB;have x:=c.cell l.ZL l.qW;exact⟨r.1,w.1,x.1,c.no c.qk (by rw[c.rq];decide),c.no c.ql (by rw[c.rr];decide),r.2,w.2,x.2,by unfold bL;rw[c.oP];rfl,by unfold bL;rw[c.oQ];rfl,by unfold gu;rw[c.oP];rfl,by unfold gu;rw[c.oQ];rfl⟩
def At(u:ak)(W:Nat)(B:au)(Z:Nat->Nat)(H:Nat->Prop)(N:BR)(j:ak)(ps:List (Nat×Nat))(b:ak)(f:Nat->Nat)(RB:BR)(s o a:Nat)(v:List KV):sd (js v):=λρ pre O R A=>∃h t p y,fy u W B Z H N j ps b f RB s o ρ h O R A t p y/\p<=a/\(pre<+:v.attach->y=aq/\p=pre.length)
def DI(u:ak)(W:Nat)(B:au)(Z:Nat->Nat)(H:Nat->Prop)(N:BR)(j:ak)(ps:List (Nat×Nat))(b:ak)(f:Nat->Nat)(RB:BR)(s o a:Nat)(v:List KV)(cd:du):sd (js v):=λρ pre O R A=>cd=.exit 4/\∃h t y,fy u W B Z H N j ps b f RB s o ρ h O R A t a y/\(pre<+:v.attach->y=aq)
theorem Vk:tF b.heap.size (At u W B Z H N j ps b f RB s o a v):=by
 refine⟨λρ pre O R A ⟨h,t,p,y,c,_⟩=>c.fresh,λρ pre O R A ⟨h,t,p,y,c,_⟩=>c.fH.pw.known,λρ pre O R A ⟨h,t,p,y,c,_⟩ a2 x=>c.own x,λρ pre O R A R' A' ⟨h,t,p,y,c,l⟩ hs w U hu r a1=> ?_⟩;obtain⟨ow,_,k⟩:=c.grow hs w U hu r a1;exact⟨ow,t,p,y,k,l⟩
theorem Vl(cd:du):tF b.heap.size (DI u W B Z H N j ps b f RB s o a v cd):=by
 refine⟨λρ pre O R A ⟨_,h,t,y,c,_⟩=>c.fresh,λρ pre O R A ⟨_,h,t,y,c,_⟩=>c.fH.pw.known,λρ pre O R A ⟨_,h,t,y,c,_⟩ a2 w=>c.own w,λρ pre O R A R' A' ⟨e,h,t,y,c,l⟩ U r x hu p a1=> ?_⟩;obtain⟨ow,_,k⟩:=c.grow U r x hu p a1;exact⟨e,ow,t,y,k,l⟩
theorem ao6{ms:List OpV}{lp:nK}{pre:List (js v)}{a7:js v}{b1:Int}{x:Nat->au}{c':aC}{aF:List aC}(ai:Aq b f b3 b4 b5 ba bg U W xb rb kd key aP nn fv (.slice ad ms.length a8) tn k wc a v)(qg:OpsIn u ad ms)(cp:ms.length<=9223372036854775807)(cr:0<ps.length)(hI:At u W B Z H N j ps b f RB s o a v ρ pre O R A)(hv:a7.1=(a2.data.toList,b1))(hl:A.heap[a1]?=ae (.loop lp))(c7:b.heap.size<=a1)(c6:ρ a1=0)(cw:lp.state=.ready)(hn:∀aa O' R' A' r bd,Dv b.heap.size (bd=af) a1 ρ A aa A'->A'.heap[a1]?=ae (.loop {lp with state:=.busy})->r.mode=.run->r.kind=.normal->r.roundOf=ae a1->leaves r=ae bd->(bd=af->At u W B Z H N j ps b f RB s o a v aa (pre++[a7]) O' R' A')->(∀cd,bd=ae cd->DI u W B Z H N j ps b f RB s o a v cd aa (pre++[a7]) O' R' A')->ay aj a6 O' (aw r (c'::aF)) A'):ay aj a6 O (aw (D5 a1 15 (((bH (ptr b3) (ptr b4) (ptr b5) ac (x 8) (ptr ba) (ptr bg) (ptr U) (ptr s) (ptr o) (x 15) (x 16) ac x).setIfInBounds 83 (.string a2)).setIfInBounds 84 (.int .i64 b1)) Ay d15 .normal) (c'::aF)) A:=by
 obtain⟨d6,b0,p,y,h0,d0,c8⟩:=hI;refine Wq hl cw λx=> ?_;have bP:=h0.fH.pw.known;have bo:=cJ hl;obtain⟨A1,al⟩:∃A1,A.putObj a1 (.loop {lp with state:=.busy})=A1:=⟨_,rfl⟩;obtain⟨h,cM,am⟩:=h0.grow (A':=A1) (R':=R) (by rw[<-al];simp) (λa2 hk hc=>by rw[<-al];exact kX (pf hc c7 c6)) (by rw[<-al];rfl) (by rw[<-al];rfl) (by rw[<-al];exact bP.pn (bP.wy hl) _) (BR.Sub.refl _);have aQ:oE a1 ρ A ρ A1:=⟨by rw[<-al];simp,λ_ _=>rfl,λa2 ci _ _=>by rw[<-al];exact kX ci⟩;have bY:A1.heap[a1]?=ae (.loop {lp with state:=.busy}):=by rw[<-al];exact Cv bo
 have cn:h a1=202:=(cM a1 bo).trans (h0.it a1 c7 bo c6);rw[al];have cj:a1≠s:=by have:=am.qk;omega
 have bm:a1≠o:=by have:=am.ql;omega
 have d1:=ai.cI;have d3:=ai.le;have cx:p<9223372036854775807:=ag;have hB:=am.uP ai;have hG:=am.zc ai;have br:∀(w:Bool) r,Lv a1 (ae (.exit 4)) r->p=a->(pre++[a7]<+:v.attach->w=aq)->ay aj a6 O (aw r (c'::aF)) (A1.setCell ⟨o,0,af⟩ (.bool w)):=by
  intro w r t e1 hb;obtain⟨l,an⟩:=am.G5 a1 w;rw[e1]at l;exact hn ρ O R _ r _ (aQ.trans an).e ((ni A1 o _ bm).trans bY) t.mode t.kind t.ro t.lv (λe=>by cases e) λcd e=>by cases e;exact⟨rfl,h,b0,w,l,hb⟩
 have b2:∀(bi bw:Nat->Nat)(O2:Nat->Prop)(R2:BR)(A2:ak)(bv:TS)(be:Bool) (x:Nat->au),fy u W B Z H N j ps b f RB s o bi bw O2 R2 A2 bv p be->oE a1 ρ A bi A2->A2.heap[a1]?=ae (.loop {lp with state:=.busy})->p<a->(pre++[a7]<+:v.attach->be=aq/\p=pre.length)->
   ay aj a6 O2 (aw (FR 15 a1 [] (bH (ptr b3) (ptr b4) (ptr b5) ac (x 8) (ptr ba) (ptr bg) (ptr U) (ptr s) (ptr o) (.string a2) (.int .i64 b1) ac x) qi) (c'::aF)) A2:=by
  intro bi bw O2 R2 A2 bv be x l an ao d4 hp;refine Wy (l.zc ai) cx λr t=> ?_;obtain⟨h3,bl⟩:=l.setAt a1 (p+1);exact hn bi O2 R2 _ r _ (an.trans bl).e ((ni A2 s _ cj).trans ao) t.mode t.kind t.ro t.lv (λ_=>⟨bw,bv,p+1,be,h3,ag,λc=>⟨(hp c).1,by rw[(hp c).2];simp⟩⟩) λcd e=>by cases e
 by_cases d2:a<=p
 ·have e1:p=a:=ag;have ab:pre++[a7]<+:v.attach->y=aq/\p<v.length:=λc=>by
   have h1:=c8 ((sS _ _).trans c);have l:=c.length_le;rw[gJ,az1]at l;simp at l;exact⟨h1.1,ag⟩
  cases y with
  |false=>exact Wt hB hG ag λr t=>br ax r t e1 λc=>(ab c).1
  |true=>
   by_cases h1:p<v.length
   ·refine Wv hB hG ag h1 λr t=> ?_;have d5:0<=nn:=by have:=ai.cut;omega
    rw[decide_eq_true (by omega:nn>=0)];exact br aq r t e1 λ_=>rfl
   ·exact Wu hB hG ag h1 λr t=>br ax r t e1 λc=>absurd (ab c).2 h1
 ·have bb:p<a:=ag;obtain⟨e,he⟩:∃e,v[p]?=ae e:=⟨_,bf ag⟩;obtain⟨g,cy,cb,cf,cg⟩:=ai.row p e he;subst cy;obtain⟨bU,bE⟩:=am.cell cb cf;obtain⟨_,bM⟩:=am.cell cb cg;have ab:pre++[a7]<+:v.attach->y=aq/\(a2.toList==(keyOf e).toList)=aq/\b1=e.2/\p=pre.length:=λc=>by
   have h1:=c8 ((sS _ _).trans c);obtain⟨z,hz⟩:=c;have l:v.attach[pre.length]?=ae a7:=by rw[<-hz];simp
   have h3:v[pre.length]?=ae a7.1:=by
    have:=congrArg (Option.map (·.1)) l;rw[<-iI,xe]at this;exact this
   rw[<-h1.2,he]at h3;cases h3;refine⟨h1.1,?_,by rw[hv],h1.2⟩;have:keyOf a7.1=a2:=by rw[hv];rfl
   rw[this];exact beq_self_eq_true _
  have bs:∀(w:Bool) (x:Nat->au),(pre++[a7]<+:v.attach->w=aq)->ay aj a6 O (aw (FR 15 a1 [] (bH (ptr b3) (ptr b4) (ptr b5) ac (x 8) (ptr ba) (ptr bg) (ptr U) (ptr s) (ptr o) (.string a2) (.int .i64 b1) ac x) oV) (c'::aF)) (A1.setCell ⟨o,0,af⟩ (.bool w)):=by
   intro w x hb;obtain⟨l,an⟩:=am.G5 a1 w;have ao:=(ni A1 o (.bool w) bm).trans bY;have b6:=l.uP ai;have b9:=l.zc ai;by_cases hm:p<ms.length
   ·cases w with
    |false=>exact Wi b6 b9 hm λx=>b2 ρ h O R _ b0 ax x l (aQ.trans an) ao bb λc=>⟨hb c,(ab c).2.2.2⟩
    |true=>
     by_cases ht:tn=0
     ·obtain⟨aT,ho⟩:∃aT,ms[p]?=ae aT:=⟨_,bf hm⟩;obtain⟨ct,mb,mp,co,cs⟩:=qg p aT ho;subst co;have ca:=l.fH.pw;have c5:∀(ar:Nat) ap,aT.cells[ar]?=ae ap->¬O mb/\(A1.setCell ⟨o,0,af⟩ (.bool aq)).cell? ⟨mb,mp+p*9+ar,af⟩=ae ap:=λar ap hj=>ca.cell (cs ar ap hj);have bZ:=c5 0 _ rfl;have cl:0<b0.length:=by rw[l.fH.len];exact cr
      refine Wk (vs:=aT.cells.toList) b6 b9 hm cp ht bZ.1 (cC _ _ bZ.2) rfl (λar ap hj=> ?_) (by rw[ax0];exact F4 ca cl ct) λap O3 R3 A3 hu=> ?_;·rw[jF];exact(c5 ar ap (by simpa using hj)).2
      ·obtain⟨rfl,cV,cR,ha⟩:=hu;obtain⟨⟨cS,h3,bl⟩,ch⟩:=l.plain ha a1;have bk:=h3.zc ai;have ce:=(ch a1 (cJ ao) cn).trans ao;refine⟨rfl,bk.eP,aq,bk.kt,bk.uQ,λx=> ?_⟩;obtain⟨h4,cc⟩:=h3.G5 a1 aq;exact b2 cS cV O3 R3 _ cR aq x h4 (((aQ.trans an).trans bl).trans cc) ((ni A3 o _ bm).trans ce) bb λc=>⟨rfl,(ab c).2.2.2⟩
     ·exact Wj b6 b9 hm ht λx=>b2 ρ h O R _ b0 aq x l (aQ.trans an) ao bb λc=>⟨rfl,(ab c).2.2.2⟩
   ·exact Wh b6 b9 hm λx=>b2 ρ h O R _ b0 w x l (aQ.trans an) ao bb λc=>⟨hb c,(ab c).2.2.2⟩
  cases y with
  |false=>exact W6 hB hG ag ag λx=>bs ax x λc=>(ab c).1
  |true=>
   cases hq:(a2.toList==(keyOf e).toList)with
   |false=>exact W7 hB hG ag ag bU bE bM hq λx=>bs ax x λc=>by rw[(ab c).2.1]at hq;cases hq
   |true=>exact W8 hB hG ag ag bU bE bM hq λx=>bs _ x λc=>decide_eq_true (ab c).2.2.1
end
def qQ(n:Nat)(w:ak)(k:Option aH)(v:List KV):Prop:=∀(i:Nat) e,v[i]?=ae e->∃g,k=ae ⟨g,0,af⟩/\n<=g/\w.cell? ⟨g,i*2,af⟩=ae (.string (keyOf e))/\w.cell? ⟨g,i*2+1,af⟩=ae (.int .i64 e.2)
theorem qQ.on{n:Nat}{w:ak}(h:qQ n w ad ai)(a:aO w a7):qQ n a7 ad ai:=λi e k=>by
 obtain⟨g,b,c,f,j⟩:=h i e k;exact⟨g,b,c,a.cell f,a.cell j⟩
theorem LF{l:Tape}{d:Nat}(h:tH (Sim.re a7 l d) ac ai al):(∃k wc,ac=.slice k ai.length wc/\qQ a7.heap.size al k ai)/\aO a7 al:=by
 refine⟨?_,aO.of h.2⟩;have c:=h.1;obtain⟨p,a|⟨g,cap,o,a,j,_⟩⟩:=h.1
 ·refine⟨af,0,by rw[a.1,a.2],λi e b=> ?_⟩;rw[kY.mp a.2]at b;simp at b
 ·refine⟨_,_,a,λi e b=> ?_⟩;rw[a]at c;have f:=FF c i e b;exact⟨g,rfl,j,f.1,f.2⟩
def mA(kd:Int)(key aP:ByteArray)(l:List KV):List KV:=if kd=7 then eA key.data.toList l else cO key.data.toList aP.data.toList l
section
variable {a6:au->ak->Prop} {O:Nat->Prop} {R:BR} {w:ak} {r:Nat} {rv:au} {l:List KV}
theorem L4(s:aI Xm O R w)(y:R r r)(h:bQ w r rv l){b:ByteArray}(t:a2.size<=9223372036854775807)(B:b.size<=9223372036854775807):MC a6 29 #[ptr r,.string a2,.string b] O w (λu O' R' a=>O'=O/\(∃k wc,u=.slice k (cO a2.data.toList b.data.toList l).length wc/\qQ w.heap.size a k (cO a2.data.toList b.data.toList l))/\aO w a/\aI Xm O R' a/\BR.Sub R R'):=by
 refine iD (kT (R:=R) (Post1:=λu a=>(∃k wc,u=.slice k (cO a2.data.toList b.data.toList l).length wc/\qQ w.heap.size a k (cO a2.data.toList b.data.toList l))/\aO w a) U4 (kS bc) s (iP (l:=[ptr r,.string a2,.string b]) ⟨kD y,.string _,.string _,trivial⟩) (λu a c d ⟨⟨k,wc,f,j⟩,o⟩=>⟨⟨k,wc,f,j.on ((aO.refl a).re c d)⟩,o.re c d⟩) (λc=> ?_)) λu O' R' a H=> ?_
 ·refine(ah8 (kA h ((aO.refl w).re c 0)) a2 b t B).mono ?_;rintro e a ⟨v,rfl,x⟩;exact⟨v,rfl,LF x⟩
 ·obtain⟨rfl,⟨f,j⟩,o,_,p,_⟩:=H;exact⟨rfl,f,j,o,p⟩
theorem Y6(s:aI Xm O R w)(y:R r r)(h:bQ w r rv l)(t:a2.size<=9223372036854775807):MC a6 30 #[ptr r,.string a2] O w (λu O' R' a=>O'=O/\(∃k wc,u=.slice k (eA a2.data.toList l).length wc/\qQ w.heap.size a k (eA a2.data.toList l))/\aO w a/\aI Xm O R' a/\BR.Sub R R'/\VR Xm.G R' u u):=by
 refine iD (kT (R:=R) (Post1:=λu a=>(∃k wc,u=.slice k (eA a2.data.toList l).length wc/\qQ w.heap.size a k (eA a2.data.toList l))/\aO w a) U5 (kS bc) s (iP (l:=[ptr r,.string a2]) ⟨kD y,.string _,trivial⟩) (λu a b d ⟨⟨k,wc,c,f⟩,j⟩=>⟨⟨k,wc,c,f.on ((aO.refl a).re b d)⟩,j.re b d⟩) (λb=> ?_)) λu O' R' a B=> ?_
 ·refine(ah3 (kA h ((aO.refl w).re b 0)) a2 t).mono ?_;rintro e a ⟨v,rfl,x⟩;exact⟨v,rfl,LF x⟩
 ·obtain⟨rfl,⟨c,f⟩,j,p,o,_⟩:=B;exact⟨rfl,c,f,j,o,p⟩
end
section
variable {a6:au->ak->Prop} {O:Nat->Prop} {R:BR} {A:ak} {b3 b4 b5 wb xb rb ba tn:Nat} {kd:Int} {key aP:ByteArray} {nn:Int} {fv mv sv:au} {df:List jH} {c:aC} {cs:List aC} {x:Nat->au} {rv:au} {l:List KV}
theorem ao7(ad:kd=6\/kd=7)(h:eo O b3 b4 b5 wb xb rb kd key aP nn fv mv A)(a7:tn<2)(dI:¬O ba)(ju:A.cell? ⟨ba,0,af⟩=ae (.int .i64 (tn:Int)))(hK:aI Xm O R A)(hr:R rb rb)(N:bQ A rb rv l)(Z:key.size<=9223372036854775807)(ht:aP.size<=9223372036854775807)(u:∀bg k wc r a x,aO A a->aI Xm O r a->BR.Sub R r->A.heap.size<=bg->a.cell? ⟨bg,0,af⟩=ae (.slice k (mA kd key aP l).length wc)->qQ A.heap.size a k (mA kd key aP l)->ay aj a6 O (aw (FD 15 df (bH (ptr b3) (ptr b4) (ptr b5) sv (x 8) (ptr ba) (ptr bg) (x 12) (x 13) (x 14) (x 15) (x 16) (x 82) x) rf) (c::cs)) a):ay aj a6 O (aw (FD 15 df (bH (ptr b3) (ptr b4) (ptr b5) sv (x 8) (ptr ba) (x 11) (x 12) (x 13) (x 14) (x 15) (x 16) (x 82) x) oU) (c::cs)) A:=by
 rcases ad with rfl|rfl
 ·have e:mA 6 key aP l=cO key.data.toList aP.data.toList l:=if_neg bc;rw[e]at u;refine Wr h a7 dI ju (L4 hK hr N Z ht) λa8 O' R' A' p=> ?_;obtain⟨rfl,⟨k,wc,rfl,h1⟩,b,j,s⟩:=p;have o:=dw A' (.cells #[.slice k (cO key.data.toList aP.data.toList l).length wc] 34);exact⟨A'.heap.size,k,_,wc,rfl,rfl,λH=>by have:=j.low _ H;omega,h.cv (b.trans o),λx=>u A'.heap.size k wc R' _ x (b.trans o) (j.grown _) s b.size (kP A' 34 rfl) (h1.on o)⟩
 ·have e:mA 7 key aP l=eA key.data.toList l:=if_pos rfl;rw[e]at u;refine Ws h a7 dI ju (L4 hK hr N Z ht) λa8 O' R' A' p=> ?_;obtain⟨rfl,⟨k,wc,rfl,h1⟩,b,j,s⟩:=p;obtain⟨a,f⟩:∃a,A'.alloc (.cells #[.slice k (cO key.data.toList aP.data.toList l).length wc] 34)=a:=⟨_,rfl⟩;have o:aO A' a:=f▸dw _ _;have al:a.heap.size=A'.heap.size+1:=by rw[<-f,dh]
  have ac:a.heap[A'.heap.size]?=ae (.cells #[.slice k (cO key.data.toList aP.data.toList l).length wc] 34 (0,0)):=by rw[<-f];exact cY _ _
  have a2:¬O' A'.heap.size:=λH=>by have:=j.low _ H;omega
  have aa:aI Xm O' R' a:=f▸j.grown _;have U:=b.trans o;have ai:=b.size;refine⟨A'.heap.size,k,_,wc,_,rfl,rfl,a2,by rw[f];exact h.cv U,by rw[f];exact Y6 aa (s _ _ hr) (kA N U) Z,λa8 O2 r B p=> ?_⟩;obtain⟨rfl,⟨w,y,rfl,k1⟩,k2,k3,k4,k5⟩:=p;have W:B.heap[A'.heap.size]?=ae (.cells #[.slice k (cO key.data.toList aP.data.toList l).length wc] 34 (0,0)):=(k2.block _ ag).trans ac;have a1:=λv hk=>ni B A'.heap.size (.slice w (eA key.data.toList l).length y) (k:=v) hk;have t:=U.trans k2;have ab:aO A (B.setCell ⟨A'.heap.size,0,af⟩ (.slice w (eA key.data.toList l).length y)):=⟨by rw[jX];exact t.size,λv hk=>(a1 v ag).trans (t.block v hk),t.os,t.output⟩;refine⟨w,_,y,_,rfl,a2,by unfold bL;rw[W];rfl,by unfold gu;rw[W];rfl,λx=>u A'.heap.size w y r _ x ab (k3.set _ k5) (s.trans k4) ai ?_ λi e he=> ?_⟩;·unfold bL;rw[G6 W];rfl
  ·obtain⟨g,q1,q2,q3,q4⟩:=k1 i e he;have hg:g≠A'.heap.size:=ag;exact⟨g,q1,ag,(gV (a:=⟨g,i*2,af⟩) (a1 g hg)).trans q3,(gV (a:=⟨g,i*2+1,af⟩) (a1 g hg)).trans q4⟩
theorem ao5{wc:Nat}(h:eo O b3 b4 b5 wb xb rb kd key aP nn fv mv a7)(f:¬O a8)(l:a7.cell? ⟨a8,0,af⟩=ae (.slice ad a1 wc))(b:∀k,a7.heap.size<=k->¬O k)(j:∀a x,a<=a1->(0<=nn\/a=a1)->ay aj a6 O (aw (FD 15 df (bH (ptr b3) (ptr b4) (ptr b5) sv (x 8) (ptr ba) (ptr a8) (ptr a7.heap.size) (ptr (a7.heap.size+1)) (ptr (a7.heap.size+1+1)) (x 15) (x 16) sv x) (.code oO::oX)) (c::cs)) (((a7.alloc (.cells #[.int .i64 ((a:Nat):Int)] 3)).alloc (.cells #[.int .i64 0] 3)).alloc (.cells #[.bool aq] 4))):ay aj a6 O (aw (FD 15 df (bH (ptr b3) (ptr b4) (ptr b5) sv (x 8) (ptr ba) (ptr a8) (x 12) (x 13) (x 14) (x 15) (x 16) (x 82) x) rf) (c::cs)) a7:=by
 by_cases p:nn<0;·exact Wl h p f l rfl (b _ ag) rfl (b _ ag) rfl (b _ ag) λx=>j a1 x (aL _) (.inr rfl)
 ·by_cases o:nn<(a1:Int)
  ·obtain⟨a,r⟩:=Int.eq_ofNat_of_zero_le (by omega:0<=nn);refine Wm h ⟨ag,o⟩ f l rfl (b _ ag) rfl (b _ ag) rfl (b _ ag) λx=> ?_;have:=j a x ag (.inl ag);rw[<-r]at this;exact this
  ·exact Wn h ⟨ag,o⟩ f l rfl (b _ ag) rfl (b _ ag) rfl (b _ ag) λx=>j a1 x (aL _) (.inr rfl)
end
def uh(D:Nat):Deferred:={target:=.collected D,args:= #[]}
structure Tn(u:ak)(W:Nat)(B:au)(Z:Nat->Nat)(H:Nat->Prop)(N:BR)(j:ak)(ps:List (Nat×Nat))(wI:ak)(ab:Nat->Nat)(O:Nat->Prop)(R:BR)(A:ak)(t:TS)(Dl:List Nat)(ba tn:Nat):Prop where
 fH:fw u W B Z H N j ps ab O R A t
 size:wI.heap.size<=A.heap.size
 st:∀k,j.heap.size<=k->k<wI.heap.size->ab k=0/\A.heap[k]?=wI.heap[k]?
 EH:ab ba=0
 ju:A.cell? ⟨ba,0,af⟩=ae (.int .i64 (tn:Int))
 df:∀D∈Dl,ab D=202/\A.heap[D]?=ae (.deferred (ae []))/\j.heap.size<=D
 yN:Dl.Nodup
theorem ap4{t:TS}{ps:List (Nat×Nat)}{i:Nat}(h:t.map pp=ps)(c:ps[i]?=ae (a8,a1)):∃l,t[i]?=ae (a8,a1,l):=by
 rw[<-h,iI]at c;cases f:t[i]? with
 |none=>rw[f]at c;cases c
 |some j=>
  rw[f]at c;obtain⟨a,b,l⟩:=j;simp[pp]at c;obtain⟨rfl,rfl⟩:=c;exact⟨l,rfl⟩
theorem Qx:oO=.rangeFunc (.tmp 82) #[83,84] Ay d15:=ah
section
variable {a6:au->ak->Prop} {u:ak} {W:Nat} {B:au} {Z:Nat->Nat} {H:Nat->Prop} {N:BR} {j:ak} {ps:List (Nat×Nat)} {wI:ak} {ab:Nat->Nat} {O:Nat->Prop} {R:BR} {A:ak} {t:TS} {Dl:List Nat} {ba tn:Nat}
variable {b3 b4 b5 xb rb i gf:Nat} {lb:Array au} {kd:Int} {key aP:ByteArray} {nn:Int} {fv:au} {ms:List OpV} {ma:Option aH} {mc:Nat} {fn:pO} {cc:du} {c:aC} {cs:List aC} {x:Nat->au}
theorem N8(T:Tn u W B Z H N j ps wI ab O R A t Dl ba tn)(bP:tn<2)(cb:kd=6\/kd=7)(hT:eo (λ_=>False) b3 b4 b5 W xb rb kd key aP nn fv (.slice ma ms.length mc) wI)(cw:j.heap.size<=b3/\j.heap.size<=b4/\j.heap.size<=b5)(d0:j.heap.size<=wI.heap.size)(qg:OpsIn u ma ms)(cg:ms.length<=9223372036854775807)(hi:ps[i]?=ae (xb,rb))(hf:key.size<=9223372036854775807)(ht:aP.size<=9223372036854775807)(ca:fO gf fn cc)(ci:∀(f:Nat->Nat)(RB:BR)(b:ak) (l:List KV),(∀o,j.heap.size<=o->o<wI.heap.size->f o=0/\b.heap[o]?=wI.heap[o]?)->RB xb xb->bB (λo=>f o=0/\RB o o) b xb l->∃b1,yc (α:=js (mA kd key aP l)) a6 gf lb (·.1) (λq=>q=(mA kd key aP l).attach) (λq=>q<+:(mA kd key aP l).attach) b1 f RB b)(hn:∀a1 O2 R2 w a2 D b2 x,Tn u W B Z H N j ps wI a1 O2 R2 w a2 (D::Dl) b2 (tn+1)->ay aj a6 O2 (aw (FD 15 ((D::Dl).map uh) (bH (ptr b3) (ptr b4) (ptr b5) (.func (.func gf) #[] lb) (x 8) (ptr b2) (x 11) (x 12) (x 13) (x 14) (x 15) (x 16) (x 82) x) oU) (c::cs)) w):ay aj a6 O (aw (FD 15 (Dl.map uh) (bH (ptr b3) (ptr b4) (ptr b5) (.func (.func gf) #[] lb) (x 8) (ptr ba) (x 11) (x 12) (x 13) (x 14) (x 15) (x 16) (x 82) x) oU) (c::cs)) A:=by
 obtain⟨sv,bM⟩:∃sv,Dc (.func gf) #[] lb=sv:=⟨_,rfl⟩;rw[bM]at hn⊢;obtain⟨l,aU⟩:=ap4 T.fH.ps hi;have aa:=T.fH.pw;have br:0<t.length:=by have:=(cu.1 aU).1;omega
 have cf:0<ps.length:=by rw[<-T.fH.len];exact br
 obtain⟨g0,co,_,_,_,cj⟩:=aa.list br;obtain⟨_,_,hx,hr⟩:=cj i _ aU;have ap:=aa.wd.tw i _ aU;obtain⟨rv,bw,_⟩:=ap.ref;dsimp only at hx hr ap bw;have cS:=T.size;have ad:∀s,s=b3\/s=b4\/s=b5->j.heap.size<=s/\s<wI.heap.size:=λs hb=>by
  have k3:b3<wI.heap.size:=cC _ _ hT.c3;have k4:b4<wI.heap.size:=cC _ _ hT.sn;have k5:b5<wI.heap.size:=cC _ _ hT.o0;omega
 have bk:eo O b3 b4 b5 W xb rb kd key aP nn fv (.slice ma ms.length mc) A:=hT.on λs hb=>by
  obtain⟨k1,k2⟩:=ad s hb;obtain⟨k3,k4⟩:=T.st s k1 k2;exact⟨k4,aa.free (by rw[k3];decide)⟩
 have dI:¬O ba:=aa.free (by rw[T.EH];decide);have ct:ba<A.heap.size:=cC _ _ T.ju;refine ao7 cb bk bP dI T.ju aa.known hr bw hf ht λbg k wc R2 w x aQ c6 aT bl iB bv=> ?_;have be:∀o,A.heap.size<=o->¬O o:=λo hk=>aa.new hk;have cM:=aQ.size;refine ao5 (bk.cv aQ) (be _ bl) iB (λo hk=>be o ag) λa x bs hcut=> ?_;obtain⟨v,b0⟩:∃v,mA kd key aP l=v:=⟨_,rfl⟩;rw[b0]at iB bv bs hcut;have cl:v.length<=3000:=by
  have h1:=ap.ix.cI;rw[<-b0];unfold mA;split
  ·have:(eA key.data.toList l).length<=l.length:=mB _ _;omega
  ·have:(cO key.data.toList aP.data.toList l).length<=l.length:=mB _ _;omega
 obtain⟨U,aF⟩:∃U,w.heap.size=U:=⟨_,rfl⟩;obtain⟨b,al⟩:∃b,((w.alloc (.cells #[.int .i64 (a:Int)] 3)).alloc (.cells #[.int .i64 0] 3)).alloc (.cells #[.bool aq] 4)=b:=⟨_,rfl⟩;have s1:(w.alloc (.cells #[.int .i64 (a:Int)] 3)).heap.size=U+1:=by rw[dh,aF]
 have s2:((w.alloc (.cells #[.int .i64 (a:Int)] 3)).alloc (.cells #[.int .i64 0] 3)).heap.size=U+1+1:=by rw[dh,s1]
 have cR:b.heap.size=U+3:=by rw[<-al,dh,s2]
 have bU:aO w (w.alloc (.cells #[.int .i64 (a:Int)] 3)):=dw _ _;have b6:aO (w.alloc (.cells #[.int .i64 (a:Int)] 3)) ((w.alloc (.cells #[.int .i64 (a:Int)] 3)).alloc (.cells #[.int .i64 0] 3)):=dw _ _;have ar:aO ((w.alloc (.cells #[.int .i64 (a:Int)] 3)).alloc (.cells #[.int .i64 0] 3)) b:=al▸dw _ _;have am:aO w b:=(bU.trans b6).trans ar;have a7:aO A b:=aQ.trans am;have bd:aI Xm O R2 b:=al▸((c6.grown _).grown _).grown _;have bY:b.cell? ⟨U,0,af⟩=ae (.int .i64 (a:Int)):=ar.cell (b6.cell (by rw[<-aF];exact kP w 3 rfl));have oP:b.heap[U+1]?=ae (.cells #[.int .i64 ((0:Nat):Int)] 3 (0,0)):=(ar.block _ ag).trans (by rw[<-s1];exact cY _ _);have oQ:b.heap[U+1+1]?=ae (.cells #[.bool aq] 4 (0,0)):=by rw[<-al,<-s2];exact cY _ _
 rw[al,aF];let f:Nat->Nat:=λo=>if o=U+1\/o=U+1+1 then 201 else ab o
 have a8:∀o,o≠U+1->o≠U+1+1->f o=ab o:=λo h1 h2=>by
  show(if _ then _ else _)=_;rw[if_neg ag]
 have an:=aa.wd.fresh;have aR:Mv (λ_=>False) ab A f b:=⟨a7.size,λo hk=>a8 o ag ag,λo hk=>(a8 o ag ag).trans (an o ag),λo hk _=>a7.block o hk,a7.os,a7.output⟩;have d1:j.heap.size<=A.heap.size:=T.fH.mv.size;have c7:fy u W B Z H N j ps b f R2 (U+1) (U+1+1) f f O R2 b t 0 true:=⟨T.fH.same aR (λr=>r) (λ_ _ _ r=>r) bd aT (λo hk=>a7.block o ag),λ_ _ _=>rfl,λ_ _=>⟨rfl,rfl⟩,λo h1 h2 _=>ag,aR.fresh,aL _,BR.Sub.refl _,oP,oQ,ag,ag,ag,ag,ag,ag,if_pos (.inl rfl),if_pos (.inr rfl)⟩;have ao:∀o,j.heap.size<=o->o<wI.heap.size->f o=0/\b.heap[o]?=wI.heap[o]?:=λo h1 h2=>⟨(a8 o ag ag).trans (T.st o h1 h2).1,(a7.block o ag).trans (T.st o h1 h2).2⟩;have cx:bg<w.heap.size:=cC _ _ iB;have bi:Aq b f b3 b4 b5 ba bg U W xb rb kd key aP nn fv (.slice ma ms.length mc) tn k wc a v:=by
  have hz:∀s,s=b3\/s=b4\/s=b5->f s=0:=λs hb=>(ao s (ad s hb).1 (ad s hb).2).1;refine⟨hT.on λs hb=>⟨(ao s (ad s hb).1 (ad s hb).2).2,λr=>r⟩,hz _ (.inl rfl),hz _ (.inr (.inl rfl)),hz _ (.inr (.inr rfl)),(a8 ba ag ag).trans T.EH,(a8 bg ag ag).trans (an _ bl),(a8 U ag ag).trans (an _ ag),a7.cell T.ju,am.cell iB,bY,λcn e he=> ?_,bs,hcut,cl⟩;obtain⟨g,q1,q2,q3,q4⟩:=bv cn e he;have cy:g<w.heap.size:=cC _ _ q3;exact⟨g,q1,(a8 g ag ag).trans (an _ q2),am.cell q3,am.cell q4⟩
 have c5:bB (λo=>f o=0) b xb l:=Ba ap.ix aR (λr=>r) (λr=>r);obtain⟨b1,bE⟩:=ci f R2 b l ao (aT _ _ hx) (Ew bd (aT _ _ hx) c5);rw[b0]at bE
 have b9:∀(a1 h:Nat->Nat)(O2:Nat->Prop)(R3:BR)(W2:ak)(a2:TS) (x:Nat->au),fy u W B Z H N j ps b f R2 (U+1) (U+1+1) a1 h O2 R3 W2 a2 a aq->W2.heap[b.heap.size]?=ae (.deferred (ae []))->a1 b.heap.size=0->
   ay aj a6 O2 (aw (FD 15 ((b.heap.size::Dl).map uh) (bH (ptr b3) (ptr b4) (ptr b5) sv (x 8) (ptr ba) (ptr bg) (ptr U) (ptr (U+1)) (ptr (U+1+1)) (x 15) (x 16) sv x) vR) (c::cs)) W2:=by
  intro a1 h O2 R3 W2 a2 x r hd ai;have bb:=r.fH.pw.known;have cV:=r.size;have bm:=cJ hd;refine W5 (r.zc bi) rfl bP rfl (λhO=>by have:=bb.low _ hO;omega) λx=> ?_;have bo:=r.fH.pw.wd.fresh;have ac:=dw W2 (.cells #[.int .i64 ((tn+1:Nat):Int)] 3);refine hn h O2 R3 _ a2 b.heap.size W2.heap.size x ⟨r.fH.same (Mv.cv bo ac) (λr=>r) (λ_ _ _ r=>r) (bb.grown _) (BR.Sub.refl _) (λo hk=>ac.block o ag),by have:=ac.size;omega,λo h1 h2=> ?_,bo _ (aL _),kP W2 3 rfl,λD hD=> ?_,?_⟩
  ·obtain⟨q1,q2⟩:=ao o h1 h2;exact⟨(r.jP o ag).2.trans q1,(ac.block o ag).trans ((r.bK o ag (.inl q1)).trans q2)⟩
  ·rcases dk.1 hD with rfl|hD;·exact⟨r.it _ (aL _) bm ai,(ac.block _ bm).trans hd,ag⟩
   ·obtain⟨q1,q2,q3⟩:=T.df D hD;have bZ:=cJ q2;have q4:f D=202:=(a8 D ag ag).trans q1;exact⟨(r.jP D ag).2.trans q4,(ac.block D ag).trans ((r.bK D ag (.inr q4)).trans ((a7.block D bZ).trans q2)),q3⟩
  ·refine List.nodup_cons.2 ⟨λhD=> ?_,T.yN⟩;have:=cJ (T.df _ hD).2.1;omega
 refine KT (val:=(·.1)) (w:=b) (ρ:=f) (ρ₀:=f) (R₀:=R2) (R:=R2) (fr:=FD 15 (Dl.map uh) (bH (ptr b3) (ptr b4) (ptr b5) sv (x 8) (ptr ba) (ptr bg) (ptr U) (ptr (U+1)) (ptr (U+1+1)) (x 15) (x 16) sv x) (.code oO::oX)) (fo:=.tmp 82) (p1:=83) (p2:=84) (asg:=Ay) (body:=d15) (k:=oX) rfl rfl rfl (by rw[<-Qx];rfl) (by rw[bM];rfl) ca bE (aO.refl _) (λ_ _=>rfl)
  (At u W B Z H N j ps b f R2 (U+1) (U+1+1) a v) (DI u W B Z H N j ps b f R2 (U+1) (U+1+1) a v) Vk Vl (λρ pre O R W ⟨h,t,p,y,r,_⟩=>r.sub) ⟨f,t,0,aq,c7,fL _,λ_=>⟨rfl,rfl⟩⟩ ?body ?done ?stop
 case body=>
  intro a1 O2 R3 A3 pre d3 o d2 c' cp hI hN hv hl ce c8;exact ao6 bi qg cg cf hI hv hl ag ce rfl c8
 case done=>
  rintro a1 ys O2 R3 W2 rfl ⟨h,a2,p,y,r,cr,hp⟩ hd ai;obtain⟨rfl,e⟩:=hp (aA2 _);have e2:p=a:=by rw[az1]at e;omega
  subst e2;exact Ww (df:=(b.heap.size::Dl).map uh) λx=>b9 a1 h O2 R3 W2 a2 x r hd ai
 case stop=>
  rintro cd a1 pre O2 R3 W2 ch ⟨rfl,h,a2,y,r,hp⟩ hd ai;have:=hp ch;subst this;exact Wx (df:=(b.heap.size::Dl).map uh) λx=>b9 a1 h O2 R3 W2 a2 x r hd ai
end
