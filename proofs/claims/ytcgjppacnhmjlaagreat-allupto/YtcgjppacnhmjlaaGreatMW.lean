/- Own texts: FwX, FwY, FwZ, ChgF, FxA, FyP, FyQ. -/
import Derived.Test.YtcgjppacnhmjlaaGreatMV
import Derived.Deep.RegionHeld3
import Derived.Test.YtcgjppacnhmjlaaGreatMR
import Derived.Test.YtcgjppacnhmjlaaGreatMS
set_option linter.all false
set_option maxRecDepth 100000
set_option maxHeartbeats 1000000
open Array renaming getElem?_eq_some_iff->cq,all_eq_true_iff_forall_mem->jh,getElem?_modify->fV,getElem?_eq_getElem->jV,getElem?_setIfInBounds_ne->nk,mem_of_getElem?->lH,ext_getElem?->rK,getElem?_setIfInBounds_self_of_lt->NA,getD->P9
open Bool renaming true->aq,false->ax,and_eq_true->dj,eq_false_iff->CH
open Classical renaming not_forall->O8
open Decidable renaming decide->aM
open Go renaming World->ak,Value->au,cell_later->aS,Frame->aC,Goroutine->aX,Calls->aE,TypeId->aK,Program->aV,Addr->aH,undef->aN,Operand->bC,FuncId->bW,wp_loop_rounds->mE,underlying->iZ,sizeOf->ed,Oper->bR,rounds_succ->mH,Code->du,linearise_go_acc->xw,Item->dP,Obj->dV,Act->gx,Func->pO,Exit->s8
open Go.Addr renaming add_lit->jF,add->vf
open Go.Conc renaming aside_setCell->mG
open Go.Frame renaming enter->bG
open Go.IntKind renaming i64->cZ,wrap_i64->ft
open Go.Proofs.Tryz renaming prog->aj,func72->A7,sizeOf56->CS,runUnderlying69->NM,func70->D7,ntmps70->Hf,isAgg69->Hj,sizeOf78->OG,runUnderlying127->aw8,f73->Pp,isAgg127->aD5,isAgg78->aG3,isAgg56->aG4
open Go.Region renaming ready->dm,binds->nC,Mode->pH
open Go.Region.linearise renaming go->gX
open Go.RowKit renaming Below->aA,Hid->aB
open Go.RowKit.Below renaming refl->cD
open Go.World renaming block_lt_of_cell?->cC,cell?->bL,cell?_of_block->gV,setCell->eK
open Int renaming natCast_nonneg->qC
open List renaming getElem?_eq_getElem->bf,getElem?_eq_some_iff->cu,mem_of_getElem?->cG,mem_cons->dk,all_eq_true->eJ,mem_range->eh,range->dn,getElem?_map->iI,mem_filter->gK,getElem?_eq_none->lI,getElem?_of_mem->lJ,length_filter_le->mB,take_add_one->mC,any_eq_true->pG,reverse_singleton->xh,singleton_append->xi,take_length->zK,length_filter_eq_length_iff->NB,getElem?_range->NU,filter_filter->az2
open Nat renaming le_refl->aL,le_trans->bT,lt_of_lt_of_le->dG,strongRecOn->rN,mod_lt->xK,lt_of_le_of_ne->O7,le_add_right->aB4,le_of_lt->aH3
open Ne renaming symm->jm
open Option renaming some->ae,none->af,map_some->hZ,getD_some->lK
namespace Go.Proofs.YtcgjppacnhmjlaaGreat
open Go Go.Conc Go.ConcN Go.Conc.Lib Go.ConcR.Gen Go.RowKit
open Go.ConcR (KK wgBlock WgAt stA smA rd wr mk Payload DC0)
namespace Sim
variable {p y:ak} {b:Nat} {x:Nat->Prop} {r:Option aH} {s:List KV} {t:BR} {B:Nat->au} {H:au} {a1:aK} {a2:Nat×Nat}
structure aO(w a:ak):Prop where
 size:w.heap.size<=a.heap.size
 block:∀b,b<w.heap.size->a.heap[b]?=w.heap[b]?
 os:a.os=w.os
 output:a.output=w.output
theorem aO.refl(w:ak):aO w w:=⟨aL _,λ_ _=>rfl,rfl,rfl⟩
theorem aO.trans{w w1:ak}(h:aO w w1)(a:aO w1 p):aO w p:=⟨bT h.size a.size,λb c=>(a.block b (dG c h.size)).trans (h.block b c),a.os.trans h.os,a.output.trans h.output⟩
theorem aO.of{tp:Tape}{d:Nat}(h:aA (re p tp d).heap.size (re p tp d) y):aO p y:=⟨h.size,λb a=>h.block b a,h.os,h.output⟩
theorem aO.re{w a:ak}(h:aO w a)(tp:Tape)(d:Nat):aO w (Sim.re a tp d):=⟨h.size,h.block,h.os,h.output⟩
theorem aO.cell(h:aO p y){o:Nat}{v:au}(a:p.cell? ⟨b,o,af⟩=ae v):y.cell? ⟨b,o,af⟩=ae v:=(gV (a:=⟨b,o,af⟩) (h.block b (cC _ _ a))).trans a
theorem Ce{n:Nat}(h:bD x n p r s)(o:aO p y):bD x n y r s:=by
 rcases h with h|⟨t,f,j⟩;·exact .inl h
 ·have l:aY (λk=>x k/\k<p.heap.size) n p t s:=j.weaken λk a b=>⟨a,b⟩;exact .inr ⟨t,f,l.bK (λk c=>o.block k c.2) (λk c _=>c.1) (aL _)⟩
theorem zt{n:Nat}(h:bD x n p r s)(tp:Tape)(d:Nat):bD x n (Sim.re p tp d) r s:=Ce h ((aO.refl p).re tp d)
theorem Uc:∃fn c,aj.funcs[72]?=ae fn/\(fn.name== "runtime.NumGoroutine")=ax/\fn.body=ae c:=⟨Tryz.f72,(Tryz.f72.body).getD .skip,A7,ah,ah⟩
theorem UM:Xm.G 72:=show fj.contains 72=aq from bc
section
variable {P:aV} {Post:au->ak->Prop} {O:Nat->Prop} {g:aX} {w:ak}
theorem ay.ri{i:Nat}{t e:aK}{x y:bC}{a:aH}{l c n:Nat}{k:Int}(p:g.status=.running)(h:AtR g i)(o:(oG g).op=.indexAddr t x y)(u:(aG g).eval x=.slice (ae a) l c)(v:(aG g).eval y=.int .i64 k)(f:0<=k/\k<l)(s:∀w,(iZ t).run P w=.ok (.slice e) w)(r:∀w,(ed e).run P w=.ok n w)(j:ay P Post O (bz g (.pointer (ae (a.add (k.toNat*n))))) w):ay P Post O g w:=
 .step p λtp d=>⟨_,_, #[],C9 h o u v f (s _) (r _),aL _,λe b=>by simp at b,j.re (tp:=tp) (d:=d)⟩
theorem ay.val{i:Nat}{v v':au}(h:g=dL g i v)(b:v=v')(a:ay P Post O (dL g i v') w):ay P Post O g w:=by rw[h,b];exact a
theorem ay.call{O:Nat->Prop}{i:Nat}{f:bW}{fn:pO}{j:du}{args:Array bC}{ats:Array aK}{Post1:au->ak->Prop}{vals:Array au}(b:AtR g i)(N:g.frame.kind=.normal)(W:(oG g).op=.call {callee:=.value (.func f),args:=args,argTypes:=ats})(B:aj.funcs[f]?=ae fn)(U:(fn.name== "runtime.NumGoroutine")=ax)(x:fn.body=ae j)(H:Xm.G f)(c:args.map (aG g).eval=vals)(s:aI Xm O t w)(u:bq Xm.G t vals vals)(Z:∀v w tp d,Post1 v w->Post1 v (Sim.re w tp d))(y:∀tp,aE aj f vals (Sim.re w tp 0) λe a=>∃v,e=.returned v/\Post1 v a)(R:∀v a h,Post1 v a->aI Xm O h a->VR Xm.G h v v->BR.Sub t h->w.heap.size<=a.heap.size->ay aj Post O (bz g v) a):ay aj Post O g w:=by
 rw[b.eq];have:=XW (X:=Xm) (P:=aj) (fs:=fj) (fz:=aq) (vs:=[71]) (Post:=Post) (b:=g.frame) (a:=aG g) (cs:=g.callers) (w:=w) (R:=t) (ops:=lB g) (i:=i) (rest:=rF g) (k:=kG g) (o:=oG g) (Post1:=Post1) sB wi b.op b.wanted N W B U x H s (by rw[c];exact u) Z (λtp=>by rw[c];exact y tp) λv a h k l o p r=>R v a h k l o p r;exact this
end
structure Bh(S:Nat->Prop)(O:Nat->Prop)(n T E b4 b5:Nat)(pss:List (List PP))(j:Nat)(tp:Option aH)(w:ak)(R:BR):Prop where
 known:aI Xm O R w
 rl:R b4 b4/\R b5 b5/\R T T/\R E E
 opn:Open S w
 c4:w.cell? ⟨b4,0,af⟩=ae (dO T n)
 c5:w.cell? ⟨b5,0,af⟩=ae (dO E n)
 tree:∀(i:Nat) ps,pss[i]?=ae ps->∃n' tq,w.cell? ⟨T,i,af⟩=ae (.pointer tq)/\bD S n' w tq (pl ps)/\VR Xm.G R (.pointer tq) (.pointer tq)
 AO:∀(i:Nat) ps,pss[i]?=ae ps->w.cell? ⟨E,i,af⟩=ae (.int .i64 (pe ps))
 K4:∀(i:Nat) ps,i<j->pss[i]?=ae ps->fI ps=ax
 whole:∃n',bD S n' w tp (gI (pss.take j))
 vr:VR Xm.G R (.pointer tp) (.pointer tp)
theorem Bh.out{O:Nat->Prop}{n T E b4 b5:Nat}{pss:List (List PP)}(h:Bh x O n T E b4 b5 pss b r p t):¬O b4/\¬O b5/\¬O T/\¬O E:=⟨h.known.apart _ h.rl.1,h.known.apart _ h.rl.2.1,h.known.apart _ h.rl.2.2.1,h.known.apart _ h.rl.2.2.2⟩
def Dq(Q:au->Prop):List au->Prop
 |[]=>True
 |v::l=>Q v/\Dq Q l
theorem Is{Q:au->Prop}:∀{l:List au},Dq Q l->∀v∈l,Q v
 |[],_,v,b=>by cases b
 |a::l,h,v,b=>by
  rcases dk.1 b with rfl|b;·exact h.1
  ·exact Is h.2 v b
theorem iP{G:bW->Prop}{l:List au}(h:Dq (λv=>VR G t v v) l):bq G t l.toArray l.toArray:=⟨rfl,λi v c a b=>by
 rw[a]at b;cases b;exact Is h v (by simpa using lH a)⟩
def yF(t:Array au)(k:Nat):Value:=(t[k]?).getD aN
noncomputable def DT:Code:=(nl (nt (nr (nl (nr (nb (nl (nr (nr (nb (nb (nr (nl (nr (nr (nr (nr (nr (nr (nr DR))))))))))))))))))))
def tE(y:Nat->au)(a v3:au)(b5:Nat)(j:Int):Array Value:= #[aN,aN,a,v3,aN,ptr b5,aN,aN,aN,aN,.int .i64 j,aN,aN,aN,aN,aN,aN,aN,aN,aN,aN,aN,aN,aN,aN,aN,aN,aN,aN,aN,aN,aN,aN,aN,aN,aN,aN,aN,y 38,y 39,y 40,y 41,aN,aN,aN,aN,aN,aN,aN,aN]
def zE(Pb po n cap b4:Nat)(x:Nat->au)(j:Int)(tp:Option aH):List (Nat×au):=[(0,pA Pb po n cap),(1,x 1),(4,ptr b4),(6,x 6),(7,x 7),(8,x 8),(9,.pointer tp),(11,x 11),(12,x 12),(13,x 13),(14,x 14),(15,x 15),(16,x 16),(17,x 17),(18,x 18),(19,x 19),(20,x 20),(21,x 21),(22,x 22),(23,x 23),(24,x 24),(25,x 25),(26,x 26),(27,x 27),(28,pA Pb po n cap),(29,.int .i64 n),(30,.int .i64 j),(31,x 31),(32,x 32),(33,x 33),(34,x 34),(35,x 35),(36,x 36),(37,x 37),(42,x 42),(43,x 43),(44,x 44),(45,x 45),(46,x 46),(47,x 47),(48,x 48),(49,x 49)]
theorem Q8{G:bW->Prop}{v3:au}{b5:Nat}{j:Int}(b:VR G t H H)(c:VR G t v3 v3)(f:VR G t (ptr b5) (ptr b5))(a:∀k,VR G t (B k) (B k)):bq G t (tE B H v3 b5 j) (tE B H v3 b5 j):=iP ⟨.undef,.undef,b,c,.undef,f,.undef,.undef,.undef,.undef,(.int _ _),.undef,.undef,.undef,.undef,.undef,.undef,.undef,.undef,.undef,.undef,.undef,.undef,.undef,.undef,.undef,.undef,.undef,.undef,.undef,.undef,.undef,.undef,.undef,.undef,.undef,.undef,.undef,(a 38),(a 39),(a 40),(a 41),.undef,.undef,.undef,.undef,.undef,.undef,.undef,.undef,trivial⟩
theorem wpE{w:ak}{b5 E n:Nat}{v3:au}{Q:s8->gx->ak->Prop}(f:w.cell? ⟨b5,0,af⟩=ae (dO E n))(h:w.cell? ⟨E,b,af⟩=ae (.int .i64 1))(o:b<n)(j:Q=λe c a=>e=.normal/\c.tmps=tE (yF c.tmps) (.pointer af) (.int .i64 1) b5 b/\aO w a):DT.wp aj Q ⟨tE B H v3 b5 b,[]⟩ w:=by
 have k:(0:Int)<=(b:Int):=qC _;have l:(b:Int)<(n:Int):=ag;unfold dO at f;unfold DT DR Pp tE;dsimp only[nl,nr,nb,nt,ne,Option.getD]
 go_region_held3 (λa=>a.cell? ⟨b5,0,af⟩=ae (.slice (ae ⟨E,0,af⟩) n n)/\a.cell? ⟨E,b,af⟩=ae (.int .i64 1)) (first|exact⟨f,h⟩|go_keep) (fail)
 rw[j];exact⟨rfl,ah,(aO.refl w).re w.tape _⟩
section
variable {Pb po n cap b4 b5 T E:Nat} {c:aC} {cs:List aC} {S O:Nat->Prop} {pss:List (List PP)} {Post:au->ak->Prop} {w00:ak} {R00:BR}
theorem XT(ap:pss.length=n/\n<=16)(ar:∀tp w R,Bh S O n T E b4 b5 pss n tp w R->BR.Sub R00 R->aO w00 w->ay aj Post O (aw (c.finish (.tuple #[.pointer tp,.int .i64 0])) cs) w)(an:∀w R,(∃ps∈pss,fI ps=aq)->aI Xm O R w->BR.Sub R00 R->aO w00 w->ay aj Post O (aw (c.finish (.tuple #[.pointer af,.int .i64 1])) cs) w):∀(r j:Nat),r+j=n->∀(x:Nat->au)(tp:Option aH)(w:ak) (R:BR),Bh S O n T E b4 b5 pss j tp w R->BR.Sub R00 R->aO w00 w->(gI (pss.take j)).length<=3001*j->ay aj Post O (En Pb po n cap b4 b5 c cs x j tp) w:=by
 intro r;induction r with
 |zero=>
  intro j hj x tp w R f U Z hl;obtain rfl:j=n:=ag;refine .K 1 ?_;refine .val (i:=31) (v:=.bool (aM ((j:Int)<(j:Int)))) (v':=.bool ax) ah az ?_;refine .K 12 (.eqv (g':=aw (c.finish (.tuple #[.pointer tp,.int .i64 0])) cs) ah (ar tp w R f U Z))
 |succ r ih=>
  intro j hj x tp w R f U Z hl;have aa:j<n:=ag;have ab:cZ.wrap ((j:Int)+1)=((j+1:Nat):Int):=by rw[ft];omega
  obtain⟨ps,H⟩:∃ps,pss[j]?=ae ps:=⟨pss[j]'(by rw[ap.1];exact aa),bf _⟩;obtain⟨nq,N,ao,al,aP⟩:=f.tree j ps H;obtain⟨nw,am⟩:=f.whole;have a8:gI (pss.take (j+1))=aW (gI (pss.take j)) (pl ps):=by rw[mC,H];exact Nn _ _
  have B:=f.AO j ps H;refine .K 1 ?_;refine .val (i:=31) (v:=.bool (aM ((j:Int)<(n:Int)))) (v':=.bool aq) ah (by rw[decide_eq_true ag]) ?_;refine .K 14 ?_;refine .gS ah (ZB Pb po n cap b4 b5 c cs x j tp) (t:=127) (x:=.tmp 5) (a:=⟨b5,0,af⟩) (v:=dO E n) ah ah aD5 f.out.2.1 f.c5 ?_;refine .K 1 ?_;refine .ri ah (ZC Pb po n cap b4 b5 c cs x j tp E) (t:=127) (x:=.tmp 33) (y:=.tmp 34) (e:=78) (n:=1) (a:=⟨E,0,af⟩) (l:=n) (c:=n) (k:=(j:Int)) ah ah ah ⟨ag,ag⟩ aw8 OG ?_;rw[addr_add];by_cases a2:fI ps=aq
  ·have e1:pe ps=1:=by unfold pe;rw[a2];rfl
   rw[e1]at B;refine .gS ah (M3 Pb po n cap b4 b5 c cs x j tp E j) (t:=78) (x:=.tmp 35) (a:=⟨E,j,af⟩) (v:=.int .i64 1) ah ah aG3 f.out.2.2.2 B ?_;refine .K 4 ?_
   refine .QO (c:=DT) (k:=kG (nxtN aj aq 4 (bz (B3 Pb po n cap b4 b5 c cs x j tp E j) (.int .i64 1)))) (z:=zE Pb po n cap b4 (xF (nxtN aj aq 4 (bz (B3 Pb po n cap b4 b5 c cs x j tp E j) (.int .i64 1))).frame) j tp) (tm:=tE (λ_=>aN) (.pointer af) (.int .i64 0) b5 j)
    (Q:=λe y a=>e=.normal/\y.tmps=tE (yF y.tmps) (.pointer af) (.int .i64 1) b5 j/\aO w a) (St:=λy a=>y.tmps=tE (yF y.tmps) (.pointer af) (.int .i64 1) b5 j/\aO w a)
    ah ah ⟨Pp,(congrArg (λac=>aj.funcs[ac]?) (show _=73 from ah)).trans Tryz.func73⟩ ah ah f.known (Q8 .pnil (.int _ _) (.ptr ⟨f.rl.2.1,rfl,rfl⟩) λ_=>.undef) (λo w1 tp d ⟨l,s⟩=>⟨l,s.re tp d⟩) (λe o a ad=>ad) (λtape=>Code.wp_mono (λe o a ⟨h0,l,k⟩=>⟨h0,l,⟨k.size,k.block,k.os,k.output⟩⟩) (wpE (w:=Sim.re w tape 0) f.c5 B aa rfl)) λaR a h av a1 aT ai aF=> ?_
   obtain⟨l,s⟩:=av;dsimp only at l;generalize yF aR=y' at l;subst l;refine .K 2 (.eqv (g':=aw (c.finish (.tuple #[.pointer af,.int .i64 1])) cs) ah (an a h ⟨ps,cG H,a2⟩ a1 (U.trans ai) (Z.trans s)))
  ·have a7:fI ps=false:=by simpa using a2
   have e0:pe ps=0:=by unfold pe;rw[a7];rfl
   rw[e0]at B;refine .gS ah (M3 Pb po n cap b4 b5 c cs x j tp E j) (t:=78) (x:=.tmp 35) (a:=⟨E,j,af⟩) (v:=.int .i64 0) ah ah aG3 f.out.2.2.2 B ?_;refine .K 6 ?_;refine .gS ah (ZD Pb po n cap b4 b5 c cs x j tp E j) (t:=69) (x:=.tmp 4) (a:=⟨b4,0,af⟩) (v:=dO T n) ah ah Hj f.out.1 f.c4 ?_;refine .K 1 ?_;refine .ri ah (ZE Pb po n cap b4 b5 c cs x j tp E T j) (t:=69) (x:=.tmp 43) (y:=.tmp 44) (e:=56) (n:=1) (a:=⟨T,0,af⟩) (l:=n) (c:=n) (k:=(j:Int)) ah ah ah ⟨ag,ag⟩ NM CS ?_;rw[addr_add];refine .gS ah (ZF Pb po n cap b4 b5 c cs x j tp E T j) (t:=56) (x:=.tmp 45) (a:=⟨T,j,af⟩) (v:=.pointer N) ah ah aG4 f.out.2.2.1 ao ?_;obtain⟨fn,cc,f1,f2,f3⟩:=Uc
   refine .call (ZG Pb po n cap b4 b5 c cs x j tp E T j N) ah (f:=72) (args:= #[.tmp 42,.tmp 46]) (ats:=match (oG (Eo Pb po n cap b4 b5 c cs x j tp E T j N)).op with| .call c=>c.argTypes|_=> #[]) ah f1 f2 f3 UM (vals:= #[.pointer tp,.pointer N]) ah f.known ⟨rfl,λi v v' o b=> ?_⟩
    (Post1:=λv a=>∃t p,v=.pointer p/\bD S t a p (gI (pss.take (j+1)))/\aO w a) (λv a tp d ⟨t,p,l,s,k⟩=>⟨t,p,l,zt s tp d,k.re tp d⟩) (λtape=> ?_) λv a h ⟨t,p,l,s,k⟩ a1 aJ u aF=> ?_
   ·rw[o]at b;cases b
    match i with
    |0=>simp at o;subst o;exact f.vr
    |1=>simp at o;subst o;exact aP
    |i+2=>simp at o
   ·refine(Gx (S:=S) (w:=re w tape 0) (λa6 hk=>f.opn a6 hk) (zt am tape 0) (zt al tape 0) (by have:=(BI ps).2;omega)).mono ?_;rintro e a ⟨t,p,rfl,l,s⟩;refine⟨_,rfl,t,p,rfl,?_,aO.of s⟩;rw[a8];exact l
   ·subst l;refine .K 5 ?_;refine .val (i:=48) (v:=.int .i64 (cZ.wrap ((j:Int)+1))) (v':=.int .i64 ((j+1:Nat):Int)) ah (by rw[ab]) ?_;refine .K 5 ?_;refine .eqv ah (ih (j+1) ag (xF (nxtN aj aq 5 (dL (nxtN aj aq 5 (bz (Eo Pb po n cap b4 b5 c cs x j tp E T j N) (.pointer p))) 48 (.int .i64 ((j+1:Nat):Int)))).frame) p a h ⟨a1,⟨u _ _ f.rl.1,u _ _ f.rl.2.1,u _ _ f.rl.2.2.1,u _ _ f.rl.2.2.2⟩,λa6 hk=>f.opn a6 (bT k.size hk),k.cell f.c4,k.cell f.c5,λi ps W=> ?_,λi ps W=>k.cell (f.AO i ps W),λi q W hq=> ?_,⟨t,s⟩,aJ⟩ (U.trans u) (Z.trans k) ?_)
    ·obtain⟨o,b,c1,c2,c3⟩:=f.tree i ps W;exact⟨o,b,k.cell c1,Ce c2 k,c3.mono u⟩
    ·by_cases e:i=j;·subst e;rw[H]at hq;cases hq;exact a7
     ·exact f.K4 i q ag hq
    ·rw[a8];have:=EM (m:=pl ps) (MZ (pss.take j));have:=(BI ps).2;omega
end
structure y5(K:Nat->Prop)(w:ak)(Pb po:Nat)(vs:List au)(pss:List (List PP)):Prop where
 len:vs.length<=16/\pss.length=vs.length
 keys:∀ps∈pss,ps.length<=9223372036854775807/\∀q∈ps,q.1.size<=9223372036854775807
 pb:K Pb
 cell:∀(i:Nat) v,vs[i]?=ae v->w.cell? ⟨Pb,po+i,af⟩=ae v
 parts:∀(i:Nat) v ps,vs[i]?=ae v->pss[i]?=ae ps->jL K w v ps
structure Left(vs:List au)(O f:Nat->Prop)(R h:BR)(w a:ak):Prop where
 known:aI Xm f h a
 sub:BR.Sub R h
 same:∀b,b<w.heap.size->¬O b->iA w a b
 exact:∀b,b<w.heap.size->¬O b->(∀v∈vs,¬j7 v b)->a.heap[b]?=w.heap[b]?
 size:w.heap.size<=a.heap.size
 os:a.os=w.os
 output:a.output=w.output
 aL2:∀b,O b->f b
 fresh:∀b,f b->O b\/w.heap.size<=b
section
variable {Pb po n cap:Nat} {vs:List au} {pss:List (List PP)} {Post:au->ak->Prop} {O:Nat->Prop} {c:aC} {cs:List aC} {w:ak} {R:BR}
theorem Xe(W:vs.length=n)(s:aI Xm O R w)(r:y5 (λb=>R b b) w Pb po vs pss)(ac:∀f h a tp n',Left vs O f R h w a->(∀ps∈pss,fI ps=ax)->bD (λb=>w.heap.size<=b) n' a tp (gI pss)->VR Xm.G h (.pointer tp) (.pointer tp)->ay aj Post f (aw (c.finish (.tuple #[.pointer tp,.int .i64 0])) cs) a)(ab:∀f h a,Left vs O f R h w a->(∃ps∈pss,fI ps=aq)->ay aj Post f (aw (c.finish (.tuple #[.pointer af,.int .i64 1])) cs) a):ay aj Post O (AZ Pb po n cap c cs) w:=by
 have t:vs.length=n/\pss.length=n/\n<=16:=⟨W,by rw[r.len.2,W],by rw[<-W];exact r.len.1⟩;have y:∀b,R b b->b<w.heap.size/\¬O b:=λb j=>⟨(s.wr.lt j).1,s.apart b j⟩;refine XP (K0:=λb=>b<w.heap.size/\¬O b) t r.keys (λb j=>j) s.low (y _ r.pb) r.cell (λi ai ps v u=>(r.parts i ai ps v u).mono y) s.wr.low.1 λm L a8 a hm hL a1 N h4 h5 a7 a2 a6 hF hJ=> ?_;obtain⟨h,k⟩:=Vh t s r.parts hm (λb v u=>hL b ⟨v,u⟩) (λb j=>a1 b (y b j)) (λb j=>N b (y b j)) h4 h5 a7 hJ;refine .cL (n:=16) (ZI c cs (fk w Pb po n cap vs pss) (w.heap.size+4) a8) ?_;rw[ZH];have hO:∀b,w.heap.size<=b->b≠w.heap.size+4->¬(O b\/b=w.heap.size+4):=λb v u o=>o.elim (λo=>by have:=s.low b o;omega) u;have:=XT (Pb:=Pb) (po:=po) (n:=n) (cap:=cap) (b4:=w.heap.size+1) (b5:=w.heap.size+3) (T:=w.heap.size) (E:=w.heap.size+2) (c:=c) (cs:=cs) (S:=λb=>w.heap.size<=b) (O:=λb=>O b\/b=w.heap.size+4) (pss:=pss) (Post:=Post) (w00:=a) (R00:=h) ⟨t.2.1,t.2.2⟩ (λtp w1 B x H l=> ?_) (λw1 B j aa H l=> ?_) n 0 ag (xF (nxtN aj aq 16 (aw (((fk w Pb po n cap vs pss).tP (w.heap.size+4) c cs a8).finish (.tuple #[])) (c::cs))).frame) af a h ⟨k.known,⟨k.r4,k.r5,k.rT,k.rE⟩,λal hk=>bT (aH3 (Nat.lt_of_le_of_lt (aB4 _ 4) a7)) hk,k.c4,k.c5,k.tree,k.AO,λi ps U=>ag,⟨0,.inl ⟨rfl,rfl⟩⟩,.pnil⟩ (BR.Sub.refl h) (aO.refl a) (by simp[gI]);·exact this
 ·obtain⟨nw,hT⟩:=x.whole;rw[show pss.take n=pss by rw[<-t.2.1];exact zK]at hT;refine ac _ B w1 tp nw ⟨x.known,k.sub.trans H,λb j p=>(a1 b ⟨j,p⟩).trans (.of_eq (l.block b ag)),λb j p Z=>(l.block b ag).trans (N b ⟨j,p⟩ Z),by have:=l.size;omega,l.os.trans a2,l.output.trans a6,λb=>.inl,λb o=>o.imp id λe=>ag⟩ (λps ad=>by obtain⟨i,U⟩:=lJ ad;exact x.K4 i ps (by rw[<-t.2.1];exact(cu.1 U).1) U) hT x.vr
 ·exact ab _ B w1 ⟨aa,k.sub.trans H,λb j p=>(a1 b ⟨j,p⟩).trans (.of_eq (l.block b ag)),λb j p Z=>(l.block b ag).trans (N b ⟨j,p⟩ Z),by have:=l.size;omega,l.os.trans a2,l.output.trans a6,λb=>.inl,λb o=>o.imp id λe=>ag⟩ j
theorem Left.MK(h:Left vs O x R t w p)(a:aI Xm O R w):∀b,R b b->iA w p b:=λb c=>h.same b (a.wr.lt c).1 (a.apart b c)
end
section
variable {O f S:Nat->Prop} {R h:BR} {w a:ak} {vs:List au}
theorem af3(c:aI Xm O R w){n:Nat}(j:R b b)(h:aY S n w b s):aY (λk=>S k/\R k k) n w b s:=
 GI (Sl:=S) (Sr:=λk=>S k/\R k k) c.wr (λ_ _ _ h=>h.elim) (λa b f l=>by
  have e:=c.diag a b f;subst e;exact⟨l,f⟩) n j h
theorem ap0(b:aI Xm O R w){n:Nat}(c:VR Xm.G R (.pointer r) (.pointer r))(h:bD S n w r s):bD (λk=>S k/\R k k) n w r s:=by
 rcases h with h|⟨t,rfl,a⟩;·exact .inl h
 ·obtain⟨l,f,j⟩:=Ci c;cases j;exact .inr ⟨t,rfl,af3 b f a⟩
theorem UI(f:aI Xm O R w)(j:R b b)(h:w.heap[b]?=ae (.cells #[.pointer r] a1 a2)):VR Xm.G R (.pointer r) (.pointer r):=by
 obtain⟨k,a,c⟩:=sL f.wr j (show w.cell? ⟨b,0,af⟩=ae (.pointer r) by simp[bL,h]);rw[show w.cell? ⟨b,0,af⟩=ae (.pointer r) by simp[bL,h]]at a;cases a;exact c
theorem Ew(c:aI Xm O R w)(l:R b b)(h:bB S w b s):bB (λk=>S k/\R k k) w b s:=by
 obtain⟨n,tp,a,f⟩:=h.tree;exact⟨⟨n,tp,a,ap0 c (UI c l a) f⟩,λj=>h.out j.1,h.cI⟩
theorem Ln{Pb po:Nat}{pss:List (List PP)}(h:y5 (λb=>R b b) w Pb po vs pss){c:Array au}(t:w.heap[b]?=ae (.cells c a1 a2)){i:Nat}{a:Option aH}(u:c[i]?=ae (.pointer a)):∀v∈vs,¬j7 v b:=by
 intro v y p;obtain⟨j,r⟩:=lJ y;have x:j<pss.length:=by rw[h.len.2];exact(cu.1 r).1
 rcases h.parts j v _ r (bf x)with⟨_,f⟩|⟨k,o,W,U,f,Z,p1,B,p3,s,p5,H⟩;·obtain⟨o,l,c,q⟩:=p;rw[f]at q;cases q
 ·obtain⟨o,l,N,q⟩:=p;rw[B]at q;cases q;rw[t]at s;cases s;rcases H _ (lH u)with⟨a6,q⟩|⟨k,n,q⟩<;>cases q
theorem Kz{Pb po:Nat}{pss:List (List PP)}(s:aI Xm O R w)(x:y5 (λb=>R b b) w Pb po vs pss)(t:Left vs O f R h w a):∀{n b:Nat} {l:List KV},aY (λk=>S k/\R k k) n w b l->aY (λk=>S k/\R k k) n a b l
 |0,_,_,p=>p.elim
 |n+1,b,l,⟨pre,H,N,y,cs,xs,U,o,v,hR,hl,hC,hs⟩=>by
  have a1:a.heap[b]?=w.heap[b]?:=t.exact b (s.wr.lt o.iS.2).1 (s.apart b o.iS.2) (Ln x o.blk (i:=1) (a:=H) rfl);refine⟨pre,H,N,y,cs,xs,U,⟨o.iS,a1.trans o.blk,o.short⟩,?_,?_,hl,λi c g j r=>Kz s x t (hC i c g j r),hs⟩
  ·cases y with
   |none=>exact v
   |some a6=>
    obtain⟨B,j,r,u⟩:=v;have:=t.MK s B j.2;exact⟨B,j,r,mu this u⟩
  ·rcases hR with p|⟨k,a2,cap,j,r,u,W,Z,h6⟩;·exact .inl p
   ·exact .inr ⟨k,a2,cap,j,r,u,W,λi c p=>mu (t.MK s k j.2) (Z i c p),h6⟩
theorem Ky{Pb po:Nat}{pss:List (List PP)}(j:aI Xm O R w)(v:y5 (λo=>R o o) w Pb po vs pss)(u:Left vs O f R h w a)(l:R b b)(p:bB S w b s):bB S a b s:=by
 obtain⟨⟨n,tp,r,c⟩,B,x⟩:=Ew j l p;refine⟨⟨n,tp,(u.exact b (j.wr.lt l).1 (j.apart b l) (Ln v r (i:=0) (a:=tp) rfl)).trans r,?_⟩,p.out,x⟩;rcases c with c|⟨t,e,c⟩;·exact .inl c
 ·exact .inr ⟨t,e,(Kz j v u c).weaken λk y _=>y.1⟩
theorem aI.add(f:aI Xm O R w){o:dV}(l:∀b,b<w.heap.size->a.heap[b]?=w.heap[b]?)(k:a.heap[w.heap.size]?=ae o)(r:kl Xm.vw Xm.G (R.add w.heap.size w.heap.size) (λ_ _=>False) w.heap.size o o)(y:w.heap.size<=a.heap.size):aI Xm O (R.add w.heap.size w.heap.size) a:=by
 have j:=f.wr.low.1;refine⟨λc b h=>h.elim (f.diag c b) λh=>h.1.trans h.2.symm,⟨f.wr.dC.add (λb h=> ?_) (λc h=> ?_) j j,⟨ag,ag⟩,λc i h=>h.elim,λc b h=> ?_⟩,λc h=> ?_,λc h=>by have:=f.low c h;omega⟩;·have:=(f.wr.lt h).1;omega
 ·have:=(f.wr.lt h).2;omega
 ·rcases h with h|⟨rfl,rfl⟩
  ·obtain⟨s,t,u,v,x⟩:=f.wr.blk c b h;exact⟨s,t,(l c (f.wr.lt h).1).trans u,(l b (f.wr.lt h).2).trans v,x.mono (BR.gF _ _ _)⟩
  ·exact⟨o,o,k,k,r⟩
 ·rcases h with h|⟨h,_⟩;·exact f.apart c h
  ·exact λp=>by have:=f.low c p;omega
end
end Sim
variable {o a6:Nat} {N:Option aH} {j:List KV}
theorem TM{S:Nat->Prop}{w:ak}{u:Nat}{f:Option aH}{m:List KV}(s:Open S w)(h:bD S a6 w N j)(k:bD S u w f m)(v:w.cell? ⟨o,0,af⟩=ae (.pointer f))(t:j.length+m.length<=1000000):aE aj 74 #[.pointer N,.pointer (ae ⟨o,0,af⟩)] w λe a=>∃c b,e=.returned (.pointer b)/\bD S c a b (aW j m)/\aA w.heap.size w a:=by
 have l:aB (aE aj 72 #[.pointer N,.pointer f] w λe a=>∃c b,e=.returned (.pointer b)/\bD S c a b (aW j m)/\aA w.heap.size w a):=Gx s h k t;clear k h
 go_enter Tryz.func74,Tryz.ntmps74
 go_wp2_with (go_at_call 72;refine l.out.mono ?_;rintro e a ⟨c,b,rfl,p,r⟩)
 go_ret
 exact⟨c,b,rfl,p,r⟩
def room(l m:List KV):List KV:=if 3000<m.length then l else m
def full(m:List KV):Int:=if 3000<m.length then 2 else 0
theorem QH{S:Nat->Prop}{w:ak}{bx:Nat}{m:List KV}(hS:Open S w)(h:bB S w o j)(H:bD S a6 w N m)(R:w.cell? ⟨bx,0,af⟩=ae (.pointer N))(hf:j.length+m.length<=1000000):aE aj 70 #[.pointer (ae ⟨o,0,af⟩),.func (.func 74) #[] #[.pointer (ae ⟨bx,0,af⟩)]] w λe a=>e=.returned (.int .i64 (full (aW j m)))/\bB S a o (room j (aW j m))/\cF o w a:=by
 obtain⟨n,tp,p,r⟩:=h.tree;have B:=cJ p;have HL:aB (∀b,aA w.heap.size w b->aE aj 23 #[.pointer (ae ⟨o,0,af⟩)] b λe a=>e=.returned (.pointer tp)/\a=b):=λb c=>n9 (jc ((c.block o B).trans p)) (r.on c).ptr;have Z:aB (∀b,aA w.heap.size w b->aE aj 74 #[.pointer tp,.pointer (ae ⟨bx,0,af⟩)] b λe a=>∃k y,e=.returned (.pointer y)/\bD S k a y (aW j m)/\aA w.heap.size w a):=λb c=>(TM (hS.later c) (r.on c) (H.on c) (aS c R) hf).mono λe a he=>by
  obtain⟨k,y,h1,h2,h3⟩:=he;exact⟨k,y,h1,h2,c.trans (h3.mono c.size)⟩
 have HZ:aB (∀b k f,bD S k b f (aW j m)->aE aj 24 #[.pointer f] b λe a=>e=.returned (.int .i64 (aW j m).length)/\a=b):=λb k f v=>uK v;have U:aB (∀b k f L,aA w.heap.size w b->bD S k b f L->aE aj 49 #[.pointer (ae ⟨o,0,af⟩),.pointer tp,.pointer f] b λe a=>e=.returned (.bool aq)/\a=b.setCell ⟨o,0,af⟩ (.pointer f)):=λb k f L c v=>yh (jc ((c.block o B).trans p)) (vS ((c.block o B).trans p)) (r.on c).ptr v.ptr;have W:aB (∀b k f L,aA w.heap.size w b->bD S k b f L->L.length<=3000->bB S (b.setCell ⟨o,0,af⟩ (.pointer f)) o L/\cF o w (b.setCell ⟨o,0,af⟩ (.pointer f))):=λb k f L c v hL=>⟨bB.swap ((c.block o B).trans p) h.out v hL,(cF.jQ c).trans (cF.set o b _)⟩;have a1:aB (∀b,aA w.heap.size w b->bD S n b tp j):=λb c=>r.on c;have x:aB (aA w.heap.size w w):=cD _ _;have a7:=h.cI;by_cases s:3000<(aW j m).length
 ·have t:aB (full (aW j m)=2/\room j (aW j m)=j):=by unfold full room;rw[if_pos s,if_pos s];exact⟨rfl,rfl⟩
  have a2:(3000:Int)<((aW j m).length:Int):=ag;clear p r h H R s
  go_enter D7,Hf
  go_wp2
  refine mE 1 ?_;rw[mH]
  go_wp2_with (first
   |(go_at_call 23;refine(HL.out _ x.out).mono ?_;rintro e a ⟨rfl,rfl⟩)
   |(go_at_call 74;refine(Z.out _ x.out).mono ?_;rintro e w2 ⟨k,f,rfl,u,l⟩)
   |(go_at_call 24;refine(HZ.out _ _ _ u).mono ?_;rintro e a ⟨rfl,rfl⟩)
   |(go_at_call 49;refine(U.out _ _ _ _ l (a1.out _ l)).mono ?_;rintro e w4 ⟨rfl,rfl⟩))
  go_ret
  rw[t.out.1,t.out.2];exact⟨rfl,W.out _ _ _ _ l (a1.out _ l) a7⟩
 ·have t:aB (full (aW j m)=0/\room j (aW j m)=aW j m):=by unfold full room;rw[if_neg s,if_neg s];exact⟨rfl,rfl⟩
  have a2:¬(3000:Int)<((aW j m).length:Int):=ag;have a8:(aW j m).length<=3000:=ag;clear p r h H R s
  go_enter D7,Hf
  go_wp2
  refine mE 1 ?_;rw[mH]
  go_wp2_with (first
   |(go_at_call 23;refine(HL.out _ x.out).mono ?_;rintro e a ⟨rfl,rfl⟩)
   |(go_at_call 74;refine(Z.out _ x.out).mono ?_;rintro e w2 ⟨k,f,rfl,u,l⟩)
   |(go_at_call 24;refine(HZ.out _ _ _ u).mono ?_;rintro e a ⟨rfl,rfl⟩)
   |(go_at_call 49;refine(U.out _ _ _ _ l u).mono ?_;rintro e w4 ⟨rfl,rfl⟩))
  go_ret
  rw[t.out.1,t.out.2];exact⟨rfl,W.out _ _ _ _ l u a8⟩
namespace Sim
variable {u:Nat} {v U:ak} {W:Nat->Prop} {Z:List KV}
theorem Ub:∃fn c,aj.funcs[70]?=ae fn/\(fn.name== "runtime.NumGoroutine")=ax/\fn.body=ae c:=⟨Tryz.f70,(Tryz.f70.body).getD .skip,D7,ah,ah⟩
theorem UK:Xm.G 70:=show fj.contains 70=aq from bc
theorem UL:Xm.G 74:=show fj.contains 74=aq from bc
section
variable (k Pb po n cap:Nat) (c:aC) (cs:List aC) (tp:Option aH) (nb:Nat)
noncomputable def g21:Goroutine:=aw (bG aj 59 #[ptr k,pA Pb po n cap] .normal) (c::cs)
noncomputable def f21:Frame:=dZ (nxtN aj aq 7 (dL (nxtN aj aq 10 (g21 k Pb po n cap c cs)) 9 (.bool ax))).callers
noncomputable def gB(e:Int)(nb:Nat):Goroutine:=bz (nxtN aj aq 3 (aw ((f21 k Pb po n cap c cs).finish (.tuple #[.pointer tp,.int .i64 e])) (c::cs))) (ptr nb)
theorem Qe(e:Int)(nb:Nat):AtR (gB k Pb po n cap c cs tp e nb) 6:=bI
end
structure lN(x:Nat)(w a:ak):Prop where
 size:w.heap.size<=a.heap.size
 block:∀k,k<w.heap.size->k≠x->a.heap[k]?=w.heap[k]?
 os:a.os=w.os
 output:a.output=w.output
theorem lN.of{tp:Tape}{d:Nat}(h:cF u (re v tp d) U):lN u v U:=⟨h.size,h.block,h.os,h.output⟩
theorem lN.re{x:Nat}{w a:ak}(h:lN x w a)(tp:Tape)(d:Nat):lN x w (Sim.re a tp d):=⟨h.size,h.block,h.os,h.output⟩
theorem qj(h:bB W v u Z)(tp:Tape)(d:Nat):bB W (Sim.re v tp d) u Z:=by
 obtain⟨n,c,a,b⟩:=h.tree;exact⟨⟨n,c,a,zt b tp d⟩,h.out,h.cI⟩
theorem Ke(h:bB W v u Z)(b:aO v U):bB W U u Z:=by
 obtain⟨n,f,a,c⟩:=h.tree;exact⟨⟨n,f,(b.block u (cq.1 a).1).trans a,Ce c b⟩,h.out,h.cI⟩
section
variable {k Pb po n cap:Nat} {vs:List au} {pss:List (List PP)} {Post:au->ak->Prop} {O:Nat->Prop} {c:aC} {cs:List aC} {w:ak} {R:BR} {S:Nat->Prop} {l:List KV}
def jb(pss:List (List PP))(l:List KV):Int:=if 16<pss.length then 6 else if pss.any fI then 1 else full (aW l (gI pss))
def jw(pss:List (List PP))(l:List KV):List KV:=if 16<pss.length then l else if pss.any fI then l else room l (aW l (gI pss))
theorem VJ{vs:List au}{O:Nat->Prop}{R:BR}(a:aI Xm O R v):Left vs O O R R v v:=⟨a,BR.Sub.refl R,λb _ _=>.of_eq rfl,λb _ _ _=>rfl,aL _,rfl,rfl,λb h=>h,λb h=>.inl h⟩
theorem aq5:∀(pss:List (List PP)),(gI pss).length<=3001*pss.length:=by
 intro pss;have key:∀j,(gI (pss.take j)).length<=3001*j:=by
  intro j;induction j with
  |zero=>simp[gI]
  |succ j b=>
   cases a:pss[j]? with
   |none=>
    have e:pss.take (j+1)=pss.take j:=by rw[mC,a];simp
    rw[e];omega
   |some ps=>
    have e:gI (pss.take (j+1))=aW (gI (pss.take j)) (pl ps):=by rw[mC,a];exact Nn _ _
    rw[e];have:=EM (m:=pl ps) (MZ (pss.take j));have:=(BI ps).2;omega
 have:=key pss.length;rwa[zK]at this
theorem Xn(hn:vs.length=n)(aP:pss.length=n)(Z:aI Xm O R w)(hP:n<=16->y5 (λb=>R b b) w Pb po vs pss)(hx:R k k)(hI:bB S w k l)(hS:∀s,w.heap.size<=s->S s)(aJ:n<=9223372036854775807)(B:∀f R1 R2 j a,Left vs O f R R1 w j->aI Xm f R2 a->BR.Sub R1 R2->lN k j a->bB S a k (jw pss l)->ay aj Post f (aw (c.finish (.int .i64 (jb pss l))) cs) a):ay aj Post O (g21 k Pb po n cap c cs) w:=by
 have aa:∀w:ak,lN k w w:=λw=>⟨aL _,λ_ _ _=>rfl,rfl,rfl⟩;refine .K 10 ?_;by_cases av:16<n
 ·have H:jb pss l=6:=by unfold jb;rw[if_pos ag]
  have N:jw pss l=l:=by unfold jw;rw[if_pos ag]
  rw[H,N]at B;refine .val (i:=9) (v:=.bool (aM ((n:Int)>16))) (v':=.bool aq) ah (by rw[decide_eq_true ag]) ?_;refine .K 8 (.eqv (g':=aw (c.finish (.int .i64 6)) cs) ah (B O R R w w (VJ Z) Z (BR.Sub.refl R) (aa w) hI))
 have am:n<=16:=ag;have hP:=hP am;refine .val (i:=9) (v:=.bool (aM ((n:Int)>16))) (v':=.bool ax) ah (by rw[decide_eq_false ag]) ?_
 have a8:∀f h j tp (e:Int),Left vs O f R h w j->VR Xm.G h (.pointer tp) (.pointer tp)-> (∀p,aO j p->aI Xm f (h.add j.heap.size j.heap.size) p->p.heap[j.heap.size]?=ae (.cells #[.pointer tp] 56)->ay aj Post f (bz (gB k Pb po n cap c cs tp e j.heap.size) aN) p)->
   ay aj Post f (aw ((f21 k Pb po n cap c cs).finish (.tuple #[.pointer tp,.int .i64 e])) (c::cs)) j:=by
  intro f h j tp e t hv ao;have a7:=t.known;refine .K 3 ?_;refine .new ah (.cells #[.pointer af] 56) (λnb=>gB k Pb po n cap c cs tp e nb) (λw=>ah) ?_;have p2:(dg j (.cells #[.pointer af] 56)).heap[j.heap.size]?=ae (.cells #[.pointer af] 56):=rz j _;have o2:∀b,b<j.heap.size->(dg j (.cells #[.pointer af] 56)).heap[b]?=j.heap[b]?:=λb hb=>ky j _ hb;have s2:(dg j (.cells #[.pointer af] 56)).heap.size=j.heap.size+1:=by simp[dg]
  have u2:(dg j (.cells #[.pointer af] 56)).os=j.os/\(dg j (.cells #[.pointer af] 56)).output=j.output:=⟨rfl,rfl⟩;generalize dg j (.cells #[.pointer af] 56)=w2 at p2 o2 s2 u2;refine .st ah (Qe k Pb po n cap c cs tp e j.heap.size) (t:=56) (x:=.tmp 5) (y:=.tmp 13) (a:=⟨j.heap.size,0,af⟩) (v:=.pointer tp) (u:=.pointer af) ah ah ah rfl CS (λab=>by have:=a7.low _ ab;simp at this) (by simp[bL,p2]) (ym p2) ?_;have a3:=mG w2 ⟨j.heap.size,0,af⟩ (.pointer tp);have x:(w2.setCell ⟨j.heap.size,0,af⟩ (.pointer tp)).heap[j.heap.size]?=ae (.cells #[.pointer tp] 56):=by simp[eK,fV,p2]
  generalize w2.setCell ⟨j.heap.size,0,af⟩ (.pointer tp)=p at a3 x;have o:aO j p:=⟨by rw[a3.size,s2];omega,λb hb=>(a3.block b (by show b≠j.heap.size;omega)).trans (o2 b hb),a3.os.trans u2.1,a3.output.trans u2.2⟩;exact ao p o (a7.add o.block x (sk (DN (hv.mono (BR.gF _ _ _)))) o.size) x
 refine .K 7 (.eqv (g':=AZ Pb po n cap (f21 k Pb po n cap c cs) (c::cs)) ah (Xe hn Z hP (λf h j tp n' t al hT hv=> ?_) λf h j t hb=> ?_))
 ·have a1:pss.any fI=false:=by
   apply CH.2;intro e;obtain⟨ps,ap,hd⟩:=pG.1 e;rw[al ps ap]at hd;cases hd
  have H:jb pss l=full (aW l (gI pss)):=by unfold jb;rw[if_neg ag,a1];rfl
  have N:jw pss l=room l (aW l (gI pss)):=by unfold jw;rw[if_neg ag,a1];rfl
  rw[H,N]at B;have a2:=Ky Z hP t hx hI;refine a8 f h j tp 0 t hv λp o a6 x=> ?_;refine .K 14 ?_;obtain⟨fn,cc,f1,f2,f3⟩:=Ub;have ad:Open S p:=λs u=>hS s (by have:=t.size;have:=o.size;omega);have aF:=hI.cI;have aR:=aq5 pss
  refine .call (i:=2) bI ah (f:=70) (args:= #[.tmp 18,.tmp 19]) (ats:= #[31,111]) ah f1 f2 f3 UK (vals:= #[ptr k,.func (.func 74) #[] #[ptr j.heap.size]]) ah a6 ⟨rfl,λi v v' r b=> ?_⟩
   (Post1:=λv a=>v=.int .i64 (full (aW l (gI pss)))/\bB S a k (room l (aW l (gI pss)))/\lN k p a) (λv a tp d ⟨U,W,y⟩=>⟨U,qj W tp d,y.re tp d⟩) (λtape=> ?_) λv a R2 ⟨U,W,y⟩ ac aT ar aQ=> ?_
  ·rw[r]at b;cases b
   match i with
   |0=>simp at r;subst r;exact .ptr ⟨.inl (t.sub _ _ hx),rfl,rfl⟩
   |1=>
    simp at r;subst r;refine .func 74 UL rfl (λi v v' r=>by simp at r) rfl λi v v' r b=> ?_;rw[r]at b;cases b
    match i with
    |0=>simp at r;subst r;exact .ptr ⟨.inr ⟨rfl,rfl⟩,rfl,rfl⟩
    |i+1=>simp at r
   |i+2=>simp at r
  ·have ai:bD S n' p tp (gI pss):=Ce (hT.weaken λs u _=>hS s u) o;refine(QH (S:=S) (w:=re p tape 0) (λs u=>ad s u) (qj (Ke a2 o) tape 0) (zt ai tape 0) (bx:=j.heap.size) (show p.cell? ⟨j.heap.size,0,af⟩=ae (.pointer tp) by simp[bL,x]) ag).mono ?_;rintro e a ⟨rfl,U,W⟩;exact⟨_,rfl,rfl,U,lN.of W⟩
  ·subst U;refine .K 4 (.eqv (g':=aw (c.finish (.int .i64 (full (aW l (gI pss))))) cs) ah (B f h R2 j a t ac ((BR.gF _ _ _).trans ar) ⟨bT o.size y.size,λs u an=>(y.block s (dG u o.size) an).trans (o.block s u),y.os.trans o.os,y.output.trans o.output⟩ W))
 ·have a1:pss.any fI=true:=pG.2 hb;have H:jb pss l=1:=by unfold jb;rw[if_neg ag,a1];rfl
  have N:jw pss l=l:=by unfold jw;rw[if_neg ag,a1];rfl
  rw[H,N]at B;have a2:=Ky Z hP t hx hI;refine a8 f h j af 1 t .pnil λp o a6 x=> ?_;refine .K 16 (.eqv (g':=aw (c.finish (.int .i64 1)) cs) ah (B f h _ j p t a6 (BR.gF _ _ _) ⟨o.size,λs u _=>o.block s u,o.os,o.output⟩ (Ke a2 o)))
end
def cm(n:Nat)(l:Nat->Bool):Array Bool:=((dn n).map l).toArray
theorem na{n:Nat}(l:Nat->Bool)(d:Bool){i:Nat}(a:i<n):(cm n l).getD i d=l i:=by
 simp[cm,P9,a]
theorem vZ{n:Nat}(l:Nat->Bool){i:Nat}(a:i<n):(cm n l).setIfInBounds i aq=cm n (cz l i):=by
 apply rK;intro j;by_cases e:i=j
 ·subst e;rw[NA (by simpa[cm]using a)];simp[cm,a,cz]
 ·rw[nk e];simp only[cm,List.getElem?_toArray,iI];by_cases b:j<n;·simp[NU b,cz,jm e]
  ·simp[lI (show(dn n).length<=j by simp;omega)]
def jN(n:Nat)(l:Nat->Bool):Nat:=((dn n).filter λi=> ! l i).length
theorem yj{n:Nat}{l:Nat->Bool}{i:Nat}(a:i<n)(b:l i=ax):jN n (cz l i)<jN n l:=by
 unfold jN;have c:((dn n).filter λj=> ! cz l i j)=((dn n).filter λj=> ! l j).filter (λj=>j !=i):=by
  rw[az2];congr 1;funext j;unfold cz;by_cases e:j=i;·subst e;simp
  ·simp[e]
 rw[c];refine O7 (mB _ _) λe=> ?_;have:=NB.1 e i (by simp[a,b]);simp at this
theorem Az{n:Nat}{l:Nat->Bool}(h:jN n l=0):∀i,i<n->l i=true:=by
 intro i a;cases b:l i with
 |true=>rfl
 |false=>have:=yj a b;omega
def vG(ops:Array bR):Bool:=(dn ops.size).all λi=>match ops[i]? with
 |some o=>o.after.toList.all λe=>aM (e.on<i)
 |none=>aq
section
variable {P:aV} {Post:au->ak->Prop} {ops:Array bR} {n:Nat} {md:pH} {l:Nat->Bool}
theorem zd{i:Nat}(r:ops.size=n)(u:vG ops=aq)(h:i∈dm md ops (cm n l)):i<n/\l i=ax/\∀j,dY ops i j=aq->l j=true:=by
 unfold dm at h;rw[gK,eh,r,dj]at h;obtain⟨a,f,b⟩:=h;refine⟨a,by rw[na l _ a]at f;simpa using f,λj v=> ?_⟩;obtain⟨o,s,e,p,c,rfl⟩:=DX.1 v;rw[s]at b;simp only[hZ,lK]at b;have k:=(jh.1 b) e p;have t:nC md e=true:=by
  unfold nC at c⊢;split at c<;>first|(cases c;done)|rfl
 have w:e.on<i:=by
  have:=eJ.1 u i (eh.2 (by rw[r];exact a));rw[s]at this;have:=eJ.1 this e (by simpa using p);simpa using this
 rw[t,na l _ ag]at k;simpa using k
theorem FZ(t:ops.size=n)(k:vG ops=aq)(h:∃i,i<n/\l i=ax):∃i,i∈dm md ops (cm n l):=by
 obtain⟨i,b⟩:=h;induction i using rN with
 |_ i u=>
  by_cases a:∀j,j<i->l j=aq
  ·refine⟨i,?_⟩;unfold dm;rw[gK,eh,t,dj];refine⟨b.1,by rw[na l _ b.1,b.2];rfl,?_⟩;obtain⟨o,f⟩:∃o,ops[i]?=ae o:=⟨ops[i]'(ag),jV _⟩;rw[f];simp only[hZ,lK];refine jh.2 λe p=> ?_;have:=eJ.1 k i (eh.2 ag);rw[f]at this;have c:=eJ.1 this e (by simpa using p);simp at c;rw[na l _ ag,a _ c];simp
  ·simp only[O8]at a;obtain⟨j,r,s⟩:=a;exact u j r ⟨ag,by simpa using s⟩
variable {g:(Nat->au)->List Nat->aX} {K:(Nat->Bool)->(Nat->Prop)->(Nat->au)->ak->Prop}
theorem LO(r:ops.size=n)(o:vG ops=aq)(v:∀l O x w i rest,K l O x w->i<n->l i=ax->(∀j,dY ops i j=aq->l j=aq)->(∀f h a,K (cz l i) f h a->ay P Post f (g h rest) a)->ay P Post O (g x (i::rest)) w)(p:∀l O x w,K l O x w->(∀i,i<n->l i=aq)->ay P Post O (g x []) w):∀(fuel t:Nat)(l:Nat->Bool)(O:Nat->Prop)(x:Nat->au) (w:ak),jN n l<=fuel->K l O x w->ay P Post O (g x (gX md ops fuel t (cm n l) [])) w
 |0,t,l,O,x,w,N,c=>p l O x w c (Az ag)
 |fuel+1,t,l,O,x,w,N,c=>by
  rw[sx md ops fuel t (cm n l)];cases b:(dm md ops (cm n l))[t%(dm md ops (cm n l)).length]? with
  |none=>
   have W:dm md ops (cm n l)=[]:=by
    cases Z:dm md ops (cm n l)with
    |nil=>rfl
    |cons x y=>
     rw[Z]at b;have U:t%(x::y).length<(x::y).length:=xK _ az;rw[bf U]at b;cases b
   refine p l O x w c λi b=> ?_;cases R:l i with
   |true=>rfl
   |false=>
    obtain⟨j,u⟩:=FZ (md:=md) r o ⟨i,b,R⟩;rw[W]at u;cases u
  |some i=>
   obtain⟨k,s,B⟩:=zd r o (cG b);dsimp only;rw[xw,xh,xi,vZ l k];exact v l O x w i _ c k s B λf h a H=>LO r o v p fuel _ (cz l i) f h a (by have:=yj k s;omega) H
end
def cd:List Nat->du->du
 |[],c=>c
 |0::p,c=>cd p (nl c)
 |1::p,c=>cd p (nr c)
 |2::p,c=>cd p (nb c)
 |3::p,c=>cd p (nt c)
 |_::p,c=>cd p (ne c)
noncomputable def GF(f:Nat)(cs:List aC)(b:Array au)(a:List dP):Goroutine:=aw {fn:=f,tmps:=b,todo:=a,defers:=[],mode:=.run,kind:=.normal} cs
section
variable {Post:au->ak->Prop} {O:Nat->Prop} {g:aX} {w:ak}
theorem ay.lit{cs:List aC}{tm:(Nat->au)->Array au}{a:List dP}(h:g=GF u cs (tm (xF g.frame)) a)(b:∀x,ay aj Post O (GF u cs (tm x) a) w):ay aj Post O g w:=by rw[h];exact b _
end
theorem add1(b o k:Nat):(⟨b,o,af⟩:aH).add ((k:Int).toNat*1)=⟨b,o+k,af⟩:=by simp[vf]
theorem DK(b o k:Nat):(⟨b,o,af⟩:aH).add ((k:Int).toNat*2)=⟨b,o+k*2,af⟩:=by
 rw[jF];simp
def xZ(w:ak)(pa:Option aH)(pss:List (List PP)):Prop:=∀(i:Nat) ps,pss[i]?=ae ps->∃f po c h,pa=ae ⟨f,po,af⟩/\w.cell? ⟨f,po+i,af⟩=ae (.slice c ps.length h)/\∀(k:Nat) q,ps[k]?=ae q->∃a b,c=ae ⟨a,b,af⟩/\w.cell? ⟨a,b+k*2,af⟩=ae (.string q.1)/\w.cell? ⟨a,b+k*2+1,af⟩=ae (.int .i64 q.2)
noncomputable def dX:Code:=(Tryz.f60.body).getD .skip
section
variable {Post:au->ak->Prop} {O:Nat->Prop} {w:ak} {pa:Option aH} {pc:Nat} {pss:List (List PP)} {c:aC} {cs:List aC} {v0 v5 v6 v7 v8 v9:au}
end
