/- Own texts: FwJ, LeafA, LeafB, Pure. -/
import Derived.Test.YtcgjppacnhmjlaaGreatMK
import Derived.Orders
import Derived.Conc.CompanyDraw
import Derived.Test.YtcgjppacnhmjlaaGreatMA
import Derived.Test.YtcgjppacnhmjlaaGreatRows
import Derived.WalkKit
import Derived.WalkSpells
import Derived.WalkLawsBesides
import Derived.Deep.QuietTactic
import Derived.BigQuiet
import Derived.Lib.Strings
import Derived.Deep.LoopGhost
import GoSem.Op.String
set_option linter.all false
set_option maxRecDepth 100000
set_option maxHeartbeats 400000
open Array renaming all_eq_true_iff_forall_mem->jh,mem_of_getElem?->lH
open Bool renaming true->aq,false->ax,and_eq_true->dj
open Decidable renaming decide->aM
open Go renaming World->ak,Value->au,Goroutine->aX,Calls->aE,Addr->aH,undef->aN,maxLen->cE,wp_loop_rounds->mE,Oper->bR,rounds_succ->mH,Code->du,linearise_go_acc->xw,IntKind->mK
open Go.Conc renaming stepG_region_draw->aH0
open Go.Ending renaming returned->sX
open Go.Lib renaming size_eq->fY,hasPrefix->iK,toList_data->Ot,hasPrefix_of_take->ax4
open Go.Op renaming bytesLess->dt
open Go.Proofs.Tryz renaming prog->aj,ntmps75->He,func75->Hr,ntmps82->OP,func82->OW,ntmps63->aF0,ntmps51->aF5,ntmps24->aG1,func63->aI3,func51->aI7,func45->aI9,func24->aJ5
open Go.Region renaming ready->dm,linearise->jY,binds->nC,Mode->pH,schedule->zO
open Go.Region.linearise renaming go->gX
open Go.RowKit renaming Hid->aB
open Go.World renaming drewN_drewN->sT
open Iff renaming rfl->xR
open List renaming getElem?_eq_getElem->bf,getElem?_eq_some_iff->cu,mem_of_getElem?->cG,mem_cons->dk,mem_append->dU,mem_range->eh,mem_cons_self->gq,length_append->gJ,take_append_drop->jW,mem_cons_of_mem->jD,mem_filter->gK,getElem?_append_right->np,getElem?_append_left->nu,pairwise_cons->kZ,take_add_one->mC,getElem?_take->nv,getElem?_drop->ny,length->jk,append_nil->og,cons_append->pF,prefix_append->sS,pairwise_append->uU,reverse_singleton->xh,singleton_append->xi,filter_eq_self->xl,pairwise_iff_getElem->Cu,getElem?_set->xr,take_length->zK,getElem_of_mem->GV,find?_eq_none->GW,countP_cons_of_pos->ND,countP_eq_zero->NW,set_eq_take_append_cons_drop->au9,mem_flatten->Og,sum_append->On,mem_of_find?_eq_some->av6,countP_cons_of_neg->aw3,length_flatten->ay3,prefix_refl->aA2,find?_some->aB7
open List.Pairwise renaming filter->sQ
open Nat renaming le_refl->aL,zero_le->fL,lt_trichotomy->sV,not_lt_zero->xy,mod_lt->xK
open Option renaming some->ae,none->af,map_eq_some_iff->ji,map_some->hZ,getD_some->lK,bind_some->qD,map_eq_none_iff->aw0
open UInt8 renaming lt_irrefl->jE,lt_trans->rQ,toNat_inj->xv
namespace Go.Proofs.YtcgjppacnhmjlaaGreat
open Go Go.Conc Go.ConcN Go.Conc.Lib Go.ConcR.Gen Go.RowKit
open Go.ConcR (KK wgBlock WgAt stA smA rd wr mk Payload DC0)
namespace Sim
variable {h:Nat->Bool}
def Z1:Option du->Array bR
 |some (.region _ a _)=>a
 |_=> #[]
noncomputable def eX:Array Oper:=Z1 ((aj.funcs[89]?).bind (·.body))
def fT(l:Nat->Bool):Array Bool:= #[l 0,l 1,l 2,l 3,l 4,l 5,l 6,l 7,l 8,l 9,l 10,l 11,l 12]
def cz(l:Nat->Bool)(i:Nat):Nat->Bool:=λj=>if j=i then aq else l j
theorem zj(l:Nat->Bool)(i:Nat):cz l i i=true:=if_pos rfl
theorem iV(l:Nat->Bool){i j:Nat}(h:j≠i):cz l i j=l j:=if_neg h
theorem G4{l:Nat->Bool}{i:Nat}(h:l i=aq):cz l i=l:=by
 funext j;by_cases e:j=i;·subst e;rw[zj,h]
 ·rw[iV l e]
theorem VS(l:Nat->Bool):∀(i:Nat),i<13->(fT l).setIfInBounds i aq=fT (cz l i)
 |0,_=>ah
 |1,_=>ah
 |2,_=>ah
 |3,_=>ah
 |4,_=>ah
 |5,_=>ah
 |6,_=>ah
 |7,_=>ah
 |8,_=>ah
 |9,_=>ah
 |10,_=>ah
 |11,_=>ah
 |12,_=>ah
 |n+13,h=>ag
theorem ET(l:Nat->Bool)(d:Bool):∀(i:Nat),i<13->(fT l).getD i d=l i
 |0,_=>ah
 |1,_=>ah
 |2,_=>ah
 |3,_=>ah
 |4,_=>ah
 |5,_=>ah
 |6,_=>ah
 |7,_=>ah
 |8,_=>ah
 |9,_=>ah
 |10,_=>ah
 |11,_=>ah
 |12,_=>ah
 |n+13,h=>ag
def fR(b:Bool):Nat:=if b then 0 else 1
def cnt(l:Nat->Bool):Nat:=fR (l 0)+fR (l 1)+fR (l 2)+fR (l 3)+fR (l 4)+fR (l 5)+fR (l 6)+fR (l 7)+fR (l 8)+fR (l 9)+fR (l 10)+fR (l 11)+fR (l 12)
theorem mW{b:Bool}(h:b=ax):fR b=1:=by rw[h];rfl
theorem J2(l:Nat->Bool):∀(i:Nat),i<13->l i=ax->cnt (cz l i)+1=cnt l
 |0,_,h=>by simp only[cnt,zj,iV l (show 1≠0 by omega),cz,mW h];simp[fR];omega
 |1,_,h=>by simp only[cnt,cz,mW h];simp[fR];omega
 |2,_,h=>by simp only[cnt,cz,mW h];simp[fR];omega
 |3,_,h=>by simp only[cnt,cz,mW h];simp[fR];omega
 |4,_,h=>by simp only[cnt,cz,mW h];simp[fR];omega
 |5,_,h=>by simp only[cnt,cz,mW h];simp[fR];omega
 |6,_,h=>by simp only[cnt,cz,mW h];simp[fR];omega
 |7,_,h=>by simp only[cnt,cz,mW h];simp[fR];omega
 |8,_,h=>by simp only[cnt,cz,mW h];simp[fR];omega
 |9,_,h=>by simp only[cnt,cz,mW h];simp[fR];omega
 |10,_,h=>by simp only[cnt,cz,mW h];simp[fR];omega
 |11,_,h=>by simp only[cnt,cz,mW h];simp[fR];omega
 |12,_,h=>by simp only[cnt,cz,mW h];simp[fR]
 |n+13,h,_=>ag
theorem Q3(c:cnt h=0):∀i,i<13->h i=true:=by
 intro i a;cases b:h i with
 |true=>rfl
 |false=>have:=J2 h i a b;omega
def Nd:Nat->(Nat->Bool)->Prop
 |5,l=>l 4=aq
 |6,l=>l 5=aq
 |7,l=>l 6=aq
 |8,l=>l 6=aq
 |9,l=>l 0=aq/\l 1=aq/\l 2=aq/\l 3=aq/\l 4=aq/\l 5=aq/\l 6=aq/\l 7=aq
 |10,l=>l 9=aq
 |11,l=>l 8=aq/\l 10=aq
 |12,l=>l 11=aq
 |_,_=>True
def Cl(l:Nat->Bool):Prop:=∀i,i<13->l i=aq->Nd i l
theorem Nd.mono{f:Nat->Bool}(c:∀j,h j=aq->f j=aq):∀{i:Nat},Nd i h->Nd i f
 |0,_=>trivial
 |1,_=>trivial
 |2,_=>trivial
 |3,_=>trivial
 |4,_=>trivial
 |5,x=>c _ x
 |6,x=>c _ x
 |7,x=>c _ x
 |8,x=>c _ x
 |9,⟨a0,k,l,a3,a4,a5,o,p⟩=>⟨c _ a0,c _ k,c _ l,c _ a3,c _ a4,c _ a5,c _ o,c _ p⟩
 |10,x=>c _ x
 |11,⟨a,b⟩=>⟨c _ a,c _ b⟩
 |12,x=>c _ x
 |n+13,_=>trivial
theorem Cl.set{i:Nat}(f:Cl h)(k:Nd i h):Cl (cz h i):=by
 have c:∀j,h j=aq->cz h i j=true:=λj a=>by(unfold cz;split;exact rfl;exact a)
 intro j a b;by_cases e:j=i;·subst e;exact k.mono c
 ·rw[iV h e]at b;exact(f j a b).mono c
section
variable {md:pH} {l:Nat->Bool} {i:Nat}
theorem Ga:eX.size=13:=ah
theorem Mr(h:i∈dm md eX (fT l)):i<13/\l i=ax/\∀(j:Nat) (e:Edge),(eX[i]?).bind (λo=>o.after[j]?)=ae e->nC md e=aq->e.on<13->l e.on=true:=by
 unfold dm at h;rw[gK,eh,Ga,dj]at h;obtain⟨c,f,b⟩:=h;refine⟨c,by rw[ET l _ i c]at f;simpa using f,λj e a p r=> ?_⟩;cases k:eX[i]? with
 |none=>rw[k]at a;cases a
 |some o=>
  rw[k]at b a;simp only[hZ,lK,qD]at b a;have:=(jh.1 b) e (lH a);rw[p,ET l _ _ r]at this;simpa using this
theorem ae4(h:i∈dm md eX (fT l)):Nd i l:=by
 obtain⟨f,j,a⟩:=Mr h;have b:∀n,nC md ⟨n,.phase⟩=true:=λn=>rfl;have c:∀n,nC md ⟨n,.data⟩=true:=λn=>rfl
 match i,f,a with
 |0,_,_=>trivial
 |1,_,_=>trivial
 |2,_,_=>trivial
 |3,_,_=>trivial
 |4,_,_=>trivial
 |5,_,a=>exact a 0 ⟨4,.data⟩ ah (c _) bc
 |6,_,a=>exact a 0 ⟨5,.data⟩ ah (c _) bc
 |7,_,a=>exact a 0 ⟨6,.data⟩ ah (c _) bc
 |8,_,a=>exact a 0 ⟨6,.data⟩ ah (c _) bc
 |9,_,a=>exact⟨a 2 ⟨0,.phase⟩ ah (b _) bc,a 3 ⟨1,.phase⟩ ah (b _) bc,a 4 ⟨2,.phase⟩ ah (b _) bc,a 5 ⟨3,.phase⟩ ah (b _) bc,a 6 ⟨4,.phase⟩ ah (b _) bc,a 7 ⟨5,.phase⟩ ah (b _) bc,a 8 ⟨6,.phase⟩ ah (b _) bc,a 9 ⟨7,.phase⟩ ah (b _) bc⟩
 |10,_,a=>exact a 0 ⟨9,.data⟩ ah (c _) bc
 |11,_,a=>exact⟨a 10 ⟨8,.phase⟩ ah (b _) bc,a 12 ⟨10,.phase⟩ ah (b _) bc⟩
 |12,_,a=>exact a 0 ⟨11,.data⟩ ah (c _) bc
 |n+13,f,_=>omega
theorem kU(a:i<13)(b:l i=ax)(c:((eX[i]?).map (·.after.all λe=> ! nC md e||(fT l).getD e.on ax)).getD ax=aq):i∈dm md eX (fT l):=by
 unfold dm;rw[gK,eh,Ga,dj];exact⟨a,by rw[ET l _ i a,b];rfl,c⟩
def lt(n:Nat)(l:Nat->Bool):Nat->Bool:=λj=>if j<=n then aq else l j
theorem p9{n:Nat}(h:∀j,j<=n->l j=aq):fT l=fT (lt n l):=congrArg fT (funext λj=>by
 unfold lt;split;·exact h j ‹_›
 ·rfl)
theorem ae5(h:∃i,i<13/\l i=ax):∃i,i∈dm md eX (fT l):=by
 have o:∀{b:Bool},¬b=ax->b=true:=λ{b} h=>by cases b<;>simp at h⊢
 have nx:∀{n:Nat},(∀j,j<=n->l j=aq)->¬l (n+1)=ax->∀j,j<=n+1->l j=true:=λ{n} ha hb j k=>by
  by_cases e:j=n+1;·subst e;exact o hb
  ·exact ha j ag
 by_cases x:l 0=ax;·exact⟨0,kU ag x (by cases md<;>kernel_rfl)⟩
 have a0:∀j,j<=0->l j=true:=λj k=>by
                           obtain rfl:j=0:=ag;exact o x
 by_cases y:l 1=ax;·exact⟨1,kU ag y (by cases md<;>kernel_rfl)⟩
 have a1:=nx a0 y;by_cases B:l 2=ax;·exact⟨2,kU ag B (by cases md<;>kernel_rfl)⟩
 have a2:=nx a1 B;by_cases H:l 3=ax;·exact⟨3,kU ag H (by cases md<;>kernel_rfl)⟩
 have a3:=nx a2 H;by_cases N:l 4=ax;·exact⟨4,kU ag N (by cases md<;>kernel_rfl)⟩
 have a4:=nx a3 N;by_cases R:l 5=ax;·exact⟨5,kU ag R (by rw[p9 a4];cases md<;>kernel_rfl)⟩
 have a5:=nx a4 R;by_cases U:l 6=ax;·exact⟨6,kU ag U (by rw[p9 a5];cases md<;>kernel_rfl)⟩
 have t:=nx a5 U;by_cases W:l 7=ax;·exact⟨7,kU ag W (by rw[p9 t];cases md<;>kernel_rfl)⟩
 have a:=nx t W;by_cases p:l 8=ax
 ·by_cases hg:md=.gc
  ·subst hg;by_cases f:l 9=ax;·exact⟨9,kU ag f (by rw[p9 a];kernel_rfl)⟩
   ·by_cases c:l 10=ax
    ·refine⟨10,kU ag c ?_⟩;rw[<-G4 (o f),<-G4 (l:=cz l 9) (i:=9) (zj _ _)];rw[p9 (l:=cz (cz l 9) 9) (n:=7) λj k=>by rw[iV _ ag,iV _ ag];exact a j k];kernel_rfl
    ·refine⟨8,kU ag p ?_⟩;rw[<-G4 (o c)];rw[p9 (l:=cz l 10) (n:=7) λj k=>by rw[iV _ ag];exact a j k];kernel_rfl
  ·refine⟨8,kU ag p ?_⟩;rw[p9 a];cases md with
   |gc=>exact absurd rfl hg
   |text=>kernel_rfl
   |any=>kernel_rfl
 have u:=nx a p;by_cases f:l 9=ax;·exact⟨9,kU ag f (by rw[p9 u];cases md<;>kernel_rfl)⟩
 have a9:=nx u f;by_cases c:l 10=ax;·exact⟨10,kU ag c (by rw[p9 a9];cases md<;>kernel_rfl)⟩
 have r:=nx a9 c;by_cases v:l 11=ax;·exact⟨11,kU ag v (by rw[p9 r];cases md<;>kernel_rfl)⟩
 have s:=nx r v;by_cases w:l 12=ax;·exact⟨12,kU ag w (by rw[p9 s];cases md<;>kernel_rfl)⟩
 have aa:=nx s w;obtain⟨i,hi,Z⟩:=h;rw[aa i ag]at Z;cases Z
end
section
variable (B1 B2 b8 b4 b7 b5:Nat)
noncomputable def gR(x:Nat->au)(rest:List Nat):Goroutine:=
 aw {(oR B1 B2 b8 b4 b7 b5).frame with tmps:= #[ptr b8,ptr b4,ptr b7,ptr b5,x 4,x 5,x 6,x 7,x 8,x 9,x 10,x 11,x 12,x 13,x 14],todo:=[.inRegion eX rest]} (cK B1 B2 b8 b4 b7 b5::vF B1 B2 b8 b4 b7 b5)
def x0:Nat->Value:=λ_=>aN
variable {z:WZ} {Q:(Nat->Prop)->aX->ak->Prop} {K:(Nat->Bool)->(Nat->Prop)->(Nat->au)->ak->Prop}
theorem sx(md:pH)(a:Array bR)(fuel t:Nat)(l:Array Bool):gX md a (fuel+1) t l []=(match (dm md a l)[t%(dm md a l).length]? with
   |some i=>gX md a fuel (t/(dm md a l).length) (l.setIfInBounds i aq) [i]
   |none=>[].reverse):=by
 simp only[gX];rfl
theorem J3{md:pH}(y:∀l M x w i rest,K l M x w->i<13->l i=ax->Nd i l->Cl l->(∀b h f,K (cz l i) b h f->cW aj z Q b (gR B1 B2 b8 b4 b7 b5 h rest) f)->cW aj z Q M (gR B1 B2 b8 b4 b7 b5 x (i::rest)) w)(o:∀l M x w,K l M x w->(∀i,i<13->l i=aq)->cW aj z Q M (gR B1 B2 b8 b4 b7 b5 x []) w):∀(fuel t:Nat)(l:Nat->Bool)(M:Nat->Prop)(x:Nat->au) (w:ak),cnt l<=fuel->Cl l->K l M x w->cW aj z Q M (gR B1 B2 b8 b4 b7 b5 x (gX md eX fuel t (fT l) [])) w
 |0,t,l,M,x,w,N,k,c=>o l M x w c (Q3 ag)
 |fuel+1,t,l,M,x,w,N,k,c=>by
  have p:gX md eX (fuel+1) t (fT l) []=(match (dm md eX (fT l))[t%(dm md eX (fT l)).length]? with
   |some i=>gX md eX fuel (t/(dm md eX (fT l)).length) ((fT l).setIfInBounds i aq) [i]
   |none=>[].reverse):=sx md eX fuel t (fT l)
  rw[p];clear p
  show cW aj z Q M (gR B1 B2 b8 b4 b7 b5 x (match (dm md eX (fT l))[t%(dm md eX (fT l)).length]? with
   |some i=>gX md eX fuel (t/(dm md eX (fT l)).length) ((fT l).setIfInBounds i aq) [i]
   |none=>[].reverse)) w
  cases a:(dm md eX (fT l))[t%(dm md eX (fT l)).length]? with
  |none=>
   have W:dm md eX (fT l)=[]:=by
    cases Z:dm md eX (fT l)with
    |nil=>rfl
    |cons x B=>
     rw[Z]at a;have U:t%(x::B).length<(x::B).length:=xK _ az;rw[bf U]at a;cases a
   refine o l M x w c λi a=> ?_;cases R:l i with
   |true=>rfl
   |false=>
    obtain⟨a1,s⟩:=ae5 (md:=md) ⟨i,a,R⟩;rw[W]at s;cases s
  |some i=>
   have u:=cG a;obtain⟨j,r,_⟩:=Mr u;have v:=ae4 u;dsimp only;rw[xw,xh,xi,VS l i j];exact y l M x w i _ c j r v k λb h f H=>J3 y o fuel _ (cz l i) b h f (by have:=J2 l i j r;omega) (k.set v) H
theorem zi(mixed:Bool)(a:Array bR)(t:Nat):∃md b,zO mixed a t=jY md a b:=by
 unfold zO;split;·exact⟨_,_,rfl⟩
 ·exact⟨_,_,rfl⟩
theorem QP{M:Nat->Prop}{w:ak}(t:∀a,Ry z M w a->K (λ_=>ax) M x0 {a with drawn:=a.drawn+1})(H:∀l M x w i rest,K l M x w->i<13->l i=ax->Nd i l->Cl l->(∀f k j,K (cz l i) f k j->cW aj z Q f (gR B1 B2 b8 b4 b7 b5 k rest) j)->cW aj z Q M (gR B1 B2 b8 b4 b7 b5 x (i::rest)) w)(v:∀l M x w,K l M x w->(∀i,i<13->l i=aq)->cW aj z Q M (gR B1 B2 b8 b4 b7 b5 x []) w):cW aj z Q M (oR B1 B2 b8 b4 b7 b5) w:=by
 refine .step ah λa B=> ?_;have e:oR B1 B2 b8 b4 b7 b5=G ((oR B1 B2 b8 b4 b7 b5).frame.at ⟨(oR B1 B2 b8 b4 b7 b5).frame.tmps,[]⟩ [.code (.region 0 eX aq)]) (cK B1 B2 b8 b4 b7 b5::vF B1 B2 b8 b4 b7 b5):=ah;obtain⟨md,c,y⟩:=zi (aj.follows .mixedOrders) eX (a.tape a.drawn (.order (oR B1 B2 b8 b4 b7 b5).frame.fn 0));refine⟨gR B1 B2 b8 b4 b7 b5 x0 (jY md eX c),{a with drawn:=a.drawn+1}, #[],?_,⟨aL _,λ_ _ _ _ _ _=>rfl,λ_ _=>.of_eq rfl,.of_eq rfl,.of_eq rfl,rfl,rfl,rfl,λe u=>by simp at u⟩,?_⟩
 ·have:=aH0 (P:=aj) (main:=ax) (ops:=eX) (b:=(oR B1 B2 b8 b4 b7 b5).frame) (a:=⟨(oR B1 B2 b8 b4 b7 b5).frame.tmps,[]⟩) (k:=[]) (cs:=cK B1 B2 b8 b4 b7 b5::vF B1 B2 b8 b4 b7 b5) (w:=a) (id:=0);rw[<-e,y]at this;rw[this];congr 1;generalize jY md eX c=r;kernel_rfl
 ·have s:=t a B;have o:grow M a {a with drawn:=a.drawn+1}=M:=funext λb=>propext (yr M a b);rw[o];have p:jY md eX c=gX md eX 13 c (fT λ_=>ax) []:=by
   unfold jY;rw[Ga];congr 1
  rw[p];exact J3 B1 B2 b8 b4 b7 b5 H v 13 c (λ_=>ax) M x0 _ bc (λi _ h=>by cases h) s
end
end Sim
variable {b c:UInt8} {a f:List UInt8} {j:Type}
def cX:List UInt8->List UInt8->Nat
 |[],_=>0
 |_,[]=>0
 |a::r,b::q=>if a=b then cX r q+1 else 0
theorem Ku(a b:List UInt8):cX a b<=a.length:=by
 induction a generalizing b with
 |nil=>simp[cX]
 |cons x h c=>cases b with
  |nil=>simp[cX]
  |cons y f=>simp only[cX];split<;>simp;exact c f
theorem Kv(a b:List UInt8):cX a b<=b.length:=by
 induction a generalizing b with
 |nil=>simp[cX]
 |cons x h c=>cases b with
  |nil=>simp[cX]
  |cons y f=>simp only[cX];split<;>simp;exact c f
theorem VH(a b:List UInt8)(k:Nat)(c:k<=a.length)(f:k<=b.length)(j:a.take k=b.take k)(p:k=a.length\/k=b.length\/∃(l:k<a.length) (o:k<b.length),a[k]≠b[k]):cX a b=k:=by
 induction a generalizing b k with
 |nil=>simp at c;simp[cX,c]
 |cons x t r=>cases b with
  |nil=>simp at f;simp[cX,f]
  |cons y s=>
   cases k with
   |zero=>
    rcases p with h|h|⟨_,_,h⟩;·simp at h
    ·simp at h
    ·simp at h;simp[cX,h]
   |succ k=>
    simp at c f j;obtain⟨rfl,j⟩:=j;simp only[cX,if_true];have:=r s k c f j (by
     rcases p with h|h|⟨l,o,h⟩;·left;simpa using h
     ·right;left;simpa using h
     ·right;right;simp at l o h;exact⟨l,o,h⟩)
    omega
theorem N6(s:ByteArray)(k:Nat)(h:k<s.size):s.data.toList.take (k+1)=s.data.toList.take k++[s[k]]:=by
 rw[List.take_succ_eq_append_getElem (by simpa using h)];rfl
theorem VG(a b:ByteArray)(k:Nat)(j:k<=a.size)(l:k<=b.size)(p:a.data.toList.take k=b.data.toList.take k)(o:k=a.size\/k=b.size\/∃(c:k<a.size) (f:k<b.size),a[k]≠b[k]):cX a.data.toList b.data.toList=k:=
 VH _ _ k (by simpa using j) (by simpa using l) p (by
  rcases o with h|h|⟨c,f,h⟩;·exact .inl (by simpa using h)
  ·exact .inr (.inl (by simpa using h))
  ·exact .inr (.inr ⟨by simpa using c,by simpa using f,h⟩))
theorem Qt(h:(b.toNat:Int)=(c.toNat:Int)):b=c:=xv.mp ag
theorem BY{k:mK}{a b:Int}(h:a=b):sX (.int k a)=.returned (.int k b):=by rw[h]
theorem zk(a b:ByteArray)(w:ak)(u:a.size<=cE)(v:b.size<=cE):aE aj 76 #[.string a,.string b] w λe B=>e=.returned (.int .i64 (cX a.data.toList b.data.toList))/\∃n,B=w.drewN n:=by
 unfold cE at u v
 go_enter Tryz.func76,Tryz.ntmps76
 go_wp2
 go_loopw [5] (λn wr=>∃k:Nat,k<=a.size/\k<=b.size/\a.data.toList.take k=b.data.toList.take k/\n=.int .i64 k/\∃n,wr=w.drewN n) (λn _=>a.size-(intOf n).toNat)
 case atStart=>exact⟨0,fL _,fL _,rfl,rfl,0,rfl⟩
 case round=>
  obtain⟨k,x,y,r,rfl,H,rfl⟩:=hrel;have p:aB (a.data.toList.take k=b.data.toList.take k):=r;clear r;have s:∀(c:k<a.size) (f:k<b.size),a[k]=b[k]->a.data.toList.take (k+1)=b.data.toList.take (k+1):=by
   intro c f j;rw[N6 a k c,N6 b k f,p.out,j]
  have t:aB (∀(c:k<a.size) (f:k<b.size),a[k]=b[k]->a.data.toList.take (k+1)=b.data.toList.take (k+1)):=s;clear s;have fin:∀(o:k=a.size\/k=b.size\/∃(c:k<a.size) (f:k<b.size),a[k]≠b[k]),(k:Int)=(cX a.data.toList b.data.toList:Nat):=by
   intro o;rw[VG a b k x y p.out o]
  have l:aB (∀(o:k=a.size\/k=b.size\/∃(c:k<a.size) (f:k<b.size),a[k]≠b[k]),(k:Int)=(cX a.data.toList b.data.toList:Nat)):=fin;clear fin;by_cases c:k<a.size
  ·by_cases f:k<b.size
   ·by_cases j:(a[k].toNat:Int)=(b[k].toNat:Int)
    ·go_wp2
     go_quiet (fail)
     go_wp2
     exact⟨⟨k+1,ag,ag,t.out c f (Qt j),by go_num,_,rfl⟩,by simp[intOf];omega⟩
    ·go_wp2
     go_quiet (fail)
     go_wp2
     go_ret
     exact⟨BY (l.out (.inr (.inr ⟨c,f,λh=>j (by rw[h])⟩))),_,sT _ _ _⟩
   ·go_wp2
    go_quiet (fail)
    go_wp2
    go_ret
    exact⟨BY (l.out (.inr (.inl ag))),_,sT _ _ _⟩
  ·go_wp2
   go_quiet (fail)
   go_wp2
   go_ret
   exact⟨BY (l.out (.inl ag)),_,sT _ _ _⟩
theorem uF{a b:Bool}(h:a=b):sX (.bool a)=.returned (.bool b):=by rw[h]
theorem K9(s p:ByteArray)(h:¬p.size<=s.size):ax=iK s.data.toList p.data.toList:=by
 rw[<-ax4,<-fY,<-fY];simp[h]
theorem K8(s p:ByteArray)(h:p.size<=s.size):((s.extract 0 p.size).toList==p.toList)=iK s.data.toList p.data.toList:=by
 rw[<-ax4,<-fY,<-fY,Lib.extract_toList,Ot];simp[h]
theorem VM(s p:ByteArray)(w:ak)(b:s.size<=cE)(a:p.size<=cE):aE aj 63 #[.string s,.string p] w λe c=>e=.returned (.bool (iK s.data.toList p.data.toList))/\c=w:=by
 unfold cE at b a;by_cases h:p.size<=s.size
 ·go_enter aI3,aF0
  go_wp2
  go_ret
  exact⟨uF (K8 s p h),rfl⟩
 ·go_enter aI3,aF0
  go_wp2
  go_ret
  exact⟨uF (K9 s p h),rfl⟩
theorem qf(s p:ByteArray)(w:ak)(c:s.size<=cE)(b:p.size<=cE):aE aj 45 #[.string s,.string p] w λe a=>e=.returned (.bool (iK s.data.toList p.data.toList))/\a=w:=by
 go_enter aI9,Tryz.ntmps45
 go_wp2_with (go_at_call 63;refine(VM _ _ _ c b).mono ?_;rintro e a ⟨rfl,rfl⟩)
 go_ret
 exact⟨rfl,rfl⟩
def lX(a b:UInt8):Int:=if a<b then -1 else if b<a then 1 else 0
theorem J0(h:b.toNat<c.toNat):lX b c= -1:=if_pos h
theorem IZ(h:c.toNat<b.toNat):lX b c=1:=by
 have a:c<b:=h;have f:¬b<c:=λj=>by have:b.toNat<c.toNat:=j;omega
 rw[lX,if_neg f,if_pos a]
theorem IY(h:b.toNat=c.toNat):lX b c=0:=by
 have f:¬c<b:=λa=>by have:c.toNat<b.toNat:=a;omega
 have j:¬b<c:=λa=>by have:b.toNat<c.toNat:=a;omega
 rw[lX,if_neg j,if_neg f]
theorem AL(a b:UInt8)(w:ak):aE aj 82 #[.int .u8 a.toNat,.int .u8 b.toNat] w λe c=>e=.returned (.int .i64 (lX a b))/\c=w:=by
 rcases sV a.toNat b.toNat with h|h|h
 ·rw[J0 h]
  go_enter OW,OP
  go_wp2
  go_ret
  exact⟨rfl,rfl⟩
 ·rw[IY h,<-h]
  go_enter OW,OP
  go_wp2
  go_ret
  exact⟨rfl,rfl⟩
 ·rw[IZ h];have f:¬a.toNat<b.toNat:=ag
  go_enter OW,OP
  go_wp2
  go_ret
  exact⟨rfl,rfl⟩
theorem am1(w:ak):aE aj 24 #[.pointer af] w λe a=>e=.returned (.int .i64 0)/\a=w:=by
 go_enter aJ5,aG1
 go_wp2
 go_ret
 exact⟨rfl,rfl⟩
theorem am2(b:Nat)(n:Int)(w:ak)(h:w.cell? ⟨b,3,af⟩=ae (.int .i64 n)):aE aj 24 #[.pointer (ae ⟨b,0,af⟩)] w λe a=>e=.returned (.int .i64 n)/\a=w:=by
 go_enter aJ5,aG1
 go_wp2
 go_ret
 exact⟨rfl,rfl⟩
theorem Z8(b:Nat)(w:ak)(h:w.cell? ⟨b,1,af⟩=ae (.pointer af)):aE aj 51 #[.pointer (ae ⟨b,0,af⟩)] w λe a=>e=.returned (.tuple #[.int .i64 0,.bool ax])/\a=w:=by
 go_enter aI7,aF5
 go_wp2
 go_ret2
 exact⟨rfl,rfl⟩
theorem Z9(b a:Nat)(v:Int)(w:ak)(h:w.cell? ⟨b,1,af⟩=ae (.pointer (ae ⟨a,0,af⟩)))(f:w.cell? ⟨a,0,af⟩=ae (.int .i64 v)):aE aj 51 #[.pointer (ae ⟨b,0,af⟩)] w λe c=>e=.returned (.tuple #[.int .i64 v,.bool aq])/\c=w:=by
 go_enter aI7,aF5
 go_wp2
 go_ret2
 exact⟨rfl,rfl⟩
def eH(w:ak)(k o:Nat)(a:List Nat):Prop:=∀(i c:Nat),a[i]?=ae c->w.cell? ⟨k,o+i,af⟩=ae (.pointer (ae ⟨c,0,af⟩))
def DH(w:ak)(a:List Nat)(b:List Nat):Prop:=a.length=b.length/\∀(i c n:Nat),a[i]?=ae c->b[i]?=ae n->w.cell? ⟨c,3,af⟩=ae (.int .i64 n)
theorem N5(a:List Nat)(k n:Nat)(h:a[k]?=ae n):(a.take (k+1)).sum=(a.take k).sum+n:=by
 rw[mC,h];simp
theorem wY(a:List Nat)(k:Nat):(a.take k).sum<=a.sum:=by
 conv=>rhs;rw[<-jW k a]
 rw[On];omega
def node(p:ByteArray)(b a:au)(n:Nat):Obj:=.cells #[.string p,b,a,.int .i64 n] 71
theorem Lm{p:ByteArray}{b a:au}{n:Int}{m:Nat}(h:n=(m:Int)):Obj.cells #[.string p,b,a,.int .i64 n] 71=node p b a m:=by rw[h];rfl
def uu(a:Option aH):Nat:=if a.isSome then 1 else 0
theorem Vj(p:ByteArray)(v:Option aH)(k o cap:Nat)(b a:List Nat)(w:ak)(t:eH w k o b)(u:DH w b a)(a1:b.length<=256)(a2:a.sum<=1000000):aE aj 75 #[.string p,.pointer v,.slice (ae ⟨k,o,af⟩) b.length cap] w λe w'=>e=.returned (.pointer (ae ⟨w.heap.size,0,af⟩))/\w'=w.alloc (node p (.pointer v) (.slice (ae ⟨k,o,af⟩) b.length cap) (uu v+a.sum)):=by
 have R:aB (eH w k o b):=t;have l:aB (DH w b a):=u;clear t u;cases v with
 |none=>
  go_enter Hr,He
  go_wp2
  go_loopg [7,14] b.length (λgk z i wr=>∃j:Nat,j<=b.length/\gk+j=b.length/\z=.int .i64 ((0+(a.take j).sum:Nat):Int)/\i=.int .i64 j/\wr=w)
  case atStart=>exact⟨0,fL _,ag,rfl,rfl,rfl⟩
  case round=>
   obtain⟨j,W,U,rfl,rfl,rfl⟩:=hrel;by_cases s:j<b.length
   ·obtain⟨c,f⟩:∃c,b[j]?=ae c:=⟨b[j],bf s⟩;obtain⟨n,h⟩:∃n,a[j]?=ae n:=⟨a[j]'(by rw[<-l.out.1];exact s),bf _⟩;have t:=R.out j c f;have u:=l.out.2 j c n f h;have r:=N5 a j n h;have H:=wY a j;have N:=wY a (j+1);have x:aB ((a.take (j+1)).sum=(a.take j).sum+n):=r;have Z:(a.take j).sum+n<=1000000:=ag;clear f h r N
    go_wp2
    go_roundg (gk-1)
    case measure=>omega
    case rel=>exact⟨j+1,ag,ag,by rw[x.out];go_num,by go_num,rfl⟩
   ·have y:aB ((a.take j).sum=a.sum):=by
     have B:j=a.length:=by have:=l.out.1;omega
     rw[B];exact congrArg List.sum zK
    have H:=wY a j
    go_wp2
    go_ret
    exact⟨rfl,congrArg _ (Lm (by rw[y.out];simp[uu]))⟩
 |some vb=>
  go_enter Hr,He
  go_wp2
  go_loopg [7,14] b.length (λgk z i wr=>∃j:Nat,j<=b.length/\gk+j=b.length/\z=.int .i64 ((1+(a.take j).sum:Nat):Int)/\i=.int .i64 j/\wr=w)
  case atStart=>exact⟨0,fL _,ag,rfl,rfl,rfl⟩
  case round=>
   obtain⟨j,W,U,rfl,rfl,rfl⟩:=hrel;by_cases s:j<b.length
   ·obtain⟨c,f⟩:∃c,b[j]?=ae c:=⟨b[j],bf s⟩;obtain⟨n,h⟩:∃n,a[j]?=ae n:=⟨a[j]'(by rw[<-l.out.1];exact s),bf _⟩;have t:=R.out j c f;have u:=l.out.2 j c n f h;have r:=N5 a j n h;have H:=wY a j;have N:=wY a (j+1);have x:aB ((a.take (j+1)).sum=(a.take j).sum+n):=r;have Z:(a.take j).sum+n<=1000000:=ag;clear f h r N
    go_wp2
    go_roundg (gk-1)
    case measure=>omega
    case rel=>exact⟨j+1,ag,ag,by rw[x.out];go_num,by go_num,rfl⟩
   ·have y:aB ((a.take j).sum=a.sum):=by
     have B:j=a.length:=by have:=l.out.1;omega
     rw[B];exact congrArg List.sum zK
    have H:=wY a j
    go_wp2
    go_ret
    exact⟨rfl,congrArg _ (Lm (by rw[y.out];simp[uu]))⟩
theorem Vi(p:ByteArray)(a:Option aH)(w:ak):aE aj 75 #[.string p,.pointer a,.slice af 0 0] w λe b=>e=.returned (.pointer (ae ⟨w.heap.size,0,af⟩))/\b=w.alloc (node p (.pointer a) (.slice af 0 0) (uu a)):=by
 cases a with
 |none=>
  go_enter Hr,He
  go_wp2
  refine mE 1 ?_;rw[mH]
  go_wp2
  go_ret
  exact⟨rfl,rfl⟩
 |some c=>
  go_enter Hr,He
  go_wp2
  refine mE 1 ?_;rw[mH]
  go_wp2
  go_ret
  exact⟨rfl,rfl⟩
variable {V:Type}
def bV(a b:List UInt8):Prop:=dt a b=aq
theorem Bg(a b:List UInt8):(dt a b=aq)=bV a b:=rfl
theorem yA(b:UInt8)(q:List UInt8):bV [] (b::q):=by simp[bV,dt]
theorem yB(a:List UInt8):¬bV a []:=by cases a<;>simp[bV,dt]
theorem o9:bV (b::a) (c::f)↔b<c\/(b=c/\bV a f):=by simp[bV,dt]
theorem kx:∀a,¬bV a a
 |[]=>yB []
 |a::r=>λh=>by
  rcases o9.mp h with h|⟨_,h⟩;·exact jE a h
  ·exact kx r h
theorem rn:∀{a b c},bV a b->bV b c->bV a c
 |_,[],_,h,_=>absurd h (yB _)
 |_,_::_,[],_,h=>absurd h (yB _)
 |[],_::_,_::_,_,_=>yA _ _
 |a::r,b::q,c::s,h,k=>by
  rw[o9]at h k⊢;rcases h with h|⟨rfl,h⟩
  ·rcases k with k|⟨rfl,k⟩;·exact .inl (rQ h k)
   ·exact .inl h
  ·rcases k with k|⟨rfl,k⟩;·exact .inl k
   ·exact .inr ⟨rfl,rn h k⟩
theorem EF:∀a b,bV a b\/a=b\/bV b a
 |[],[]=>.inr (.inl rfl)
 |[],_::_=>.inl (yA _ _)
 |_::_,[]=>.inr (.inr (yA _ _))
 |a::r,b::q=>by
  rw[o9,o9];rcases sV a.toNat b.toNat with h|h|h;·exact .inl (.inl h)
  ·have:a=b:=xv.mp h;subst this;rcases EF r q with h|h|h;·exact .inl (.inr ⟨rfl,h⟩)
   ·exact .inr (.inl (by rw[h]))
   ·exact .inr (.inr (.inr ⟨rfl,h⟩))
  ·exact .inr (.inr (.inl h))
theorem Bf(h:bV a f):¬bV f a:=λk=>kx a (rn h k)
theorem Be(p a b:List UInt8):bV (p++a) (p++b)↔bV a b:=by
 induction p with
 |nil=>exact xR
 |cons x r c=>
  rw[pF,pF,o9];exact⟨λh=>by rcases h with h|⟨_,h⟩;exact absurd h (jE x);exact c.mp h,λh=>.inr ⟨rfl,c.mpr h⟩⟩
theorem Bi(p:List UInt8)(x:UInt8)(r:List UInt8):bV p (p++x::r):=by
 have:=(Be p [] (x::r)).mpr (yA _ _);rwa[og]at this
theorem EE(p:List UInt8)(r q:List UInt8)(h:b<c):bV (p++b::r) (p++c::q):=(Be p _ _).mpr (o9.mpr (.inl h))
def bh(l:List (List UInt8×V)):Prop:=l.Pairwise λa b=>bV a.1 b.1
theorem bh.inj{l:List (List UInt8×V)}(h:bh l){a b:List UInt8×V}(o:a∈l)(s:b∈l)(e:a.1=b.1):a=b:=by
 induction l with
 |nil=>cases o
 |cons x r u=>
  obtain⟨k,t⟩:=kZ.mp h;rcases dk.mp o with j|p
  ·rcases dk.mp s with c|f;·rw[j,c]
   ·have:=k b f;rw[<-j,e]at this;exact absurd this (kx _)
  ·rcases dk.mp s with c|f;·have:=k a p;rw[<-c,e]at this;exact absurd this (kx _)
   ·exact u t p f
theorem bh.ext:∀{l m:List (List UInt8×V)},bh l->bh m->(∀e,e∈l↔e∈m)->l=m
 |[],[],_,_,_=>rfl
 |[],x::r,_,_,h=>absurd ((h x).mpr gq) az
 |x::r,[],_,_,h=>absurd ((h x).mp gq) az
 |x::r,y::q,o,p,h=>by
  obtain⟨f,k⟩:=kZ.mp o;obtain⟨j,t⟩:=kZ.mp p;have s:x=y:=by
   rcases dk.mp ((h x).mp gq)with e|e;·exact e
   ·rcases dk.mp ((h y).mpr gq)with c|c;·exact c.symm
    ·exact absurd (f y c) (Bf (j x e))
  subst s;rw[bh.ext k t (λe=>by
   constructor
   ·intro b;rcases dk.mp ((h e).mp (jD _ b))with a|a;·subst a;exact absurd (f _ b) (kx _)
    ·exact a
   ·intro b;rcases dk.mp ((h e).mpr (jD _ b))with a|a;·subst a;exact absurd (j _ b) (kx _)
    ·exact a)]
def lk(k:List UInt8)(l:List (List UInt8×V)):Option V:=(l.find? λe=>aM (e.1=k)).map (·.2)
theorem vX{l:List (List UInt8×V)}(h:∀e∈l,e.1≠a):lk a l=none:=by
 unfold lk;rw[GW.mpr (λe b=>by simpa using h e b)];rfl
theorem yE{l:List (List UInt8×V)}{v:V}(h:lk a l=ae v):(a,v)∈l:=by
 unfold lk at h;obtain⟨e,c,rfl⟩:=ji.mp h;have b:=aB7 c;simp at b;subst b;exact av6 c
theorem vY{l:List (List UInt8×V)}{v:V}(b:bh l)(h:(a,v)∈l):lk a l=ae v:=by
 cases e:lk a l with
 |some u=>have:=b.inj (yE e) h rfl;cases this;rfl
 |none=>
  unfold lk at e;rw[aw0,GW]at e;exact absurd (e _ h) az
theorem Bn{l:List (List UInt8×V)}:lk a l=af↔∀e∈l,e.1≠a:=by
 refine⟨λh e b=> ?_,vX⟩;unfold lk at h;rw[aw0,GW]at h;simpa using h e b
theorem KI{l m:List (List UInt8×V)}(c:bh l)(f:bh m)(h:∀v,(a,v)∈l↔(a,v)∈m):lk a l=lk a m:=by
 cases e:lk a l with
 |some u=>exact(vY f ((h u).mp (yE e))).symm
 |none=>
  cases b:lk a m with
  |none=>rfl
  |some u=>rw[vY c ((h u).mpr (yE b))]at e;cases e
def ins(k:List UInt8)(v:V)(l:List (List UInt8×V)):List (List UInt8×V):=(l.filter λe=>dt e.1 k)++(k,v)::l.filter λe=>dt k e.1
theorem iT{v:V}{l:List (List UInt8×V)}{e:List UInt8×V}:e∈ins a v l↔e=(a,v)\/(e∈l/\e.1≠a):=by
 unfold ins;rw[dU,dk,gK,gK,Bg,Bg];constructor
 ·rintro(⟨h,b⟩|h|⟨h,b⟩);·exact .inr ⟨h,λf=>kx a (f▸b)⟩
  ·exact .inl h
  ·exact .inr ⟨h,λf=>kx a (f▸b)⟩
 ·rintro(h|⟨h,b⟩);·exact .inr (.inl h)
  ·rcases EF e.1 a with c|c|c;·exact .inl ⟨h,c⟩
   ·exact absurd c b
   ·exact .inr (.inr ⟨h,c⟩)
theorem iw{v:V}{l:List (List UInt8×V)}(h:bh l):bh (ins a v l):=by
 unfold bh ins;rw[uU];refine⟨sQ _ h,kZ.mpr ⟨λe k=>(gK.mp k).2,sQ _ h⟩,λo j b c=> ?_⟩;have f:=(gK.mp j).2;rcases dk.mp c with rfl|c;·exact f
 ·exact rn f (gK.mp c).2
theorem rh{v:V}{l m:List (List UInt8×V)}(b:bh l)(c:bh m)(h:∀e,e∈m↔e=(a,v)\/(e∈l/\e.1≠a)):m=ins a v l:=
 c.ext (iw b) λe=>(h e).trans iT.symm
def del(k:List UInt8)(l:List (List UInt8×V)):List (List UInt8×V):=l.filter λe=>aM (e.1≠k)
theorem sA{l:List (List UInt8×V)}{e:List UInt8×V}:e∈del a l↔e∈l/\e.1≠a:=by simp[del,gK]
theorem C6{l:List (List UInt8×V)}(h:bh l):bh (del a l):=sQ _ h
theorem del_eq{l m:List (List UInt8×V)}(b:bh l)(c:bh m)(h:∀e,e∈m↔e∈l/\e.1≠a):m=del a l:=
 c.ext (C6 b) λe=>(h e).trans sA.symm
theorem DW{l:List (List UInt8×V)}(h:lk a l=af):del a l=l:=
 xl.mpr λe b=>by simpa using Bn.mp h e b
def c9(p:List UInt8):Option V->List (List UInt8×V)
 |none=>[]
 |some v=>[(p,v)]
theorem mh{b:Option V}{e:List UInt8×V}:e∈c9 a b↔e.1=a/\b=ae e.2:=by
 cases b with
 |none=>simp[c9]
 |some v=>simp[c9,Prod.ext_iff,eq_comm]
structure fF(p:List UInt8)(xs:List UInt8)(gs:List (List (List UInt8×V))):Prop where
 len:xs.length=gs.length
 pw:xs.Pairwise (·<·)
 iX:∀(i:Nat) g,gs[i]?=ae g->g≠[]
 pre:∀(i:Nat) x g,xs[i]?=ae x->gs[i]?=ae g->∀e∈g,∃r,e.1=p++x::r
 ck:∀(i:Nat) g,gs[i]?=ae g->bh g
structure Shaped(p:List UInt8)(ov:Option V)(xs:List UInt8)(gs:List (List (List UInt8×V)))(l:List (List UInt8×V)):Prop where
 aT:fF p xs gs
 eq:l=c9 p ov++gs.flatten
 two:ov=af->2<=gs.length
theorem pd{c:List (List (List UInt8×V))}{e:List UInt8×V}:e∈c.flatten↔∃(i:Nat) (g:List (List UInt8×V)),c[i]?=ae g/\e∈g:=by
 rw[Og];constructor
 ·rintro⟨g,b,a⟩;obtain⟨i,f,rfl⟩:=GV b;exact⟨i,_,bf f,a⟩
 ·rintro⟨i,g,b,a⟩;exact⟨g,cG b,a⟩
theorem fF.byte{b:List (List (List UInt8×V))}(h:fF a f b){i:Nat}{g:List (List UInt8×V)}(c:b[i]?=ae g):∃x,f[i]?=ae x:=by
 have j:=(cu.mp c).1;exact⟨f[i]'(by rw[h.len];exact j),bf _⟩
theorem fF.vQ{c:List (List (List UInt8×V))}(h:fF a f c){i:Nat}(k:f[i]?=ae b):∃g,c[i]?=ae g:=by
 have j:=(cu.mp k).1;exact⟨c[i]'(by rw[<-h.len];exact j),bf _⟩
theorem fF.C5{o:List (List (List UInt8×V))}(h:fF a f o):bh o.flatten:=by
 unfold bh;rw[List.pairwise_flatten];refine⟨λg H=> ?_,?_⟩
 ·obtain⟨i,c,rfl⟩:=GV H;exact h.ck i _ (bf c)
 ·rw[Cu];intro i j c R N t w b B;have k:=bf c;have l:=bf R;obtain⟨x,p⟩:=h.byte k;obtain⟨y,s⟩:=h.byte l;obtain⟨r,W⟩:=h.pre i x _ p k t w;obtain⟨q,U⟩:=h.pre j y _ s l b B;rw[W,U];obtain⟨u,rfl⟩:=cu.mp p;obtain⟨v,rfl⟩:=cu.mp s;exact EE a r q (Cu.mp h.pw i j u v N)
theorem fF.front{c:List (List (List UInt8×V))}(h:fF a f c){e:List UInt8×V}(b:e∈c.flatten):∃x r,e.1=a++x::r:=by
 obtain⟨i,g,j,b⟩:=pd.mp b;obtain⟨x,l⟩:=h.byte j;obtain⟨r,k⟩:=h.pre i x g l j e b;exact⟨x,r,k⟩
theorem fF.pq{c:List (List (List UInt8×V))}(h:fF a f c)(j:Option V):bh (c9 a j++c.flatten):=by
 unfold bh;rw[uU];refine⟨?_,h.C5,λp k b l=> ?_⟩;·cases j<;>simp[c9]
 ·obtain⟨x,r,o⟩:=h.front l;rw[(mh.mp k).1,o];exact Bi a x r
theorem Shaped.ck{b:Option V}{c:List (List (List UInt8×V))}{l:List (List UInt8×V)}(h:Shaped a b f c l):bh l:=h.eq▸h.aT.pq b
theorem Shaped.mem{c:Option V}{b:List (List (List UInt8×V))}{l:List (List UInt8×V)}(h:Shaped a c f b l){e:List UInt8×V}:e∈l↔(e.1=a/\c=ae e.2)\/∃(i:Nat) (g:List (List UInt8×V)),b[i]?=ae g/\e∈g:=by rw[h.eq,dU,mh,pd]
theorem Shaped.front{p j:List UInt8}{f:Option V}{b:List (List (List UInt8×V))}{l:List (List UInt8×V)}(h:Shaped p f j b l){e:List UInt8×V}(a:e∈l):p<+:e.1:=by
 rw[h.eq,dU,mh]at a;rcases a with⟨a,_⟩|a;·rw[a];exact aA2 _
 ·obtain⟨x,r,c⟩:=h.aT.front a;rw[c];exact sS _ _
theorem Shaped.len{c:Option V}{b:List (List (List UInt8×V))}{l:List (List UInt8×V)}(h:Shaped a c f b l):l.length=(c9 a c).length+(b.map jk).sum:=by
 rw[h.eq,gJ,ay3]
def posOf(c:UInt8)(a:List UInt8):Nat:=a.countP (·<c)
theorem LQ(c:UInt8)(h:List UInt8)(i:Nat)(l:i<=h.length)(p:∀(t:Nat) x,t<i->h[t]?=ae x->x<c)(j:∀(t:Nat) x,i<=t->h[t]?=ae x->¬x<c):posOf c h=i:=by
 induction h generalizing i with
 |nil=>simp at l;simp[posOf,l]
 |cons a r s=>
  cases i with
  |zero=>
   have k:¬a<c:=j 0 a (fL _) rfl;have b:=s 0 (fL _) (λt x o=>absurd o (xy _)) (λt x _ f=>j (t+1) x (fL _) (by simpa using f));unfold posOf at b⊢;rw[aw3 (by simpa using k)];exact b
  |succ i=>
   have k:a<c:=p 0 a (Nat.succ_pos _) rfl;have b:=s i (by simpa using l) (λt x o f=>p (t+1) x ag (by simpa using f)) (λt x o f=>j (t+1) x ag (by simpa using f));unfold posOf at b⊢;rw[ND (by simpa using k),b]
theorem wM(c:UInt8):∀(f:List UInt8),f.Pairwise (·<·)->posOf c f<=f.length/\(∀(t:Nat) x,t<posOf c f->f[t]?=ae x->x<c)/\(∀(t:Nat) x,posOf c f<=t->f[t]?=ae x->¬x<c)
 |[],_=>⟨aL _,λt x j _=>absurd j (xy _),λt x _ b=>by simp at b⟩
 |a::r,h=>by
  obtain⟨o,p⟩:=kZ.mp h;obtain⟨u,v,i3⟩:=wM c r p;by_cases k:a<c
  ·have e:posOf c (a::r)=posOf c r+1:=by unfold posOf;rw[ND (by simpa using k)]
   rw[e];refine⟨by simpa using u,λt x j b=> ?_,λt x j b=> ?_⟩
   ·cases t with
    |zero=>simp at b;exact b▸k
    |succ t=>exact v t x ag (by simpa using b)
   ·cases t with
    |zero=>omega
    |succ t=>exact i3 t x ag (by simpa using b)
  ·have l:∀x∈a::r,¬x<c:=by
    intro x b;rcases dk.mp b with e|e;·exact e▸k
    ·exact λs=>k (rQ (o x e) s)
   have e:posOf c (a::r)=0:=by unfold posOf;rw[NW];intro x b;simpa using l x b
   rw[e];exact⟨fL _,λt x j _=>absurd j (xy _),λt x _ b=>l x (cG b)⟩
theorem oS(L:List j)(i b:Nat)(a:j)(h:i<=L.length):(L.take i++a::L.drop i)[b]?=if b<i then L[b]? else if b=i then ae a else L[b-1]?:=by
 by_cases c:b<i;·rw[if_pos c,nu (by simp;omega),nv,if_pos c]
 ·rw[if_neg c,np (by simp;omega)];have e:(L.take i).length=i:=by simp;omega
  rw[e];by_cases f:b=i;·subst f;simp
  ·rw[if_neg f];obtain⟨m,rfl⟩:∃m,b=i+1+m:=⟨b-i-1,ag⟩;rw[show i+1+m-i=m+1 by omega,List.getElem?_cons_succ,ny];congr 1;omega
theorem B5(L:List j)(i b:Nat)(a:j)(c:i<L.length):(L.take i++a::L.drop (i+1))[b]?=if b=i then ae a else L[b]?:=by
 have e:=au9 (l:=L) (i:=i) (a:=a);rw[if_pos c]at e;rw[<-e,xr];by_cases h:i=b;·subst h;simp[c]
 ·rw[if_neg h,if_neg (λe=>h e.symm)]
