/- Own texts: WalkP, WalkA, WalkB, Silent, WalkC, WalkD, WalkF, Part, FwK, FwL, FwM, SimW. -/
import Derived.Test.YtcgjppacnhmjlaaGreatMN
import Derived.Test.YtcgjppacnhmjlaaGreatMO
import Derived.Test.YtcgjppacnhmjlaaGreatMA
import Derived.Test.YtcgjppacnhmjlaaGreatProg
import Derived.OrdersIn
import Derived.KernelRfl
import Derived.RangeFuncNested
import Derived.RangeFuncBound
import Derived.RangeFuncCalls
import Derived.RangeFuncLeaves
import Derived.Shelf.Abstract
import Derived.Shelf.RegionOpen
import Derived.WalkKit
import Derived.OwnWalkIn
import Derived.TacticsInMore
import Derived.LoopNIn
import Derived.LoopIn
import Derived.Test.YtcgjppacnhmjlaaGreatMQ
import Derived.Test.YtcgjppacnhmjlaaGreatMR
import Derived.Deep.RegionHeld3
import Derived.Test.YtcgjppacnhmjlaaGreatML
import Derived.Test.YtcgjppacnhmjlaaGreatMG
set_option linter.all false
set_option maxRecDepth 100000
set_option maxHeartbeats 1000000
open Array renaming getElem?_eq_some_iff->cq,all_eq_true_iff_forall_mem->jh,getElem?_modify->fV,getElem?_setIfInBounds_ne->nk
open Bool renaming true->aq,false->ax,and_eq_true->dj,eq_false_iff->CH
open Decidable renaming decide->aM
open False renaming elim->aK4
open Go renaming World->ak,Value->au,cell_later->aS,Goroutine->aX,Calls->aE,TypeId->aK,heap_alloc_new->cY,Program->aV,Addr->aH,undef->aN,Operand->bC,wp_loop_rounds->mE,sizeOf->ed,Oper->bR,rounds_succ->mH,isAgg->mL,plainCell->Dj,Act->gx,Exit->s8
open Go.Addr renaming add->vf
open Go.Conc renaming aside_setCell->mG
open Go.Extern renaming findNext->zQ,find->uZ
open Go.Extern.Atomic renaming casT->sR,loadT->zH,storeT->GR
open Go.Frame renaming enter->bG
open Go.Op renaming bytesLess->dt
open Go.Proofs.Tryz renaming prog->aj,isAgg3->ib,sizeOf56->CS,runUnderlying69->NM,func90->D6,isAgg69->Hj,sizeOf78->OG,isAgg140->OI,runUnderlying127->aw8,isAgg127->aD5,isAgg102->aD6,ntmps90->aE3
open Go.Region renaming binds->nC
open Go.RowKit renaming Below->aA,Hid->aB
open Go.RowKit.Below renaming refl->cD
open Go.World renaming cell?->bL,setCell->eK,frozen?->gu
open Inhabited renaming default->fM
open Int renaming toNat_natCast->H4
open List renaming getElem?_eq_getElem->bf,getElem?_eq_some_iff->cu,mem_of_getElem?->cG,all_eq_true->eJ,drop_eq_getElem_cons->lG,take_append_drop->jW,mem_filter->gK,getElem?_of_mem->lJ,nil_append->nB,cons_append->pF,any_eq_true->pG,pairwise_append->uU,exists_mem_of_ne_nil->zA,length_take->sW,filter_eq_self->xl,flatten_append->Cy,filter_eq_nil_iff->GS,nil_prefix->CP,cons_prefix_cons->aw6
open Nat renaming le_refl->aL,le_trans->bT,lt_of_lt_of_le->dG,zero_le->fL,mul_one->tj
open Ne renaming symm->jm
open Option renaming some->ae,none->af
namespace Go.Proofs.YtcgjppacnhmjlaaGreat
open Go.RowKit Go.Shelf Go Go.Conc Go.ConcN Go.Conc.Lib Go.ConcR.Gen
open Go.ConcR (KK wgBlock WgAt stA smA rd wr mk Payload DC0)
variable {f h U:List UInt8} {H:UInt8} {s R:Nat} {k:ak} {W:List KV}
variable {V:Type}
def yu(fr to k:List UInt8):Bool:= !(dt k fr)&&(to.isEmpty||Op.bytesLess k to)
theorem B9{fr to k:List UInt8}:yu fr to k=aq↔¬bV k fr/\(to=[]\/bV k to):=by
 unfold yu bV;cases to<;>simp
def cO(fr to:List UInt8)(l:List (List UInt8×V)):List (List UInt8×V):=l.filter λe=>yu fr to e.1
theorem F5{l:List (List UInt8×V)}{e:List UInt8×V}:e∈cO f h l↔e∈l/\¬bV e.1 f/\(h=[]\/bV e.1 h):=by
 simp[cO,gK,B9]
theorem G2(fr to:List UInt8)(a b:List (List UInt8×V)):cO fr to (a++b)=cO fr to a++cO fr to b:=by simp[cO]
theorem zh{l:List (List UInt8×V)}(c:∀e∈l,bV e.1 f\/(h≠[]/\¬bV e.1 h)):cO f h l=[]:=by
 apply GS.mpr;intro e o;rw[B9];rintro⟨j,a⟩;rcases c e o with b|⟨b,k⟩;·exact j b
 ·rcases a with a|a;·exact b a
  ·exact k a
theorem LU(a:f<+:h):h=f\/bV f h:=by
 obtain⟨r,rfl⟩:=a;cases r with
 |nil=>exact .inl az
 |cons x r=>exact .inr (Bi f x r)
theorem LV(j:f<+:h)(c:¬bV f U):¬bV h U:=by
 intro a;rcases LU j with b|b;·rw[b]at a;exact c a
 ·exact c (rn b a)
def Past(to:List UInt8)(l:List (List UInt8×V)):Prop:=to≠[]/\∃e∈l,¬bV e.1 to
theorem Past.Q5{a b:List (List UInt8×V)}(h:Past f a):Past f (a++b):=⟨h.1,by obtain⟨e,c,j⟩:=h.2;exact⟨e,by simp[c],j⟩⟩
theorem Past.AB{a b:List (List UInt8×V)}(h:Past f b):Past f (a++b):=⟨h.1,by obtain⟨e,c,j⟩:=h.2;exact⟨e,by simp[c],j⟩⟩
theorem Past.rest{fr:List UInt8}{a b:List (List UInt8×V)}(h:Past f a)(o:bh (a++b)):cO fr f b=[]:=by
 obtain⟨c,e,j,k⟩:=h;refine zh λx p=>.inr ⟨c,λl=>k (rn ?_ l)⟩;exact(uU.mp o).2.2 e j x p
section
variable {p o:List UInt8} {B:Option V} {t:List (List (List UInt8×V))} {l:List (List UInt8×V)}
theorem Shaped.ag5(h:Shaped p B o t l)(j:l≠[]){fr:List UInt8}(b:f≠[])(c:¬bV p f):cO fr f l=[]/\Past f l:=by
 refine⟨zh λe a=>.inr ⟨b,LV (h.front a) c⟩,b,?_⟩;obtain⟨e,a⟩:=zA _ j;exact⟨e,a,LV (h.front a) c⟩
theorem Shaped.MA(h:Shaped p B o t l)(fr to:List UInt8):cO fr to l=cO fr to (c9 p B)++cO fr to t.flatten:=by
 rw[h.eq,G2]
theorem ag3(a:¬bV p f)(b:h=[]\/bV p h):cO f h (c9 p B)=c9 p B:=by
 apply xl.mpr;intro e c;rw[B9,(mh.mp c).1];exact⟨a,b⟩
theorem ag4(a:bV p f):cO f h (c9 p B)=[]:=zh λe b=>.inl (by rw[(mh.mp b).1];exact a)
theorem Vz(j:bV f h)(k:¬f<+:h)(o:f<+:U):bV U h:=by
 obtain⟨r,rfl⟩:=o;induction f generalizing h with
 |nil=>exact absurd CP k
 |cons a f p=>
  cases h with
  |nil=>exact absurd j (yB _)
  |cons b h=>
   rw[pF];rcases o9.mp j with c|⟨rfl,c⟩;·exact o9.mpr (.inl c)
   ·exact o9.mpr (.inr ⟨rfl,p c (λl=>k (aw6.mpr ⟨rfl,l⟩))⟩)
theorem Shaped.ag0(a:Shaped p B o t l)(b:bV p f)(c:¬p<+:f):cO f h l=[]:=zh λe j=>.inl (Vz b c (a.front j))
theorem fF.ag2(b:fF p o t)(r:f=p++H::U):cO f h (t.take (posOf H o)).flatten=[]:=by
 refine zh λe k=>.inl ?_;obtain⟨i,g,a,l⟩:=pd.mp k;have c:i<posOf H o:=by
  have:=(cu.mp a).1;rw[sW]at this;omega
 rw[List.getElem?_take_of_lt c]at a;obtain⟨x,j⟩:=b.byte a;obtain⟨q,s⟩:=b.pre i x g j a e l;rw[s,r];exact EE p _ _ ((wM H o b.pw).2.1 i x c j)
theorem Shaped.ag1(a:Shaped p B o t l)(b:f=p++H::U):cO f h l=cO f h (t.drop (posOf H o)).flatten:=by
 rw[a.MA,ag4 (by rw[b];exact Bi p H U),nB]
 conv=>lhs;rw[<-jW (posOf H o) t,Cy,G2,a.aT.ag2 b]
 rfl
end
theorem KX{r l:Type}{f:r->l}{k:List r}{a b:List l}(h:k.map f=a++b):∃c j,k=c++j/\c.map f=a/\j.map f=b:=by
 obtain⟨c,j,o,p,s⟩:=List.map_eq_append_iff.mp h;exact⟨c,j,o,p,s⟩
section
attribute [local go_sem↓] Go.wp_at_zero Go.wp_at_succ
section
variable {r:Type} {S:Nat->Prop} {J Z:List r->ak->Prop} {val:r->KV} {fr to:ByteArray} {lb N n:Nat}
end
section
variable {r:Type} {S:Nat->Prop} {J Z:List r->ak->Prop} {val:r->KV} {fr to:ByteArray} {lb N n aa:Nat}
end
end
def dY(y:Array bR)(k j:Nat):Bool:=match y[k]? with
 |some o=>o.after.toList.any λe=>nC .any e&&e.on==j
 |none=>ax
def ew(y:Array bR)(j:Nat):Option Tmp:=(y[j]?).bind (·.dst)
theorem DX{y:Array bR}:dY y s R=aq↔∃o,y[s]?=ae o/\∃e∈o.after,nC .any e=aq/\e.on=R:=by
 unfold dY;cases h:y[s]? with
 |none=>simp
 |some o=>
  simp only[pG,dj,beq_iff_eq];constructor;·rintro⟨e,b,a,c⟩;exact⟨o,rfl,e,by simpa using b,a,c⟩
  ·rintro⟨j,f,e,b,a,c⟩;cases f;exact⟨e,by simpa using b,a,c⟩
section
variable {F:Fence} {n:Nat} {P:aV} {y:Array bR} {Q:s8->gx->ak->Prop} {c:Nat} {V:Nat->au} {w:ak}
end
section
attribute [local go_sem] Oper.semAt_some
section
variable {r:Type} {S:Nat->Prop} {J Z:List r->ak->Prop} {val:r->KV} {fr to:ByteArray} {lb N n aa:Nat}
theorem Bm(a b:ByteArray):dt a.toList b.toList=dt a.data.toList b.data.toList:=by
 obtain⟨⟨l⟩⟩:=a;obtain⟨⟨m⟩⟩:=b;simp
theorem Jd(a:ByteArray):a.toList.isEmpty=a.data.toList.isEmpty:=by
 obtain⟨⟨l⟩⟩:=a;simp
attribute [local go_sem↓] Go.wp_at_zero Go.wp_at_succ
end
section
variable {r:Type} {S:Nat->Prop} {J Z:List r->ak->Prop} {val:r->KV} {fr to:ByteArray} {lb N n aa:Nat}
end
end
section
attribute [local go_sem] Oper.semAt_some
section
variable {r:Type} {S:Nat->Prop} {J Z:List r->ak->Prop} {val:r->KV} {fr to:ByteArray} {lb N n aa:Nat}
end
end
section
theorem bD.weaken{S a:Nat->Prop}{n:Nat}{w:ak}{b:Option aH}{l:List KV}(h:bD S n w b l)(j:∀k,S k->k<w.heap.size->a k):bD a n w b l:=by
 rcases h with h|⟨t,c,f⟩;·exact .inl h
 ·exact .inr ⟨t,c,f.weaken j⟩
abbrev js(R:List KV):={e:KV//e∈R}
end
abbrev PP:=ByteArray×Int
def Ap(w:ak)(k o:Nat)(p:PP):Prop:=w.cell? ⟨k,o,af⟩=ae (.string p.1)/\w.cell? ⟨k,o+1,af⟩=ae (.int .i64 p.2)
def y6(w:ak)(k o:Nat)(ps:List PP):Prop:=∀(i:Nat) p,ps[i]?=ae p->Ap w k (o+i*2) p
variable {u:PP}
theorem Ap.later{b:ak}(h:Ap k s R u)(a:aA k.heap.size k b):Ap b s R u:=⟨aS a h.1,aS a h.2⟩
def fI(ps:List PP):Bool:=ps.any λq=>aM (64<q.1.size)
def iH:List PP->List KV->List KV
 |[],l=>l
 |p::ps,l=>if 3000<l.length then l else iH ps (ins (eG p.1) p.2 l)
def pe(ps:List PP):Int:=if fI ps then 1 else 0
def pl(ps:List PP):List KV:=if fI ps then[]else iH ps []
theorem Zd(a:Option aH)(c:Nat)(w:ak):aE aj 90 #[.slice a 0 c] w λe b=>e=.returned (.tuple #[.pointer af,.int .i64 0])/\b=w:=by
 go_enter D6,aE3
 go_wp2
 refine mE 1 ?_;rw[mH]
 go_wp2
 refine mE 1 ?_;rw[mH]
 go_wp2
 go_ret2
 exact⟨rfl,rfl⟩
theorem IA{ps:List PP}(a:ps[s]?=ae u)(h:¬u.1.size<=64):fI ps=true:=by
 unfold fI;exact pG.2 ⟨u,cG a,by simp;omega⟩
theorem Iz{ps:List PP}(h:∀(i:Nat) p,i<ps.length->ps[i]?=ae p->p.1.size<=64):fI ps=false:=by
 unfold fI;apply CH.2;intro e;obtain⟨p,c,b⟩:=pG.1 e;obtain⟨i,a⟩:=lJ c;have:=h i p (cu.1 a).1 a;simp at b;omega
theorem ao9{ps:List PP}(b:ps[s]?=ae u)(h:¬3000<W.length):iH (ps.drop s) W=iH (ps.drop (s+1)) (ins (eG u.1) u.2 W):=by
 obtain⟨a,e⟩:=cu.1 b;rw[lG a,e];simp[iH,h]
theorem ao8{ps:List PP}(b:ps[s]?=ae u)(h:3000<W.length):iH (ps.drop s) W=W:=by
 obtain⟨a,e⟩:=cu.1 b;rw[lG a,e];simp[iH,h]
theorem Ze{S:Nat->Prop}{c:Nat}{ps:List PP}(hS:Open S k)(hP:y6 k s R ps)(hl:ps.length<=9223372036854775807)(h0:0<ps.length)(ac:∀p∈ps,p.1.size<=9223372036854775807):aE aj 90 #[.slice (ae ⟨s,R,af⟩) ps.length c] k λe h=>∃n o,e=.returned (.tuple #[.pointer o,.int .i64 (pe ps)])/\bD S n h o (pl ps)/\aA k.heap.size k h:=by
 have HP:aB (y6 k s R ps):=hP;have HM:aB (∀p∈ps,p.1.size<=9223372036854775807):=ac;have HS:aB (Open S k):=hS;clear hP hS ac
 go_enter D6,aE3
 go_wp2
 go_loopg [11] ps.length (λgk i wr=>∃j:Nat,j<=ps.length/\gk+j=ps.length/\i=.int .i64 j/\aB (aA k.heap.size k wr)/\aB (∀(i:Nat) p,i<j->ps[i]?=ae p->p.1.size<=64))
 case atStart=>exact⟨0,fL _,ag,rfl,cD _ _,λi p av=>ag⟩
 case round=>
  obtain⟨j,hj,hg,rfl,l,u⟩:=hrel;by_cases aa:j<ps.length
  ·obtain⟨p,f⟩:∃p,ps[j]?=ae p:=⟨ps[j],bf aa⟩;obtain⟨c0,c1⟩:=(HP.out j p f).later l.out;have aJ:=HM.out p (cG f);by_cases N:p.1.size<=64
   ·have al:aB (∀(i:Nat) q,i<j+1->ps[i]?=ae q->q.1.size<=64):=λi q hi hq=>by
     by_cases e:i=j;·subst e;rw[f]at hq;cases hq;exact N
     ·exact u.out i q ag hq
    clear f u
    go_wp2
    go_roundg (gk-1)
    case measure=>omega
    case rel=>exact⟨j+1,ag,ag,by go_num,l.out.alloc l.out.size _,al⟩
   ·have r:aB (fI ps=aq):=IA f N;clear f u
    go_wp2
    go_ret2
    refine⟨0,af,?_,?_,l.out.alloc l.out.size _⟩;·unfold pe;rw[r.out];rfl
    ·unfold pl;rw[r.out];exact .inl ⟨rfl,rfl⟩
  ·have a8:j=ps.length:=ag;subst a8;have ad:aB (aA k.heap.size k wr):=l;have r:aB (fI ps=ax):=Iz u.out;have am:aB (∀(i:Nat) p,ps[i]?=ae p->p.1.size<=64):=λi p f=>u.out i p (cu.1 f).1 f;clear u
   go_wp2
   go_loopg [6,22] ps.length (λgk tv i wr=>∃(j n:Nat)(o:Option aH) (L:List KV),j<=ps.length/\gk+j=ps.length/\L.length<=3001/\tv=.pointer o/\i=.int .i64 j/\aB (bD S n wr o L)/\aB (iH (ps.drop j) L=iH ps [])/\aB (aA k.heap.size k wr))
   case atStart=>exact⟨0,0,af,[],fL _,ag,az,rfl,rfl,.inl ⟨rfl,rfl⟩,rfl,ad⟩
   case round=>
    obtain⟨j,n,o,L,hj,hg,aF,rfl,rfl,Z,y,l⟩:=hrel;by_cases aa:j<ps.length
    ·obtain⟨p,f⟩:∃p,ps[j]?=ae p:=⟨ps[j],bf aa⟩;obtain⟨c0,c1⟩:=(HP.out j p f).later l.out;have N:=am.out j p f;obtain⟨b,U⟩:∃b,wr.alloc (.cells #[.string p.1,.int .i64 p.2] 103)=b:=⟨_,rfl⟩;have a7:aA k.heap.size k b:=U▸l.out.alloc l.out.size _;have B:b.heap[wr.heap.size]?=ae (.cells #[.string p.1,.int .i64 p.2] 103):=U▸cY _ _;have q0:b.cell? ⟨wr.heap.size,0,af⟩=ae (.string p.1):=by simp[bL,B]
     have q1:b.cell? ⟨wr.heap.size,1,af⟩=ae (.int .i64 p.2):=by simp[bL,B]
     have a1:aB (bD S n b o L):=U▸Z.out.on (cH _ _);have HZ:aB (aE aj 24 #[.pointer o] b λe h=>e=.returned (.int .i64 L.length)/\h=b):=uK a1.out;have w:aB (aA k.heap.size k b):=a7;by_cases ab:3000<L.length
     ·have W:aB (iH ps []=L):=by rw[<-y.out];exact ao8 f ab
      have ap:(3000:Int)<(L.length:Int):=ag;clear f a7 B
      go_wp2_with (go_at_call 24;refine HZ.out.mono ?_;rintro e h ⟨rfl,rfl⟩)
      go_ret2
      refine⟨n,o,?_,?_,w.out⟩;·unfold pe;rw[r.out];rfl
      ·unfold pl;rw[r.out,W.out];exact a1.out
     ·have HN:aB (iH (ps.drop (j+1)) (ins (eG p.1) p.2 L)=iH ps []):=by rw[<-y.out];exact(ao9 f ab).symm
      have ar:(ins (eG p.1) p.2 L).length<=3001:=by have:=oZ (eG p.1) p.2 L (wX Z.out);omega
      have ai:aB (∀a,aA b.heap.size b a->aE aj 48 #[.string p.1] a λe h=>e=.returned (.string p.1)/\aA b.heap.size b h):=λa t=>(AK p.1 a ag).mono λe h H=>⟨H.1,t.trans (H.2.mono t.size)⟩;have HW:aB (∀a,aA b.heap.size b a->aE aj 50 #[.pointer o,.string p.1,.int .i64 p.2] a λe h=>∃x v,e=.returned (.pointer v)/\bD S x h v (ins (eG p.1) p.2 L)/\aA b.heap.size b h):=λa t=>(GH (w:=a) (HS.out.later (w.out.trans (t.mono w.out.size))) (a1.out.on t) N ag).mono λe h H=>by
       obtain⟨x,v,h1,h2,h3⟩:=H;exact⟨x,v,h1,h2,t.trans (h3.mono t.size)⟩
      have an:aB (aA b.heap.size b b.drew):=(cD _ _).drew;have ap:¬(3000:Int)<(L.length:Int):=ag;clear f a7 B
      go_wp2_with (go_at_call 24;refine HZ.out.mono ?_;rintro e h ⟨rfl,rfl⟩)
      clear U
      go_region_held3 (λh=>h.cell? ⟨wr.heap.size,0,af⟩=ae (.string p.1)/\h.cell? ⟨wr.heap.size,1,af⟩=ae (.int .i64 p.2)) (first|exact⟨q0,q1⟩|exact⟨aS a6 q0,aS a6 q1⟩|exact⟨aS a2 q0,aS a2 q1⟩) (first
       |(go_at_call 48;refine(ai.out _ an.out).mono ?_;rintro e a ⟨rfl,a2⟩)
       |(go_at_call 50;refine(HW.out _ a2).mono ?_;rintro e w2 ⟨x,v,rfl,ao,a6⟩))
      go_wp2
      go_roundg (gk-1)
      case measure=>omega
      case rel=>exact⟨j+1,x,v,_,ag,ag,ar,rfl,by go_num,ao,HN.out,w.out.trans (a6.mono w.out.size)⟩
    ·have a8:j=ps.length:=ag;subst a8;have W:aB (iH ps []=L):=by have:=y.out;rw[List.drop_length]at this;exact this.symm
     clear y
     go_wp2
     go_ret2
     refine⟨n,o,?_,?_,l.out⟩;·unfold pe;rw[r.out];rfl
     ·unfold pl;rw[r.out,W.out];exact Z.out
theorem LJ{S:Nat->Prop}{w:ak}{v:au}{ps:List PP}(l:Open S w)(b:(ps=[]/\∃a c,v=.slice a 0 c)\/∃k o c,v=.slice (ae ⟨k,o,af⟩) ps.length c/\y6 w k o ps/\0<ps.length)(r:ps.length<=9223372036854775807)(s:∀p∈ps,p.1.size<=9223372036854775807):aE aj 90 #[v] w λe f=>∃n h,e=.returned (.tuple #[.pointer h,.int .i64 (pe ps)])/\bD S n f h (pl ps)/\aA w.heap.size w f:=by
 rcases b with⟨rfl,a,c,rfl⟩|⟨k,o,c,rfl,b,j⟩
 ·refine(Zd a c w).mono ?_;rintro e f ⟨rfl,rfl⟩;exact⟨0,af,rfl,.inl ⟨rfl,rfl⟩,cD _ _⟩
 ·exact Ze l b r j s
namespace Sim
variable {b:Nat} {j:au}
def cB(x:Nat->au)(j:Nat)(v:au):Nat->Value:=λi=>if i=j then v else x i
theorem x5(x:Nat->au)(j:Nat)(v:au):cB x j v j=v:=if_pos rfl
theorem rH(x:Nat->au){i:Nat}(v:au)(h:i≠b):cB x b v i=x i:=if_neg h
theorem gU{x:Nat->au}{v:au}(h:x b=v):cB x b v=x:=by
 funext i;by_cases e:i=b;·subst e;rw[x5,h]
 ·rw[rH x v e]
def DC(v:au):Prop:=(∃s,v=.string s)\/∃k n,v=.int k n
def jL(part:Nat->Prop)(w:ak)(v:au)(ps:List PP):Prop:=
 (ps=[]/\v=.slice af 0 0)\/∃k o cap c e f,part k/\v=.slice (ae ⟨k,o,af⟩) ps.length cap/\0<=ps.length/\w.heap[k]?=ae (.cells c e f)/\y6 w k o ps/\∀x∈c,DC x
structure Wp where
 z:WZ
 n:Nat
 Wg:Nat
 vP:au
 ps:List PP
 B1:Nat
 B2:Nat
 b8:Nat
 b4:Nat
 b7:Nat
 b5:Nat
abbrev dO(b n:Nat):Value:=.slice (ae ⟨b,0,af⟩) n n
structure Wp.F(p:Wp)(w:ak):Prop where
 c8:w.cell? ⟨p.b8,0,af⟩=ae p.vP
 c4:w.cell? ⟨p.b4,0,af⟩=ae (dO p.z.T p.n)
 c7:w.cell? ⟨p.b7,0,af⟩=ae (.int .i64 p.z.i)
 c5:w.cell? ⟨p.b5,0,af⟩=ae (dO p.z.E p.n)
 cg:w.cell? ⟨p.B1,0,af⟩=ae (jR p.Wg)
 cf:w.cell? ⟨p.B2,0,af⟩=ae (nW p.b8 p.b4 p.b7 p.b5)
 tT:∃c e,w.heap[p.z.T]?=ae (.cells c e (0,0))/\c.size=p.n
 tE:∃c e,w.heap[p.z.E]?=ae (.cells c e (0,0))/\c.size=p.n
 all:∀b,p.z.all b->b<w.heap.size
 yU:jL p.z.part w p.vP p.ps
 kR:aj.globals.size<=w.heap.size
structure Wp.Ok(p:Wp):Prop where
 part:p.z.part p.b8/\p.z.part p.b4/\p.z.part p.b7/\p.z.part p.b5/\p.z.part p.B1/\p.z.part p.B2
 out:¬p.z.part p.z.T/\¬p.z.part p.z.E
 ne:p.z.T≠p.z.E
 lt:p.z.i<p.n
section
variable {p:Wp} {w a:ak} {M:Nat->Prop}
theorem mu{k:Nat}(h:iA w a b)(l:w.cell? ⟨b,k,af⟩=ae j):a.cell? ⟨b,k,af⟩=ae j:=by
 unfold bL at l⊢;split at l
 ·rename_i c e f p;obtain⟨r,o⟩:=h c e f p;rw[o];exact l
 ·cases l
theorem FG{i:Nat}(h:pU b i w a)(k:w.cell? ⟨b,i,af⟩=ae j):a.cell? ⟨b,i,af⟩=ae j:=by
 unfold bL at k⊢;split at k
 ·rename_i c e f p;obtain⟨c1,l,_,o⟩:=h c e f p;rw[l];simp only at k⊢;rw[o];exact k
 ·cases k
theorem jL.bK{part:Nat->Prop}{ps:List PP}(h:jL part w j ps)(r:∀b,part b->iA w a b):jL part a j ps:=by
 rcases h with h|⟨k,o,cap,c,e,f,l,v,x,y,s,B⟩;·exact .inl h
 ·obtain⟨u,H⟩:=r k l c e f y;exact .inr ⟨k,o,cap,c,e,u,l,v,x,H,λi p t=>⟨mu (r k l) (s i p t).1,mu (r k l) (s i p t).2⟩,B⟩
theorem Wp.F.bK(R:p.Ok)(h:p.F w)(s:w.heap.size<=a.heap.size)(j:∀b,p.z.part b->iA w a b)(y:∀c e f,w.heap[p.z.T]?=ae (.cells c e f)->∃c1,a.heap[p.z.T]?=ae (.cells c1 e f)/\c1.size=c.size)(x:∀c e f,w.heap[p.z.E]?=ae (.cells c e f)->∃c1,a.heap[p.z.E]?=ae (.cells c1 e f)/\c1.size=c.size):p.F a:=by
 obtain⟨v,k,u,t,N,H⟩:=R.part;refine⟨mu (j _ v) h.c8,mu (j _ k) h.c4,mu (j _ u) h.c7,mu (j _ t) h.c5,mu (j _ N) h.cg,mu (j _ H) h.cf,?_,?_,λb B=>dG (h.all b B) s,h.yU.bK j,bT h.kR s⟩
 ·obtain⟨c,e,l,o⟩:=h.tT;obtain⟨c1,r,k⟩:=y _ _ _ l;exact⟨c1,e,r,k.trans o⟩
 ·obtain⟨c,e,l,o⟩:=h.tE;obtain⟨c1,r,k⟩:=x _ _ _ l;exact⟨c1,e,r,k.trans o⟩
theorem Wp.F.ry(o:p.Ok)(h:p.F w)(j:Ry p.z M w a):p.F a:=
 h.bK o j.size j.part (λc e f l=>let ⟨c1,k,b,_⟩:=j.mj c e f l;⟨c1,k,b⟩) (λc e f l=>let ⟨c1,k,b,_⟩:=j.pk c e f l;⟨c1,k,b⟩)
structure Wp.K(p:Wp)(Rs:au->au->(Nat->Prop)->ak->Prop)(l:Nat->Bool)(M:Nat->Prop)(x:Nat->au)(w:ak):Prop where
 f:p.F w
 out:∀b,M b->¬p.z.all b
 v0:l 0=aq->x 5=dO p.z.T p.n
 v1:l 1=aq->x 6=.int .i64 p.z.i
 v2:l 2=aq->x 7=dO p.z.E p.n
 v3:l 3=aq->x 8=.int .i64 p.z.i
 v4:l 4=aq->x 9=p.vP
 no:l 5=ax->∀b,¬M b
 v9:l 9=aq->x 13=.pointer (ae ⟨p.z.T,p.z.i,af⟩)
 v11:l 11=aq->x 14=.pointer (ae ⟨p.z.E,p.z.i,af⟩)
 val:l 5=aq->∃vt ve,vt.oneCell'=aq/\ve.oneCell'=aq/\x 10=.tuple #[vt,ve]/\(l 6=aq->x 4=.tuple #[vt,ve])/\(l 7=aq->x 11=vt)/\(l 8=aq->x 12=ve)/\Rs vt ve M w/\ (l 10=aq->w.cell? ⟨p.z.T,p.z.i,af⟩=ae vt)/\(l 12=aq->w.cell? ⟨p.z.E,p.z.i,af⟩=ae ve)
variable {Rs:au->au->(Nat->Prop)->ak->Prop}
end
section
variable {p:Wp} {w a:ak} {M:Nat->Prop} {Rs:au->au->(Nat->Prop)->ak->Prop} {l:Nat->Bool} {x:Nat->au} {v:au}
theorem Wp.K.s0(h:p.K Rs l M x w):p.K Rs (cz l 0) M (cB x 5 (dO p.z.T p.n)) w:=⟨h.f,h.out,λ_=>rfl,λa=>h.v1 a,λa=>h.v2 a,λa=>h.v3 a,λa=>h.v4 a,λa=>h.no a,λa=>h.v9 a,λa=>h.v11 a,λa=>h.val a⟩
theorem Wp.K.s1(h:p.K Rs l M x w):p.K Rs (cz l 1) M (cB x 6 (.int .i64 p.z.i)) w:=⟨h.f,h.out,λa=>h.v0 a,λ_=>rfl,λa=>h.v2 a,λa=>h.v3 a,λa=>h.v4 a,λa=>h.no a,λa=>h.v9 a,λa=>h.v11 a,λa=>h.val a⟩
theorem Wp.K.s2(h:p.K Rs l M x w):p.K Rs (cz l 2) M (cB x 7 (dO p.z.E p.n)) w:=⟨h.f,h.out,λa=>h.v0 a,λa=>h.v1 a,λ_=>rfl,λa=>h.v3 a,λa=>h.v4 a,λa=>h.no a,λa=>h.v9 a,λa=>h.v11 a,λa=>h.val a⟩
theorem Wp.K.s3(h:p.K Rs l M x w):p.K Rs (cz l 3) M (cB x 8 (.int .i64 p.z.i)) w:=⟨h.f,h.out,λa=>h.v0 a,λa=>h.v1 a,λa=>h.v2 a,λ_=>rfl,λa=>h.v4 a,λa=>h.no a,λa=>h.v9 a,λa=>h.v11 a,λa=>h.val a⟩
theorem Wp.K.s4(h:p.K Rs l M x w):p.K Rs (cz l 4) M (cB x 9 p.vP) w:=⟨h.f,h.out,λa=>h.v0 a,λa=>h.v1 a,λa=>h.v2 a,λa=>h.v3 a,λ_=>rfl,λa=>h.no a,λa=>h.v9 a,λa=>h.v11 a,λa=>h.val a⟩
theorem Wp.K.s5(h:p.K Rs l M x w){k:Nat->Prop}{f:au}(s:p.F a)(t:∀b,k b->¬p.z.all b)(o:j.oneCell'=aq)(r:f.oneCell'=aq)(u:Rs j f k a)(B:l 6=ax)(H:l 7=ax)(N:l 8=ax)(v:l 10=ax)(y:l 12=ax):p.K Rs (cz l 5) k (cB x 10 (.tuple #[j,f])) a:=⟨s,t,λc=>h.v0 c,λc=>h.v1 c,λc=>h.v2 c,λc=>h.v3 c,λc=>h.v4 c,λc=>absurd (show cz l 5 5=ax from c) (by rw[zj];simp),λc=>h.v9 c,λc=>h.v11 c,λ_=>⟨j,f,o,r,rfl,λc=>absurd (show l 6=aq from c) (by rw[B];simp),λc=>absurd (show l 7=aq from c) (by rw[H];simp),λc=>absurd (show l 8=aq from c) (by rw[N];simp),u,λc=>absurd (show l 10=aq from c) (by rw[v];simp),λc=>absurd (show l 12=aq from c) (by rw[y];simp)⟩⟩
theorem Wp.K.s6(h:p.K Rs l M x w):p.K Rs (cz l 6) M (cB x 4 (x 10)) w:=⟨h.f,h.out,λa=>h.v0 a,λa=>h.v1 a,λa=>h.v2 a,λa=>h.v3 a,λa=>h.v4 a,λa=>h.no a,λa=>h.v9 a,λa=>h.v11 a,λa=>by
  obtain⟨s,r,b,c,a3,a4,a5,j,k,o,a9⟩:=h.val a;exact⟨s,r,b,c,a3,λ_=>a3,a5,j,k,o,a9⟩⟩
theorem Wp.K.s9(h:p.K Rs l M x w):p.K Rs (cz l 9) M (cB x 13 (.pointer (ae ⟨p.z.T,p.z.i,af⟩))) w:=⟨h.f,h.out,λa=>h.v0 a,λa=>h.v1 a,λa=>h.v2 a,λa=>h.v3 a,λa=>h.v4 a,λa=>h.no a,λ_=>rfl,λa=>h.v11 a,λa=>h.val a⟩
theorem Wp.K.s11(h:p.K Rs l M x w):p.K Rs (cz l 11) M (cB x 14 (.pointer (ae ⟨p.z.E,p.z.i,af⟩))) w:=⟨h.f,h.out,λa=>h.v0 a,λa=>h.v1 a,λa=>h.v2 a,λa=>h.v3 a,λa=>h.v4 a,λa=>h.no a,λa=>h.v9 a,λ_=>rfl,λa=>h.val a⟩
end
section
variable (B1 B2 b8 b4 b7 b5:Nat) (x:Nat->au) (rest:List Nat)
theorem rD(i:Nat)(b:i<13)(a:i≠5):AtR (gR B1 B2 b8 b4 b7 b5 x (i::rest)) i:=by
 match i,b,a with
 |0,_,_=>exact bI
 |1,_,_=>exact bI
 |2,_,_=>exact bI
 |3,_,_=>exact bI
 |4,_,_=>exact bI
 |6,_,_=>exact bI
 |7,_,_=>exact bI
 |8,_,_=>exact bI
 |9,_,_=>exact bI
 |10,_,_=>exact bI
 |11,_,_=>exact bI
 |12,_,_=>exact bI
 |5,_,h=>exact absurd rfl h
 |n+13,h,_=>omega
end
section
variable {p:Wp} {w:ak} {M:Nat->Prop} {Rs:au->au->(Nat->Prop)->ak->Prop} {l:Nat->Bool} {x:Nat->au} {rest:List Nat} {Q:(Nat->Prop)->aX->ak->Prop}
noncomputable abbrev Wp.g(p:Wp)(x:Nat->au)(rest:List Nat):Goroutine:=gR p.B1 p.B2 p.b8 p.b4 p.b7 p.b5 x rest
theorem aj1{a:ak}(c:p.z.part b)(h:Ry p.z M w a)(f:w.cell? ⟨b,0,af⟩=ae j):a.cell? ⟨b,0,af⟩=ae j:=mu (h.part b c) f
theorem tN{g:aX}{i b:Nat}{t:aK}{y:bC}{v:au}(s:g.status=.running)(h:AtR g i)(o:(oG g).op=.load t y)(u:(aG g).eval y=.pointer (ae ⟨b,0,af⟩))(k:∀w,(mL t).run aj w=.ok ax w)(c:p.z.part b)(f:w.cell? ⟨b,0,af⟩=ae v)(l:cW aj p.z Q M (bz g v) w):cW aj p.z Q M g w:=by
 refine .look s (λa r=>⟨_,Gg h o u (k a) (aj1 c r f),λe j=> ?_⟩) l;have:=qw _ _ _ e j;subst this;exact .inl ⟨_,rfl,.inr (.inr ⟨c,rfl⟩)⟩
theorem cW.eqv{z:WZ}{g g':aX}(h:g=g')(a:cW aj z Q M g' w):cW aj z Q M g w:=h▸a
theorem J4{g:aX}{i:Nat}{t:aK}{y u:bC}(s:p.Ok)(hf:p.F w)(hM:∀h,M h->¬p.z.all h)(v:b=p.z.T\/b=p.z.E)(ac:g.status=.running)(a6:AtR g i)(ab:(oG g).op=.store t y u)(hx:(aG g).eval y=.pointer (ae ⟨b,p.z.i,af⟩))(hy:(aG g).eval u=j)(hv:j.oneCell'=aq)(hs:∀w,(ed t).run aj w=.ok 1 w)(hn:∀a,Ry p.z M w a->p.F (a.setCell ⟨b,p.z.i,af⟩ j)->(a.setCell ⟨b,p.z.i,af⟩ j).cell? ⟨b,p.z.i,af⟩=ae j->(∀h,h≠b->(a.setCell ⟨b,p.z.i,af⟩ j).heap[h]?=a.heap[h]?)->cW aj p.z Q M (bz g aN) (a.setCell ⟨b,p.z.i,af⟩ j)):cW aj p.z Q M g w:=by
 refine .step ac λa Z=> ?_;have R:=hf.ry s Z;have a7:∃c e,a.heap[b]?=ae (.cells c e (0,0))/\c.size=p.n:=by
  rcases v with rfl|rfl;·exact R.tT
  ·exact R.tE
 obtain⟨c,e,o,ad⟩:=a7;have W:p.z.i<c.size:=by rw[ad];exact s.lt
 have r:a.cell? ⟨b,p.z.i,af⟩=ae c[p.z.i]:=by simp[bL,o,W]
 have hz:a.frozen? ⟨b,p.z.i,af⟩=false:=by simp[gu,o]
 have k:=mG a ⟨b,p.z.i,af⟩ j;have a1:(a.setCell ⟨b,p.z.i,af⟩ j).heap[b]?=ae (.cells (c.setIfInBounds p.z.i j) e (0,0)):=by
  have ai:=(cq.1 o).1;simp[eK,fV,o]
 have x:∀B,nT B p.z.i a (a.setCell ⟨b,p.z.i,af⟩ j):=by
  intro B c' e' f' N;by_cases U:B=b
  ·subst U;rw[o]at N;cases N;exact⟨_,a1,az,λam hj=>by rw[nk (jm hj)]⟩
  ·exact⟨c',by rw[k.block _ U];exact N,rfl,λ_ _=>rfl⟩
 have a2:∀h,p.z.part h->h≠b:=λh l e=>by subst e;rcases v with e|e;exact s.out.1 (e▸l);exact s.out.2 (e▸l)
 have a8:p.F (a.setCell ⟨b,p.z.i,af⟩ j):=R.bK s (by rw[k.size];exact aL _) (λh l=>.of_eq (k.block h (a2 h l))) (λc e f r=>let ⟨c1,H,h,_⟩:=x _ c e f r;⟨c1,H,h⟩) (λc e f r=>let ⟨c1,H,h,_⟩:=x _ c e f r;⟨c1,H,h⟩);have aa:grow M a (a.setCell ⟨b,p.z.i,af⟩ j)=M:=vO ..;refine⟨_,_,_,Gi a6 ab hx hy hv (hs a) r hz,⟨by rw[k.size];exact aL _,λh l al hT hE hp=>k.block h λe=>by subst e;rcases v with e|e;exact hT e;exact hE e,λh l=>.of_eq (k.block h (a2 h l)),x _,x _,k.tape,k.os,k.output,λe he=> ?_⟩,?_⟩
 ·have:=qw _ _ _ e he;subst this;exact .inl ⟨_,rfl,.inr (.inl ⟨v,rfl⟩)⟩
 ·rw[aa];exact hn a Z a8 (by simp[bL,a1,W]) λh l=>k.block h l
end
section
variable {p:Wp} {w:ak} {M:Nat->Prop} {Rs:au->au->(Nat->Prop)->ak->Prop} {l:Nat->Bool} {x:Nat->au} {rest:List Nat} {Q:(Nat->Prop)->aX->ak->Prop}
theorem addr_add(b k:Nat):(⟨b,0,af⟩:aH).add ((k:Int).toNat*1)=⟨b,k,af⟩:=by
 simp only[vf,H4,tj];split;·rename_i h;rw[h]
 ·simp
def Wp.Call(p:Wp)(Rs:au->au->(Nat->Prop)->ak->Prop)(Q:(Nat->Prop)->aX->ak->Prop):Prop:=
 ∀w c k,p.F w->(∀a h f j,(∀b,a b->¬p.z.all b)->p.F j->h.oneCell'=aq->f.oneCell'=aq->Rs h f a j->cW aj p.z Q a (aw (c.finish (.tuple #[h,f])) k) j)-> cW aj p.z Q (λ_=>False) (aw (bG aj 90 #[p.vP] .normal) (c::k)) w
theorem at3(ok:p.Ok)(am:∀u t M w a,(∀b,M b->a.heap[b]?=w.heap[b]?)->Rs u t M w->Rs u t M a)(ao:p.Call Rs Q):∀l M x w i rest,p.K Rs l M x w->i<13->l i=ax->Nd i l->Cl l->(∀M' x' w',p.K Rs (cz l i) M' x' w'->cW aj p.z Q M' (p.g x' rest) w')->cW aj p.z Q M (p.g x (i::rest)) w:=by
 intro l M x w i rest c hi r o s k;obtain⟨h8,h4,h7,h5,hg,hf⟩:=ok.part
 match i,hi,r,o,k with
 |0,_,r,_,k=>
  exact tN (t:=69) (y:=.tmp 1) ah (rD _ _ _ _ _ _ x rest 0 bc bc) ah ah Hj h4 c.f.c4 (.eqv ah (k _ _ _ c.s0))
 |1,_,r,_,k=>
  exact tN (t:=3) (y:=.tmp 2) ah (rD _ _ _ _ _ _ x rest 1 bc bc) ah ah ib h7 c.f.c7 (.eqv ah (k _ _ _ c.s1))
 |2,_,r,_,k=>
  exact tN (t:=127) (y:=.tmp 3) ah (rD _ _ _ _ _ _ x rest 2 bc bc) ah ah aD5 h5 c.f.c5 (.eqv ah (k _ _ _ c.s2))
 |3,_,r,_,k=>
  exact tN (t:=3) (y:=.tmp 2) ah (rD _ _ _ _ _ _ x rest 3 bc bc) ah ah ib h7 c.f.c7 (.eqv ah (k _ _ _ c.s3))
 |4,_,r,_,k=>
  exact tN (t:=102) (y:=.tmp 0) ah (rD _ _ _ _ _ _ x rest 4 bc bc) ah ah aD6 h8 c.f.c8 (.eqv ah (k _ _ _ c.s4))
 |5,_,r,o,k=>
  have tf:∀{ad},(l ad=aq->l 5=aq)->l ad=false:=λ{ad} h=>by
   cases e:l ad with
   |false=>rfl
   |true=>rw[h e]at r;cases r
  have ai:l 6=aq->l 5=true:=λh=>s 6 bc h;have al:l 9=aq->l 5=true:=λh=>(s 9 bc h).2.2.2.2.2.1;have e0:M=λ_=>False:=funext λb=>propext ⟨λh=>c.no r b h,aK4⟩;subst e0;refine .ctl (g':=aw (bG aj 90 #[x 9] .normal) ((p.g x (5::rest)).frame::cK p.B1 p.B2 p.b8 p.b4 p.b7 p.b5::vF p.B1 p.B2 p.b8 p.b4 p.b7 p.b5)) ah (λw=>ah) ?_;rw[c.v4 o];refine ao w _ _ c.f λM' u t w' ho ab o1 o2 Z=>.eqv ah (k M' (cB x 10 (.tuple #[u,t])) w' (c.s5 ab ho o1 o2 Z (tf ai) (tf λh=>ai (s 7 bc h)) (tf λh=>ai (s 8 bc h)) (tf λh=>al (s 10 bc h)) (tf λh=>al (s 10 bc (s 11 bc (s 12 bc h)).2))))
 |6,_,r,o,k=>
  exact .ctl (g':=p.g (cB x 4 (x 10)) rest) ah (λw=>ah) (k _ _ _ c.s6)
 |7,_,r,o,k=>
  obtain⟨u,t,v,y,a3,a4,a5,B,H,W,a9⟩:=c.val (s 6 bc o);have ac:=a4 o;rw[<-gU ac];refine .ctl (g':=p.g (cB (cB x 4 (.tuple #[u,t])) 11 u) rest) ah (λw=>ah) ?_;rw[gU ac];exact k _ _ _ ⟨c.f,c.out,λj=>c.v0 j,λj=>c.v1 j,λj=>c.v2 j,λj=>c.v3 j,λj=>c.v4 j,λj=>c.no j,λj=>c.v9 j,λj=>c.v11 j,λj=>⟨u,t,v,y,a3,a4,λ_=>rfl,B,H,W,a9⟩⟩
 |8,_,r,o,k=>
  obtain⟨u,t,v,y,a3,a4,a5,B,H,W,a9⟩:=c.val (s 6 bc o);have ac:=a4 o;rw[<-gU ac];refine .ctl (g':=p.g (cB (cB x 4 (.tuple #[u,t])) 12 t) rest) ah (λw=>ah) ?_;rw[gU ac];exact k _ _ _ ⟨c.f,c.out,λj=>c.v0 j,λj=>c.v1 j,λj=>c.v2 j,λj=>c.v3 j,λj=>c.v4 j,λj=>c.no j,λj=>c.v9 j,λj=>c.v11 j,λj=>⟨u,t,v,y,a3,a4,a5,λ_=>rfl,H,W,a9⟩⟩
 |9,_,r,o,k=>
  have N:(aG (p.g x (9::rest))).eval (.tmp 5)=x 5:=ah;have R:(aG (p.g x (9::rest))).eval (.tmp 6)=x 6:=ah;have ap:=ok.lt;refine .ctl (g':=bz (p.g x (9::rest)) (.pointer (ae ⟨p.z.T,p.z.i,af⟩))) ah (λw=> ?_) (.eqv ah (k _ _ _ c.s9));have:=C9 (P:=aj) (main:=ax) (w:=w) (rD p.B1 p.B2 p.b8 p.b4 p.b7 p.b5 x rest 9 bc bc) (t:=69) (x:=.tmp 5) (y:=.tmp 6) (e:=56) (n:=1) ah (N.trans (c.v0 o.1)) (R.trans (c.v1 o.2.1)) ⟨ag,ag⟩ (NM w) (CS w);rw[this,addr_add]
 |10,_,r,o,k=>
  have U:=s 9 bc o;obtain⟨u,t,v,y,a3,a4,a5,B,H,W,a9⟩:=c.val U.2.2.2.2.2.1;have N:(aG (p.g x (10::rest))).eval (.tmp 13)=x 13:=ah;have R:(aG (p.g x (10::rest))).eval (.tmp 11)=x 11:=ah;have an:l 11=false:=by
   cases e:l 11 with
   |false=>rfl
   |true=>rw[(s 11 bc e).2]at r;cases r
  have ar:l 12=false:=by
   cases e:l 12 with
   |false=>rfl
   |true=>rw[s 12 bc e]at an;cases an
  refine J4 ok c.f c.out (.inl rfl) ah (rD _ _ _ _ _ _ x rest 10 bc bc) (t:=56) (y:=.tmp 13) (u:=.tmp 11) ah (N.trans (c.v9 o)) (R.trans (a5 U.2.2.2.2.2.2.2)) v CS λa Z ab hc hb=> ?_;have hM:∀b,M b->(a.setCell ⟨p.z.T,p.z.i,af⟩ u).heap[b]?=w.heap[b]?:=λb aa=>(hb b λe=>c.out b aa (.inl e)).trans (Z.own b aa);refine .eqv ah (k M x _ ⟨ab,c.out,λj=>c.v0 j,λj=>c.v1 j,λj=>c.v2 j,λj=>c.v3 j,λj=>c.v4 j,λj=>c.no j,λj=>c.v9 j,λj=>c.v11 j,λj=>⟨u,t,v,y,a3,a4,a5,B,am _ _ _ _ _ hM H,λ_=>hc,λj=>absurd (show l 12=aq from j) (by rw[ar];simp)⟩⟩)
 |11,_,r,o,k=>
  have U:=s 9 bc (s 10 bc o.2);have N:(aG (p.g x (11::rest))).eval (.tmp 7)=x 7:=ah;have R:(aG (p.g x (11::rest))).eval (.tmp 8)=x 8:=ah;have ap:=ok.lt;refine .ctl (g':=bz (p.g x (11::rest)) (.pointer (ae ⟨p.z.E,p.z.i,af⟩))) ah (λw=> ?_) (.eqv ah (k _ _ _ c.s11));have:=C9 (P:=aj) (main:=ax) (w:=w) (rD p.B1 p.B2 p.b8 p.b4 p.b7 p.b5 x rest 11 bc bc) (t:=127) (x:=.tmp 7) (y:=.tmp 8) (e:=78) (n:=1) ah (N.trans (c.v2 U.2.2.1)) (R.trans (c.v3 U.2.2.2.1)) ⟨ag,ag⟩ (aw8 w) (OG w);rw[this,addr_add]
 |12,_,r,o,k=>
  have eO:=s 11 bc o;have U:=s 9 bc (s 10 bc eO.2);obtain⟨u,t,v,y,a3,a4,a5,B,H,W,a9⟩:=c.val U.2.2.2.2.2.1;have N:(aG (p.g x (12::rest))).eval (.tmp 14)=x 14:=ah;have R:(aG (p.g x (12::rest))).eval (.tmp 12)=x 12:=ah;refine J4 ok c.f c.out (.inr rfl) ah (rD _ _ _ _ _ _ x rest 12 bc bc) (t:=78) (y:=.tmp 14) (u:=.tmp 12) ah (N.trans (c.v11 o)) (R.trans (B eO.1)) y OG λa Z ab hc hb=> ?_;have hM:∀b,M b->(a.setCell ⟨p.z.E,p.z.i,af⟩ t).heap[b]?=w.heap[b]?:=λb aa=>(hb b λe=>c.out b aa (.inr (.inl e))).trans (Z.own b aa);have hT:(a.setCell ⟨p.z.E,p.z.i,af⟩ t).cell? ⟨p.z.T,p.z.i,af⟩=ae u:=by
   have h1:=FG Z.mj (W eO.2);unfold bL at h1⊢;rw[hb _ ok.ne];exact h1
  refine .eqv ah (k M x _ ⟨ab,c.out,λj=>c.v0 j,λj=>c.v1 j,λj=>c.v2 j,λj=>c.v3 j,λj=>c.v4 j,λj=>c.no j,λj=>c.v9 j,λj=>c.v11 j,λj=>⟨u,t,v,y,a3,a4,a5,B,am _ _ _ _ _ hM H,λ_=>hT,λ_=>hc⟩⟩)
 |n+13,hi,_,_,_=>omega
theorem at1{C:FC}{x:Nat}(y:C.P=aj)(ai:C.ty=135)(t:p.Ok)(hz:p.z.T=C.T/\p.z.E=C.E/\p.z.i=x-C.m)(ab:p.Wg=C.Wg)(N:p.F w)(B:∀j k M w a,(∀b,M b->a.heap[b]?=w.heap[b]?)->Rs j k M w->Rs j k M a)(ac:p.Call Rs (C.pr x))(Z:∀j k M w,Rs j k M w->w.cell? ⟨C.E,x-C.m,af⟩=ae k->C.Res x j M w):cW C.P p.z (C.pr x) (λ_=>False) (uf p.B1 p.B2) w:=by
 rw[y];obtain⟨h8,h4,h7,h5,hg,ad⟩:=t.part;refine .K 7 ?_;refine tN (p:=p) (t:=1) (y:=.tmp 1) (i:=0) (b:=p.B2) (v:=nW p.b8 p.b4 p.b7 p.b5) ah bI ah ah Tryz.isAgg1 ad N.cf ?_;refine .K 1 ?_;change cW aj p.z (C.pr x) (λ_=>False) (oR p.B1 p.B2 p.b8 p.b4 p.b7 p.b5) w;refine QP p.B1 p.B2 p.b8 p.b4 p.b7 p.b5 (K:=p.K Rs) (λa o=> ?_) (at3 t B ac) λl M an a v r=> ?_
 ·have h:=N.ry t o;refine⟨⟨h.c8,h.c4,h.c7,h.c5,h.cg,h.cf,h.tT,h.tE,h.all,h.yU,h.kR⟩,λb s=>s.elim,λc=>(by cases c),λc=>(by cases c),λc=>(by cases c),λc=>(by cases c),λc=>(by cases c),λ_ b=>id,λc=>(by cases c),λc=>(by cases c),λc=>(by cases c)⟩
 ·obtain⟨j,k,a1,a2,a3,a4,a5,a6,R,U,a9⟩:=v.val (r 5 bc);have aa:=U (r 10 bc);have W:=a9 (r 12 bc);refine .K 3 (.eqv (g':=aw ((cK p.B1 p.B2 p.b8 p.b4 p.b7 p.b5).finish (.tuple #[])) (vF p.B1 p.B2 p.b8 p.b4 p.b7 p.b5)) ah ?_);refine .K 17 ?_;refine tN (p:=p) (t:=140) (y:=.tmp 0) (i:=0) (b:=p.B1) (v:=jR p.Wg) ah bI ah ah OI hg v.f.cg ?_;refine .K 4 ?_;change cW aj p.z (C.pr x) M (r7 p.Wg p.B1 p.B2 p.b8 p.b4 p.b7 p.b5) a;refine .done λw2 o=>⟨ah,λal=> ?_⟩;have H:=FG o.mj aa;have u:=FG o.pk W;obtain⟨z1,z2,z3⟩:=hz;rw[z1,z3]at H;rw[z2,z3]at u;rw[ab];obtain⟨am,hk⟩:=Zp (x:=x) (v:=j) (B1:=p.B1) (B2:=p.B2) (b8:=p.b8) (b4:=p.b4) (b7:=p.b7) (b5:=p.b5) y ai al H;exact⟨j,am,hk,Z _ _ _ _ (B _ _ _ _ _ (λb s=>o.own b s) R) u⟩
end
def nj:List Nat:=[24,48,50,64,66,67,75,76,77,78,79,80,81,82,90,92]
def wC(P:aV)(a:List Nat)(fz:Bool)(vs:List Nat)(f:Nat):Bool:=
 match P.funcs[f]? with
 |some fn=> !(fn.name== "runtime.NumGoroutine")&&(match fn.body with|some c=>mi P a fz vs c|none=>ax)
 |none=>ax
theorem wok:nj.all (wC aj nj ax [])=true:=ah
def fj:List Nat:=[8,9,10,12,13,14,16,17,18,19,20,21,23,24,25,26,29,30,31,32,33,34,35,36,37,40,41,45,46,47,48,49,50,51,52,53,54,55,56,57,58,63,64,65,66,67,68,69,70,71,72,74,75,76,77,78,79,80,81,82,83,84,85,86,87,90,92]
theorem Yn:(fj.filter λf=>f !=40&&f !=65&&f !=54).all (wC aj fj aq [71])=true:=ah
def Bw(P:aV):Nat->aK->Bool
 |0,_=>aq
 |d+1,t=>match P.underlying t with
  |some (.struct a)=>a.all λf=>Bw P d f.type
  |some (.array _ e)=>Bw P d e
  |some (.float _)|some (.complex _)=>ax
  |_=>aq
theorem Fg{P:aV}:∀(d c:Nat) {t:aK},Bw P d t=aq->c<=d->∀off v,Dj P c t off=ae v->(∃b,v=.bool b)\/∃k n,v=.int k n
 |_,0,t,h,j,off,v,a=>by simp[Dj]at a
 |0,c+1,t,h,j,off,v,a=>ag
 |d+1,c+1,t,h,j,off,v,a=>by
  unfold Dj at a;unfold Bw at h;cases l:P.underlying t with
  |none=>rw[l]at a;cases a
  |some o=>
   rw[l]at a h;cases o with
   |struct r=>
    dsimp only at a h;obtain⟨f,p,a⟩:=Array.exists_of_findSome?_eq_some a;split at a;·exact Fg d c ((jh.1 h) f p) ag _ v a
    ·cases a
   |array n e=>
    dsimp only at a h;split at a;·cases a
    ·exact Fg d c h ag _ v a
   |bool=>
    dsimp only at a;split at a;·cases a;exact .inl ⟨_,rfl⟩
    ·cases a
   |int k=>
    dsimp only at a;split at a;·cases a;exact .inr ⟨_,_,rfl⟩
    ·cases a
   |float k=>cases h
   |complex k=>cases h
   |_=>cases a
theorem YB:gP aj 71:=Fg aj.depth aj.depth ah (aL _)
theorem BD{P:aV}{f vs:List Nat}{fz:Bool}(h:wC P f fz vs b=aq):∃fn c,P.funcs[b]?=ae fn/\(fn.name== "runtime.NumGoroutine")=ax/\fn.body=ae c/\mi P f fz vs c=true:=by
 unfold wC at h;cases j:P.funcs[b]? with
 |none=>rw[j]at h;cases h
 |some fn=>
  rw[j]at h;dsimp only at h;rw[dj]at h;cases a:fn.body with
  |none=>rw[a]at h;cases h.2
  |some c=>
   rw[a]at h;exact⟨fn,c,rfl,by simpa using h.1,a,h.2⟩
theorem GG:Good (ctx aj nj ax []) aj nj ax []:=by
 have k:∀f,nj.contains f=aq->wC aj nj ax [] f=true:=λf a=>(eJ.1 wok) f (by simpa using a);refine⟨rfl,⟨λf a=> ?_⟩,λf fn c a p o=> ?_⟩
 ·obtain⟨fn,c,b,j,h,_⟩:=BD (k f a);exact⟨fn,b,j,.inl ⟨c,h⟩⟩
 ·obtain⟨s,r,b,j,h,l⟩:=BD (k f a);rw[show aj.funcs[f]?=ae fn from p]at b;cases b;rw[o]at h;cases h;exact l
theorem Jm:∃fn,aj.funcs[40]?=ae fn/\(fn.name== "runtime.NumGoroutine")=ax/\fn.body=af/\zQ fn=af/\uZ fn=ae (zH .ptr):=⟨aj.funcs.getD 40 fM,ah,ah,ah,ah,ah⟩
theorem Jn:∃fn,aj.funcs[65]?=ae fn/\(fn.name== "runtime.NumGoroutine")=ax/\fn.body=af/\zQ fn=af/\uZ fn=ae (sR .ptr):=⟨aj.funcs.getD 65 fM,ah,ah,ah,ah,ah⟩
theorem Jl:∃fn,aj.funcs[54]?=ae fn/\(fn.name== "runtime.NumGoroutine")=ax/\fn.body=af/\zQ fn=af/\uZ fn=ae Extern.Atomic.storeT:=⟨aj.funcs.getD 54 fM,ah,ah,ah,ah,ah⟩
theorem ad0{X:Ctx}{R:BR}{o f:Array au}(h:bq X.G R o f):aD X (VX X) R (GR o) (GR f):=by
 obtain⟨l⟩:=o;obtain⟨c⟩:=f
 match l,c,h with
 |[],c,h=>exact bu _ _
 |[_],c,h=>exact bu _ _
 |_::_::_::_,c,h=>exact .dead (by unfold GR;exact .stuck _)
 |[a,b],[],h=>exact absurd h.1 az
 |[a,b],[_],h=>exact absurd h.1 az
 |[a,b],_::_::_::_,h=>exact absurd h.1 az
 |[a,b],[j,k],h=>
  have r:=h.2 0 a j rfl rfl;have s:=h.2 1 b k rfl rfl;exact(yZ r).bind λu p x v t=>aD.bn (FX t (s.mono p.sub) .atomic) λ_ _ _=>.pure bq.nil.tuple
theorem sB:Good (ctx aj fj aq [71]) aj fj aq [71]:=by
 have y:∀f,fj.contains f=aq->f≠40->f≠65->f≠54->wC aj fj aq [71] f=true:=λf p a j b=>(eJ.1 Yn) f (by simp[a,j,b];simpa using p);refine⟨rfl,⟨λf p=> ?_⟩,λf fn c p x v=> ?_⟩
 ·by_cases a:f=40
  ·subst a;obtain⟨fn,a,j,b,k,l⟩:=Jm;exact⟨fn,a,j,.inr ⟨b,k,_,l,λR o u _ h=>ab8 h⟩⟩
  ·by_cases j:f=65
   ·subst j;obtain⟨fn,a,j,b,k,l⟩:=Jn;exact⟨fn,a,j,.inr ⟨b,k,_,l,λR o u w h=>aa0 rfl w h⟩⟩
   ·by_cases b:f=54
    ·subst b;obtain⟨fn,a,j,b,k,l⟩:=Jl;exact⟨fn,a,j,.inr ⟨b,k,_,l,λR o u w h=>ad0 h⟩⟩
    ·obtain⟨fn,c,r,k2,s,_⟩:=BD (y f p a j b);exact⟨fn,r,k2,.inl ⟨c,s⟩⟩
 ·have t:∀n,(∃fn,aj.funcs[n]?=ae fn/\(fn.name== "runtime.NumGoroutine")=ax/\fn.body=af/\True)->f≠n:=by
   rintro n ⟨a6,r,_,s,_⟩ rfl;rw[show aj.funcs[f]?=ae fn from x]at r;cases r;rw[v]at s;cases s
  obtain⟨x1,B,H,a3,_⟩:=Jm;obtain⟨x2,N,U,W,_⟩:=Jn;obtain⟨x3,Z,d2,d3,_⟩:=Jl;obtain⟨a6,c',a,j,b,k⟩:=BD (y f p (t 40 ⟨x1,B,H,a3,trivial⟩) (t 65 ⟨x2,N,U,W,trivial⟩) (t 54 ⟨x3,Z,d2,d3,trivial⟩));rw[show aj.funcs[f]?=ae fn from x]at a;cases a;rw[v]at b;cases b;exact k
theorem wi:∀u,(ctx aj fj aq [71]).vw u->gP (ctx aj fj aq [71]).P u:=by
 intro u a;have:u=71:=by
  have:[71].contains u=true:=a;simpa using this
 subst this;exact YB
