/- Own texts: LeafC, LeafD, LeafE, PureB, Rep. -/
import Derived.Test.YtcgjppacnhmjlaaGreatML
import Derived.Deep.RegionHeld3
import Derived.Deep.RegionLawGrows
import Derived.Deep.AppendSrc
import Derived.Deep.AppendLies
import Derived.Deep.DrawnRows
set_option linter.all false
set_option maxRecDepth 100000
set_option maxHeartbeats 1000000
open Array renaming getElem?_eq_some_iff->cq,getElem?_toList->zF
open Bool renaming true->aq,false->ax,eq_iff_iff->xx
open Decidable renaming decide->aM
open Go renaming World->ak,Value->au,cell_later->aS,Calls->aE,TypeId->aK,heap_alloc_new->cY,Program->aV,Addr->aH,Operand->bC,execOp->bp,maxLen->cE,wp_loop_rounds->mE,Oper->bR,yielded->fN,rounds_succ->mH,info_parts->nF,resolve->mI,TypeInfo->qI,invoke->pL,Obj->dV,run_append_room_src->Od,step_append_grows->Oq,Act->gx,builtin->Af,Exit->s8
open Go.Addr renaming add_lit->jF
open Go.Builtin renaming append->H8
open Go.Callee renaming builtin->H9
open Go.Calls renaming quiet_of_same->Cx,quiet_of->Ou
open Go.Ending renaming returned->sX
open Go.IntKind renaming i64->cZ,wrap_i64->ft
open Go.Op renaming call->I7
open Go.Oper renaming wp->xQ
open Go.Proofs.Tryz renaming prog->aj,underlying69->kH,func67->OY,ntmps85->aE5,ntmps80->aE7,ntmps78->aE8,ntmps67->aE9,func85->aH9,func80->aI1,func78->aI2
open Go.Region renaming wanted->iJ
open Go.Result renaming andThen->rP
open Go.RowKit renaming Below->aA,Hid->aB
open Go.RowKit.Below renaming refl->cD,grown->pI
open Go.Value renaming oneCell'->qF
open Go.World renaming block_lt_of_cell?->cC,cell?->bL,cell?_of_block->gV,news_of_block->qA,shape?->xA
open Int renaming natCast_nonneg->qC
open List renaming getElem?_eq_getElem->bf,getElem?_eq_some_iff->cu,mem_cons->dk,mem_append->dU,getElem?_map->iI,getElem?_eq_none->lI,pairwise_cons->kZ,mem_map->iL,getElem?_take->nv,getElem?_drop->ny,length->jk,nil_append->nB,append_nil->og,mem_iff_getElem?->uT,prefix_append->sS,pairwise_append->uU,exists_mem_of_ne_nil->zA,flatten_cons->uX,length_map->sY,drop_eq_nil_of_le->zD,mem_singleton->xn,pairwise_iff_getElem->Cu,exists_cons_of_ne_nil->GO,prefix_iff_getElem?->NC,take_sublist->O9,drop_sublist->Ob,flatten_nil->Oh,append_cancel_left->aw4
open List.Pairwise renaming nil->nA,sublist->uR
open Nat renaming le_refl->aL,le_trans->bT,zero_le->fL,zero_add->ia,lt_or_ge->l9,lt_trichotomy->sV,lt_or_eq_of_le->xp,add_zero->th,not_lt_zero->xy,add_assoc->CU,le_of_lt_succ->aA1
open Option renaming some->ae,none->af,map_eq_some_iff->ji
open Option.some renaming inj->er,injEq->iY
open UInt8 renaming lt_irrefl->jE,lt_trans->rQ,not_lt->OJ
namespace Go.Proofs.YtcgjppacnhmjlaaGreat
open Go.RowKit
variable {f l:UInt8} {a h k W:List UInt8} {c p:Nat} {b j w:ak} {r:List Nat} {a2:dV} {R:Array bR} {t:bR} {v:gx} {U:gx->ak->Prop} {a6:s8->gx->ak->Prop} {x:aK} {u:au} {y:List au} {o Z:Nat->Prop} {H:ByteArray} {N:Option aH}
theorem FK(b B:Nat)(pre:ByteArray)(c:UInt8)(m:Nat)(w:ak)(j:w.cell? ⟨b,0,af⟩=ae (.string pre))(f:w.cell? ⟨B,0,af⟩=ae (.int .i64 m))(h:m<pre.size)(k:pre.size<=1000000):aE aj 81 #[.pointer (ae ⟨b,0,af⟩),.int .u8 c.toNat,.pointer (ae ⟨B,0,af⟩)] w λe a=>e=.returned (.int .i64 (lX pre[m] c))/\∃n,a=w.drewN n:=by
 go_enter Tryz.func81,Tryz.ntmps81
 go_wp2
 go_quiet ((go_at_call 82;exact Cx (AL _ _ _)))
 go_wp2
 go_ret
 exact⟨rfl,_,rfl⟩
theorem J1:lX f l<0↔f<l:=by
 unfold lX;constructor
 ·intro h;by_cases a:f<l;·exact a
  ·rw[if_neg a]at h;split at h<;>omega
 ·intro h;rw[if_pos h];decide
theorem QN:lX f l=0↔f=l:=by
 unfold lX;constructor
 ·intro h;by_cases a:f<l;·rw[if_pos a]at h;omega
  ·rw[if_neg a]at h;by_cases b:l<f;·rw[if_pos b]at h;omega
   ·exact UInt8.le_antisymm (OJ.mp b) (OJ.mp a)
 ·rintro rfl;simp[jE]
def mO(w:ak)(m:Nat)(a:List Nat)(c:List UInt8):Prop:=
 a.length=c.length/\∀(i b:Nat) (x:UInt8),a[i]?=ae b->c[i]?=ae x->∃p:ByteArray,w.cell? ⟨b,0,af⟩=ae (.string p)/\p.size<=1000000/\∃h:m<p.size,p[m]=x
theorem M1(h:a.Pairwise (·<·)){i:Nat}(o:a[i]?=ae f)(p:a[c]?=ae l)(k:i<c):f<l:=by
 obtain⟨b,rfl⟩:=cu.mp o;obtain⟨j,rfl⟩:=cu.mp p;exact Cu.mp h i c b j k
theorem BX{f g:Bool}(h:c=p)(a:f=g):sX (.tuple #[.int .i64 (c:Int),.bool f])=.returned (.tuple #[.int .i64 (p:Int),.bool g]):=by rw[h,a]
theorem aj8(a1 a2 cap B m:Nat)(c:UInt8)(k:List Nat)(j:List UInt8)(w:ak)(hb:eH w a1 a2 k)(hx:mO w m k j)(ao:k.length<=256)(ab:j.Pairwise (·<·))(hB:w.cell? ⟨B,0,af⟩=ae (.int .i64 m)):aE aj 80 #[.slice (ae ⟨a1,a2,af⟩) k.length cap,.int .u8 c.toNat,.func (.func 81) #[] #[.pointer (ae ⟨B,0,af⟩)]] w λe w'=>e=.returned (.tuple #[.int .i64 (posOf c j),.bool (aM (j[posOf c j]?=ae c))])/\∃n,w'=w.drewN n:=by
 have HB:aB (eH w a1 a2 k):=hb;have l:aB (mO w m k j):=hx;have HP:aB (j.Pairwise (·<·)):=ab;clear hb hx ab;generalize aa:posOf c j=q;have HQ:aB (posOf c j=q):=aa;clear aa;generalize a6:aM (j[q]?=ae c)=ai;have HF:aB (aM (j[q]?=ae c)=ai):=a6;clear a6
 go_enter aI1,aE7
 go_wp2
 go_loopg [9,10] k.length (λgk s9 am wr=>∃a f:Nat,s9=.int .i64 a/\am=.int .i64 f/\a<=f/\f<=k.length/\f-a<=gk/\(∃n,wr=w.drewN n)/\
  aB ((∀(t:Nat) x,t<a->j[t]?=ae x->x<c)/\(∀(t:Nat) x,f<=t->j[t]?=ae x->¬x<c)))
 case atStart=>
  exact⟨0,k.length,rfl,rfl,fL _,aL _,ag,⟨0,rfl⟩,⟨λt x H=>absurd H (xy _),λt x h1 h2=>by
   have:=(cu.mp h2).1;have:=l.out.1;omega⟩⟩
 case round=>
  obtain⟨a,f,rfl,rfl,ap,a7,hg,⟨nd,rfl⟩,I⟩:=hrel;by_cases ar:a<f
  ·have a8:(a+f)/2<k.length:=ag;obtain⟨b,o⟩:∃b,k[(a+f)/2]?=ae b:=⟨k[(a+f)/2],bf a8⟩;obtain⟨x,r⟩:∃x,j[(a+f)/2]?=ae x:=⟨j[(a+f)/2]'(by rw[<-l.out.1];exact a8),bf _⟩;obtain⟨p,U,Z,W,y⟩:=l.out.2 _ _ _ o r;have al:=HB.out _ _ o;have u:aB (j[(a+f)/2]?=ae x):=r;have R:aB (p[m]=x):=y;clear o r y;have HD:aB ((lX p[m] c<0->x<c)/\(¬lX p[m] c<0->¬x<c)):=⟨λh=>R.out▸J1.mp h,λh h2=>h (J1.mpr (R.out▸h2))⟩;by_cases ac:lX p[m] c<0
   ·have HE:aB (x<c):=HD.out.1 ac
    go_wp2_with (go_at_call 81;refine(FK b B p c m _ (by simpa using U) (by simpa using hB) W Z).mono ?_;rintro e w' ⟨rfl,nq,rfl⟩)
    go_roundg (f-((a+f)/2+1))
    case measure=>omega
    case rel=>
     have I2:aB ((∀(t:Nat) x,t<(a+f)/2+1->j[t]?=ae x->x<c)/\(∀(t:Nat) x,f<=t->j[t]?=ae x->¬x<c)):=by
      refine⟨λt an H s=> ?_,I.out.2⟩;have N:x<c:=HE.out;rcases xp (aA1 H)with h|h;·exact rQ (M1 HP.out s u.out h) N
      ·subst h;rw[u.out]at s;exact er s▸N
     exact⟨(a+f)/2+1,f,by rw[show((a:Int)+(f:Int))/2+1=(((a+f)/2+1:Nat):Int) by omega],rfl,by omega,a7,aL _,⟨_,rfl⟩,I2⟩
   ·have HE:aB (¬x<c):=HD.out.2 ac
    go_wp2_with (go_at_call 81;refine(FK b B p c m _ (by simpa using U) (by simpa using hB) W Z).mono ?_;rintro e w' ⟨rfl,nq,rfl⟩)
    go_roundg ((a+f)/2-a)
    case measure=>omega
    case rel=>
     have I2:aB ((∀(t:Nat) x,t<a->j[t]?=ae x->x<c)/\(∀(t:Nat) x,(a+f)/2<=t->j[t]?=ae x->¬x<c)):=by
      refine⟨I.out.1,λt an H s=> ?_⟩;have N:¬x<c:=HE.out;rcases xp H with h|h
      ·have:=M1 HP.out u.out s h;exact λh3=>N (rQ this h3)
      ·rw[<-h,u.out]at s;exact er s▸N
     exact⟨a,(a+f)/2,rfl,by rw[show((a:Int)+(f:Int))/2=(((a+f)/2:Nat):Int) by omega],by omega,by omega,aL _,⟨_,rfl⟩,I2⟩
  ·have ad:a=f:=ag;subst ad;have eq:a=q:=by
    rw[<-HQ.out];exact(LQ c j a (by rw[<-l.out.1];exact a7) I.out.1 I.out.2).symm
   by_cases hl:a<k.length
   ·obtain⟨b,o⟩:∃b,k[a]?=ae b:=⟨k[a],bf hl⟩;obtain⟨x,r⟩:∃x,j[a]?=ae x:=⟨j[a]'(by rw[<-l.out.1];exact hl),bf _⟩;obtain⟨p,U,Z,W,y⟩:=l.out.2 _ _ _ o r;have al:=HB.out _ _ o;have u:aB (j[a]?=ae x):=r;have R:aB (p[m]=x):=y;have v:aB (a=q):=eq;clear o r y eq
    go_wp2_with (go_at_call 81;refine(FK b B p c m _ (by simpa using U) (by simpa using hB) W Z).mono ?_;rintro e w' ⟨rfl,nq,rfl⟩)
    go_ret2
    refine⟨?_,_,by first|rfl|exact World.drewN_drewN _ _ _⟩;exact BX v.out (by
     rw[<-HF.out,<-v.out,u.out,<-R.out,xx];simp only[beq_iff_eq,decide_eq_true_eq,iY];exact QN)
   ·have v:aB (a=q):=eq;clear eq
    go_wp2
    go_ret2
    refine⟨?_,_,rfl⟩;exact BX v.out (by
     rw[<-HF.out,<-v.out,lI (by rw[<-l.out.1];omega)];rfl)
theorem aj7(B:Nat)(c:UInt8)(w:ak):aE aj 80 #[.slice af 0 0,.int .u8 c.toNat,.func (.func 81) #[] #[.pointer (ae ⟨B,0,af⟩)]] w λe a=>e=.returned (.tuple #[.int .i64 0,.bool ax])/\a=w:=by
 go_enter aI1,aE7
 go_wp2
 refine mE 1 ?_;rw[mH]
 go_wp2
 go_ret2
 exact⟨rfl,rfl⟩
theorem kr(h:aA c b j)(q:Nat):aA c b (j.drewN q):=⟨h.os,h.tape,h.output,h.size,h.block⟩
theorem mO.later{m:Nat}(h:mO b m r a)(s:aA b.heap.size b j):mO j m r a:=⟨h.1,λi c x f k=>by obtain⟨p,l,o⟩:=h.2 i c x f k;exact⟨p,aS s l,o⟩⟩
theorem eH.later(h:eH b c p r)(k:aA b.heap.size b j):eH j c p r:=λi a f=>aS k (h i a f)
theorem Zl(b:Nat)(pre key:ByteArray)(k o cap:Nat)(c:List Nat)(a:List UInt8)(w:ak)(R:w.cell? ⟨b,0,af⟩=ae (.string pre))(B:w.cell? ⟨b,2,af⟩=ae (.slice (ae ⟨k,o,af⟩) c.length cap))(j:eH w k o c)(r:mO w pre.size c a)(y:c.length<=256)(l:a.Pairwise (·<·))(H:key.size<=9223372036854775807)(N:pre.size<key.size):aE aj 67 #[.pointer (ae ⟨b,0,af⟩),.string key] w λe h=>e=.returned (.tuple #[.int .i64 (posOf key[pre.size] a),.bool (aM (a[posOf key[pre.size] a]?=ae key[pre.size]))])/\aA w.heap.size w h:=by
 have t:aB (eH w k o c):=j;have x:aB (mO w pre.size c a):=r;have u:aB (a.Pairwise (·<·)):=l;clear j r l
 have p:∀n,aE aj 80 #[.slice (ae ⟨k,o,af⟩) c.length cap,.int .u8 key[pre.size].toNat,.func (.func 81) #[] #[.pointer (ae ⟨w.heap.size,0,af⟩)]] ((w.alloc (.cells #[.int .i64 pre.size] 3)).drewN n) λe h=>
   e=.returned (.tuple #[.int .i64 (posOf key[pre.size] a),.bool (aM (a[posOf key[pre.size] a]?=ae key[pre.size]))])/\∃m,h=((w.alloc (.cells #[.int .i64 pre.size] 3)).drewN n).drewN m:=by
  intro n;refine aj8 k o cap w.heap.size pre.size _ c a _ ?_ ?_ y u.out ?_;·exact t.out.later (kr ((cD _ _).alloc (aL _) _) _)
  ·exact x.out.later (kr ((cD _ _).alloc (aL _) _) _)
  ·simp
 have v:aB (∀n,aE aj 80 #[.slice (ae ⟨k,o,af⟩) c.length cap,.int .u8 key[pre.size].toNat,.func (.func 81) #[] #[.pointer (ae ⟨w.heap.size,0,af⟩)]] ((w.alloc (.cells #[.int .i64 pre.size] 3)).drewN n) λe h=>
   e=.returned (.tuple #[.int .i64 (posOf key[pre.size] a),.bool (aM (a[posOf key[pre.size] a]?=ae key[pre.size]))])/\∃m,h=((w.alloc (.cells #[.int .i64 pre.size] 3)).drewN n).drewN m):=p
 clear p;have U:∀s,(w.alloc s).cell? ⟨b,2,af⟩=ae (.slice (ae ⟨k,o,af⟩) c.length cap):=λs=>aS ((cD _ _).alloc (aL _) _) B;generalize posOf key[pre.size] a=q at*;generalize aM (a[q]?=ae key[pre.size])=f at*
 go_enter OY,aE9
 go_wp2
 go_quiet ((go_at_call 80;exact Ou (v.out _)))
 go_wp2
 go_ret2
 exact⟨rfl,kr (((cD _ _).alloc (aL _) _)) _⟩
section
attribute [local go_sem↓] Go.wp_at_zero Go.wp_at_succ
theorem yw:(aj.info? 56).map (λi=>(i.zero,i.size,i.bytes))=ae (ae (.pointer af),1,8):=ah
def ptr(c:Nat):Value:=.pointer (ae ⟨c,0,af⟩)
theorem Ft(h:eH b c p r)(s:aA b.heap.size b j)(n:Nat):∀k,ae (⟨c,p,af⟩:aH)=ae k->∀a u,((r.take n).map ptr)[a]?=ae u->j.cell? (k.add a)=ae u:=by
 intro k t a u o;obtain rfl:=er t;simp only[iI,ji]at o;obtain⟨l,f,rfl⟩:=o;have:r[a]?=ae l:=by
  rw[nv]at f;split at f;·exact f
  ·cases f
 rw[jF];exact aS s (h a l this)
theorem Ys(h:eH b c p r)(o:aA b.heap.size b j)(n:Nat):∀a u,((r.drop n).map ptr)[a]?=ae u->j.cell? ((⟨c,p+n,af⟩:aH).add a)=ae u:=by
 intro a u k;simp only[iI,ji]at k;obtain⟨l,f,rfl⟩:=k;rw[ny]at f;have:=aS o (h _ l f);rw[jF,CU];exact this
theorem wH(l:List Nat):∀u∈l.map ptr,u.oneCell'=true:=by
 intro u a;obtain⟨c,_,rfl⟩:=iL.1 a;rfl
theorem Gp{cap:Nat}(h:eH b c p r)(l:aA b.heap.size b j)(n:Nat)(o:r.length<=cap):∃f,(if cap=n then ae (⟨c,p,af⟩:aH)else ae ⟨c,p+n,af⟩)=ae f/\∀a u,((r.drop n).map ptr)[a]?=ae u->j.cell? (f.add a)=ae u:=by
 by_cases e:cap=n
 ·refine⟨_,if_pos e,λa u k=> ?_⟩;rw[zD ag]at k;simp at k
 ·exact⟨_,if_neg e,Ys h l n⟩
theorem yf(a:((b.alloc a2).drew).grownBy j af):aA b.heap.size b j:=
 pI (((cD _ _).alloc (aL _) _).drew) a (by show b.heap.size<=(b.alloc a2).heap.size;simp) (λk h=>by cases h)
theorem zm(w:ak)(a:dV):w.heap.size<=((w.alloc a).drew).heap.size:=by show w.heap.size<=(w.alloc a).heap.size;simp
theorem C8{P:aV}{E:Prop}(hg:t.guard=af)(s x:bC)(k:aK)(a2:t.op=I7 {callee:=H9 H8,args:= #[s,x],argTypes:= #[k,k]})(base:Nat)(e:aK)(i:qI)(z:au)(size bytes:Nat)(H:P.underlying k=ae (.slice e))(W:P.info? e=ae i)(Z:i.zero=ae z)(h4:i.size=size)(h5:i.bytes=bytes)(h6:z.cells.size=size)(h7:0<size)(l:au)(n:Nat)(r:List au)(hs:v.eval s=l)(a7:b.ownsRow base e size l n r)(w:Option aH)(m c:Nat)(a:List au)(hx:v.eval x=.slice w m c)(hn:a.length=m*size)(p:∃h,w=ae h/\∀j u,a[j]?=ae u->b.cell? (h.add j)=ae u)(N:∀u∈a,u.oneCell'=aq)(y:n+m<=cE)(B:(n+m)*bytes<=140737488355328)(a1:base<=b.heap.size)(hK:∀o f,f.ownsRow base e size o (n+m) (r++a)->b.grownBy f l.ownBlock->U (v.put t.dst o) f):if iJ t (fN R v.tmps)=aq then xQ P t v b U a6 else E:=by
 have hw:iJ t (fN R v.tmps)=true:=by simp[iJ,hg]
 rw[if_pos hw];obtain⟨h,rfl,p⟩:=p;obtain⟨o,f,a8,r1,r2,_⟩:=run_append_own (P:=P) b base k t.type e i z size bytes H W Z h4 h5 h6 h7 l n r a7 h m c a hn p N y B a1;unfold xQ;simp[bp,a2,mI,pL,Af,hs,hx,a8,rP];exact hK o f r1 r2
theorem am6{P:aV}{E:Prop}(p:t.guard=af)(s x:bC)(a:aK)(r:t.op=I7 {callee:=H9 H8,args:= #[s,x],argTypes:= #[a,a]})(base:Nat)(e:aK)(i:qI)(size:Nat)(h:P.underlying a=ae (.slice e))(l:P.info? e=ae i)(f:au)(n:Nat)(N:List au)(w:v.eval s=f)(u:b.ownsRow base e size f n N)(hn:0<n)(H:v.eval x=.slice af 0 0)(o:U (v.put t.dst f) b):if iJ t (fN R v.tmps)=aq then xQ P t v b U a6 else E:=by
 have B:iJ t (fN R v.tmps)=true:=by simp[iJ,p]
 rw[if_pos B];rcases u.2 with⟨_,Z⟩|⟨g,cap,W,rfl,_,_,a1,_⟩;·omega
 ·have k:=Od (P:=P) b a a t.type e i h l g 0 n cap (.slice af 0 0) 0 [] (Src.ofNil b h 0) ag (λj c=>by simp at c) (λj c=>by simp at c);have y:b.setCells g (0+n*i.size) []=b:=rfl;rw[y,th]at k;unfold xQ;simp[bp,r,mI,pL,Af,w,H,k,rP];exact o
structure tG(w w':ak)(g c:Nat)(cs:List Nat):Prop where
 lo:w.heap.size<=g
 cap:cs.length<=c
 bZ:c<=cE
 br:eH w' g 0 cs
 below:aA w.heap.size w w'
theorem uw{n:Nat}(h:b.ownsRow c x p u n y){k:Nat}(a:u.ownBlock=ae k):c<=k:=by
 rcases h.2 with⟨rfl,_⟩|⟨g,cap,j,rfl,f,_⟩;·cases a
 ·cases a;exact f
theorem Bu{n:Nat}{cs:List Nat}(h:j.ownsRow c x 1 u n y)(B:b.heap.size<=c)(N:y=cs.map ptr)(H:n=cs.length)(R:0<n)(w:aA b.heap.size b j):∃g a,u=.slice (ae ⟨g,0,af⟩) cs.length a/\tG b j g a cs:=by
 subst H;subst N;rcases h.2 with⟨_,U⟩|⟨g,cap,f,o,p,r,s,t,W,v⟩;·omega
 ·refine⟨g,cap,o,bT B p,s,t,λi a k=> ?_,w⟩;have Z:i<cs.length:=(cu.mp k).1;have l:f.toList[i]?=ae (ptr a):=by
   have:(f.toList.take (cs.length*1))[i]?=ae (ptr a):=by rw[v,iI,k];rfl
   rwa[nv,if_pos ag]at this
  simp only[bL,r,ia];rw[<-zF,l];rfl
theorem IE{n:Nat}(a:((b.alloc a2).drew).grownBy j af)(l:j.ownsRow c x p u n y)(f:b.heap.size<=c)(k:j.grownBy w u.ownBlock):aA b.heap.size b w:=
 pI (yf a) k (yf a).size (λ_ h=>bT f (uw l h))
theorem V0(k o cap a b:Nat)(f:List Nat)(w:ak)(s:eH w k o f)(R:f.length<=cap)(a2:f.length<=256)(a1:a<=f.length)(U:cap<=cE):aE aj 78 #[.slice (ae ⟨k,o,af⟩) f.length cap,.int .i64 a,.pointer (ae ⟨b,0,af⟩)] w λe w'=>∃g c,e=.returned (.slice (ae ⟨g,0,af⟩) (f.take a++b::f.drop a).length c)/\tG w w' g c (f.take a++b::f.drop a):=by
 have p:aB ((f.take a++b::f.drop a).length=f.length+1):=by show _=_;simp;omega
 generalize t:f.take a++b::f.drop a=r at p⊢;have H:aB (f.take a++b::f.drop a=r):=t;clear t;unfold cE at U;obtain⟨i0,u,x,y,B⟩:=nF yw;have h1:(0:Int)<=(a:Int):=qC _;have h2:(a:Int)<=(f.length:Int):=ag;have h3:(a:Int)<=(cap:Int):=ag;have h4:(f.length:Int)<=(cap:Int):=ag;have l:aB (eH w k o f):=s;clear s
 go_enter aI2,aE8
 go_wp2_with fail
 go_region_held3 (λ_=>True) (trivial) (first
  |(refine Oq (by rfl) (.tmp 10) (.tmp 12) 69 ?_ 56 i0 (.pointer af) 1 8 kH u x y B rfl bc (ae ⟨k,o,af⟩) a a ((f.take a).map ptr) (by rfl) (λh=>by cases h) (by simp;omega) (Ft l.out (((cD _ _).alloc (aL _) _).drew) a) ⟨w.heap.size,0,af⟩ 1 1 [ptr b] (by rfl) (by rfl) (qA (cs:= #[ptr b]) (t:=56) (fr:=(0,0)) (cY w _)) (by simp[qF,ptr]) ag (by unfold cE;omega) ag ?_;rfl;intro v1 w1 v j)
  |(refine C8 (by rfl) (.tmp 13) (.tmp 16) 69 ?_ _ 56 i0 (.pointer af) 1 8 kH u x y B rfl bc v1 (a+1) _ (by rfl) v (if cap=a then ae ⟨k,o,af⟩else ae ⟨k,o+a,af⟩) (f.length-a) (cap-a) ((f.drop a).map ptr) (by rfl) az (Gp l.out (yf j) a R) (wH _) (by unfold cE;omega) ag j.size ?_;rfl;intro v2 w2 Z W))
 go_wp2
 all_goals
  go_ret
  obtain⟨g,c,hv,N⟩:=Bu (cs:=r) Z (zm w _) (by rw[<-H.out];simp) (by rw[p.out];omega) ag (IE j v (zm w _) W);exact⟨g,c,by show sX v2=_;rw[hv],N⟩
theorem UY(b:Nat)(w:ak):aE aj 78 #[.slice af 0 0,.int .i64 0,.pointer (ae ⟨b,0,af⟩)] w λe t=>∃g c,e=.returned (.slice (ae ⟨g,0,af⟩) [b].length c)/\tG w t g c [b]:=by
 obtain⟨i0,a,p,r,s⟩:=nF yw
 go_enter aI2,aE8
 go_wp2_with fail
 go_region_held3 (λ_=>True) (trivial) (first
  |(refine Oq (by rfl) (.tmp 10) (.tmp 12) 69 ?_ 56 i0 (.pointer af) 1 8 kH a p r s rfl bc af 0 0 [] (by rfl) (λh=>⟨rfl,rfl⟩) (by rfl) (λb h=>by cases h) ⟨w.heap.size,0,af⟩ 1 1 [ptr b] (by rfl) (by rfl) (qA (cs:= #[ptr b]) (t:=56) (fr:=(0,0)) (cY w _)) (by simp[qF,ptr]) ag bc ag ?_;rfl;intro j u f l)
  |(refine am6 (by rfl) (.tmp 13) (.tmp 16) 69 ?_ _ 56 i0 1 kH a j 1 _ (by rfl) f bc (by rfl) ?_;rfl))
 go_wp2
 go_ret
 obtain⟨g,c,o,k⟩:=Bu (cs:=[b]) f (zm w _) az az ag (yf l);exact⟨g,c,by show sX j=_;rw[o];rfl,k⟩
theorem af4(k o cap a b:Nat)(f:List Nat)(w:ak)(s:eH w k o f)(R:f.length<=cap)(a2:f.length<=256)(a1:a<f.length)(U:cap<=cE):aE aj 79 #[.slice (ae ⟨k,o,af⟩) f.length cap,.int .i64 a,.pointer (ae ⟨b,0,af⟩)] w λe w'=>∃g c,e=.returned (.slice (ae ⟨g,0,af⟩) (f.take a++b::f.drop (a+1)).length c)/\tG w w' g c (f.take a++b::f.drop (a+1)):=by
 have p:aB ((f.take a++b::f.drop (a+1)).length=f.length):=by show _=_;simp;omega
 generalize t:f.take a++b::f.drop (a+1)=r at p⊢;have H:aB (f.take a++b::f.drop (a+1)=r):=t;clear t;unfold cE at U;obtain⟨i0,u,x,y,B⟩:=nF yw;have h1:(0:Int)<=(a:Int):=qC _;have h2:(a:Int)<=(f.length:Int):=ag;have h3:(a:Int)<=(cap:Int):=ag;have h5:(a:Int)+1<=(f.length:Int):=ag;have a6:cZ.wrap ((a:Int)+1)=(a:Int)+1:=by rw[ft];omega
 have h6:(0:Int)<=(a:Int)+1:=ag;have h4:(f.length:Int)<=(cap:Int):=ag;have l:aB (eH w k o f):=s;clear s
 go_enter Tryz.func79,Tryz.ntmps79
 go_wp2_with fail
 go_region_held3 (λ_=>True) (trivial) (first
  |(refine Oq (by rfl) (.tmp 10) (.tmp 12) 69 ?_ 56 i0 (.pointer af) 1 8 kH u x y B rfl bc (ae ⟨k,o,af⟩) a a ((f.take a).map ptr) (by rfl) (λh=>by cases h) (by simp;omega) (Ft l.out (((cD _ _).alloc (aL _) _).drew) a) ⟨w.heap.size,0,af⟩ 1 1 [ptr b] (by rfl) (by rfl) (qA (cs:= #[ptr b]) (t:=56) (fr:=(0,0)) (cY w _)) (by simp[qF,ptr]) ag (by unfold cE;omega) ag ?_;rfl;intro v1 w1 v j)
  |(refine C8 (by rfl) (.tmp 13) (.tmp 17) 69 ?_ _ 56 i0 (.pointer af) 1 8 kH u x y B rfl bc v1 (a+1) _ (by rfl) v (if cap=a+1 then ae ⟨k,o,af⟩else ae ⟨k,o+(a+1),af⟩) (f.length-(a+1)) (cap-(a+1)) ((f.drop (a+1)).map ptr) ?_ az (Gp l.out (yf j) (a+1) R) (wH _) (by unfold cE;omega) ag j.size ?_;rfl;rfl;intro v2 w2 Z W))
 go_wp2
 all_goals
  go_ret
  obtain⟨g,c,hv,N⟩:=Bu (cs:=r) Z (zm w _) (by rw[<-H.out];simp) (by rw[p.out];omega) ag (IE j v (zm w _) W);exact⟨g,c,by show sX v2=_;rw[hv],N⟩
theorem Qg{k:ak}{n:Nat}{v0:au}{v:List au}(o:b.grownBy j af)(l:j.ownsRow b.heap.size x c v0 p y)(r:j.drew.grownBy w v0.ownBlock)(t:w.ownsRow b.heap.size x c u n v)(s:w.grownBy k u.ownBlock):aA b.heap.size b w/\aA b.heap.size b k:=by
 have f:aA b.heap.size b j:=pI (cD _ _) o (aL _) (λ_ h=>by cases h);have a:aA b.heap.size b w:=pI f.drew r f.size (λ_ h=>uw l h);exact⟨a,pI a s a.size (λ_ h=>uw t h)⟩
theorem ID{v0:au}(k:b.grownBy j af)(f:j.ownsRow b.heap.size x c v0 p y)(l:j.drew.grownBy w v0.ownBlock):aA b.heap.size b w:=by
 have a:aA b.heap.size b j:=pI (cD _ _) k (aL _) (λ_ h=>by cases h);exact pI a.drew l a.size (λ_ h=>uw f h)
theorem ae8(v:Option aH)(cap a:Nat)(w:ak):aE aj 85 #[.slice v 1 cap,.int .i64 a] w λe b=>e=.returned (.slice af 0 0)/\b=w:=by
 go_enter aH9,aE5
 go_wp2
 go_ret
 exact⟨rfl,rfl⟩
theorem af0(k o cap b:Nat)(a:List Nat)(w:ak)(N:eH w k o a)(a2:a.length<=cap)(ad:a.length<=256)(ac:b<a.length)(h2:2<=a.length)(a6:cap<=cE):aE aj 85 #[.slice (ae ⟨k,o,af⟩) a.length cap,.int .i64 b] w λe w'=>∃g c,e=.returned (.slice (ae ⟨g,0,af⟩) (a.take b++a.drop (b+1)).length c)/\tG w w' g c (a.take b++a.drop (b+1)):=by
 have y:aB ((a.take b++a.drop (b+1)).length+1=a.length):=by show _=_;simp;omega
 generalize U:a.take b++a.drop (b+1)=B at y⊢;have HC:aB (a.take b++a.drop (b+1)=B):=U;clear U;unfold cE at a6;obtain⟨i0,r,s,t,u⟩:=nF yw;obtain⟨h,a8,W,l⟩:=run_make_own (P:=aj) w w.heap.size 69 56 i0 (.pointer af) 1 kH r s t .i64 .i64 (a.length-1) (by rw[u];omega) (by unfold cE;omega) (aL _);have H:((a.length-1:Nat):Int)=(a.length:Int)-1:=ag;rw[H]at a8;clear H;have R:aA w.heap.size w h:=pI (cD _ _) l (aL _) (λ_ a1=>by cases a1);have h1:(0:Int)<=(b:Int):=qC _;have ab:(b:Int)<=(a.length:Int):=ag;have h3:(b:Int)<=(cap:Int):=ag;have h5:(b:Int)+1<=(a.length:Int):=ag;have al:cZ.wrap ((b:Int)+1)=(b:Int)+1:=by rw[ft];omega
 have h6:(0:Int)<=(b:Int)+1:=ag;have h4:(a.length:Int)<=(cap:Int):=ag;have ai:¬(a.length:Int)=1:=ag;have v:aB (eH w k o a):=N;have f:aB (h.ownsRow w.heap.size 56 1 (.slice (ae ⟨w.heap.size,0,af⟩) 0 (a.length-1)) 0 []):=W;have j:aB (w.grownBy h af):=l;have x:aB (aA w.heap.size w h):=R;clear N W l R
 go_enter aH9,aE5
 go_wp2
 go_region_held3 (λ_=>True) (trivial) (first
  |(refine C8 (by rfl) (.tmp 13) (.tmp 16) 69 ?_ w.heap.size 56 i0 (.pointer af) 1 8 kH r s t u rfl bc (.slice (ae ⟨w.heap.size,0,af⟩) 0 (a.length-1)) 0 _ ?_ f.out.drew (ae ⟨k,o,af⟩) b cap ((a.take b).map ptr) ?_ (by simp;omega) ⟨_,rfl,Ft v.out x.out.drew b _ rfl⟩ (wH _) (by unfold cE;omega) ag x.out.size ?_;rfl;rfl;rfl;intro v1 w1 Z p)
  |(refine C8 (by rfl) (.tmp 17) (.tmp 21) 69 ?_ w.heap.size 56 i0 (.pointer af) 1 8 kH r s t u rfl bc v1 (0+b) _ ?_ Z (if cap=b+1 then ae ⟨k,o,af⟩else ae ⟨k,o+(b+1),af⟩) (a.length-(b+1)) (cap-(b+1)) ((a.drop (b+1)).map ptr) ?_ az (Gp v.out (ID j.out f.out p) (b+1) a2) (wH _) (by unfold cE;omega) ag (ID j.out f.out p).size ?_;rfl;rfl;rfl;intro v2 w2 aa a7))
 go_wp2
 all_goals
  go_ret
  obtain⟨g,c,hv,hN⟩:=Bu (cs:=B) aa (aL _) (by rw[<-HC.out];simp) (by have:=y.out;omega) ag (Qg j.out f.out p Z a7).2;exact⟨g,c,by show sX v2=_;rw[hv],hN⟩
end
variable {V:Type}
theorem rC(h:a.Pairwise (·<·)){i:Nat}(o:a[i]?=ae f)(p:a[c]?=ae l)(k:i<c):f<l:=by
 obtain⟨b,rfl⟩:=cu.mp o;obtain⟨j,rfl⟩:=cu.mp p;exact Cu.mp h i c b j k
theorem BK(h:a.Pairwise (·<·)){i:Nat}(j:a[i]?=ae f)(k:a[c]?=ae f):i=c:=by
 rcases sV i c with b|b|b;·exact absurd (rC h j k b) (jE f)
 ·exact b
 ·exact absurd (rC h k j b) (jE f)
theorem pX(b:a++f::h=a++l::k):f=l/\h=k:=by
 have:=aw4 b;exact List.cons.inj this
theorem nU:a++f::h≠a:=λb=>by
 have:=congrArg jk b;simp at this
theorem BZ(k:List UInt8)(v:V):Shaped k (ae v) [] [] [(k,v)]:=⟨⟨rfl,nA,λi g h=>by simp at h,λi x g h=>by simp at h,λi g h=>by simp at h⟩,rfl,λh=>by cases h⟩
theorem UB{l:List (List UInt8×V)}(j:bh l)(b:l≠[])(c:∀e∈l,∃r,e.1=a++f::r):fF a [f] [l]:=by
 refine⟨rfl,az,λi g h=> ?_,λi x g k h=> ?_,λi g h=> ?_⟩
 all_goals (cases i with
  |zero=>(obtain rfl:=er h);first|exact b|exact j|(obtain rfl:=er k;exact c)
  |succ i=>simp at h)
theorem K5{b m:List (List UInt8×V)}(s:bh b)(j:b≠[])(o:∀e∈b,∃r,e.1=a++f::r)(t:bh m)(k:m≠[])(p:∀e∈m,∃r,e.1=a++l::r)(u:f<l):fF a [f,l] [b,m]:=by
 refine⟨rfl,by simp[u],λi g h=> ?_,λi z g c h=> ?_,λi g h=> ?_⟩
 all_goals (cases i with
  |zero=>(obtain rfl:=er h);first|exact j|exact s|(obtain rfl:=er c;exact o)
  |succ i=>cases i with
   |zero=>(obtain rfl:=er h);first|exact k|exact t|(obtain rfl:=er c;exact p)
   |succ i=>simp at h)
theorem Ge(k:List UInt8)(v:V):bh [(k,v)]:=List.pairwise_singleton _ _
theorem al3{v:V}{l:List (List UInt8×V)}(c:bh l)(j:l≠[])(b:∀e∈l,∃r,e.1=a++f::r):Shaped a (ae v) [f] [l] (ins a v l):=by
 have G:=UB c j b;refine⟨G,(rh c (G.pq (ae v)) λe=> ?_).symm,λh=>by cases h⟩;simp only[c9,dU,xn,uX,Oh,og];constructor
 ·rintro(h|h);·exact .inl h
  ·obtain⟨r,k⟩:=b e h;exact .inr ⟨h,k▸nU⟩
 ·rintro(h|h);·exact .inl h
  ·exact .inr h.1
theorem al2{v:V}{c:List (List UInt8×V)}(s:bh c)(u:c≠[])(p:h=a++f::k)(r:∀e∈c,∃k,e.1=a++l::k)(t:f<l):Shaped a af [f,l] [[(h,v)],c] (ins h v c):=by
 have G:=K5 (Ge h v) az (λe o=>by simp at o;exact⟨k,by rw[o,p]⟩) s u r t;refine⟨G,(rh s (G.pq af) λe=> ?_).symm,λ_=>az⟩;simp only[c9,nB,uX,Oh,og,dU,xn];constructor
 ·rintro(b|b);·exact .inl b
  ·obtain⟨q,w⟩:=r e b;exact .inr ⟨b,λj=>by rw[w,p]at j;exact jE f ((pX j).1▸t)⟩
 ·rintro(b|b);·exact .inl b
  ·exact .inr b.1
theorem al4{v:V}{c:List (List UInt8×V)}(s:bh c)(u:c≠[])(p:h=a++f::k)(r:∀e∈c,∃k,e.1=a++l::k)(t:l<f):Shaped a af [l,f] [c,[(h,v)]] (ins h v c):=by
 have G:=K5 s u r (Ge h v) az (λe o=>by simp at o;exact⟨k,by rw[o,p]⟩) t;refine⟨G,(rh s (G.pq af) λe=> ?_).symm,λ_=>az⟩;simp only[c9,nB,uX,Oh,og,dU,xn];constructor
 ·rintro(b|b)
  ·obtain⟨q,w⟩:=r e b;exact .inr ⟨b,λj=>by rw[w,p]at j;exact jE l ((pX j).1▸t)⟩
  ·exact .inl b
 ·rintro(b|b);·exact .inr b
  ·exact .inl b.1
theorem Shaped.put{o:Option V}{j:List (List (List UInt8×V))}{l:List (List UInt8×V)}(c:Shaped a o h j l)(v:V):Shaped a (ae v) h j (ins a v l):=by
 refine⟨c.aT,(rh c.ck (c.aT.pq (ae v)) λe=> ?_).symm,λc=>by cases c⟩;rw[dU,mh,c.eq,dU,mh];constructor
 ·rintro(⟨b,f⟩|b);·exact .inl (Prod.ext b (er f).symm)
  ·obtain⟨x,r,k⟩:=c.aT.front b;exact .inr ⟨.inr b,k▸nU⟩
 ·rintro(b|⟨b|b,f⟩);·exact .inl (by rw[b];exact⟨rfl,rfl⟩)
  ·exact absurd b.1 f
  ·exact .inr b
theorem Shaped.V1{R:Option V}{r:List (List (List UInt8×V))}{l:List (List UInt8×V)}(o:Shaped a R h r l)(H:k=a++f::W){i:Nat}(N:h[i]?=ae f){g:List (List UInt8×V)}(x:r[i]?=ae g)(v:V):Shaped a R h (r.take i++ins k v g::r.drop (i+1)) (ins k v l):=by
 have B:=(cu.mp x).1;have w:=B5 r i;have G:fF a h (r.take i++ins k v g::r.drop (i+1)):=by
  refine⟨by rw[o.aT.len];simp;omega,o.aT.pw,λj m b=> ?_,λj y m u b=> ?_,λj m b=> ?_⟩<;>rw[w _ _ B]at b
  ·by_cases e:j=i
   ·rw[if_pos e]at b;obtain rfl:=er b;intro c;have:(k,v)∈ins k v g:=iT.mpr (.inl rfl);rw[c]at this;cases this
   ·rw[if_neg e]at b;exact o.aT.iX j m b
  ·by_cases e:j=i
   ·rw[if_pos e]at b;obtain rfl:=er b;subst e;rw[N]at u;obtain rfl:=er u;intro e p;rcases iT.mp p with c|c;·exact⟨W,by rw[c,H]⟩
    ·exact o.aT.pre _ _ g N x e c.1
   ·rw[if_neg e]at b;exact o.aT.pre j y m u b
  ·by_cases e:j=i
   ·rw[if_pos e]at b;obtain rfl:=er b;exact iw (o.aT.ck i g x)
   ·rw[if_neg e]at b;exact o.aT.ck j m b
 refine⟨G,(rh o.ck (G.pq R) λe=> ?_).symm,λc=>by have:=o.two c;simp;omega⟩;rw[dU,mh,pd,o.mem];constructor
 ·rintro(t|⟨j,m,b,p⟩);·exact .inr ⟨.inl t,by rw[t.1,H];exact nU.symm⟩
  ·rw[w _ _ B]at b;by_cases s:j=i
   ·rw[if_pos s]at b;obtain rfl:=er b;rcases iT.mp p with c|c;·exact .inl c
    ·exact .inr ⟨.inr ⟨i,g,x,c.1⟩,c.2⟩
   ·rw[if_neg s]at b;refine .inr ⟨.inr ⟨j,m,b,p⟩,λc=>s ?_⟩;obtain⟨y,u⟩:=o.aT.byte b;obtain⟨q,Z⟩:=o.aT.pre j y m u b e p;rw[Z,H]at c;obtain⟨rfl,_⟩:=pX c;exact BK o.aT.pw u N
 ·rintro(t|⟨t|⟨j,m,b,p⟩,U⟩);·exact .inr ⟨i,ins k v g,by rw[w _ _ B,if_pos rfl],iT.mpr (.inl t)⟩
  ·exact .inl t
  ·by_cases s:j=i
   ·subst s;rw[x]at b;obtain rfl:=er b;exact .inr ⟨j,ins k v g,by rw[w _ _ B,if_pos rfl],iT.mpr (.inr ⟨p,U⟩)⟩
   ·exact .inr ⟨j,m,by rw[w _ _ B,if_neg s];exact b,p⟩
theorem Shaped.beside{R:Option V}{r:List (List (List UInt8×V))}{a7:List (List UInt8×V)}(l:Shaped a R h r a7)(hk:k=a++f::W)(hx:h[posOf f h]?≠ae f)(v:V):Shaped a R (h.take (posOf f h)++f::h.drop (posOf f h)) (r.take (posOf f h)++[(k,v)]::r.drop (posOf f h)) (ins k v a7):=by
 obtain⟨s1,s2,s3⟩:=wM f h l.aT.pw;generalize posOf f h=i at*;have x:i<=r.length:=by rw[<-l.aT.len];exact s1
 have Z:∀(t:Nat) y,i<=t->h[t]?=ae y->f<y:=by
  intro t y ht o;have s:=s3 t y ht o;rcases UInt8.lt_or_eq_of_le (OJ.mp s)with N|N;·exact N
  ·subst N;exfalso;rcases xp ht with u|u
   ·obtain⟨z,hz⟩:∃z,h[i]?=ae z:=⟨h[i]'(by have:=(cu.mp o).1;omega),bf _⟩;exact s3 i z (aL _) hz (rC l.aT.pw hz o u)
   ·exact hx (u▸o)
 have G:fF a (h.take i++f::h.drop i) (r.take i++[(k,v)]::r.drop i):=by
  refine⟨by have:=l.aT.len;simp;omega,?_,λj m c=> ?_,λj y m o c=> ?_,λj m c=> ?_⟩
  ·rw[uU,kZ];refine⟨uR (O9 _ _) l.aT.pw,⟨λb H=> ?_,uR (Ob _ _) l.aT.pw⟩,λa2 ha b H=> ?_⟩
   ·obtain⟨j,w⟩:=uT.mp H;rw[ny]at w;exact Z _ b ag w
   ·obtain⟨j,w⟩:=uT.mp ha;rw[nv]at w;split at w
    ·rcases dk.mp H with rfl|H;·exact s2 j a2 ‹_› w
     ·obtain⟨j2,a6⟩:=uT.mp H;rw[ny]at a6;exact rQ (s2 j a2 ‹_› w) (Z _ b ag a6)
    ·cases w
  ·rw[oS _ _ _ _ x]at c;split at c;·exact l.aT.iX j m c
   ·split at c;·obtain rfl:=er c;simp
    ·exact l.aT.iX _ m c
  ·rw[oS _ _ _ _ x]at c;rw[oS _ _ _ _ s1]at o;split at c;·rw[if_pos ‹_›]at o;exact l.aT.pre j y m o c
   ·rw[if_neg ‹_›]at o;split at c
    ·rw[if_pos ‹_›]at o;obtain rfl:=er c;obtain rfl:=er o;intro e p;simp at p;exact⟨W,by rw[p,hk]⟩
    ·rw[if_neg ‹_›]at o;exact l.aT.pre _ y m o c
  ·rw[oS _ _ _ _ x]at c;split at c;·exact l.aT.ck j m c
   ·split at c;·obtain rfl:=er c;exact Ge k v
    ·exact l.aT.ck _ m c
 refine⟨G,(rh l.ck (G.pq R) λe=> ?_).symm,λu=>by have:=l.two u;simp;omega⟩;rw[dU,mh,pd,l.mem];constructor
 ·rintro(s|⟨j,m,c,p⟩);·exact .inr ⟨.inl s,by rw[s.1,hk];exact nU.symm⟩
  ·have a8:∀(B:Nat),r[B]?=ae m->e=(k,v)\/((e.1=a/\R=ae e.2)\/∃(i:Nat) (g:List (List UInt8×V)),r[i]?=ae g/\e∈g)/\e.1≠k:=by
    intro B a1;refine .inr ⟨.inr ⟨B,m,a1,p⟩,λu=> ?_⟩;obtain⟨y,o⟩:=l.aT.byte a1;obtain⟨q,hq⟩:=l.aT.pre B y m o a1 e p;rw[hq,hk]at u;obtain⟨rfl,_⟩:=pX u;rcases l9 B i with U|U;·exact jE _ (s2 B _ U o)
    ·exact jE _ (Z B _ U o)
   rw[oS _ _ _ _ x]at c;split at c;·exact a8 _ c
   ·split at c;·obtain rfl:=er c;simp at p;exact .inl p
    ·exact a8 _ c
 ·rintro(s|⟨s|⟨j,m,c,p⟩,N⟩);·exact .inr ⟨i,[(k,v)],by rw[oS _ _ _ _ x];simp,by simp[s]⟩
  ·exact .inl s
  ·by_cases ej:j<i;·exact .inr ⟨j,m,by rw[oS _ _ _ _ x,if_pos ej];exact c,p⟩
   ·exact .inr ⟨j+1,m,by rw[oS _ _ _ _ x,if_neg ag,if_neg ag];exact c,p⟩
theorem ZA(h:a.Pairwise (·<·)):∀(i:Nat) (x:UInt8),a[i]?=ae x->i<=x.toNat:=by
 intro i;induction i with
 |zero=>intro x _;exact fL _
 |succ i f=>
  intro x c;have l:=(cu.mp c).1;have b:a[i]?=ae (a[i]'(ag)):=bf _;have j:=f _ b;have k:(a[i]'(ag)).toNat<x.toNat:=rC h b c ag;omega
theorem qu(h:a.Pairwise (·<·)):a.length<=256:=by
 rcases l9 256 a.length with b|b
 ·have c:=ZA h 256 _ (bf b);have f:=UInt8.toNat_lt (a[256]'b);omega
 ·exact b
theorem Shaped.uy{V:Type}{H:Option V}{c:List (List (List UInt8×V))}{l:List (List UInt8×V)}(b:Shaped a H h c l){q:List UInt8}(r:∀e∈l,q<+:e.1):q<+:a:=by
 cases H with
 |some a2=>exact r (a,a2) (b.mem.mpr (.inl ⟨rfl,rfl⟩))
 |none=>
  have h2:=b.two rfl;obtain⟨o,f⟩:∃g,c[0]?=ae g:=⟨c[0],bf _⟩;obtain⟨p,j⟩:∃g,c[1]?=ae g:=⟨c[1],bf _⟩;obtain⟨x0,B⟩:=b.aT.byte f;obtain⟨R,u⟩:=b.aT.byte j;obtain⟨v,x⟩:=zA _ (b.aT.iX 0 o f);obtain⟨w,y⟩:=zA _ (b.aT.iX 1 p j);obtain⟨r0,U⟩:=b.aT.pre 0 x0 o B f v x;obtain⟨r1,W⟩:=b.aT.pre 1 R p u j w y;have s:=r v (b.mem.mpr (.inr ⟨0,o,f,x⟩));have N:=r w (b.mem.mpr (.inr ⟨1,p,j,y⟩));rw[U]at s;rw[W]at N;rcases l9 a.length q.length with k|k
  ·exfalso;have Z:x0=R:=by
    have a0:=NC.mp s _ k;have t:=NC.mp N _ k;simp at a0 t;rw[a0,t]
   have:=rC b.aT.pw B u ag;rw[Z]at this;exact jE _ this
  ·exact List.prefix_of_prefix_length_le s (sS _ _) k
abbrev KV:=List UInt8×Int
def jK(S:Nat->Prop)(w:ak)(b:Option aH):Option Int->Prop
 |none=>b=af
 |some v=>∃a,S a/\b=ae ⟨a,0,af⟩/\w.cell? ⟨a,0,af⟩=ae (.int .i64 v)
def eF(S:Nat->Prop)(w:ak)(b:au)(a:List Nat):Prop:=
 (a=[]/\b=.slice af 0 0)\/∃k o cap,S k/\b=.slice (ae ⟨k,o,af⟩) a.length cap/\a.length<=cap/\cap<=cE/\eH w k o a/\a≠[]
structure lP(S:Nat->Prop)(w:ak)(b:Nat)(pre:ByteArray)(vp:Option aH)(bv:au)(n:Nat):Prop where
 iS:S b
 blk:w.heap[b]?=ae (node pre (.pointer vp) bv n)
 short:pre.size<=64
theorem lP.c0{n:Nat}(h:lP o b c H N u n):b.cell? ⟨c,0,af⟩=ae (.string H):=by simp[bL,h.blk,node]
theorem lP.c1{n:Nat}(h:lP o b c H N u n):b.cell? ⟨c,1,af⟩=ae (.pointer N):=by simp[bL,h.blk,node]
theorem lP.c2{n:Nat}(h:lP o b c H N u n):b.cell? ⟨c,2,af⟩=ae u:=by simp[bL,h.blk,node]
theorem lP.c3{n:Nat}(h:lP o b c H N u n):b.cell? ⟨c,3,af⟩=ae (.int .i64 n):=by simp[bL,h.blk,node]
def aY(S:Nat->Prop):Nat->ak->Nat->List KV->Prop
 |0,_,_,_=>False
 |n+1,w,b,l=>∃(pre:ByteArray)(k:Option aH)(h:au)(j:Option Int)(a:List Nat)(o:List UInt8) (f:List (List KV)),
   lP S w b pre k h l.length/\jK S w k j/\eF S w h a/\a.length=f.length/\(∀(i c:Nat) g,a[i]?=ae c->f[i]?=ae g->aY S n w c g)/\Shaped pre.data.toList j o f l
def Kept(S:Nat->Prop)(w a:ak):Prop:=∀k,S k->a.heap[k]?=w.heap[k]?
theorem Kept.cell(h:Kept o b j){v:au}(a:o c)(f:b.cell? ⟨c,p,af⟩=ae v):j.cell? ⟨c,p,af⟩=ae v:=
 (gV (w:=b) (a:=⟨c,p,af⟩) (h c a)).trans f
theorem aY.bK{S s:Nat->Prop}{w B:ak}(r:Kept S w B)(p:∀k,S k->k<w.heap.size->s k):∀{n m b:Nat} {l:List KV},n<=m->aY S n w b l->aY s m B b l
 |0,_,_,_,_,h=>h.elim
 |n+1,0,_,_,a1,_=>ag
 |n+1,m+1,b,l,a1,⟨pre,vp,H,x,N,xs,R,j,v,Z,hl,W,hs⟩=>by
  refine⟨pre,vp,H,x,N,xs,R,⟨p b j.iS (cC _ _ j.c0),(r b j.iS).trans j.blk,j.short⟩,?_,?_,hl,λi c g a f=>aY.bK r p ag (W i c g a f),hs⟩
  ·cases x with
   |none=>exact v
   |some a6=>obtain⟨y,a,f,o⟩:=v;exact⟨y,p y a (cC _ _ o),f,r.cell a o⟩
  ·rcases Z with h|⟨k,a2,cap,a,f,o,U,t,u⟩;·exact .inl h
   ·obtain⟨c0,cr,rfl⟩:=GO u;exact .inr ⟨k,a2,cap,p k a (cC _ _ (t 0 c0 rfl)),f,o,U,λi c h=>r.cell a (t i c h),u⟩
variable {s:List KV}
theorem aY.fuel{n m:Nat}(h:aY o n b c s)(a:n<=m):aY o m b c s:=h.bK (λ_ _=>rfl) (λ_ h _=>h) a
theorem aY.frame{n:Nat}(h:aY o n b c s)(a:Kept o b j):aY o n j c s:=h.bK a (λ_ h _=>h) (aL _)
theorem aY.weaken{n:Nat}(h:aY o n b c s)(a:∀k,o k->k<b.heap.size->Z k):aY Z n b c s:=h.bK (λ_ _=>rfl) a (aL _)
theorem aY.later{n m:Nat}(h:aY o n b c s)(r:aA b.heap.size b j)(p:∀k,o k->k<b.heap.size->Z k)(t:n<=m):aY Z m j c s:=by
 have f:aY (λk=>o k/\k<b.heap.size) n b c s:=h.weaken (λk f l=>⟨f,l⟩);exact f.bK (λk a=>r.block k a.2) (λk a _=>p k a.1 a.2) t
theorem aY.ck{S:Nat->Prop}{w:ak}{n b:Nat}{l:List KV}(h:aY S n w b l):bh l:=by
 cases n with
 |zero=>exact h.elim
 |succ n=>obtain⟨pre,u,c,t,f,v,j,o,p,r,s,k,a⟩:=h;exact a.ck
theorem aY.ne{n:Nat}(h:aY o n b c s):s≠[]:=by
 cases n with
 |zero=>exact h.elim
 |succ n=>
  obtain⟨pre,N,r,p,t,R,f,x,y,B,H,w,a⟩:=h;intro k;subst k;cases p with
  |some v=>exact absurd (a.mem.mpr (.inl ⟨rfl,rfl⟩):(pre.data.toList,v)∈[]) az
  |none=>
   have u:=a.two rfl;have j:f[0]?=ae f[0]:=bf _;obtain⟨e,l⟩:=zA _ (a.aT.iX 0 _ j);exact absurd (a.mem.mpr (.inr ⟨0,_,j,l⟩):e∈[]) az
theorem aY.lt{n:Nat}(h:aY o n b c s):o c/\c<b.heap.size:=by
 cases n with
 |zero=>exact h.elim
 |succ n=>obtain⟨pre,w,f,v,j,x,k,a,p,r,t,l,u⟩:=h;exact⟨a.iS,cC _ _ a.c0⟩
theorem aY.size{n:Nat}(h:aY o n b c s):b.cell? ⟨c,3,af⟩=ae (.int .i64 s.length):=by
 cases n with
 |zero=>exact h.elim
 |succ n=>obtain⟨pre,w,f,v,j,x,k,a,p,r,t,l,u⟩:=h;exact a.c3
theorem aY.byte{n:Nat}(h:aY o n b c s)(v:∀e∈s,∃r,e.1=a++f::r):∃p:ByteArray,b.cell? ⟨c,0,af⟩=ae (.string p)/\p.size<=1000000/\∃h:a.length<p.size,p[a.length]=f:=by
 cases n with
 |zero=>exact h.elim
 |succ n=>
  obtain⟨pre,vp,y,ov,B,xs,H,j,U,W,Z,R,x⟩:=h;have k:=x.uy (q:=a++[f]) (λe t=>by obtain⟨r,w⟩:=v e t;rw[w];exact⟨r,az⟩);have u:a.length<pre.data.toList.length:=by have:=k.length_le;simp at this⊢;omega
  refine⟨pre,j.c0,by have:=j.short;omega,by simpa using u,?_⟩;have:=NC.mp k a.length az;simp at this;obtain⟨N,l⟩:=cq.mp this;exact l
variable {B:List (List KV)}
theorem BW{S:Nat->Prop}{n:Nat}(s:r.length=B.length)(p:∀(i c:Nat) g,r[i]?=ae c->B[i]?=ae g->aY S n b c g)(f:fF a h B):mO b a.length r h:=by
 refine⟨by rw[s,f.len],λi l x o j=> ?_⟩;obtain⟨g,k⟩:=f.vQ j;exact(p i l g o k).byte (f.pre i x g j k)
theorem af2{n:Nat}(k:r.length=B.length)(h:∀(i c:Nat) g,r[i]?=ae c->B[i]?=ae g->aY o n b c g):DH b r (B.map jk):=by
 refine⟨by rw[k,sY],λi c m f a=> ?_⟩;rw[iI,ji]at a;obtain⟨g,j,rfl⟩:=a;exact(h i c g f j).size
theorem aY.blk{S:Nat->Prop}{w:ak}{n b:Nat}{l:List KV}(h:aY S n w b l):∃cells,w.heap[b]?=ae (.cells cells 71 (0,0)):=by
 cases n with
 |zero=>exact h.elim
 |succ n=>obtain⟨pre,u,c,t,f,v,j,a,o,p,r,k,s⟩:=h;exact⟨_,a.blk⟩
theorem aY.shape{S:Nat->Prop}{w:ak}{n b:Nat}{l:List KV}(h:aY S n w b l):w.shape? b=ae (71,4):=by
 cases n with
 |zero=>exact h.elim
 |succ n=>obtain⟨pre,u,c,t,f,v,j,a,o,p,r,k,s⟩:=h;simp[xA,a.blk,node]
