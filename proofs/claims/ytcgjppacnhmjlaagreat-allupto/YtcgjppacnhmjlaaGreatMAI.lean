/- Own texts: RefC, RefD. -/
import Derived.Test.YtcgjppacnhmjlaaGreatMAH
import Derived.OwnWalk
set_option linter.all false
set_option maxRecDepth 100000
set_option maxHeartbeats 2000000
open Array renaming getElem?_modify->fV
open Bool renaming true->aq,false->ax
open Go renaming World->ak,Value->au,Calls->aE,heap_alloc_new->cY,Addr->aH,maxLen->cE,info_parts->nF,wpList_append_lies->CI,Obj->dV,ownsRow_setCell_other->NY
open Go.IntKind renaming i64->cZ,wrap_i64->ft
open Go.Proofs.Tryz renaming prog->aj,underlying34->CG,func32->D9,ntmps32->Hh,ntmps56->aF2,func56->aI4
open Go.RowKit renaming Hid->aB
open Go.RowKit.Below renaming heap_setCell->hH
open Go.Value renaming ownBlock->fX,slice->iM,oneCell'->qF
open Go.World renaming cell?->bL,setCell->eK,frozen?->gu,news_of_block->qA
open Go.World.ownsRow renaming alloc->Cw
open List renaming getElem?_eq_getElem->bf,getElem?_eq_some_iff->cu,mem_of_getElem?->cG,mem_cons->dk,take_of_length_le->fU,mem_append->dU,take_append_drop->jW,getElem?_append_right->np,getElem?_append_left->nu,getElem?_of_mem->lJ,length_filter_le->mB,pairwise_cons->kZ,ext_getElem?->mD,getElem?_take->nv,getElem?_drop->ny,append_nil->og,pairwise_append->uU,length_take->sW,drop_eq_nil_of_le->zD,getElem?_set->xr,length_set->zU,getElem_cons_drop->NG,set_eq_take_append_cons_drop->au9,take_sublist->O9,drop_sublist->Ob,take_append_of_le_length->av0,sublist_cons_self->aw5
open List.Pairwise renaming sublist->uR
open List.Sublist renaming refl->aL8,append->aM0
open Nat renaming le_refl->aL,le_trans->bT
open Option renaming some->ae,none->af,map_some->hZ
namespace Go.Proofs.YtcgjppacnhmjlaaGreat
open Go.RowKit
variable {f:List UInt8} {j:Int} {a:List KV} {c:Nat} {l:Option Nat} {b h:ak} {k:au}
structure mM(r:Nat)(g:Option Nat)(w w':ak):Prop where
 os:w'.os=w.os
 tape:w'.tape=w.tape
 output:w'.output=w.output
 size:w.heap.size<=w'.heap.size
 block:∀k,k<w.heap.size->k≠r->ae k≠g->w'.heap[k]?=w.heap[k]?
theorem Eb:∀(l:List KV)(i:Nat) (e:KV),flat (l.set i e)=((flat l).set (i*2) (.string (keyOf e))).set (i*2+1) (.int .i64 e.2)
 |[],i,e=>by simp[flat]
 |a::l,0,e=>by simp[flat]
 |a::l,i+1,e=>by
  have h:=Eb l i e;have b:(i+1)*2=i*2+1+1:=ag;rw[b];simpa[flat]using h
theorem TX(l:List KV)(i:Nat)(k:List UInt8)(u v:Int)(h:l[i]?=ae (k,u)):flat (l.set i (k,v))=(flat l).set (i*2+1) (.int .i64 v):=by
 rw[Eb];congr 1;have a:=(Ea l i _ h).1;apply mD;intro j;rw[xr];split
 ·rename_i b;subst b;have c:=(cu.mp a).1;rw[if_pos c,a];rfl
 ·rfl
theorem MY{b:List KV}(o:bh a)(p:bh b)(h:∀e∈a,bV e.1 f)(k:∀e∈b,bV f e.1):bh (a++(f,j)::b):=by
 refine uU.mpr ⟨o,kZ.mpr ⟨k,p⟩,λx l y c=> ?_⟩;rcases dk.mp c with rfl|c;·exact h x l
 ·exact rn (h x l) (k y c)
theorem Gq{k:List UInt8}(f:bh a):∀e∈a.take (cU k a),bV e.1 k:=λe c=>by
 obtain⟨t,b⟩:=lJ c;rw[nv]at b;split at b;·exact(wU k a f).2.1 t e (by assumption) b
 ·cases b
theorem Rp(o:bh a)(h:lk f a=af):∀e∈a.drop (cU f a),bV f e.1:=λe l=>by
 obtain⟨t,c⟩:=lJ l;rw[ny]at c;have j:=(wU f a o).2.2 _ e ag c;have k:=Bn.mp h e (cG c);rcases EF e.1 f with b|b|b;·exact absurd b j
 ·exact absurd b k
 ·exact b
theorem J8(k:bh a)(h:a[cU f a]?=ae (f,j)):∀e∈a.drop (cU f a+1),bV f e.1:=λe c=>by
 obtain⟨t,b⟩:=lJ c;rw[ny]at b;exact C7 k h b ag
theorem vV{b:List UInt8}(h:bV f b):f≠b:=λe=>by rw[e]at h;exact kx _ h
theorem UW(c:bh a)(h:lk f a=af):a.take (cU f a)++(f,j)::a.drop (cU f a)=ins f j a:=by
 have k:=Gq (k:=f) c;have l:=Rp c h;refine rh c (MY (uR (O9 _ _) c) (uR (Ob _ _) c) k l) λe=> ?_;have o:e∈a↔e∈a.take (cU f a)\/e∈a.drop (cU f a):=by rw[<-dU,jW]
 rw[o,dU,dk];constructor
 ·rintro(b|b|b);·exact .inr ⟨.inl b,vV (k e b)⟩
  ·exact .inl b
  ·exact .inr ⟨.inr b,(vV (l e b)).symm⟩
 ·rintro(b|⟨b|b,_⟩);·exact .inr (.inl b)
  ·exact .inl b
  ·exact .inr (.inr b)
theorem Gb(h:a[c]?=ae (f,j)):a=a.take c++(f,j)::a.drop (c+1):=by
 obtain⟨k,b⟩:=cu.mp h;rw[<-b,NG,jW]
theorem UX{v:Int}(c:bh a)(h:a[cU f a]?=ae (f,j)):a.set (cU f a) (f,v)=ins f v a:=by
 have k:=Gq (k:=f) c;have l:=J8 c h;have r:=(cu.mp h).1;rw[au9,if_pos r];refine rh c (MY (uR (O9 _ _) c) (uR (Ob _ _) c) k l) λe=> ?_;have o:e∈a↔e∈a.take (cU f a)\/e=(f,j)\/e∈a.drop (cU f a+1):=by
  rw[<-dk,<-dU,<-Gb h]
 rw[o,dU,dk];constructor
 ·rintro(b|b|b);·exact .inr ⟨.inl b,vV (k e b)⟩
  ·exact .inl b
  ·exact .inr ⟨.inr (.inr b),(vV (l e b)).symm⟩
 ·rintro(b|⟨b|b|b,p⟩);·exact .inr (.inl b)
  ·exact .inl b
  ·exact absurd (by rw[b]) p
  ·exact .inr (.inr b)
theorem Rc(c:bh a)(h:a[cU f a]?=ae (f,j)):a.take (cU f a)++a.drop (cU f a+1)=del f a:=by
 have k:=Gq (k:=f) c;have l:=J8 c h;have r:(a.take (cU f a)++a.drop (cU f a+1)).Sublist a:=by
  conv=>rhs;rw[Gb h]
  exact aM0 (aL8 _) (aw5 _ _)
 refine del_eq c (uR r c) λe=> ?_;have o:e∈a↔e∈a.take (cU f a)\/e=(f,j)\/e∈a.drop (cU f a+1):=by
  rw[<-dk,<-dU,<-Gb h]
 rw[o,dU];constructor
 ·rintro(b|b);·exact⟨.inl b,vV (k e b)⟩
  ·exact⟨.inr (.inr b),(vV (l e b)).symm⟩
 ·rintro⟨b|b|b,p⟩;·exact .inl b
  ·exact absurd (by rw[b]) p
  ·exact .inr b
theorem Ex:(aj.info? 46).map (λi=>(i.zero,i.size,i.bytes))=ae (ae (.agg #[.string ⟨#[]⟩,.int .i64 0]),2,24):=ah
theorem Vt(key:ByteArray)(v:Int):keyOf (key.data.toList,v)=key:=by simp[keyOf]
structure Raw(r:Nat)(go:Option Nat)(w:ak)(g cap n:Nat)(M:List KV)(wr:ak):Prop where
 len:M.length=n
 blk:wr.heap[r]?=ae (.cells #[.slice (ae ⟨g,0,af⟩) n cap] 36 (0,0))
 row:wr.ownsRow 0 46 2 (.slice (ae ⟨g,0,af⟩) n cap) n (flat M)
 ne:g≠r
 but:mM r go w wr
 new:ae g=go\/w.heap.size<=g
theorem Raw.cell{r:Nat}{a:Option Nat}{w wr:ak}{g cap n:Nat}{M:List KV}(h:Raw r a w g cap n M wr):wr.cell? ⟨r,0,af⟩=ae (.slice (ae ⟨g,0,af⟩) n cap):=by simp[bL,h.blk]
theorem Raw.at{g cap n:Nat}{M:List KV}(a:Raw c l b g cap n M h){i:Nat}{e:KV}(f:M[i]?=ae e):h.cell? ⟨g,i*2,af⟩=ae (.string (keyOf e))/\h.cell? ⟨g,i*2+1,af⟩=ae (.int .i64 e.2):=by
 have:=a.row;obtain⟨rfl⟩:=a.len;exact FF this i e f
theorem Raw.free{g cap n:Nat}{M:List KV}(a:Raw c l b g cap n M h)(j:Nat):h.frozen? ⟨g,j,af⟩=false:=a.row.frozenAt j
theorem Raw.drewN{r:Nat}{a:Option Nat}{w wr:ak}{g cap n:Nat}{M:List KV}(h:Raw r a w g cap n M wr)(m:Nat):Raw r a w g cap n M (wr.drewN m):=⟨h.len,h.blk,h.row,h.ne,⟨h.but.os,h.but.tape,h.but.output,h.but.size,h.but.block⟩,h.new⟩
theorem Raw.drew{r:Nat}{a:Option Nat}{w wr:ak}{g cap n:Nat}{M:List KV}(h:Raw r a w g cap n M wr):Raw r a w g cap n M wr.drew:=⟨h.len,h.blk,h.row,h.ne,⟨h.but.os,h.but.tape,h.but.output,h.but.size,h.but.block⟩,h.new⟩
theorem Raw.set{r:Nat}{c:Option Nat}{w wr:ak}{g cap n:Nat}{M:List KV}(h:Raw r c w g cap n M wr)(i:Nat)(e:KV):Raw r c w g cap n (M.set i e) ((wr.setCell ⟨g,i*2,af⟩ (.string (keyOf e))).setCell ⟨g,i*2+1,af⟩ (.int .i64 e.2)):=by
 obtain⟨b,l⟩:=h.row.stored (i*2) (.string (keyOf e));obtain⟨a,o⟩:=b.stored (i*2+1) (.int .i64 e.2);refine⟨by rw[zU];exact h.len,?_,by rw[Eb];exact a,h.ne,?_,h.new⟩
 ·rw[hH _ _ _ _ (λe=>h.ne e.symm),hH _ _ _ _ (λe=>h.ne e.symm)];exact h.blk
 ·refine⟨h.but.os,h.but.tape,h.but.output,bT h.but.size (bT l.size o.size),λk p b a=> ?_⟩;have j:k≠g:=λe=>by
   rcases h.new with f|f;·exact a (by rw[e];exact f)
   ·omega
  rw[hH _ _ _ _ j,hH _ _ _ _ j];exact h.but.block k p b a
def Cr:KV:=([],0)
def kV(l:List KV)(k:Nat):List KV:=(l++[Cr]).take (k+1)++l.drop k
theorem zl(l:List KV)(k:Nat)(a:k<=l.length):(kV l k).length=l.length+1:=by simp[kV];omega
theorem al5(l:List KV):kV l l.length=l++[Cr]:=by
 unfold kV;rw[fU az,zD (aL _),og]
theorem C0(l:List KV)(k t:Nat)(b:k<=l.length):(kV l k)[t]?=if t<=k then(l++[Cr])[t]? else l[t-1]?:=by
 unfold kV;have a:((l++[Cr]).take (k+1)).length=k+1:=by simp;omega
 by_cases h:t<=k;·rw[if_pos h,nu ag,nv,if_pos ag]
 ·rw[if_neg h,np ag,a,ny];congr 1;omega
theorem al7(l:List KV)(p:Nat)(e:KV)(c:p+1<=l.length)(f:l[p]?=ae e):(kV l (p+1)).set (p+1) e=kV l p:=by
 apply mD;intro t;rw[xr,C0 l (p+1) t c,C0 l p t ag,zl l (p+1) c];by_cases a:p+1=t
 ·subst a;rw[if_pos rfl,if_pos ag,if_neg ag];exact f.symm
 ·rw[if_neg a];by_cases b:t<=p;·rw[if_pos ag,if_pos b]
  ·rw[if_neg ag,if_neg b]
theorem al6(l:List KV)(q:Nat)(e:KV)(a:q<=l.length):(kV l q).set q e=l.take q++e::l.drop q:=by
 apply mD;intro t;rw[xr,C0 l q t a,oS l q t e a,zl l q a];by_cases b:q=t
 ·subst b;rw[if_pos rfl,if_pos ag,if_neg ag,if_pos rfl]
 ·rw[if_neg b];by_cases c:t<=q;·rw[if_pos c,if_pos ag,nu ag]
  ·rw[if_neg c,if_neg ag,if_neg ag]
theorem AU(l:List KV)(e:KV):flat (l++[e])=flat l++[.string (keyOf e),.int .i64 e.2]:=by simp[flat]
theorem ad8{n:Nat}{j:Option aH}{g cap s:Nat}{o:dV}(p:bQ b c (.slice j a.length cap) a)(y:h.ownsRow 0 46 2 (.slice (ae ⟨g,0,af⟩) (a.length+1) s) (a.length+1) (flat a++[.string ⟨#[]⟩,.int .i64 0]))(l:((b.drewN n).alloc o).grownBy h (iM j a.length cap).ownBlock)(t:(iM j a.length cap).ownBlock=ae g\/g=((b.drewN n).alloc o).heap.size):h.cell? ⟨c,0,af⟩=ae (.slice j a.length cap)/\h.frozen? ⟨c,0,af⟩=ax/\Raw c (iM j a.length cap).ownBlock b g s (a.length+1) (kV a a.length) (h.setCell ⟨c,0,af⟩ (.slice (ae ⟨g,0,af⟩) (a.length+1) s)):=by
 have x:=cJ p.blk;have B:((b.drewN n).alloc o).heap.size=b.heap.size+1:=az;have r:h.heap[c]?=ae (.cells #[.slice j a.length cap] 36 (0,0)):=by
  rw[l.block c ag (λe=>p.out e.symm)];exact((cH (b.drewN n) o).block c x).trans p.blk
 have u:g≠c:=by
  rcases t with f|f;·exact λe=>p.out (e▸f)
  ·omega
 refine⟨by simp[bL,r],by simp[gu,r],by rw[zl _ _ (aL _)],?_,?_,u,?_,?_⟩
 ·simp only[eK,fV,if_true,r,hZ];simp
 ·rw[al5,AU];exact NY y (by simp[fX];exact u) _
 ·refine⟨l.os,l.tape,l.output,?_,λk w f v=> ?_⟩;·have:=l.size;simp[eK];omega
  ·rw[hH _ _ _ _ f,l.block k ag v];exact(cH (b.drewN n) o).block k w
 ·rcases t with f|f;·exact .inl f.symm
  ·right;omega
theorem FY{g cap n:Nat}{M:List KV}(a:Raw c l b g cap n M h)(p:bh M)(k:pR M)(o:M.length<=3000):∃f,bQ h c f M/\mM c l b h/\(f.ownBlock=l\/∃g,f.ownBlock=ae g/\b.heap.size<=g):=by
 refine⟨_,⟨a.blk,?_,?_,p,k,o⟩,a.but,?_⟩;·rw[a.len];exact a.row
 ·simp[fX];exact a.ne
 ·rcases a.new with j|j;·exact .inl j
  ·exact .inr ⟨g,rfl,j⟩
theorem Km(h:pR a)(k:f.length<=64):pR (ins f j a):=λe c=>by
 rcases iT.mp c with rfl|⟨b,_⟩;·exact k
 ·exact h e b
theorem ah6(h:bQ b c k a)(key:ByteArray)(v:Int)(hk:key.size<=64)(N:lk key.data.toList a=af)(hf:a.length<3000):aE aj 32 #[.pointer (ae ⟨c,0,af⟩),.string key,.int .i64 v] b λe u=>e=.returned (.tuple #[.int .i64 0,.bool ax,.int .i64 0])/\∃B,bQ u c B (ins key.data.toList v a)/\mM c k.ownBlock b u/\(B.ownBlock=k.ownBlock\/∃g,B.ownBlock=ae g/\b.heap.size<=g):=by
 obtain⟨i0,ad,an,ap,ar⟩:=nF Ex;have R:aB (aE aj 41 #[.pointer (ae ⟨c,0,af⟩),.string key] b λe u=>e=.returned (.tuple #[.int .i64 (cU key.data.toList a),.bool (fJ key.data.toList a)])/\∃n,u=b.drewN n):=wT h key ag;have U:fJ key.data.toList a=false:=by unfold fJ;rw[N];rfl
 rw[U]at R;have hr:=h.cell;have aP:=h.free;have hq:=(wU key.data.toList a h.ck).1;have HO:aB (b.ownsRow 0 46 2 k a.length (flat a)):=h.row;obtain⟨j,cap,rfl⟩:∃j cap,k=.slice j a.length cap:=by
  rcases h.cases with⟨rfl,rfl⟩|⟨g,cap,rfl,hp,Z⟩;·exact⟨_,_,rfl⟩
  ·exact⟨_,_,rfl⟩
 have ai:aB (a.take (cU key.data.toList a)++(key.data.toList,v)::a.drop (cU key.data.toList a)=ins key.data.toList v a):=UW h.ck N;have x:aB (bQ b c (.slice j a.length cap) a):=h;clear h N U;generalize cU key.data.toList a=q at*
 go_enter D9,Hh
 go_wp2_with (first
  |(go_at_call 41;refine R.out.mono ?_;rintro e u ⟨rfl,n,rfl⟩)
  |(at_builtin;refine CI _ rfl _ _ _ rfl 0 46 i0 (.agg #[.string ⟨#[]⟩,.int .i64 0]) 2 24 CG ad an ap ar rfl ag (.slice j a.length cap) a.length _ rfl (Cw (w:=b.drewN n) HO.out _) ⟨b.heap.size,0,af⟩ 1 1 [.string ⟨#[]⟩,.int .i64 0] rfl rfl (qA (cs:= #[.string ⟨#[]⟩,.int .i64 0]) (t:=46) (fr:=(0,0)) (cY (b.drewN n) _)) (by simp[qF]) ag (by unfold cE;omega) ag ag _ rfl ?_;intro g o w1 a6 a2 W aR;obtain⟨al,ab,a7⟩:=ad8 x.out a6 a2 W;have y:aB (Raw c (iM j a.length cap).ownBlock b g o (a.length+1) (kV a a.length) (w1.setCell ⟨c,0,af⟩ (.slice (ae ⟨g,0,af⟩) (a.length+1) o))):=a7;have am:=y.out.cell;clear a6 a2 W a7))
 clear al ab
 go_loopg [12] a.length (λgk av wr=>∃l:Nat,av=.int .i64 l/\q<=l/\l<=a.length/\gk=l/\aB (Raw c (iM j a.length cap).ownBlock b g o (a.length+1) (kV a l) wr))
 case atStart=>exact⟨a.length,rfl,hq,aL _,rfl,y.out⟩
 case round=>
  clear y am;obtain⟨l,rfl,aT,t,rfl,f⟩:=hrel;by_cases aQ:q<gk
  ·obtain⟨p,rfl⟩:∃p,gk=p+1:=⟨gk-1,ag⟩;obtain⟨e,H⟩:∃e,a[p]?=ae e:=⟨a[p]'(ag),bf _⟩;have a1:(kV a (p+1))[p]?=ae e:=by rw[C0 _ _ _ t,if_pos ag,nu ag];exact H
   have Z:=f.out.cell;obtain⟨aF,aJ⟩:=f.out.at a1;obtain⟨r,s⟩:∃r,(kV a (p+1))[p+1]?=ae r:=⟨_,bf (by rw[zl _ _ t];omega)⟩;obtain⟨a8,aa⟩:=f.out.at s;have ac:=f.out.free;clear s;have w:aB (Raw c (iM j a.length cap).ownBlock b g o (a.length+1) (kV a p) ((wr.setCell ⟨g,(p+1)*2,af⟩ (.string (keyOf e))).setCell ⟨g,(p+1)*2+1,af⟩ (.int .i64 e.2))):=by
    rw[<-al7 a p e t H];exact f.out.set (p+1) e
   clear H a1
   go_wp2
   go_region
   go_wp2
   go_roundg p
   case measure=>omega
   case rel=>exact⟨p,by go_num,ag,ag,rfl,w.out.drew⟩
  ·have ek:gk=q:=ag;subst ek;obtain⟨r,s⟩:∃r,(kV a gk)[gk]?=ae r:=⟨_,bf (by rw[zl _ _ t];omega)⟩;obtain⟨a8,aa⟩:=f.out.at s;have ac:=f.out.free;have Z:=f.out.cell;have w:aB (Raw c (iM j a.length cap).ownBlock b g o (a.length+1) (ins key.data.toList v a) ((wr.setCell ⟨g,gk*2,af⟩ (.string key)).setCell ⟨g,gk*2+1,af⟩ (.int .i64 v))):=by
    have:=f.out.set gk (key.data.toList,v);rw[al6 a gk _ t,ai.out,Vt]at this;exact this
   clear s
   go_wp2
   go_ret3
   exact⟨rfl,FY w.out (iw x.out.ck) (Km x.out.short (by simpa using hk)) (by rw[w.out.len];omega)⟩
theorem ah5(key:ByteArray)(v:Int)(f:64<key.size)(h:key.size<=9223372036854775807):aE aj 32 #[.pointer (ae ⟨c,0,af⟩),.string key,.int .i64 v] b λe a=>e=.returned (.tuple #[.int .i64 0,.bool ax,.int .i64 1])/\a=b:=by
 go_enter D9,Hh
 go_wp2
 go_ret3
 exact⟨rfl,rfl⟩
theorem ah4(h:bQ b c k a)(key:ByteArray)(v:Int)(u:key.size<=64)(p:lk key.data.toList a=af)(s:3000<=a.length):aE aj 32 #[.pointer (ae ⟨c,0,af⟩),.string key,.int .i64 v] b λe f=>e=.returned (.tuple #[.int .i64 0,.bool ax,.int .i64 2])/\∃n,f=b.drewN n:=by
 have j:aB (aE aj 41 #[.pointer (ae ⟨c,0,af⟩),.string key] b λe f=>e=.returned (.tuple #[.int .i64 (cU key.data.toList a),.bool (fJ key.data.toList a)])/\∃n,f=b.drewN n):=wT h key ag;have o:fJ key.data.toList a=false:=by unfold fJ;rw[p];rfl
 rw[o]at j;have x:=h.cell;have t:=h.cI;obtain⟨l,cap,rfl⟩:∃l cap,k=.slice l a.length cap:=by
  rcases h.cases with⟨rfl,rfl⟩|⟨g,cap,rfl,w,r⟩;·exact⟨_,_,rfl⟩
  ·exact⟨_,_,rfl⟩
 clear h p o;generalize cU key.data.toList a=q at*
 go_enter D9,Hh
 go_wp2_with (go_at_call 41;refine j.out.mono ?_;rintro e f ⟨rfl,n,rfl⟩)
 go_ret3
 exact⟨rfl,_,rfl⟩
theorem bQ.raw{g cap:Nat}(h:bQ b c (.slice (ae ⟨g,0,af⟩) a.length cap) a):Raw c (ae g) b g cap a.length a b:=⟨rfl,h.blk,h.row,λe=>h.out (by rw[<-e];rfl),⟨rfl,rfl,rfl,aL _,λ_ _ _ _=>rfl⟩,.inl rfl⟩
theorem Raw.ak8{g cap n:Nat}{M:List KV}(a:Raw c l b g cap n M h)(i:Nat)(k:List UInt8)(u v:Int)(r:M[i]?=ae (k,u)):Raw c l b g cap n (M.set i (k,v)) (h.setCell ⟨g,i*2+1,af⟩ (.int .i64 v)):=by
 obtain⟨f,p⟩:=a.row.stored (i*2+1) (.int .i64 v);refine⟨by rw[zU];exact a.len,?_,by rw[TX M i k u v r];exact f,a.ne,?_,a.new⟩
 ·rw[hH _ _ _ _ (λe=>a.ne e.symm)];exact a.blk
 ·refine⟨a.but.os,a.but.tape,a.but.output,bT a.but.size p.size,λk s f j=> ?_⟩;have t:k≠g:=λe=>by
   rcases a.new with o|o;·exact j (by rw[e];exact o)
   ·omega
  rw[hH _ _ _ _ t];exact a.but.block k s f j
theorem ah7(h:bQ b c k a)(key:ByteArray)(v:Int)(y:key.size<=64)(p:lk key.data.toList a=ae j):aE aj 32 #[.pointer (ae ⟨c,0,af⟩),.string key,.int .i64 v] b λe o=>e=.returned (.tuple #[.int .i64 j,.bool aq,.int .i64 0])/\∃f,bQ o c f (ins key.data.toList v a)/\mM c k.ownBlock b o/\(f.ownBlock=k.ownBlock\/∃g,f.ownBlock=ae g/\b.heap.size<=g):=by
 have r:aB (aE aj 41 #[.pointer (ae ⟨c,0,af⟩),.string key] b λe o=>e=.returned (.tuple #[.int .i64 (cU key.data.toList a),.bool (fJ key.data.toList a)])/\∃n,o=b.drewN n):=wT h key ag;have s:fJ key.data.toList a=true:=by unfold fJ;rw[p];rfl
 rw[s]at r;have U:=h.cI;have l:=Ef h.ck p;have B:=(cu.mp l).1;rcases h.cases with⟨rfl,rfl⟩|⟨g,cap,rfl,t,H⟩;·simp at B
 have x:aB (∀n,Raw c (ae g) b g cap a.length (ins key.data.toList v a) ((b.drewN n).setCell ⟨g,cU key.data.toList a*2+1,af⟩ (.int .i64 v))):=λn=>by
  have:=(h.raw.drewN n).ak8 _ _ j v l;rwa[UX h.ck l]at this
 have w:aB (∀wr,Raw c (ae g) b g cap a.length (ins key.data.toList v a) wr->∃f,bQ wr c f (ins key.data.toList v a)/\mM c (iM (ae ⟨g,0,af⟩) a.length cap).ownBlock b wr/\(f.ownBlock=(iM (ae ⟨g,0,af⟩) a.length cap).ownBlock\/∃g,f.ownBlock=ae g/\b.heap.size<=g)):=λwr u=>FY u (iw h.ck) (Km h.short (by simpa using y)) (by rw[u.len];omega);obtain⟨N,R⟩:=t _ _ l;have W:=h.raw.free;have Z:=h.cell;have a1:=λn=>(h.raw.drewN n).cell;clear h p s t l;generalize cU key.data.toList a=q at*
 go_enter D9,Hh
 go_wp2_with (go_at_call 41;refine r.out.mono ?_;rintro e o ⟨rfl,n,rfl⟩)
 go_ret3
 exact⟨rfl,w.out _ (x.out n)⟩
def lY(l:List KV)(q k:Nat):List KV:=(l.take q++l.drop (q+1)).take k++l.drop k
theorem AN(l:List KV)(q k t:Nat)(b:q<l.length)(c:k+1<=l.length):(lY l q k)[t]?=if t<k then(if t<q then l[t]? else l[t+1]?)else l[t]?:=by
 unfold lY;have a:((l.take q++l.drop (q+1)).take k).length=k:=by simp;omega
 by_cases h:t<k;·rw[if_pos h,nu ag,nv,if_pos h,vM l q t b]
 ·rw[if_neg h,np ag,a,ny];congr 1;omega
theorem J6(l:List KV)(q k:Nat)(b:q<l.length)(a:k+1<=l.length):(lY l q k).length=l.length:=by
 unfold lY;simp;omega
theorem QZ(l:List KV)(q:Nat)(a:q<l.length):lY l q q=l:=by
 apply mD;intro t;rw[AN l q q t a ag];split;·rfl
 ·rfl
theorem Ra(l:List KV)(q k:Nat)(e:KV)(a:q<l.length)(j:q<=k)(h:k+1<l.length)(f:l[k+1]?=ae e):(lY l q k).set k e=lY l q (k+1):=by
 apply mD;intro t;rw[xr,AN l q k t a ag,AN l q (k+1) t a ag,J6 l q k a ag];by_cases b:k=t
 ·subst b;rw[if_pos rfl,if_pos ag,if_pos ag,if_neg ag];exact f.symm
 ·rw[if_neg b];by_cases c:t<k;·simp only[c,show t<k+1 by omega,if_true]
  ·simp only[c,show¬t<k+1 by omega,if_false]
theorem QY(l:List KV)(q:Nat)(b:q<l.length):(lY l q (l.length-1)).take (l.length-1)=l.take q++l.drop (q+1):=by
 unfold lY;have a:(l.take q++l.drop (q+1)).length=l.length-1:=by simp;omega
 rw[fU (l:=l.take q++l.drop (q+1)) ag,av0 ag,fU ag]
theorem Jz:∀(l:List KV) (i:Nat),flat (l.take i)=(flat l).take (i*2)
 |[],i=>by simp[flat]
 |a::l,0=>by simp[flat]
 |a::l,i+1=>by
  have h:=Jz l i;have b:(i+1)*2=i*2+1+1:=ag;rw[b];simpa[flat]using h
theorem Raw.cut{g cap n:Nat}{M:List KV}(a:Raw c l b g cap n M h)(m:Nat)(H:m<=n):Raw c l b g cap m (M.take m) (h.setCell ⟨c,0,af⟩ (.slice (ae ⟨g,0,af⟩) m cap)):=by
 have B:=a.len;refine⟨by rw[sW];omega,?_,?_,a.ne,?_,a.new⟩
 ·simp only[eK,fV,if_true,a.blk,hZ];simp
 ·refine NY ?_ (by simp[fX];exact a.ne) _;obtain⟨x,f|⟨w,v,o,f,j,p,y,r,s,t⟩⟩:=a.row;·cases f.1
  ·cases f;refine⟨by rw[Jy,sW];congr 1;omega,.inr ⟨g,cap,o,rfl,j,p,ag,r,s,?_⟩⟩;rw[Jz,<-t,List.take_take];congr 1;omega
 ·refine⟨a.but.os,a.but.tape,a.but.output,by have:=a.but.size;simp[eK];omega,λk u f j=> ?_⟩;rw[hH _ _ _ _ f];exact a.but.block k u f j
theorem Raw.af7{g cap n:Nat}{M:List KV}(a:Raw c l b g cap n M h):h.frozen? ⟨c,0,af⟩=false:=by simp[gu,a.blk]
theorem Vv(h:pR a):pR (del f a):=λe b=>h e (sA.mp b).1
theorem ae0(h:bQ b c k a)(key:ByteArray)(p:key.size<=9223372036854775807)(o:lk key.data.toList a=af):aE aj 56 #[.pointer (ae ⟨c,0,af⟩),.string key] b λe f=>e=.returned (.tuple #[.int .i64 0,.bool ax])/\∃n,f=b.drewN n:=by
 have j:aB (aE aj 41 #[.pointer (ae ⟨c,0,af⟩),.string key] b λe f=>e=.returned (.tuple #[.int .i64 (cU key.data.toList a),.bool (fJ key.data.toList a)])/\∃n,f=b.drewN n):=wT h key ag;have l:fJ key.data.toList a=false:=by unfold fJ;rw[o];rfl
 rw[l]at j;clear h o l
 go_enter aI4,aF2
 go_wp2_with (go_at_call 41;refine j.out.mono ?_;rintro e f ⟨rfl,n,rfl⟩)
 go_ret2
 exact⟨rfl,_,rfl⟩
theorem ae1(h:bQ b c k a)(key:ByteArray)(hk:key.size<=9223372036854775807)(v:lk key.data.toList a=ae j):aE aj 56 #[.pointer (ae ⟨c,0,af⟩),.string key] b λe r=>e=.returned (.tuple #[.int .i64 j,.bool aq])/\∃o,bQ r c o (del key.data.toList a)/\mM c k.ownBlock b r/\(o.ownBlock=k.ownBlock\/∃g,o.ownBlock=ae g/\b.heap.size<=g):=by
 have x:aB (aE aj 41 #[.pointer (ae ⟨c,0,af⟩),.string key] b λe r=>e=.returned (.tuple #[.int .i64 (cU key.data.toList a),.bool (fJ key.data.toList a)])/\∃n,r=b.drewN n):=wT h key ag;have H:fJ key.data.toList a=true:=by unfold fJ;rw[v];rfl
 rw[H]at x;have a2:=h.cI;have s:=Ef h.ck v;have p:=(cu.mp s).1;rcases h.cases with⟨rfl,rfl⟩|⟨g,cap,rfl,hp,ac⟩;·simp at p
 have w:aB ((lY a (cU key.data.toList a) (a.length-1)).take (a.length-1)=del key.data.toList a):=by
  have:=QY a _ p;rw[Rc h.ck s]at this;exact this
 have a1:aB (∀wr n,Raw c (ae g) b g cap n (del key.data.toList a) wr->∃o,bQ wr c o (del key.data.toList a)/\mM c (iM (ae ⟨g,0,af⟩) a.length cap).ownBlock b wr/\(o.ownBlock=(iM (ae ⟨g,0,af⟩) a.length cap).ownBlock\/∃g,o.ownBlock=ae g/\b.heap.size<=g)):=λwr n hw=>FY hw (C6 h.ck) (Vv h.short) (bT (mB _ _) a2);obtain⟨N,R⟩:=hp _ _ s;have y:aB (Raw c (ae g) b g cap a.length a b):=h.raw;have hr:=h.cell;clear h v H hp s;generalize cU key.data.toList a=q at*
 go_enter aI4,aF2
 go_wp2_with (go_at_call 41;refine x.out.mono ?_;rintro e r ⟨rfl,n,rfl⟩)
 go_loopg [9] a.length (λgk s9 wr=>∃f:Nat,s9=.int .i64 f/\q<=f/\f+1<=a.length/\a.length<=gk+f/\aB (Raw c (ae g) b g cap a.length (lY a q f) wr))
 case atStart=>exact⟨q,rfl,aL _,p,ag,by rw[QZ a q p];exact y.out.drewN n⟩
 case round=>
  clear y hr N R;obtain⟨f,rfl,a8,Z,al,l⟩:=hrel;have hc:=l.out.cell;by_cases a7:f+1<a.length
  ·obtain⟨e,u⟩:∃e,a[f+1]?=ae e:=⟨a[f+1]'(ag),bf _⟩;have U:(lY a q f)[f+1]?=ae e:=by rw[AN _ _ _ _ p Z,if_neg ag];exact u
   obtain⟨N,R⟩:=l.out.at U;obtain⟨B,W⟩:∃B,(lY a q f)[f]?=ae B:=⟨_,bf (by rw[J6 _ _ _ p Z];omega)⟩;obtain⟨ad,ai⟩:=l.out.at W;have a6:=l.out.free;have t:aB (Raw c (ae g) b g cap a.length (lY a q (f+1)) ((wr.setCell ⟨g,f*2,af⟩ (.string (keyOf e))).setCell ⟨g,f*2+1,af⟩ (.int .i64 e.2))):=by
    rw[<-Ra a q f e p a8 a7 u];exact l.out.set f e
   clear u U W
   go_wp2
   go_region
   go_wp2
   go_roundg (gk-1)
   case measure=>omega
   case rel=>exact⟨f+1,by go_num,ag,ag,ag,t.out.drew⟩
  ·have ek:f=a.length-1:=ag;have a6:=l.out.af7;have am:cZ.wrap ((a.length:Int)-1)=(f:Int):=by rw[ft];omega
   have aa:(0:Int)<=(f:Int):=ag;have ab:(f:Int)<=(cap:Int):=ag;have t:aB (Raw c (ae g) b g cap (a.length-1) (del key.data.toList a) (wr.setCell ⟨c,0,af⟩ (.slice (ae ⟨g,0,af⟩) (a.length-1) cap))):=by
    have:=l.out.cut f ag;rw[ek]at this;rw[w.out]at this;exact this
   clear w
   go_wp2
   go_region
   go_wp2
   go_ret2
   exact⟨rfl,a1.out _ _ t.out.drew⟩
