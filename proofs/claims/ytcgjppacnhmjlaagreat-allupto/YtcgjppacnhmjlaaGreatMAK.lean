/- Own texts: TwinA, TwinB, TwinC, TwinD, TwinE, TwinF, TwinG. -/
import Derived.Test.YtcgjppacnhmjlaaGreatMAJ
import Derived.Test.YtcgjppacnhmjlaaGreatMR
import Derived.RangeFuncOwn
import Derived.Deep.RegionWith
import Derived.Deep.DeepCutAuto
import Derived.OwnWalk
import Derived.Deep.RegionHeld3
set_option linter.all false
set_option maxRecDepth 100000
set_option maxHeartbeats 2000000
open Array renaming getElem?_modify->fV,getElem?_toList->zF
open Bool renaming true->aq,false->ax
open Go renaming World->ak,Value->au,cell_later->aS,Calls->aE,TypeId->aK,heap_alloc_new->cY,Addr->aH,maxLen->cE,wpList_append_lies->CI,Obj->dV,ownsRow_setCell_other->NY
open Go.Op renaming bytesLess->dt
open Go.Proofs.Tryz renaming prog->aj,func33->P2,func9->Pd,ntmps33->aF9,ntmps9->aH5,func37->aJ0,func16->aJ8,func14->aJ9,func13->aK0
open Go.RowKit renaming Below->aA,Hid->aB
open Go.RowKit.Below renaming refl->cD,heap_setCell->hH
open Go.Value renaming ownBlock->fX,slice->iM,oneCell'->qF
open Go.World renaming block_lt_of_cell?->cC,cell?->bL,setCell->eK,frozen?->gu,news_of_block->qA,ownsRow_nil->CB
open Go.World.ownsRow renaming alloc->Cw
open List renaming getElem?_eq_some_iff->cu,length_append->gJ,getElem?_append_left->nu,getElem?_take->nv,getElem?_set->xr,length_set->zU
open List.Pairwise renaming nil->nA
open Nat renaming le_refl->aL,le_trans->bT,lt_of_lt_of_le->dG
open Option renaming some->ae,none->af,map_some->hZ
namespace Go.Proofs.YtcgjppacnhmjlaaGreat
open Go.RowKit
variable {s:Nat->Prop} {c u:Nat->Nat} {a o:ak} {b h r:Nat} {f:List KV} {p t:au} {j:ByteArray} {l:Int} {w:aK} {v:List au}
structure dM(R:Nat->Prop)(ρ:Nat->Nat)(w:ak)(ρ':Nat->Nat)(w':ak):Prop where
 os:w'.os=w.os
 tape:w'.tape=w.tape
 output:w'.output=w.output
 size:w.heap.size<=w'.heap.size
 agree:∀k,k<w.heap.size->ρ' k=ρ k
 fresh:∀k,w'.heap.size<=k->ρ' k=0
 block:∀k,k<w.heap.size->¬R (ρ k)->w'.heap[k]?=w.heap[k]?
 uo:∀(k:Nat) (o:dV),w.heap[k]?=ae o->o.isCells=ax->w'.heap[k]?=ae o
theorem dM.trans{R:Nat->Prop}{ρ j l:Nat->Nat}{w w1 f:ak}(h:dM R ρ w j w1)(k:dM R j w1 l f):dM R ρ w l f:=⟨k.os.trans h.os,k.tape.trans h.tape,k.output.trans h.output,bT h.size k.size,λi a=>(k.agree i (dG a h.size)).trans (h.agree i a),k.fresh,
  λi a b=>(k.block i (dG a h.size) (by rw[h.agree i a];exact b)).trans (h.block i a b),λi o a c=>k.uo i o (h.uo i o a c) c⟩
theorem dM.jQ(f:∀k,a.heap.size<=k->c k=0)(h:aA a.heap.size a o):dM s c a c o:=⟨h.os,h.tape,h.output,h.size,λ_ _=>rfl,λk b=>f k (bT h.size b),λk b _=>h.block k b,λk j b _=>(h.block k (cJ b)).trans b⟩
theorem dM.YT(t:∀k,a.heap.size<=k->c k=0)(h:cF b a o)(u:s (c b))(r:∀j,a.heap[b]?=ae j->j.isCells=aq):dM s c a c o:=⟨h.os,h.tape,h.output,h.size,λ_ _=>rfl,λk f=>t k (bT h.size f),λk f p=>h.block k f (λe=>p (e▸u)),λk j f l=>(h.block k (cJ f) (λe=>by subst e;rw[r j f]at l;cases l)).trans f⟩
theorem bB.nf{R:Nat->Prop}(h:bB (λk=>c k=0) a b f)(l:dM R c a u o)(x:¬R 0)(N:¬R (c b)):bB (λk=>u k=0) o b f:=by
 obtain⟨n,U,s,p⟩:=h.tree;have r:=cJ s;refine⟨⟨n,U,(l.block b r N).trans s,?_⟩,λe=>h.out ((l.agree b r).symm.trans e),h.cI⟩;rcases p with p|⟨t,y,B⟩;·exact .inl p
 ·refine .inr ⟨t,y,?_⟩;have H:aY (λk=>c k=0/\k<a.heap.size) n a t f:=B.weaken (λk v w=>⟨v,w⟩);exact H.bK (λk j=>l.block k j.2 (by rw[j.1];exact x)) (λk j _=>(l.agree k j.2).trans j.1) (aL _)
theorem bQ.nf{R:Nat->Prop}(h:bQ a b p f)(j:dM R c a u o)(l:¬R (c b))(k:∀g,p.ownBlock=ae g->¬R (c g)):bQ o b p f:=⟨(j.block b (cJ h.blk) l).trans h.blk,ng h.row λg e=>j.block g (h.row.lt g e).2 (k g e),h.out,h.ck,h.short,h.cI⟩
structure Twin(ρ:Nat->Nat)(i:Nat)(w:ak)(x r:Nat)(l:List KV):Prop where
 ix:bB (λk=>ρ k=0) w x l
 px:ρ x=3*i+1
 pr:ρ r=3*i+2
 ref:∃av,bQ w r av l/\∀g,av.ownBlock=ae g->ρ g=3*i+3
def Part(i:Nat)(c:Nat):Prop:=c=3*i+1\/c=3*i+2\/c=3*i+3
theorem Twin.nf{R:Nat->Prop}{o p:Nat->Nat}{i:Nat}{w k:ak}{x r:Nat}{l:List KV}(h:Twin o i w x r l)(a:dM R o w p k)(t:¬R 0)(f:∀c,Part i c->¬R c):Twin p i k x r l:=by
 obtain⟨s,b,j⟩:=h.ref;refine⟨h.ix.nf a t (f _ (by rw[h.px];exact .inl rfl)),(a.agree x h.ix.lt).trans h.px,(a.agree r (cJ b.blk)).trans h.pr,s,b.nf a (f _ (by rw[h.pr];exact .inr (.inl rfl))) (λg e=>f _ (by rw[j g e];exact .inr (.inr rfl))),λg e=> ?_⟩;exact(a.agree g (b.row.lt g e).2).trans (j g e)
theorem Twin.on{i:Nat}{w:ak}(j:Twin c i w b h f)(l:aA w.heap.size w a)(o:∀k,w.heap.size<=k->c k=0):Twin c i a b h f:=
 j.nf (R:=λ_=>False) (dM.jQ o l) (λj=>j) (λ_ _ j=>j)
theorem Yo{i:Nat}(v:∀k,a.heap.size<=k->c k=0)(R:c b=3*i+2)(w:∀g,p.ownBlock=ae g->c g=3*i+3)(f:mM b p.ownBlock a o)(H:∀h,a.heap[b]?=ae h->h.isCells=aq)(B:∀g h,p.ownBlock=ae g->a.heap[g]?=ae h->h.isCells=aq)(l:t.ownBlock=p.ownBlock\/∃g,t.ownBlock=ae g/\a.heap.size<=g)(N:∀g,t.ownBlock=ae g->g<o.heap.size):∃y,dM (Part i) c a y o/\∀g,t.ownBlock=ae g->y g=3*i+3:=by
 have u:∀k,k<a.heap.size->¬Part i (c k)->o.heap[k]?=a.heap[k]?:=λk j s=>f.block k j (λe=>s (by rw[e,R];exact .inr (.inl rfl))) (λe=>s (by rw[w k e.symm];exact .inr (.inr rfl)));have x:∀(k:Nat) (h:dV),a.heap[k]?=ae h->h.isCells=ax->o.heap[k]?=ae h:=λk h j r=>(f.block k (cJ j) (λe=>by subst e;rw[H h j]at r;cases r) (λe=>by rw[B k h e.symm j]at r;cases r)).trans j;rcases l with l|⟨g,l,W⟩;·exact⟨c,⟨f.os,f.tape,f.output,f.size,λ_ _=>rfl,λk j=>v k (bT f.size j),u,x⟩,λg e=>w g (l▸e)⟩
 ·refine⟨λk=>if k=g then 3*i+3 else c k,⟨f.os,f.tape,f.output,f.size,λk j=>if_neg ag,λk j=> ?_,u,x⟩,λU e=> ?_⟩
  ·have:=N g l;show(if k=g then 3*i+3 else c k)=0;rw[if_neg ag];exact v k (bT f.size j)
  ·rw[l]at e;cases e;exact if_pos rfl
theorem BH(i:Nat):¬Part i 0:=by unfold Part;omega
def lD(key:ByteArray)(l:List KV):Value:=if 64<key.size then .tuple #[.int .i64 0,.bool ax,.int .i64 1]else match lk key.data.toList l with
 |some u=>.tuple #[.int .i64 u,.bool aq,.int .i64 0]
 |none=>if 3000<=l.length then .tuple #[.int .i64 0,.bool ax,.int .i64 2]else .tuple #[.int .i64 0,.bool ax,.int .i64 0]
def iE(key:ByteArray)(v:Int)(l:List KV):List KV:=if 64<key.size then l else if(lk key.data.toList l).isSome=aq\/l.length<3000 then ins key.data.toList v l else l
theorem BJ{v:Int}{l:List KV}(h:64<j.size):lD j l=.tuple #[.int .i64 0,.bool ax,.int .i64 1]/\iE j v l=l:=by simp[lD,iE,h]
theorem yY{v:Int}(h:¬64<j.size)(a:lk j.data.toList f=ae l):lD j f=.tuple #[.int .i64 l,.bool aq,.int .i64 0]/\iE j v f=ins j.data.toList v f:=by simp[lD,iE,h,a]
theorem yX{v:Int}(h:¬64<j.size)(c:lk j.data.toList f=af)(a:3000<=f.length):lD j f=.tuple #[.int .i64 0,.bool ax,.int .i64 2]/\iE j v f=f:=by
 have b:¬f.length<3000:=ag;simp[lD,iE,h,c,a,b]
theorem yW{v:Int}(h:¬64<j.size)(c:lk j.data.toList f=af)(a:¬3000<=f.length):lD j f=.tuple #[.int .i64 0,.bool ax,.int .i64 0]/\iE j v f=ins j.data.toList v f:=by
 have b:f.length<3000:=ag;simp[lD,iE,h,c,a,b]
theorem V9(t:Open s a)(h:bB s a b f)(v:j.size<=9223372036854775807):aE aj 31 #[.pointer (ae ⟨b,0,af⟩),.string j,.int .i64 l] a λe p=>e=.returned (lD j f)/\bB s p b (iE j l f)/\cF b a p:=by
 by_cases o:64<j.size
 ·rw[(BJ (v:=l) (l:=f) o).1,(BJ (v:=l) (l:=f) o).2];exact(Zx o v).mono λe p c=>⟨c.1,by rw[c.2];exact h,by rw[c.2];exact cF.jQ (cD _ _)⟩
 ·cases k:lk j.data.toList f with
  |some u=>
   rw[(yY (v:=l) o k).1,(yY (v:=l) o k).2];exact(Zz t h ag k).mono λe p c=>⟨by rw[c.1,k];rfl,c.2⟩
  |none=>
   by_cases r:3000<=f.length
   ·rw[(yX (v:=l) o k r).1,(yX (v:=l) o k r).2];exact(Zw h ag k r).mono λe p c=>⟨c.1,h.on c.2,cF.jQ c.2⟩
   ·rw[(yW (v:=l) o k r).1,(yW (v:=l) o k r).2];exact(Zy t h ag k ag).mono λe p c=>⟨by rw[c.1,k];rfl,c.2⟩
theorem DZ{g:Option Nat}(w:ak)(n:Nat):mM b g w (w.drewN n):=⟨rfl,rfl,rfl,aL _,λ_ _ _ _=>rfl⟩
theorem below_drewN(w:ak)(n:Nat):aA w.heap.size w (w.drewN n):=⟨rfl,rfl,rfl,aL _,λ_ _=>rfl⟩
theorem MH(h:bQ a b p f)(w:j.size<=9223372036854775807):aE aj 32 #[.pointer (ae ⟨b,0,af⟩),.string j,.int .i64 l] a λe s=>e=.returned (lD j f)/\∃t,bQ s b t (iE j l f)/\mM b p.ownBlock a s/\(t.ownBlock=p.ownBlock\/∃g,t.ownBlock=ae g/\a.heap.size<=g):=by
 by_cases c:64<j.size
 ·rw[(BJ (v:=l) (l:=f) c).1,(BJ (v:=l) (l:=f) c).2];exact(ah5 j l c w).mono λe s r=>⟨r.1,p,by rw[r.2];exact h,by rw[r.2];exact DZ a 0,.inl rfl⟩
 ·cases k:lk j.data.toList f with
  |some u=>
   rw[(yY (v:=l) c k).1,(yY (v:=l) c k).2];exact ah7 h j l ag k
  |none=>
   by_cases o:3000<=f.length
   ·rw[(yX (v:=l) c k o).1,(yX (v:=l) c k o).2];exact(ah4 h j l ag k o).mono λe s r=>by
     obtain⟨v,n,rfl⟩:=r;exact⟨v,p,h.on (below_drewN a n),DZ a n,.inl rfl⟩
   ·rw[(yW (v:=l) c k o).1,(yW (v:=l) c k o).2];exact ah6 h j l ag k ag
theorem ad9(h:bQ a b p f)(o:j.size<=9223372036854775807):aE aj 56 #[.pointer (ae ⟨b,0,af⟩),.string j] a λe l=>e=.returned (.tuple #[.int .i64 (gm (lk (eG j) f)),.bool (lk (eG j) f).isSome])/\∃c,bQ l b c (del (eG j) f)/\mM b p.ownBlock a l/\(c.ownBlock=p.ownBlock\/∃g,c.ownBlock=ae g/\a.heap.size<=g):=by
 unfold eG;cases k:lk j.data.toList f with
 |none=>
  refine(ae0 h j o k).mono ?_;rintro e l ⟨r,n,rfl⟩;exact⟨r,p,by rw[DW k];exact h.on (below_drewN a n),DZ a n,.inl rfl⟩
 |some u=>exact ae1 h j o k
theorem bB.yz(h:bB s a b f):∀o,a.heap[b]?=ae o->o.isCells=true:=λo c=>by
 obtain⟨n,k,j,_⟩:=h.tree;rw[j]at c;cases c;rfl
theorem bQ.yz(h:bQ a b p f):∀o,a.heap[b]?=ae o->o.isCells=true:=λo c=>by
 rw[h.blk]at c;cases c;rfl
theorem FE{n:Nat}(l:a.ownsRow b w h p n v):∀g o,p.ownBlock=ae g->a.heap[g]?=ae o->o.isCells=true:=λg o c j=>by
 obtain⟨u,f|⟨k,s,t,f,x,r,y⟩⟩:=l;·rw[f.1]at c;cases c
 ·rw[f]at c;have:k=g:=by simpa[fX]using c
  subst this;rw[r]at j;cases j;rfl
theorem Twin.both{i:Nat}{s:ak}(Z:∀k,a.heap.size<=k->c k=0)(x:c b=3*i+1)(w:c h=3*i+2)(H:∀g,p.ownBlock=ae g->c g=3*i+3)(a7:b<a.heap.size)(a6:h<a.heap.size)(W:∀l,a.heap[b]?=ae l->l.isCells=aq)(U:∀l,o.heap[h]?=ae l->l.isCells=aq)(R:∀g l,p.ownBlock=ae g->o.heap[g]?=ae l->l.isCells=aq)(v:cF b a o)(a2:bB (λk=>c k=0) o b f)(r:bQ s h t f)(B:mM h p.ownBlock o s)(hn:t.ownBlock=p.ownBlock\/∃g,t.ownBlock=ae g/\o.heap.size<=g):∃u,dM (Part i) c a u s/\Twin u i s b h f:=by
 have N:dM (Part i) c a c o:=dM.YT Z v (by rw[x];exact .inl rfl) W;obtain⟨u,j,a1⟩:=Yo (i:=i) N.fresh w H B U R hn (λg e=>(r.row.lt g e).2);refine⟨u,N.trans j,?_⟩;have a8:dM (λy=>y=3*i+2\/y=3*i+3) c o u s:=⟨j.os,j.tape,j.output,j.size,j.agree,j.fresh,λk hk r=>B.block k hk (λe=>r (by rw[e,w];exact .inl rfl)) (λe=>r (by rw[H k e.symm];exact .inr rfl)),j.uo⟩;exact⟨a2.nf a8 ag (by rw[x];omega),(j.agree b (dG a7 v.size)).trans x,(j.agree h (dG a6 v.size)).trans w,t,r,a1⟩
section
attribute [local go_sem↓] Go.wp_at_zero Go.wp_at_succ
def tw(x r:Nat):Value:=.agg #[.pointer (ae ⟨x,0,af⟩),.pointer (ae ⟨r,0,af⟩)]
def jC(x r:Nat):Obj:=.cells #[.pointer (ae ⟨x,0,af⟩),.pointer (ae ⟨r,0,af⟩)] 42
theorem Fh(n:Int)(w:ak):aE aj 33 #[.int .i64 n] w λe a=>e=.returned (.int .i64 n)/\a=w:=by
 go_enter P2,aF9
 go_wp2
 go_ret
 exact⟨rfl,rfl⟩
theorem Ff(w:ak)(o p:dV):((w.alloc o).alloc p).heap[w.heap.size+1]?=ae p:=by have:=cY (w.alloc o) p;simpa using this
theorem Cf(f:b<a.heap.size)(c:cF b (a.alloc (jC b h)) o):o.cell? ⟨a.heap.size,1,af⟩=ae (.pointer (ae ⟨h,0,af⟩)):=by
 have:o.heap[a.heap.size]?=ae (jC b h):=(c.block _ az ag).trans (cY a _);simp[bL,this,jC]
theorem Twin.Mt{i:Nat}(t:c b=3*i+1)(s:c h=3*i+2)(r:∀g,p.ownBlock=ae g->c g=3*i+3)(j:bQ a h p f)(k:cF b a o):bQ o h p f:=⟨(k.block h (cJ j.blk) (λe=>by rw[e]at s;omega)).trans j.blk,ng j.row λg e=>k.block g (j.row.lt g e).2 (λl=>by have:=r g e;rw[l]at this;omega),j.out,j.ck,j.short,j.cI⟩
theorem Zv(key:ByteArray)(l:List KV):∃a b c,lD key l=.tuple #[.int .i64 a,.bool b,.int .i64 c]:=by
 unfold lD;split;·exact⟨_,_,_,rfl⟩
 ·split;·exact⟨_,_,_,rfl⟩
  ·split<;>exact⟨_,_,_,rfl⟩
theorem Na{i:Nat}(t:Twin c i a b h f)(y:∀k,a.heap.size<=k->c k=0)(u:j.size<=9223372036854775807):aE aj 16 #[tw b h,.string j,.int .i64 l] a λe p=>e=.returned (.bool aq)/\∃s,dM (Part i) c a s p/\Twin s i p b h (iE j l f):=by
 have x:∀o,aA a.heap.size a (a.alloc o):=λo=>cH a o;have v:∀o,Twin c i (a.alloc o) b h f:=λo=>t.on (x o) y;have H:∀o k,(a.alloc o).heap.size<=k->c k=0:=λo k u=>y k (bT (x o).size u);obtain⟨U,W,Z,R⟩:=Zv j f;have HP:aB (∀o,aE aj 31 #[.pointer (ae ⟨b,0,af⟩),.string j,.int .i64 l] (a.alloc o) λe p=>e=.returned (.tuple #[.int .i64 U,.bool W,.int .i64 Z])/\(bB (λk=>c k=0) p b (iE j l f)/\cF b (a.alloc o) p)):=λo=>(V9 (λk u=>H o k u) (v o).ix u).mono λe p he=>⟨by rw[he.1,R],he.2⟩;have HQ:aB (∀o r,bB (λk=>c k=0) r b (iE j l f)->cF b (a.alloc o) r->aE aj 32 #[.pointer (ae ⟨h,0,af⟩),.string j,.int .i64 l] r λe p=>e=.returned (.tuple #[.int .i64 U,.bool W,.int .i64 Z])/\∃s,dM (Part i) c a s p/\Twin s i p b h (iE j l f)):=λo r N w=>by
  obtain⟨av,hR,hg⟩:=(v o).ref;have B:=Twin.Mt t.px t.pr hg hR w;refine(MH B u).mono ?_;rintro e w2 ⟨h1,a6,h2,h3,h4⟩;obtain⟨s,m,a2⟩:=Twin.both (H o) t.px t.pr hg (v o).ix.lt (cJ hR.blk) (v o).ix.yz B.yz (FE B.row) w N h2 h3 h4;exact⟨by rw[h1,R],s,(dM.jQ y (x o)).trans m,a2⟩
 have a1:aB (∀r,cF b (a.alloc (jC b h)) r->r.cell? ⟨a.heap.size,1,af⟩=ae (.pointer (ae ⟨h,0,af⟩))):=λr hb=>Cf t.ix.lt hb;clear v H x R t y;unfold tw
 go_enter aJ8,Tryz.ntmps16
 go_wp2_with (first
  |(go_at_call 31;refine(HP.out _).mono ?_;rintro e r ⟨rfl,N,w⟩;have a7:=a1.out r w)
  |(go_at_call 32;refine(HQ.out _ _ N w).mono ?_;rintro e w2 ⟨rfl,s,hm,ht⟩)
  |(go_at_call 33;refine(Fh _ _).mono ?_;rintro e p ⟨rfl,rfl⟩))
 go_ret
 exact⟨rfl,s,hm,ht⟩
theorem ao3{i:Nat}(s:Twin c i a b h f)(y:∀k,a.heap.size<=k->c k=0)(t:j.size<=9223372036854775807):aE aj 37 #[tw b h,.string j] a λe r=>e=.returned (.bool aq)/\∃p w,dM (Part i) c a p r/\Twin p i r b h w:=by
 have x:∀l,aA a.heap.size a (a.alloc l):=λl=>cH a l;have u:∀l,Twin c i (a.alloc l) b h f:=λl=>s.on (x l) y;have H:∀l k,(a.alloc l).heap.size<=k->c k=0:=λl k t=>y k (bT (x l).size t);have W:aB (∀l,aE aj 55 #[.pointer (ae ⟨b,0,af⟩),.string j] (a.alloc l) λe r=>e=.returned (.tuple #[.int .i64 (gm (lk (eG j) f)),.bool (lk (eG j) f).isSome])/\(bB (λk=>c k=0) r b (del (eG j) f)/\cF b (a.alloc l) r)):=λl=>Rh (λk t=>H l k t) (u l).ix t;have Z:aB (∀l o,bB (λk=>c k=0) o b (del (eG j) f)->cF b (a.alloc l) o->aE aj 56 #[.pointer (ae ⟨h,0,af⟩),.string j] o λe r=>e=.returned (.tuple #[.int .i64 (gm (lk (eG j) f)),.bool (lk (eG j) f).isSome])/\∃p w,dM (Part i) c a p r/\Twin p i r b h w):=λl o N v=>by
  obtain⟨av,R,U⟩:=(u l).ref;have B:=Twin.Mt s.px s.pr U R v;refine(ad9 B t).mono ?_;rintro e w2 ⟨h1,a7,h2,h3,h4⟩;obtain⟨p,m,a2⟩:=Twin.both (H l) s.px s.pr U (u l).ix.lt (cJ R.blk) (u l).ix.yz B.yz (FE B.row) v N h2 h3 h4;exact⟨h1,p,_,(dM.jQ y (x l)).trans m,a2⟩
 have a1:aB (∀o,cF b (a.alloc (jC b h)) o->o.cell? ⟨a.heap.size,1,af⟩=ae (.pointer (ae ⟨h,0,af⟩))):=λo hb=>Cf s.ix.lt hb;clear u H x s y;generalize gm (lk (eG j) f)=a6 at*;generalize (lk (eG j) f).isSome=a8 at*;unfold tw
 go_enter aJ0,Tryz.ntmps37
 go_wp2_with (first
  |(go_at_call 55;refine(W.out _).mono ?_;rintro e o ⟨rfl,N,v⟩;have aa:=a1.out o v)
  |(go_at_call 56;refine(Z.out _ _ N v).mono ?_;rintro e w2 ⟨rfl,p,w,hm,ht⟩))
 go_ret
 exact⟨rfl,p,w,hm,ht⟩
theorem ao2{i:Nat}(v:Twin c i a b h f)(w:∀k,a.heap.size<=k->c k=0)(x:j.size<=9223372036854775807):aE aj 13 #[tw b h,.string j] a λe s=>e=.returned (.bool aq)/\aA a.heap.size a s:=by
 have t:∀l,aA a.heap.size a (a.alloc l):=λl=>cH a l;have u:∀l,Twin c i (a.alloc l) b h f:=λl=>v.on (t l) w;have y:aB (∀l,aE aj 17 #[.pointer (ae ⟨b,0,af⟩),.string j] (a.alloc l) λe s=>e=.returned (.tuple #[.int .i64 (gm (lk (eG j) f)),.bool (lk (eG j) f).isSome])/\aA (a.alloc l).heap.size (a.alloc l) s):=λl=>Kc (u l).ix x;have B:aB (∀l o,aA (a.alloc l).heap.size (a.alloc l) o->aE aj 25 #[.pointer (ae ⟨h,0,af⟩),.string j] o λe s=>e=.returned (.tuple #[.int .i64 (gm (lk (eG j) f)),.bool (lk (eG j) f).isSome])/\aA a.heap.size a s):=λl o r=>by
  obtain⟨av,R,hg⟩:=(u l).ref;refine(af8 (R.on r) j x).mono ?_;rintro e W ⟨N,n,rfl⟩;have p:=(t l).trans (r.mono (t l).size);exact⟨N,⟨p.os,p.tape,p.output,p.size,p.block⟩⟩
 have H:aB (∀o,aA (a.alloc (jC b h)).heap.size (a.alloc (jC b h)) o->o.cell? ⟨a.heap.size,1,af⟩=ae (.pointer (ae ⟨h,0,af⟩))):=λo U=>Cf v.ix.lt (cF.jQ U);clear u t v w;generalize gm (lk (eG j) f)=Z at*;generalize (lk (eG j) f).isSome=a1 at*;unfold tw
 go_enter aK0,Tryz.ntmps13
 go_wp2_with (first
  |(go_at_call 17;refine(y.out _).mono ?_;rintro e o ⟨rfl,r⟩;have a2:=H.out o r)
  |(go_at_call 25;refine(B.out _ _ r).mono ?_;rintro e W ⟨rfl,p⟩))
 go_ret
 exact⟨rfl,p⟩
def nh(w:ak)(b:Nat)(c:Nat->Nat)(g:Nat):World:=(((((w.setCell ⟨b,0,af⟩ (.int .i64 (c 0))).setCell ⟨b,1,af⟩ (.int .i64 (c 1))).setCell ⟨b,2,af⟩ (.int .i64 (c 2))).setCell ⟨b,3,af⟩ (.int .i64 (c 3))).setCell ⟨b,4,af⟩ (.int .i64 (c 4))).setCell ⟨b,5,af⟩ (.int .i64 g)
theorem LY{g:Nat}(f:h≠b):(nh a b c g).heap[h]?=a.heap[h]?:=by
 unfold nh;rw[hH _ _ _ _ f,hH _ _ _ _ f,hH _ _ _ _ f,hH _ _ _ _ f,hH _ _ _ _ f,hH _ _ _ _ f]
theorem Zt{z:Nat->Nat}{g:Nat}(f:a.heap[b]?=ae (cP z h)):(nh a b c g).heap[b]?=ae (cP c g):=by
 unfold nh;simp[eK,fV,f,cP]
theorem Zr{n:Nat}{g:Nat}(h:aA n a o)(f:n<=b):aA n a (nh o b c g):=by
 unfold nh;exact(((((h.setCell f _).setCell f _).setCell f _).setCell f _).setCell f _).setCell f _
theorem LX{g:Nat}(j:h≠b)(f:a.cell? ⟨h,r,af⟩=ae p):(nh a b c g).cell? ⟨h,r,af⟩=ae p:=by
 rw[<-f];unfold bL;simp only[LY j]
theorem ap1{i:Nat}(w:Twin c i a b h f)(hf:∀am,a.heap.size<=am->c am=0):aE aj 14 #[tw b h] a λe v=>e=.returned (.bool aq)/\aA a.heap.size a v:=by
 obtain⟨p,g,ab,_⟩:=Eu w.ix;obtain⟨av,x,hg⟩:=w.ref;obtain⟨B,cap,rfl⟩:∃B cap,av=.slice B f.length cap:=by
  rcases x.cases with⟨rfl,rfl⟩|⟨g,cap,rfl,hp,hc⟩;·exact⟨_,_,rfl⟩
  ·exact⟨_,_,rfl⟩
 have HL:aB (∀k,aA a.heap.size a k->aE aj 12 #[.pointer (ae ⟨b,0,af⟩)] k λe v=>e=.returned (.int .i64 f.length)/\v=k):=λk t=>Kd (w.ix.on t);have HS:aB (∀k,aA a.heap.size a k->aE aj 18 #[.pointer (ae ⟨b,0,af⟩)] k λe v=>e=.returned (dz p g)/\aA k.heap.size k v):=λk t=>by
  obtain⟨c',g',ap,hc⟩:=Eu (w.ix.on t);obtain⟨rfl,rfl⟩:=ab.uniq ap;exact hc
 have HT:aB (∀k,aA a.heap.size a k->aE aj 26 #[.pointer (ae ⟨h,0,af⟩),.int .i64 0,.int .i64 f.length,.int .i64 0] k λe v=>e=.returned (dz p g)/\aA k.heap.size k v):=λk t=>ai2 (x.on t) ab;have HC:aB (∀k,aA a.heap.size a k->k.cell? ⟨h,0,af⟩=ae (.slice B f.length cap)):=λk t=>aS t x.cell;have a2:aB (∀k,aA (a.alloc (jC b h)).heap.size (a.alloc (jC b h)) k->k.cell? ⟨a.heap.size,1,af⟩=ae (.pointer (ae ⟨h,0,af⟩))):=λk t=>Cf w.ix.lt (cF.jQ t);have aJ:=x.cI;have aR:=cJ x.blk;have y:aB (∀j,aA a.heap.size a (a.alloc j)):=λj=>cH a j;clear x hg ab w hf;unfold tw
 go_enter aJ9,Tryz.ntmps14
 go_wp2_with (first
  |(go_at_call 12;refine(HL.out _ (y.out _)).mono ?_;rintro e k ⟨rfl,rfl⟩)
  |(go_at_call 18;refine(HS.out _ (y.out _)).mono ?_;rintro e l ⟨rfl,s⟩;unfold dz))
 have aT:a.heap.size+1<=l.heap.size:=by have:=s.size;simpa using this
 have H:∀j,aA a.heap.size a (l.alloc j):=λj=>((y.out _).trans (s.mono (y.out _).size)).alloc (bT (y.out (jC b h)).size s.size) _;have a7:∀j r,aA a.heap.size a ((l.alloc j).alloc r):=λj r=>(H j).alloc (H j).size _;have Z:aB (∀j,aA a.heap.size a (l.alloc j)):=H;have a1:aB (∀j r,aA a.heap.size a ((l.alloc j).alloc r)):=a7;have q1:∀j,(l.alloc j).cell? ⟨a.heap.size,1,af⟩=ae (.pointer (ae ⟨h,0,af⟩)):=λj=>a2.out _ (s.alloc s.size _);have q2:∀j r,((l.alloc j).alloc r).cell? ⟨a.heap.size,1,af⟩=ae (.pointer (ae ⟨h,0,af⟩)):=λj r=>a2.out _ ((s.alloc s.size _).alloc (by have:=s.size;simp at this⊢;omega) _);have q3:=λj=>HC.out _ (H j);have q4:=λj r=>HC.out _ (a7 j r);have U:aB (∀j,aA (a.alloc (jC b h)).heap.size (a.alloc (jC b h)) (l.alloc j)):=λj=>s.alloc s.size _;have ac:aB (∀j r,aA (a.alloc (jC b h)).heap.size (a.alloc (jC b h)) ((l.alloc j).alloc r)):=λj r=>(U.out j).alloc (U.out j).size _;clear H a7
 go_cut [5] (λar N=>∃a6,ar=.pointer (ae ⟨a6,0,af⟩)/\aB (aA a.heap.size a N)/\N.cell? ⟨a.heap.size,1,af⟩=ae (.pointer (ae ⟨h,0,af⟩))/\N.cell? ⟨h,0,af⟩=ae (.slice B f.length cap)/\N.heap[l.heap.size]?=ae (cP p g)/\N.heap[a6]?=ae (cP p g))
 case first=>
  go_region_with (go_at_call 26;refine(HT.out _ (by first|exact(Z.out _).drew|exact(a1.out _ _).drew)).mono ?_;rintro e o ⟨rfl,u⟩;unfold dz;try (have W:o.heap[l.heap.size+1]?=ae (cP (λ_=>0) 0):=(u.block (l.heap.size+1) az).trans (Ff l _ _);obtain⟨z0,z1,z2,z3,z4,z5⟩:=kW W;have fz:=iW W))
  all_goals
   have R:aB (aA a.heap.size a o):=by first|exact(Z.out _).drew.trans (u.mono (Z.out _).size)|exact(a1.out _ _).drew.trans (u.mono (a1.out _ _).size)
   have ai:=a2.out o (by first|exact(U.out _).drew.trans (u.mono (U.out _).size)|exact(ac.out _ _).drew.trans (u.mono (ac.out _ _).size));have a8:=HC.out o R.out;have aa:o.heap[l.heap.size]?=ae (cP p g):=by first|exact(u.block _ az).trans (cY l _)|exact(u.block _ (by simp;omega)).trans (yS l _ _)
   have aQ:h<o.heap.size:=cC _ _ a8;clear u q1 q2 q3 q4
  all_goals (go_wp2_with fail;go_meet)
  all_goals first
   |(have aU:=W
     have key:aB (aA a.heap.size a (nh o (l.heap.size+1) p g))/\(nh o (l.heap.size+1) p g).cell? ⟨a.heap.size,1,af⟩=ae (.pointer (ae ⟨h,0,af⟩))/\(nh o (l.heap.size+1) p g).cell? ⟨h,0,af⟩=ae (.slice B f.length cap)/\(nh o (l.heap.size+1) p g).heap[l.heap.size]?=ae (cP p g)/\(nh o (l.heap.size+1) p g).heap[l.heap.size+1]?=ae (cP p g):=⟨Zr R.out ag,LX ag ai,LX ag a8,(LY ag).trans aa,Zt W⟩;unfold nh at key;exact⟨l.heap.size+1,rfl,key⟩)
   |exact⟨o.heap.size,rfl,R.out.alloc R.out.size _,aS (cH o _) ai,aS (cH o _) a8,((cH o _).block _ (cJ aa)).trans aa,cY o _⟩
 case rest=>
  obtain⟨a6,rfl,an,aP,aF,al,ad⟩:=hcut;obtain⟨d0,d1,d2,d3,d4,d5⟩:=kW al;obtain⟨e0,e1,e2,e3,e4,e5⟩:=kW ad;clear al ad q1 q2 q3 q4
  go_wp2
  go_ret
  exact⟨rfl,an.out⟩
end
abbrev TS:=List (Nat×Nat×List KV)
def lZ(a:TS):List Value:=a.flatMap λt=>[.pointer (ae ⟨t.1,0,af⟩),.pointer (ae ⟨t.2.1,0,af⟩)]
theorem Jw:∀(b:TS)(i:Nat) (t:Nat×Nat×List KV),b[i]?=ae t->(lZ b)[i*2]?=ae (.pointer (ae ⟨t.1,0,af⟩))/\(lZ b)[i*2+1]?=ae (.pointer (ae ⟨t.2.1,0,af⟩))
 |[],i,t,h=>by simp at h
 |a::b,0,t,h=>by simp at h;subst h;simp[lZ]
 |a::b,i+1,t,h=>by
  have:=Jw b i t (by simpa using h);have c:(i+1)*2=i*2+1+1:=ag;rw[c];simpa[lZ]using this
theorem TV(a:TS)(t:Nat×Nat×List KV):lZ (a++[t])=lZ a++[.pointer (ae ⟨t.1,0,af⟩),.pointer (ae ⟨t.2.1,0,af⟩)]:=by simp[lZ]
theorem E8:∀(b:TS)(i:Nat)(t:Nat×Nat×List KV) (c:List KV),b[i]?=ae t->lZ (b.set i (t.1,t.2.1,c))=lZ b
 |[],i,t,c,h=>by simp at h
 |a::b,0,t,c,h=>by simp at h;subst h;simp[lZ]
 |a::b,i+1,t,c,h=>by
  have:=E8 b i t c (by simpa using h);simpa[lZ]using this
structure Wd(ρ:Nat->Nat)(w:ak)(W:Nat)(bZ:Int)(av:au)(ts:TS):Prop where
 blk:w.heap[W]?=ae (.cells #[av,.int .i64 bZ] 28 (0,0))
 pW:ρ W=100
 row:w.ownsRow 0 42 2 av ts.length (lZ ts)
 pg:∀g,av.ownBlock=ae g->ρ g=101
 tw:∀(i:Nat) t,ts[i]?=ae t->Twin ρ i w t.1 t.2.1 t.2.2
 fresh:∀k,w.heap.size<=k->ρ k=0
 cI:ts.length<=8
variable {k:TS}
theorem Wd.on{w:ak}(h:Wd c w b l p k)(f:aA w.heap.size w a):Wd c a b l p k:=⟨(f.block _ (cJ h.blk)).trans h.blk,h.pW,ng h.row λg e=>f.block g (h.row.lt g e).2,h.pg,λi t e=>(h.tw i t e).on f h.fresh,λo j=>h.fresh o (bT f.size j),h.cI⟩
theorem qs{i:Nat}(a:i<8)(h:Part i b):0<b/\b<100:=by unfold Part at h;omega
theorem LK{i:Nat}(a:Part i h)(k:Part b h):i=b:=by unfold Part at a k;omega
theorem Wd.lt{W:Nat}(h:Wd c a W l p k){i:Nat}{t}(b:k[i]?=ae t):i<k.length/\i<8:=by
 have:=(cu.mp b).1;have:=h.cI;omega
theorem Wd.set{y o:Nat->Nat}{w l:ak}{W:Nat}{r:Int}{p:au}{f:TS}(h:Wd y w W r p f){i:Nat}{t:Nat×Nat×List KV}{k:List KV}(v:f[i]?=ae t)(b:dM (Part i) y w o l)(x:Twin o i l t.1 t.2.1 k):Wd o l W r p (f.set i (t.1,t.2.1,k)):=by
 obtain⟨N,s⟩:=h.lt v;have U:¬Part i 100:=λe=>by have:=qs s e;omega
 have Z:¬Part i 101:=λe=>by have:=qs s e;omega
 refine⟨(b.block W (cJ h.blk) (by rw[h.pW];exact U)).trans h.blk,(b.agree W (cJ h.blk)).trans h.pW,?_,λg e=>(b.agree g (h.row.lt g e).2).trans (h.pg g e),λj u a=> ?_,b.fresh,by rw[zU];exact h.cI⟩
 ·rw[zU,E8 f i t k v];exact ng h.row λg e=>b.block g (h.row.lt g e).2 (by rw[h.pg g e];exact Z)
 ·rw[xr]at a;split at a
  ·rename_i e;subst e
   first
    |(cases a;exact x)
    |(rw[if_pos N]at a;cases a;exact x)
  ·rename_i R;exact(h.tw j u a).nf b (BH i) (λc B H=>R (LK H B))
theorem FB{g n cap m:Nat}(j:a.ownsRow b w 2 (.slice (ae ⟨g,0,af⟩) n cap) m v)(c:v[h]?=ae p):a.cell? ⟨g,h,af⟩=ae p:=by
 obtain⟨t,f|⟨s,o,r,f,u,k,x,y,B,l⟩⟩:=j;·cases f.1
 ·cases f;rw[<-l,nv]at c;split at c
  ·simp only[bL,k];rw[<-zF,c];rfl
  ·cases c
theorem Wd.at{v:Nat->Nat}{w:ak}{W:Nat}{l:Int}{k:au}{c:TS}(h:Wd v w W l k c)(u:0<c.length):∃g cap,k=.slice (ae ⟨g,0,af⟩) c.length cap/\c.length<=cap/\g<w.heap.size/\∀(i:Nat) t,c[i]?=ae t->w.cell? ⟨g,i*2,af⟩=ae (.pointer (ae ⟨t.1,0,af⟩))/\w.cell? ⟨g,i*2+1,af⟩=ae (.pointer (ae ⟨t.2.1,0,af⟩)):=by
 have f:=h.row;obtain⟨g,cap,e,_,s⟩:=f.form u;have p:c.length<=cap:=by
  obtain⟨B,j|⟨g',x,y,j,H,N,o,R⟩⟩:=h.row;·omega
  ·rw[e]at j;cases j;exact o
 refine⟨g,cap,e,p,s,λi t r=> ?_⟩;rw[e]at f;obtain⟨a,b⟩:=Jw c i t r;exact⟨FB f a,FB f b⟩
theorem Wd.tM(h:Wd c a b l p k):a.cell? ⟨b,0,af⟩=ae p:=by simp[bL,h.blk]
def NZ(c:Nat):Prop:=0<c/\c<150
theorem dM.mono{b:Nat->Prop}(h:dM s c a u o)(j:∀f,s f->b f):dM b c a u o:=⟨h.os,h.tape,h.output,h.size,h.agree,h.fresh,λk l p=>h.block k l (λe=>p (j _ e)),h.uo⟩
theorem dM.nz{i:Nat}(h:dM (Part i) c a u o)(f:i<8):dM NZ c a u o:=h.mono λb e=>by unfold Part at e;unfold NZ;omega
theorem UT:(aj.info? 42).map (λi=>(i.zero,i.size,i.bytes))=ae (ae (.agg #[.pointer af,.pointer af]),2,16):=ah
theorem PT{y:Option aH}{cap g:Nat}{x U:Nat}{B:dV}(p:Wd c a b l (.slice y h cap) k)(ht:Twin c k.length a x U f)(h8:k.length<8)(ad:o.ownsRow 0 42 2 (.slice (ae ⟨g,0,af⟩) (k.length+1) r) (k.length+1) (lZ k++[.pointer (ae ⟨x,0,af⟩),.pointer (ae ⟨U,0,af⟩)]))(v:(a.alloc B).grownBy o (iM y h cap).ownBlock)(a2:(iM y h cap).ownBlock=ae g\/g=(a.alloc B).heap.size)(an:g<o.heap.size):o.cell? ⟨b,0,af⟩=ae (.slice y h cap)/\o.frozen? ⟨b,0,af⟩=ax/\∃a8,dM NZ c a a8 (o.setCell ⟨b,0,af⟩ (.slice (ae ⟨g,0,af⟩) (k.length+1) r))/\Wd a8 (o.setCell ⟨b,0,af⟩ (.slice (ae ⟨g,0,af⟩) (k.length+1) r)) b l (.slice (ae ⟨g,0,af⟩) (k.length+1) r) (k++[(x,U,f)]):=by
 have Z:=cJ p.blk;have ap:(a.alloc B).heap.size=a.heap.size+1:=az;have W:ae b≠(iM y h cap).ownBlock:=λe=>by have:=p.pg b e.symm;rw[p.pW]at this;omega
 have H:o.heap[b]?=ae (.cells #[.slice y h cap,.int .i64 l] 28 (0,0)):=by
  rw[v.block b ag W];exact((cH a B).block b Z).trans p.blk
 have ac:g≠b:=by
  rcases a2 with u|u;·exact λe=>W (by rw[<-e];exact u.symm)
  ·omega
 refine⟨by simp[bL,H],by simp[gu,H],λj=>if j=g then 101 else c j,?_⟩;have aa:∀j,j<a.heap.size->c j≠100->c j≠101->(o.setCell ⟨b,0,af⟩ (.slice (ae ⟨g,0,af⟩) (k.length+1) r)).heap[j]?=a.heap[j]?:=λj s u h2=>by
  rw[hH _ _ _ _ (λe=>u (by rw[e];exact p.pW)),v.block j ag (λe=>h2 (p.pg j e.symm))];exact(cH a B).block j s
 have ai:a.heap.size<=(o.setCell ⟨b,0,af⟩ (.slice (ae ⟨g,0,af⟩) (k.length+1) r)).heap.size:=by
  have:=v.size;simp[eK];omega
 have a1:∀j,j<a.heap.size->(if j=g then 101 else c j)=c j:=λj s=>by
  split
  ·rename_i e;rcases a2 with u|u;·rw[e];exact(p.pg g u).symm
   ·omega
  ·rfl
 have a6:∀j,(o.setCell ⟨b,0,af⟩ (.slice (ae ⟨g,0,af⟩) (k.length+1) r)).heap.size<=j->(if j=g then 101 else c j)=0:=λj s=>by
  have hs:(o.setCell ⟨b,0,af⟩ (.slice (ae ⟨g,0,af⟩) (k.length+1) r)).heap.size=o.heap.size:=by simp[eK]
  rw[if_neg ag];exact p.fresh j ag
 have N:dM (λt=>t=100\/t=101) c a (λj=>if j=g then 101 else c j) (o.setCell ⟨b,0,af⟩ (.slice (ae ⟨g,0,af⟩) (k.length+1) r)):=⟨v.os,v.tape,v.output,ai,a1,a6,λj s hn=>aa j s (λe=>hn (.inl e)) (λe=>hn (.inr e)),λj al s R=>by
   rw[hH _ _ _ _ (λe=>by subst e;rw[p.blk]at s;cases s;cases R),v.block j (by have:=cJ s;omega) (λe=>by rw[FE p.row j al e.symm s]at R;cases R)];exact((cH a B).block j (cJ s)).trans s⟩
 have a7:∀i,i<8->∀t,Part i t->¬(t=100\/t=101):=λi w t hc=>by have:=qs w hc;omega
 refine⟨N.mono λt e=>by unfold NZ;omega,?_⟩;refine⟨?_,(a1 b Z).trans p.pW,?_,λg' e=> ?_,λi am w=> ?_,a6,by simp;omega⟩
 ·simp only[eK,fV,if_true,H,hZ];simp
 ·rw[TV,gJ];exact NY ad (by simp[fX];exact ac) _
 ·simp[fX]at e;exact if_pos e.symm
 ·by_cases ab:i<k.length
  ·rw[nu ab]at w;exact(p.tw i am w).nf N ag (a7 i ag)
  ·have:i=k.length:=by
    have:=(cu.mp w).1;simp at this;omega
   subst this;simp at w;subst w;exact ht.nf N ag (a7 _ h8)
theorem Ip(o:Wd c a b l p k)(H:Twin c k.length a h r f)(h8:k.length<8):aE aj 9 #[.pointer (ae ⟨b,0,af⟩),.pointer (ae ⟨h,0,af⟩),.pointer (ae ⟨r,0,af⟩)] a λe N=>e=.returned (.bool aq)/\∃j a1,dM NZ c a j N/\Wd j N b l a1 (k++[(h,r,f)]):=by
 obtain⟨i0,a2,a8,aa,ab⟩:∃i0,aj.info? 42=ae i0/\i0.zero=ae (.agg #[.pointer af,.pointer af])/\i0.size=2/\i0.bytes=16:=by
  have:=UT;cases x:aj.info? 42 with
  |none=>rw[x]at this;cases this
  |some i0=>
   rw[x]at this;simp at this;exact⟨i0,rfl,this.1,this.2.1,this.2.2⟩
 obtain⟨t,len,cap,rfl,a6⟩:∃t len cap,p=.slice t len cap/\len=k.length:=by
  obtain⟨h0,s|⟨g',u,ac,s,_⟩⟩:=o.row;·exact⟨_,_,_,s.1,s.2.symm⟩
  ·exact⟨_,_,_,s,rfl⟩
 subst a6;have HW:aB (Wd c a b l (.slice t k.length cap) k):=o;have Z:aB (Twin c k.length a h r f):=H;have U:aB (a.ownsRow 0 42 2 (.slice t k.length cap) k.length (lZ k)):=o.row;have hc:=o.tM;have ad:=λob=>aS (cH a ob) hc;have hW:b<a.heap.size:=cJ o.blk;clear o H;have al:(k.length:Int)<8:=ag
 go_enter Pd,aH5
 go_wp2_with ((at_builtin;refine CI _ rfl _ _ _ rfl 0 42 i0 (.agg #[.pointer af,.pointer af]) 2 16 Tryz.underlying26 a2 a8 aa ab rfl ag (.slice t k.length cap) k.length _ rfl (Cw (w:=a) U.out _) ⟨a.heap.size,0,af⟩ 1 1 [.pointer (ae ⟨h,0,af⟩),.pointer (ae ⟨r,0,af⟩)] rfl rfl (qA (cs:= #[.pointer (ae ⟨h,0,af⟩),.pointer (ae ⟨r,0,af⟩)]) (t:=42) (fr:=(0,0)) (cY a _)) (by simp[qF]) ag (by unfold cE;omega) ag ag _ rfl ?_;intro g u R y w v a7;obtain⟨am,ai,B⟩:=PT HW.out Z.out h8 y w v a7;have W:aB (∃j,dM NZ c a j (R.setCell ⟨b,0,af⟩ (.slice (ae ⟨g,0,af⟩) (k.length+1) u))/\Wd j (R.setCell ⟨b,0,af⟩ (.slice (ae ⟨g,0,af⟩) (k.length+1) u)) b l (.slice (ae ⟨g,0,af⟩) (k.length+1) u) (k++[(h,r,f)])):=B;clear y w v B))
 go_ret
 obtain⟨j,s,h2⟩:=W.out;exact⟨rfl,j,_,s,h2⟩
section
attribute [local go_sem↓] Go.wp_at_zero Go.wp_at_succ
theorem ap3(c:a.heap[b]?=ae (jC h r)):a.cell? ⟨b,0,af⟩=ae (.pointer (ae ⟨h,0,af⟩))/\a.cell? ⟨b,1,af⟩=ae (.pointer (ae ⟨r,0,af⟩)):=by
 simp[bL,c,jC]
def pp(t:Nat×Nat×List KV):Nat×Nat:=(t.1,t.2.1)
theorem LR:∀(b:TS)(i:Nat)(t:Nat×Nat×List KV) (c:List KV),b[i]?=ae t->(b.set i (t.1,t.2.1,c)).map pp=b.map pp
 |[],i,t,c,h=>by simp at h
 |a::b,0,t,c,h=>by simp at h;subst h;simp[pp]
 |a::b,i+1,t,c,h=>by simpa using LR b i t c (by simpa using h)
def nY:Obj:=.cells #[.pointer af] 64
def jf:Obj:=.cells #[.slice af 0 0] 36
theorem Uk(h:Wd c a b l p k):∃j,dM NZ c a j ((a.alloc nY).alloc jf)/\Wd j ((a.alloc nY).alloc jf) b l p k/\Twin j k.length ((a.alloc nY).alloc jf) a.heap.size (a.heap.size+1) []:=by
 have r:aA a.heap.size a ((a.alloc nY).alloc jf):=(cH a nY).alloc (cH a nY).size _;have N:((a.alloc nY).alloc jf).heap.size=a.heap.size+2:=az;let j:Nat->Nat:=λf=>if f=a.heap.size then 3*k.length+1 else if f=a.heap.size+1 then 3*k.length+2 else c f
 have v:j a.heap.size=3*k.length+1:=if_pos rfl;have y:j (a.heap.size+1)=3*k.length+2:=by show(if a.heap.size+1=a.heap.size then _ else if a.heap.size+1=a.heap.size+1 then _ else _)=_;rw[if_neg ag,if_pos rfl]
 have u:∀f,f<a.heap.size->j f=c f:=λf s=>by show(if f=a.heap.size then _ else if f=a.heap.size+1 then _ else _)=_;rw[if_neg ag,if_neg ag]
 have w:∀f,a.heap.size+2<=f->j f=0:=λf s=>by show(if f=a.heap.size then _ else if f=a.heap.size+1 then _ else _)=_;rw[if_neg ag,if_neg ag];exact h.fresh f ag
 have x:dM (λ_=>False) c a j ((a.alloc nY).alloc jf):=⟨r.os,r.tape,r.output,r.size,u,λf s=>w f ag,λf s _=>r.block f s,λf o s _=>(r.block f (cJ s)).trans s⟩;refine⟨j,x.mono (λ_ h=>h.elim),⟨(r.block _ (cJ h.blk)).trans h.blk,(u _ (cJ h.blk)).trans h.pW,ng h.row λg e=>r.block g (h.row.lt g e).2,λg e=>(u g (h.row.lt g e).2).trans (h.pg g e),λi t H=>(h.tw i t H).nf x (λh=>h) (λ_ _ h=>h),λf s=>w f ag,h.cI⟩,?_⟩;refine⟨⟨⟨0,af,?_,.inl ⟨rfl,rfl⟩⟩,λe=>by rw[v]at e;omega,az⟩,v,y,.slice af 0 0,⟨?_,CB _ _ _ _,by simp[fX],nA,λe B=>(by cases B),az⟩,λg e=>by simp[fX]at e⟩;·exact yS a nY jf
 ·exact Ff a nY jf
def sw:Nat->ByteArray
 |0=>⟨#[97,98,100]⟩
 |1=>⟨#[]⟩
 |2=>⟨#[97,98,99]⟩
 |_=>⟨#[97]⟩
def uz:Nat->List KV
 |0=>[]
 |i+1=>iE (sw i) i (uz i)
theorem LW:uz 4=[([],1),([97],3),([97,98,99],2),([97,98,100],0)]:=by decide+kernel
theorem VO:lk [97,98,99] (uz 4)=ae 2:=by rw[LW];decide+kernel
def c4:Nat->Nat:=λj=>if j=0 then 2 else if j=1 then 3 else 0
theorem MX(e:KV):bh [e]:=by simp[bh]
theorem MQ(k:List UInt8)(v:Int)(n:Nat):kq (n+1) ([(k,v)]:List KV) (one 0) 1:=⟨k,ae v,[],[],⟨⟨rfl,nA,λi g h=>by simp at h,λi x g h=>by simp at h,λi g h=>by simp at h⟩,by simp[c9],λh=>by cases h⟩,.inl ⟨rfl,rfl,rfl⟩⟩
theorem MR{k:List UInt8}{v:Int}{x:UInt8}{g:List KV}{n:Nat}(o:kq n g c b)(p:g≠[])(s:∀e∈g,∃r,e.1=k++x::r)(t:bh g):kq (n+1) (((k,v)::g):List KV) (λj=>c j+one 1 j) (b+1):=by
 refine⟨k,ae v,[x],[g],⟨⟨rfl,az,λi m a=> ?_,λi y m l a=> ?_,λi m a=> ?_⟩,by simp[c9],λb=>by cases b⟩,.inr ⟨az,[c],[b],rfl,rfl,λi m u w a f h=> ?_,?_,?_⟩⟩
 ·cases i with
  |zero=>simp at a;subst a;exact p
  |succ i=>simp at a
 ·cases i with
  |zero=>simp at a l;subst a;subst l;exact s
  |succ i=>simp at a
 ·cases i with
  |zero=>simp at a;subst a;exact t
  |succ i=>simp at a
 ·cases i with
  |zero=>simp at a f h;subst a;subst f;subst h;exact o
  |succ i=>simp at a
 ·funext j;simp[eZ,e7]
 ·simp[dD]
theorem al1(k:List UInt8)(x y:UInt8)(h:x<y)(v u:Int)(n:Nat):kq (n+2) ([(k++[x],v),(k++[y],u)]:List KV) (λj=>one 0 j+one 0 j+one 1 j) 2:=by
 refine⟨k,af,[x,y],[[(k++[x],v)],[(k++[y],u)]],⟨⟨rfl,by simpa using h,λi m a=> ?_,λi z m f a=> ?_,λi m a=> ?_⟩,by simp[c9],λ_=>az⟩,.inr ⟨az,[one 0,one 0],[1,1],rfl,rfl,λi m l o a b c=> ?_,?_,?_⟩⟩
 ·match i with
  |0=>simp at a;subst a;simp
  |1=>simp at a;subst a;simp
  |i+2=>simp at a
 ·match i with
  |0=>simp at a f;subst a;subst f;simp
  |1=>simp at a f;subst a;subst f;simp
  |i+2=>simp at a
 ·match i with
  |0=>simp at a;subst a;exact MX _
  |1=>simp at a;subst a;exact MX _
  |i+2=>simp at a
 ·match i with
  |0=>simp at a b c;subst a;subst b;subst c;exact MQ _ _ _
  |1=>simp at a b c;subst a;subst b;subst c;exact MQ _ _ _
  |i+2=>simp at a
 ·funext j;simp[eZ,e7]
 ·simp[dD]
theorem ak9:tJ (uz 4) c4 4:=by
 rw[LW];refine .inr ⟨4,?_⟩;have f:=al1 [97,98] 99 100 bc 2 0 0;have h:=MR (k:=[97]) (v:=3) (x:=98) f az (λe a=>by simp at a;rcases a with rfl|rfl<;>simp) (by simp[bh,bV,dt]);have k:=MR (k:=[]) (v:=1) (x:=97) h az (λe a=>by simp at a;rcases a with rfl|rfl|rfl<;>simp) (by simp[bh,bV,dt]);have:c4=λj=>one 0 j+one 0 j+one 1 j+one 1 j+one 1 j:=by
  funext j;unfold c4 one;by_cases b:j=0;·simp[b]
  ·by_cases c:j=1;·simp[c]
   ·simp[b,c]
 rw[this];exact k
end
