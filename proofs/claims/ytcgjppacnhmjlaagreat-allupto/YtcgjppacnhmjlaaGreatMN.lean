/- Own texts: With, PureC, PureD, UniP. -/
import Derived.Test.YtcgjppacnhmjlaaGreatMM
set_option linter.all false
set_option maxRecDepth 100000
set_option maxHeartbeats 400000
open Bool renaming true->aq
open Decidable renaming decide->aM
open Go renaming World->ak,Value->au,cell_later->aS,Calls->aE,heap_alloc_new->cY,Addr->aH,Ending->nH,Obj->dV
open Go.Op renaming bytesLess->dt
open Go.Proofs.Tryz renaming prog->aj,ntmps77->OQ,func77->OX
open Go.RowKit renaming Below->aA,Hid->aB
open Go.RowKit.Below renaming refl->cD
open Int renaming natCast_nonneg->qC
open List renaming getElem?_eq_getElem->bf,getElem?_eq_some_iff->cu,mem_of_getElem?->cG,mem_cons->dk,mem_append->dU,mem_cons_self->gq,length_append->gJ,drop_eq_getElem_cons->lG,take_append_drop->jW,mem_cons_of_mem->jD,length_eq_zero_iff->kY,getElem?_map->iI,getElem?_append_right->np,getElem?_append_left->nu,length_pos_iff->kE,getElem?_eq_none->lI,pairwise_cons->kZ,mem_map->iL,ext_getElem?->mD,getElem?_take->nv,getElem?_drop->ny,length->jk,nil_append->nB,cons_append->pF,sublist_flatten_of_mem->xd,mem_iff_getElem?->uT,length_cons->rM,exists_mem_of_ne_nil->zA,map_cons->qG,flatten_cons->uX,length_map->sY,filter_eq_self->xl,flatten_append->Cy,filter_cons->CO,getElem_of_mem->GV,pairwise_map->GZ,take_succ_cons->NR,drop_succ_cons->NV,mem_flatten->Og,take_zero->Ow,drop_zero->Ox,getElem?_zip_eq_some->av7,getElem?_eq_none_iff->av8,sum_cons->OF,append_cancel_left->aw4,sublist_cons_self->aw5
open List.IsPrefix renaming eq_of_length_le->aL6
open List.Pairwise renaming nil->nA,sublist->uR
open List.Sublist renaming append_left->aL9
open Nat renaming le_refl->aL,le_trans->bT,zero_le->fL,lt_or_ge->l9,lt_trichotomy->sV
open Option renaming some->ae,none->af,map_eq_some_iff->ji,ne_none_iff_exists'->av2
open Option.some renaming inj->er
open Prod renaming fst->Po
open UInt8 renaming lt_irrefl->jE,lt_trans->rQ,toNat_inj->xv,ne_of_lt->Ha
namespace Go.Proofs.YtcgjppacnhmjlaaGreat
open Go.RowKit
variable {b:Nat->Prop} {l H:ak} {r:Option aH} {w:Option Int} {h s c:Nat} {j:List KV} {a o:ByteArray} {y:au} {u:List Nat} {f k p x:List UInt8} {v:List (List KV)} {B:Type} {t:UInt8}
section
attribute [local go_sem↓] Go.wp_at_zero Go.wp_at_succ
def Open(S:Nat->Prop)(w:ak):Prop:=∀k,w.heap.size<=k->S k
theorem Open.later(h:Open b l)(a:aA l.heap.size l H):Open b H:=λk c=>h k (bT a.size c)
theorem cH(w:ak)(a:dV):aA w.heap.size w (w.alloc a):=(cD _ _).alloc (aL _) _
theorem jK.later(h:jK b l r w)(j:aA l.heap.size l H):jK b H r w:=by
 cases w with
 |none=>exact h
 |some v=>obtain⟨k,a,c,f⟩:=h;exact⟨k,a,c,aS j f⟩
theorem eF.later{S:Nat->Prop}{w c:ak}{a:au}{b:List Nat}(h:eF S w a b)(t:aA w.heap.size w c):eF S c a b:=by
 rcases h with h|⟨k,o,cap,f,j,l,p,r,s⟩;·exact .inl h
 ·exact .inr ⟨k,o,cap,f,j,l,p,r.later t,s⟩
theorem aY.on{w:ak}{n:Nat}(a:aY b n w h j)(c:aA w.heap.size w l):aY b n l h j:=a.later c (λ_ a _=>a) (aL _)
theorem af1{n:Nat}(x:Open b l)(H:a.size<=64)(s:jK b l r w)(t:eF b l y u)(B:u.length=v.length)(p:∀(i c:Nat) g,u[i]?=ae c->v[i]?=ae g->aY b n l c g)(N:Shaped a.data.toList w f v j):aY b (n+1) (l.alloc (node a (.pointer r) y j.length)) l.heap.size j:=by
 have h:=cH l (node a (.pointer r) y j.length);refine⟨a,r,y,w,u,f,v,⟨x _ (aL _),cY l _,H⟩,s.later h,t.later h,B,λi c g k o=>(p i c g k o).on h,N⟩
theorem Z7(h:jK b l r w)(p:List UInt8):uu r=(c9 p w).length:=by
 cases w with
 |none=>rw[show r=af from h];rfl
 |some v=>obtain⟨a,_,rfl,_⟩:=h;rfl
theorem mZ{S:Nat->Prop}{w:ak}{n:Nat}{p:ByteArray}{ov:Option Int}{cs:List Nat}(U:Open S w)(Z:p.size<=64)(t:jK S w r ov)(u:eF S w y cs)(h:cs.length=v.length)(s:∀(i c:Nat) g,cs[i]?=ae c->v[i]?=ae g->aY S n w c g)(a:Shaped p.data.toList ov f v j)(hm:j.length<=1000000):aE aj 75 #[.string p,.pointer r,y] w λe b=>∃N,e=.returned (.pointer (ae ⟨N,0,af⟩))/\aY S (n+1) b N j/\aA w.heap.size w b:=by
 have x:=a.len;have B:=Z7 t p.data.toList;have H:=af1 U Z t u h s a;rcases u with⟨l,rfl⟩|⟨k,o,cap,l,rfl,h3,h4,R,h6⟩
 ·refine(Vi p r w).mono ?_;rintro e b ⟨rfl,rfl⟩;have W:v=[]:=kY.mp (by rw[<-h,l];rfl);have:uu r=j.length:=by rw[x,B,W];rfl
  rw[this];exact⟨_,rfl,H,cH _ _⟩
 ·refine(Vj p r k o cap cs (v.map jk) w R (af2 h s) ?_ ag).mono ?_;·have:=qu a.aT.pw;have:=a.aT.len;omega
  rintro e b ⟨rfl,rfl⟩;have:uu r+(v.map jk).sum=j.length:=by rw[x,B]
  rw[this];exact⟨_,rfl,H,cH _ _⟩
theorem Kx(a b:List UInt8):a=a.take (cX a b)++a.drop (cX a b)/\b=a.take (cX a b)++b.drop (cX a b)/\∀x y r q,a.drop (cX a b)=x::r->b.drop (cX a b)=y::q->x≠y:=by
 induction a generalizing b with
 |nil=>exact⟨by simp[cX],by simp[cX],λx y r q h=>by simp[cX]at h⟩
 |cons c a l=>
  cases b with
  |nil=>exact⟨by simp[cX],by simp[cX],λx y r q _ h=>by simp[cX]at h⟩
  |cons d b=>
   simp only[cX];by_cases h:c=d
   ·subst h;obtain⟨f,j,k⟩:=l b;simp only[if_true,NR,NV,pF];exact⟨by rw[<-f],by rw[<-j],k⟩
   ·simp only[if_neg h,Ow,Ox,nB];exact⟨trivial,trivial,λx y r q f j=>by cases f;cases j;exact h⟩
theorem uv{v:Int}(a:b h)(c:l.cell? ⟨h,0,af⟩=ae (.int .i64 v)):jK b l (ae ⟨h,0,af⟩) (ae v):=⟨h,a,rfl,c⟩
theorem row_one{k t:Nat}(a:b k)(f:l.cell? ⟨k,0,af⟩=ae (ptr t)):eF b l (.slice (ae ⟨k,0,af⟩) 1 1) [t]:=
 .inr ⟨k,0,1,a,rfl,aL _,bc,λi c h=>by
  cases i with
  |zero=>simp at h;subst h;exact f
  |succ i=>simp at h,az⟩
theorem ME{k t u:Nat}(a:b k)(f:l.cell? ⟨k,0,af⟩=ae (ptr t))(j:l.cell? ⟨k,1,af⟩=ae (ptr u)):eF b l (.slice (ae ⟨k,0,af⟩) 2 2) [t,u]:=
 .inr ⟨k,0,2,a,rfl,aL _,bc,λi c h=>by
  cases i with
  |zero=>simp at h;subst h;exact f
  |succ i=>cases i with
   |zero=>simp at h;subst h;exact j
   |succ i=>simp at h,az⟩
theorem Vw{n:Nat}(k:aY b n l h j):∀(i c:Nat) g,[h][i]?=ae c->[j][i]?=ae g->aY b n l c g:=by
 intro i c g a f;cases i with
 |zero=>simp at a f;subst a;subst f;exact k
 |succ i=>simp at a
theorem Kn{n:Nat}{m:List KV}(o:aY b n l h j)(k:aY b n l s m):∀(i c:Nat) g,[h,s][i]?=ae c->[j,m][i]?=ae g->aY b n l c g:=by
 intro i c g a f;cases i with
 |zero=>simp at a f;subst a;subst f;exact o
 |succ i=>cases i with
  |zero=>simp at a f;subst a;subst f;exact k
  |succ i=>simp at a
theorem oZ(k:List UInt8)(v:B)(l:List (List UInt8×B))(c:bh l):(ins k v l).length<=l.length+1:=by
 unfold ins;have:∀m:List (List UInt8×B),(m.filter λe=>dt e.1 k).length+(m.filter λe=>dt k e.1).length<=m.length:=by
  intro m;induction m with
  |nil=>simp
  |cons e r f=>
   rw[CO,CO];by_cases a:dt e.1 k=aq
   ·have b:¬dt k e.1=true:=Bf a;rw[if_pos a,if_neg b];simp;omega
   ·rw[if_neg a];split<;>simp<;>omega
 have:=this l;simp;omega
def oy(S:Nat->Prop)(n:Nat)(l:List KV)(w:ak)(e:nH)(b:ak):Prop:=∃a,e=.returned (.pointer (ae ⟨a,0,af⟩))/\aY S n b a l/\aA w.heap.size w b
theorem Ug{w:ak}{n:Nat}{v:Int}{y:UInt8}(p:Open b w)(f:aY b n w h j)(R:a.size<=64)(W:b s)(B:w.cell? ⟨s,0,af⟩=ae (.int .i64 v))(Z:j.length+1<=1000000)(u:∀e∈j,∃r,e.1=a.data.toList++y::r):aE aj 77 #[.pointer (ae ⟨h,0,af⟩),.string a,.pointer (ae ⟨s,0,af⟩),.int .i64 a.size] w (oy b (n+1) (ins a.data.toList v j) w):=by
 have x:=al3 (v:=v) f.ck f.ne u
 have t:=λ(c:ak) (k:c=w.alloc (.cells #[ptr h] 56))=>mZ (S:=b) (w:=c) (n:=n) (p:=a) (p.later (k▸cH _ _)) R (uv W (aS (k▸cH _ _) B)) (row_one (k:=w.heap.size) (t:=h) (p _ (aL _)) (by rw[k];simp)) rfl (Vw (f.on (k▸cH _ _))) x (by
    have:=oZ a.data.toList v j f.ck;omega)
 have H:aB (∀c:ak,c=w.alloc (.cells #[ptr h] 56)->aE aj 75 #[.string a,.pointer (ae ⟨s,0,af⟩),.slice (ae ⟨w.heap.size,0,af⟩) 1 1] c λe o=>∃l,e=.returned (.pointer (ae ⟨l,0,af⟩))/\aY b (n+1) o l (ins a.data.toList v j)/\aA c.heap.size c o):=t;clear t x u B f
 go_enter OX,OQ
 go_wp2_with (go_at_call 75;refine(H.out _ rfl).mono ?_;rintro e o ⟨l,rfl,U,N⟩)
 go_ret
 exact⟨l,rfl,U,(cH w _).trans (N.mono (cH w _).size)⟩
theorem vU(key:ByteArray)(i:Nat)(h:i<key.size):key.data.toList=key.data.toList.take i++key[i]::key.data.toList.drop (i+1):=by
 conv=>lhs;rw[<-jW i key.data.toList]
 congr 1;rw[lG (by simpa using h)];rfl
theorem ED(key:ByteArray)(i:Nat):(key.extract 0 i).data.toList=key.data.toList.take i:=by
 rw[Lib.extract_data];simp
theorem Uf{w:ak}{n:Nat}{v:Int}(u:Open b w)(r:aY b n w h j)(h0:0<n)(hk:a.size<=64)(hv:b s)(a1:w.cell? ⟨s,0,af⟩=ae (.int .i64 v))(hm:j.length+1<=1000000)(a7:w.cell? ⟨h,0,af⟩=ae (.string o))(an:o.size<=64)(h1:c<a.size)(h2:c<o.size)(W:∀e∈j,∃ac,e.1=a.data.toList.take c++o[c]::ac)(y:a[c]<o[c]):aE aj 77 #[.pointer (ae ⟨h,0,af⟩),.string a,.pointer (ae ⟨s,0,af⟩),.int .i64 c] w (oy b (n+1) (ins a.data.toList v j) w):=by
 have R:a.data.toList=a.data.toList.take c++a[c]::a.data.toList.drop (c+1):=(vU a c h1);have Z:=al2 (v:=v) r.ck r.ne R W y;have U:=mZ (S:=b) (w:=w) (n:=0) (p:=a) (cs:=[]) u hk (uv hv a1) (.inl ⟨rfl,rfl⟩) rfl (λi ad g a2=>by simp at a2) (BZ a.data.toList v) az;have N:∀(f:ak) (l:Nat),aY b 1 f l [(a.data.toList,v)]->aA w.heap.size w f->∀m:Nat,aE aj 75 #[.string (a.extract 0 c),.pointer af,.slice (ae ⟨f.heap.size,0,af⟩) 2 2] ((f.alloc (.cells #[ptr l,ptr h] 56)).drewN m) λe p=>∃k,e=.returned (.pointer (ae ⟨k,0,af⟩))/\aY b (n+1) p k (ins a.data.toList v j)/\aA w.heap.size w p:=by
  intro f l a8 x m;have B:aA f.heap.size f ((f.alloc (.cells #[ptr l,ptr h] 56)).drewN m):=kr (cH f _) m;have t:aA w.heap.size w ((f.alloc (.cells #[ptr l,ptr h] 56)).drewN m):=x.trans (B.mono x.size);refine(mZ (S:=b) (n:=n) (p:=a.extract 0 c) (u.later t) (by simp;omega) (ov:=af) rfl (ME (k:=f.heap.size) (t:=l) (u:=h) (u _ x.size) az az) rfl (Kn ((a8.on B).fuel ag) (r.on t)) (by rw[ED];exact Z) (by have:=oZ a.data.toList v j r.ck;omega)).mono ?_;rintro e p ⟨k,rfl,h3,h4⟩;exact⟨k,rfl,h3,t.trans (h4.mono t.size)⟩
 have HJ:aB (∀(f:ak) (l:Nat),aY b 1 f l [(a.data.toList,v)]->aA w.heap.size w f->∀m:Nat,aE aj 75 #[.string (a.extract 0 c),.pointer af,.slice (ae ⟨f.heap.size,0,af⟩) 2 2] ((f.alloc (.cells #[ptr l,ptr h] 56)).drewN m) λe p=>∃k,e=.returned (.pointer (ae ⟨k,0,af⟩))/\aY b (n+1) p k (ins a.data.toList v j)/\aA w.heap.size w p):=N;have HF:aB (aE aj 75 #[.string a,.pointer (ae ⟨s,0,af⟩),.slice af 0 0] w λe p=>∃k,e=.returned (.pointer (ae ⟨k,0,af⟩))/\aY b (0+1) p k [(a.data.toList,v)]/\aA w.heap.size w p):=U;have ai:(a[c].toNat:Int)<(o[c].toNat:Int):=by have:a[c].toNat<o[c].toNat:=y;omega
 clear N Z W R a1 r U y;have al:¬(c:Int)=(a.size:Int):=ag;have ha:(0:Int)<=(c:Int):=qC _;have hb:(c:Int)<(a.size:Int):=ag;have hc:(c:Int)<(o.size:Int):=ag;have HC:aB (w.cell? ⟨h,0,af⟩=ae (.string o)):=a7
 go_enter OX,OQ
 go_wp2_with (go_at_call 75;refine HF.out.mono ?_;rintro e f ⟨l,rfl,ab,H⟩)
 have am:f.cell? ⟨h,0,af⟩=ae (.string o):=aS H HC.out
 go_quiet (fail)
 go_wp2_with (go_at_call 75;refine(HJ.out f l ab H _).mono ?_;rintro e p ⟨k,rfl,aa,a6⟩)
 go_ret
 exact⟨k,rfl,aa,a6⟩
theorem Uh{w:ak}{n:Nat}{v:Int}(u:Open b w)(r:aY b n w h j)(h0:0<n)(hk:a.size<=64)(hv:b s)(a1:w.cell? ⟨s,0,af⟩=ae (.int .i64 v))(hm:j.length+1<=1000000)(a8:w.cell? ⟨h,0,af⟩=ae (.string o))(ao:o.size<=64)(h1:c<a.size)(h2:c<o.size)(W:∀e∈j,∃ad,e.1=a.data.toList.take c++o[c]::ad)(y:o[c]<a[c]):aE aj 77 #[.pointer (ae ⟨h,0,af⟩),.string a,.pointer (ae ⟨s,0,af⟩),.int .i64 c] w (oy b (n+1) (ins a.data.toList v j) w):=by
 have R:a.data.toList=a.data.toList.take c++a[c]::a.data.toList.drop (c+1):=(vU a c h1);have Z:=al4 (v:=v) r.ck r.ne R W y;have U:=mZ (S:=b) (w:=w) (n:=0) (p:=a) (cs:=[]) u hk (uv hv a1) (.inl ⟨rfl,rfl⟩) rfl (λi ai g a2=>by simp at a2) (BZ a.data.toList v) az;have N:∀(f:ak) (l:Nat),aY b 1 f l [(a.data.toList,v)]->aA w.heap.size w f->∀m:Nat,aE aj 75 #[.string (a.extract 0 c),.pointer af,.slice (ae ⟨f.heap.size,0,af⟩) 2 2] ((f.alloc (.cells #[ptr h,ptr l] 56)).drewN m) λe p=>∃k,e=.returned (.pointer (ae ⟨k,0,af⟩))/\aY b (n+1) p k (ins a.data.toList v j)/\aA w.heap.size w p:=by
  intro f l aa x m;have B:aA f.heap.size f ((f.alloc (.cells #[ptr h,ptr l] 56)).drewN m):=kr (cH f _) m;have t:aA w.heap.size w ((f.alloc (.cells #[ptr h,ptr l] 56)).drewN m):=x.trans (B.mono x.size);refine(mZ (S:=b) (n:=n) (p:=a.extract 0 c) (u.later t) (by simp;omega) (ov:=af) rfl (ME (k:=f.heap.size) (t:=h) (u:=l) (u _ x.size) az az) rfl (Kn (r.on t) ((aa.on B).fuel ag)) (by rw[ED];exact Z) (by have:=oZ a.data.toList v j r.ck;omega)).mono ?_;rintro e p ⟨k,rfl,h3,h4⟩;exact⟨k,rfl,h3,t.trans (h4.mono t.size)⟩
 have HJ:aB (∀(f:ak) (l:Nat),aY b 1 f l [(a.data.toList,v)]->aA w.heap.size w f->∀m:Nat,aE aj 75 #[.string (a.extract 0 c),.pointer af,.slice (ae ⟨f.heap.size,0,af⟩) 2 2] ((f.alloc (.cells #[ptr h,ptr l] 56)).drewN m) λe p=>∃k,e=.returned (.pointer (ae ⟨k,0,af⟩))/\aY b (n+1) p k (ins a.data.toList v j)/\aA w.heap.size w p):=N;have HF:aB (aE aj 75 #[.string a,.pointer (ae ⟨s,0,af⟩),.slice af 0 0] w λe p=>∃k,e=.returned (.pointer (ae ⟨k,0,af⟩))/\aY b (0+1) p k [(a.data.toList,v)]/\aA w.heap.size w p):=U;have a7:(o[c].toNat:Int)<(a[c].toNat:Int):=by have:o[c].toNat<a[c].toNat:=y;omega
 have al:¬(a[c].toNat:Int)<(o[c].toNat:Int):=ag;clear a7;clear N Z W R a1 r U y;have am:¬(c:Int)=(a.size:Int):=ag;have ha:(0:Int)<=(c:Int):=qC _;have hb:(c:Int)<(a.size:Int):=ag;have hc:(c:Int)<(o.size:Int):=ag;have HC:aB (w.cell? ⟨h,0,af⟩=ae (.string o)):=a8
 go_enter OX,OQ
 go_wp2_with (go_at_call 75;refine HF.out.mono ?_;rintro e f ⟨l,rfl,ac,H⟩)
 have an:f.cell? ⟨h,0,af⟩=ae (.string o):=aS H HC.out
 go_quiet (fail)
 go_wp2_with (go_at_call 75;refine(HJ.out f l ac H _).mono ?_;rintro e p ⟨k,rfl,ab,a6⟩)
 go_ret
 exact⟨k,rfl,ab,a6⟩
end
variable {V:Type}
theorem Shaped.Rg{o:Option V}{b:List (List (List UInt8×V))}{l:List (List UInt8×V)}(h:Shaped f o k b l):del f l=b.flatten:=by
 refine(del_eq h.ck h.aT.C5 λe=> ?_).symm;rw[h.eq,dU,mh];constructor
 ·intro a;obtain⟨x,r,j⟩:=h.aT.front a;exact⟨.inr a,j▸nU⟩
 ·rintro⟨a|a,c⟩;·exact absurd a.1 c
  ·exact a
theorem vM(L:List B)(i j:Nat)(b:i<L.length):(L.take i++L.drop (i+1))[j]?=if j<i then L[j]? else L[j+1]?:=by
 by_cases a:j<i;·rw[if_pos a,nu (by simp;omega),nv,if_pos a]
 ·rw[if_neg a,np (by simp;omega),ny];congr 1;simp;omega
theorem Bl(L:List B)(i:Nat)(a:i<L.length):(L.take i++L.drop (i+1)).length+1=L.length:=by simp;omega
theorem Shaped.home{w:Option V}{b:List (List (List UInt8×V))}{l:List (List UInt8×V)}(a:Shaped f w k b l)(u:p=f++t::x){i:Nat}(v:k[i]?=ae t){m:List (List UInt8×V)}(c:b[h]?=ae m){e:List UInt8×V}(r:e∈m)(s:e.1=p):h=i:=by
 obtain⟨y,o⟩:=a.aT.byte c;obtain⟨q,j⟩:=a.aT.pre h y m o c e r;rw[s,u]at j;obtain⟨rfl,_⟩:=pX j;exact BK a.aT.pw o v
theorem Shaped.Rf{B:Option V}{c:List (List (List UInt8×V))}{l:List (List UInt8×V)}(h:Shaped f B k c l)(H:p=f++t::x){i:Nat}(W:k[i]?=ae t){g:List (List UInt8×V)}(r:c[i]?=ae g)(U:del p g≠[]):Shaped f B k (c.take i++del p g::c.drop (i+1)) (del p l):=by
 have v:=(cu.mp r).1;have s:=B5 c i;have G:fF f k (c.take i++del p g::c.drop (i+1)):=by
  refine⟨by rw[h.aT.len];simp;omega,h.aT.pw,λj m a=> ?_,λj y m N a=> ?_,λj m a=> ?_⟩<;>rw[s _ _ v]at a
  ·by_cases e:j=i;·rw[if_pos e]at a;obtain rfl:=er a;exact U
   ·rw[if_neg e]at a;exact h.aT.iX j m a
  ·by_cases e:j=i
   ·rw[if_pos e]at a;obtain rfl:=er a;subst e;exact λe b=>h.aT.pre _ _ g N r e (sA.mp b).1
   ·rw[if_neg e]at a;exact h.aT.pre j y m N a
  ·by_cases e:j=i
   ·rw[if_pos e]at a;obtain rfl:=er a;exact C6 (h.aT.ck i g r)
   ·rw[if_neg e]at a;exact h.aT.ck j m a
 refine⟨G,(del_eq h.ck (G.pq B) λe=> ?_).symm,λw=>by have:=h.two w;simp;omega⟩;rw[dU,mh,pd,h.mem];constructor
 ·rintro(u|⟨j,m,a,b⟩);·exact⟨.inl u,by rw[u.1,H];exact nU.symm⟩
  ·rw[s _ _ v]at a;by_cases o:j=i
   ·rw[if_pos o]at a;obtain rfl:=er a;exact⟨.inr ⟨i,g,r,(sA.mp b).1⟩,(sA.mp b).2⟩
   ·rw[if_neg o]at a;exact⟨.inr ⟨j,m,a,b⟩,λw=>o (h.home H W a b w)⟩
 ·rintro⟨u|⟨j,m,a,b⟩,R⟩;·exact .inl u
  ·by_cases o:j=i
   ·subst o;rw[r]at a;obtain rfl:=er a;exact .inr ⟨j,del p g,by rw[s _ _ v,if_pos rfl],sA.mpr ⟨b,R⟩⟩
   ·exact .inr ⟨j,m,by rw[s _ _ v,if_neg o];exact a,b⟩
theorem Shaped.Rb{H:Option V}{b:List (List (List UInt8×V))}{l:List (List UInt8×V)}(h:Shaped f H k b l)(B:p=f++t::x){i:Nat}(U:k[i]?=ae t){g:List (List UInt8×V)}(R:b[i]?=ae g)(Z:del p g=[]):fF f (k.take i++k.drop (i+1)) (b.take i++b.drop (i+1))/\del p l=c9 f H++(b.take i++b.drop (i+1)).flatten:=by
 have r:=(cu.mp R).1;have w:i<k.length:=by rw[h.aT.len];exact r
 have s:=vM b i;have G:fF f (k.take i++k.drop (i+1)) (b.take i++b.drop (i+1)):=by
  refine⟨by have:=h.aT.len;simp;omega,?_,λj m a=> ?_,λj y m v a=> ?_,λj m a=> ?_⟩
  ·refine uR ?_ h.aT.pw
   conv=>rhs;rw[<-jW i k]
   exact aL9 (by rw[lG w];exact aw5 _ _) _
  all_goals (rw[s _ r]at a;split at a)
  ·exact h.aT.iX _ m a
  ·exact h.aT.iX _ m a
  ·rw[vM _ _ _ w,if_pos ‹_›]at v;exact h.aT.pre _ y m v a
  ·rw[vM _ _ _ w,if_neg ‹_›]at v;exact h.aT.pre _ y m v a
  ·exact h.aT.ck _ m a
  ·exact h.aT.ck _ m a
 refine⟨G,(del_eq h.ck (G.pq H) λe=> ?_).symm⟩;rw[dU,mh,pd,h.mem];constructor
 ·rintro(u|⟨j,m,a,o⟩);·exact⟨.inl u,by rw[u.1,B];exact nU.symm⟩
  ·rw[s _ r]at a;by_cases N:j<i
   ·rw[if_pos N]at a;exact⟨.inr ⟨j,m,a,o⟩,λc=>by have:=h.home B U a o c;omega⟩
   ·rw[if_neg N]at a;exact⟨.inr ⟨j+1,m,a,o⟩,λc=>by have:=h.home B U a o c;omega⟩
 ·rintro⟨u|⟨j,m,a,o⟩,W⟩;·exact .inl u
  ·rcases sV j i with c|c|c;·exact .inr ⟨j,m,by rw[s _ r,if_pos c];exact a,o⟩
   ·subst c;rw[R]at a;obtain rfl:=er a;have:e∈del p g:=sA.mpr ⟨o,W⟩;rw[Z]at this;cases this
   ·refine .inr ⟨j-1,m,?_,o⟩;rw[s _ r,if_neg ag,show j-1+1=j by omega];exact a
theorem EJ{k:List UInt8}{l:List (List UInt8×V)}(s:bh l){v:V}(h:lk k l=ae v):(del k l).length+1=l.length:=by
 have c:=yE h;clear h;induction l with
 |nil=>cases c
 |cons e r t=>
  obtain⟨j,o⟩:=kZ.mp s;unfold del;rw[CO];by_cases b:e.1=k
  ·rw[if_neg (by simpa using b)];have:(r.filter λe=>aM (e.1≠k))=r:=xl.mpr λf p=>by
    simp;intro a;have:=j f p;rw[b,a]at this;exact kx _ this
   rw[this];rfl
  ·rw[if_pos (by simpa using b)];have:=t o (by rcases dk.mp c with a|a;exact absurd (congrArg Po a.symm) b;exact a);simp only[rM];unfold del at this;omega
variable {V:Type}
theorem MW:∀{a b:List UInt8},a.Pairwise (·<·)->b.Pairwise (·<·)->(∀x,x∈a↔x∈b)->a=b
 |[],[],_,_,_=>rfl
 |[],x::r,_,_,h=>absurd ((h x).mpr gq) az
 |x::r,[],_,_,h=>absurd ((h x).mp gq) az
 |x::r,y::q,o,p,h=>by
  obtain⟨j,l⟩:=kZ.mp o;obtain⟨k,t⟩:=kZ.mp p;have s:x=y:=by
   rcases dk.mp ((h x).mp gq)with e|e;·exact e
   ·rcases dk.mp ((h y).mpr gq)with f|f;·exact f.symm
    ·exact absurd (rQ (j y f) (k x e)) (jE x)
  subst s;rw[MW l t (λz=>by
   constructor
   ·intro c;rcases dk.mp ((h z).mp (jD _ c))with e|e;·subst e;exact absurd (j _ c) (jE _)
    ·exact e
   ·intro c;rcases dk.mp ((h z).mpr (jD _ c))with e|e;·subst e;exact absurd (k _ c) (jE _)
    ·exact e)]
theorem fF.L8{c:List (List (List UInt8×V))}(h:fF f k c):t∈k↔∃e∈c.flatten,∃r,e.1=f++t::r:=by
 constructor
 ·intro s;obtain⟨i,j⟩:=uT.mp s;obtain⟨g,b⟩:=h.vQ j;obtain⟨e,a⟩:=zA _ (h.iX i g b);exact⟨e,pd.mpr ⟨i,g,b,a⟩,h.pre i t g j b e a⟩
 ·rintro⟨e,a,r,p⟩;obtain⟨i,g,b,a⟩:=pd.mp a;obtain⟨y,l⟩:=h.byte b;obtain⟨q,o⟩:=h.pre i y g l b e a;obtain⟨rfl,_⟩:=pX (p.symm.trans o);exact cG l
theorem fF.L9{c:List (List (List UInt8×V))}(h:fF f k c){i:Nat}{g:List (List UInt8×V)}(o:k[i]?=ae t)(l:c[i]?=ae g){e:List UInt8×V}:e∈g↔e∈c.flatten/\∃r,e.1=f++t::r:=by
 constructor
 ·intro a;exact⟨pd.mpr ⟨i,g,l,a⟩,h.pre i t g o l e a⟩
 ·rintro⟨a,r,u⟩;obtain⟨j,m,b,a⟩:=pd.mp a;obtain⟨y,p⟩:=h.byte b;obtain⟨q,s⟩:=h.pre j y m p b e a;obtain⟨rfl,_⟩:=pX (u.symm.trans s);obtain rfl:=BK h.pw o p;rw[l]at b;cases b;exact a
theorem Shaped.one{j t:Option V}{o B:List (List (List UInt8×V))}{l:List (List UInt8×V)}(h:Shaped f j p o l)(b:Shaped k t x B l):f=k/\j=t/\p=x/\o=B:=by
 have U:f=k:=aL6 (b.uy λe w=>h.front w) (h.uy λe w=>b.front w).length_le;subst U;have R:j=t:=by
  have a:∀{j:Option V} {p o},Shaped f j p o l->∀v,j=ae v↔(f,v)∈l:=by
   intro j p o h v;rw[h.mem];constructor;·intro e;exact .inl ⟨rfl,e⟩
   ·rintro(u|⟨i,g,c,u⟩);·exact u.2
    ·obtain⟨H,s⟩:=h.aT.byte c;obtain⟨r,W⟩:=h.aT.pre i H g s c _ u;exact absurd W nU.symm
  cases j with
  |some v=>exact((a b v).mpr ((a h v).mp rfl)).symm
  |none=>cases t with
   |none=>rfl
   |some v=>exact(a h v).mpr ((a b v).mp rfl)
 subst R;have N:o.flatten=B.flatten:=aw4 (h.eq.symm.trans b.eq);have Z:p=x:=MW h.aT.pw b.aT.pw λH=>by rw[h.aT.L8,b.aT.L8,N]
 subst Z;refine⟨rfl,rfl,rfl,mD λi=> ?_⟩;cases c:o[i]? with
 |none=>
  rw[av8]at c;rw[eq_comm,av8,<-b.aT.len,h.aT.len];exact c
 |some g=>
  obtain⟨H,s⟩:=h.aT.byte c;obtain⟨m,y⟩:=b.aT.vQ s;rw[y];congr 1;exact bh.ext (h.aT.ck i g c) (b.aT.ck i m y) λe=>by rw[h.aT.L9 s c,b.aT.L9 s y,N]
def e7(n:Nat):Nat:=if n<=4 then 1 else if n<=16 then 2 else if n<=48 then 3 else 4
def one(i j:Nat):Nat:=if j=i then 1 else 0
def eZ(a:List (Nat->Nat))(j:Nat):Nat:=(a.map λc=>c j).sum
def dD(a:List Nat):Nat:=a.foldl max 0
def kq:Nat->List (List UInt8×V)->(Nat->Nat)->Nat->Prop
 |0,_,_,_=>False
 |n+1,l,c,h=>∃(p:List UInt8)(r:Option V)(s:List UInt8) (a:List (List (List UInt8×V))),Shaped p r s a l/\
   ((a=[]/\c=one 0/\h=1)\/(a≠[]/\∃(b:List (Nat->Nat)) (f:List Nat),b.length=a.length/\f.length=a.length/\(∀(i:Nat) g k o,a[i]?=ae g->b[i]?=ae k->f[i]?=ae o->kq n g k o)/\c=(λj=>eZ b j+one (e7 a.length) j)/\h=dD f+1))
theorem kq.uniq:∀{n m:Nat} {l:List (List UInt8×V)} {c o:Nat->Nat} {h t:Nat},kq n l c h->kq m l o t->c=o/\h=t
 |0,_,_,_,_,_,_,H,_=>H.elim
 |_+1,0,_,_,_,_,_,_,H=>H.elim
 |n+1,m+1,l,c,o,h,t,⟨a8,ov,xs,s,W,H⟩,⟨q,ou,ys,Z,U,K⟩=>by
  obtain⟨rfl,rfl,rfl,rfl⟩:=W.one U;rcases H with⟨u,rfl,rfl⟩|⟨u,a,j,l1,l2,B,rfl,rfl⟩
  ·rcases K with⟨_,rfl,rfl⟩|⟨f,_⟩;·exact⟨rfl,rfl⟩
   ·exact absurd u f
  ·rcases K with⟨f,_⟩|⟨f,b,k,a6,a7,N,rfl,rfl⟩;·exact absurd f u
   ·have:∀i:Nat,a[i]?=b[i]?/\j[i]?=k[i]?:=by
     intro i;by_cases R:i<s.length
     ·have v:s[i]?=ae s[i]:=bf R;have w:a[i]?=ae (a[i]'(ag)):=bf _;have a3:j[i]?=ae (j[i]'(ag)):=bf _;have x:b[i]?=ae (b[i]'(ag)):=bf _;have y:k[i]?=ae (k[i]'(ag)):=bf _;obtain⟨p,r⟩:=kq.uniq (B i _ _ _ v w a3) (N i _ _ _ v x y);rw[w,a3,x,y,p,r];exact⟨rfl,rfl⟩
     ·rw[lI ag,lI ag,lI ag,lI ag];exact⟨rfl,rfl⟩
    have p:a=b:=mD λi=>(this i).1;have r:j=k:=mD λi=>(this i).2;subst p;subst r;exact⟨rfl,rfl⟩
theorem an6(a:List (Nat->Nat))(c:Nat->Nat)(j:Nat):eZ (a++[c]) j=eZ a j+c j:=by simp[eZ]
theorem XZ(a:List Nat)(h:Nat):dD (a++[h])=max (dD a) h:=by simp[dD]
theorem yH(f:∀x∈u,x<=h):dD u<=h:=by
 have:∀(u:List Nat) (a:Nat),a<=h->(∀x∈u,x<=h)->u.foldl max a<=h:=by
  intro u;induction u with
  |nil=>intro a b _;exact b
  |cons x r k=>intro a b c;exact k _ (Nat.max_le.mpr ⟨b,c x gq⟩) (λy j=>c y (jD _ j))
 exact this u 0 (fL _) f
theorem Cb:∀{cl:List (Nat->Nat)} {gs:List (List (List UInt8×V))},cl.length=gs.length->(∀(i:Nat) g c,gs[i]?=ae g->cl[i]?=ae c->∀j,c j+1<=2*g.length)->∀j,eZ cl j+gs.length<=2*(gs.map jk).sum
 |[],[],_,_,_=>by simp[eZ]
 |[],_::_,h,_,_=>by simp at h
 |_::_,[],h,_,_=>by simp at h
 |c::cl,g::gs,h,f,j=>by
  have o:=f 0 g c rfl rfl j;have p:=Cb (cl:=cl) (gs:=gs) (by simpa using h) (λi l k a b=>f (i+1) l k (by simpa using a) (by simpa using b)) j;simp only[eZ,qG,OF,rM]at*;omega
theorem kq.bounds:∀{n:Nat} {l:List (List UInt8×V)} {c:Nat->Nat} {h:Nat},kq n l c h->(∀j,c j+1<=2*l.length)/\h<=l.length/\1<=l.length/\c 0<=l.length
 |0,_,_,_,H=>H.elim
 |n+1,l,c,h,⟨a6,B,xs,gs,v,H⟩=>by
  have aa:=v.len;rcases H with⟨w,rfl,rfl⟩|⟨w,o,y,l1,l2,N,rfl,rfl⟩
  ·have:B≠none:=λU=>by have:=v.two U;rw[w]at this;simp at this
   obtain⟨a7,rfl⟩:=av2.mp this;rw[w]at aa;simp[c9]at aa;refine⟨λj=> ?_,ag,ag,by simp[one];omega⟩;unfold one;split<;>omega
  ·have W:∀(i:Nat) g f t,gs[i]?=ae g->o[i]?=ae f->y[i]?=ae t->(∀j,f j+1<=2*g.length)/\t<=g.length/\1<=g.length/\f 0<=g.length:=λi g f t a1 a2 a3=>(N i g f t a1 a2 a3).bounds;have u:∀(i:Nat) g,gs[i]?=ae g->∃f t,o[i]?=ae f/\y[i]?=ae t:=by
    intro i g R;have p:=(cu.mp R).1;exact⟨o[i]'(ag),y[i]'(ag),bf _,bf _⟩
   have ai:=Cb l1 (λi g f a b j=>by
    obtain⟨c2,x,r,s⟩:=u i g a;rw[b]at r;cases r;exact(W i g f x a b s).1 j)
   have ao:2<=2*(c9 a6 B).length+gs.length:=by
    cases B with
    |none=>exact bT (v.two rfl) (Nat.le_add_left _ _)
    |some a7=>simp[c9]
   have ad:∀j,one (e7 gs.length) j<=1:=λj=>by unfold one;split<;>omega
   have ab:∀(i:Nat) g,gs[i]?=ae g->g.length+1<=l.length:=by
    intro i g R;have p:=(cu.mp R).1;have h3:(gs.take i++gs.drop (i+1)).length+1=gs.length:=Bl gs i p;have h4:gs.flatten.length=(gs.take i).flatten.length+g.length+(gs.drop (i+1)).flatten.length:=by
     conv=>lhs;rw[<-jW i gs,lG p]
     rw[Cy,uX,gJ,gJ];have:gs[i]=g:=er ((bf p).symm.trans R);rw[this];omega
    have h5:l.length=(c9 a6 B).length+gs.flatten.length:=by rw[v.eq,gJ]
    cases B with
    |some a7=>have h6:(c9 a6 (ae a7)).length=1:=rfl;omega
    |none=>
     have h6:=v.two rfl;have:1<=(gs.take i).flatten.length+(gs.drop (i+1)).flatten.length:=by
      obtain⟨k,hk,m,hm⟩:∃k,k≠i/\∃m,gs[k]?=ae m:=by
       by_cases e:i=0;·exact⟨1,ag,gs[1],bf _⟩
       ·exact⟨0,ag,gs[0],bf _⟩
      have an:1<=m.length:=kE.mpr (v.aT.iX k m hm);rcases l9 k i with h7|h7
      ·have:m∈gs.take i:=cG (i:=k) (by rw[nv,if_pos h7];exact hm);have:=(xd this).length_le;omega
      ·have:m∈gs.drop (i+1):=cG (i:=k-(i+1)) (by rw[ny,show i+1+(k-(i+1))=k by omega];exact hm);have:=(xd this).length_le;omega
     omega
   have ac:dD y+1<=l.length:=by
    have ap:0<gs.length:=kE.mpr w;have U:gs[0]?=ae gs[0]:=bf _;have a8:=ab 0 _ U;have:dD y<=l.length-1:=yH λal hx=>by
     obtain⟨i,p⟩:=uT.mp hx;have am:=(cu.mp p).1;have Z:gs[i]?=ae (gs[i]'(ag)):=bf _;obtain⟨c2,x,r,s⟩:=u i _ Z;rw[p]at s;cases s;have:=(W i _ c2 al Z r p).2.1;have:=ab i _ Z;omega
    omega
   have a8:1<=l.length:=ag;refine⟨λj=> ?_,ac,a8,?_⟩
   ·show eZ o j+one (e7 gs.length) j+1<=_;have:=ai j;have:=ad j;omega
   ·have hz:one (e7 gs.length) 0=0:=by unfold one e7;rw[if_neg];split<;>(try split)<;>(try split)<;>omega
    have:∀{o:List (Nat->Nat)} {gs:List (List (List UInt8×V))},o.length=gs.length->(∀(i:Nat) g c,gs[i]?=ae g->o[i]?=ae c->c 0<=g.length)->eZ o 0<=(gs.map jk).sum:=by
     intro o;induction o with
     |nil=>intro gs _ _;simp[eZ]
     |cons c o ih=>
      intro gs u N;cases gs with
      |nil=>simp at u
      |cons g gs=>
       have w:=N 0 g c rfl rfl;have x:=ih (gs:=gs) (by simpa using u) (λi g' f a b=>N (i+1) g' f (by simpa using a) (by simpa using b));simp only[eZ,qG,OF]at*;omega
    have:=this l1 (λi g f a b=>by
     obtain⟨c2,x,r,s⟩:=u i g a;rw[b]at r;cases r;exact(W i g f x a b s).2.2.2)
    simp only[hz];omega
section
variable {V:Type}
def aW(l m:List (List UInt8×V)):List (List UInt8×V):=m.foldl (λa e=>ins e.1 e.2 a) l
theorem ap9(l:List (List UInt8×V)):aW l []=l:=rfl
theorem qy{l m:List (List UInt8×V)}(h:bh l):bh (aW l m):=by
 induction m generalizing l with
 |nil=>exact h
 |cons p m a=>exact a (iw h)
theorem ug{l m:List (List UInt8×V)}(o:bh m){e:List UInt8×V}:e∈aW l m↔e∈m\/(e∈l/\∀q∈m,q.1≠e.1):=by
 induction m generalizing l with
 |nil=>simp[aW]
 |cons p m r=>
  obtain⟨f,j⟩:=kZ.mp o;have:=r (l:=ins p.1 p.2 l) j;show e∈aW (ins p.1 p.2 l) m↔_;rw[this,iT];constructor
  ·rintro(h|⟨rfl|⟨c,b⟩,k⟩);·exact .inl (jD _ h)
   ·exact .inl gq
   ·exact .inr ⟨c,λq a=>by rcases dk.mp a with rfl|a<;>first|exact λe=>b e.symm|exact k q a⟩
  ·rintro(h|⟨c,b⟩)
   ·rcases dk.mp h with rfl|h;·exact .inr ⟨.inl rfl,λq a e=>by have:=f q a;rw[e]at this;exact kx _ this⟩
    ·exact .inl h
   ·exact .inr ⟨.inr ⟨c,λe=>b p gq e.symm⟩,λq a=>b q (jD _ a)⟩
theorem Cg{l m r:List (List UInt8×V)}(a:bh l)(b:bh m)(c:bh r)(h:∀e,e∈r↔e∈m\/(e∈l/\∀q∈m,q.1≠e.1)):r=aW l m:=
 bh.ext c (qy a) λe=>(h e).trans (ug b).symm
theorem Yw{m:List (List UInt8×V)}(a:bh m):aW [] m=m:=(Cg nA a a (λe=>az)).symm
theorem Ni{m:List (List UInt8×V)}(a:bh m):aW m m=m:=by
 refine(Cg a a a (λe=> ?_)).symm;constructor;·exact .inl
 ·rintro(h|⟨h,_⟩)<;>exact h
theorem EM{l m:List (List UInt8×V)}(a:bh l):(aW l m).length<=l.length+m.length:=by
 induction m generalizing l with
 |nil=>exact aL _
 |cons p m b=>
  have c:=b (l:=ins p.1 p.2 l) (iw a);have f:=oZ p.1 p.2 l a;show(aW (ins p.1 p.2 l) m).length<=_;simp;omega
theorem Yr{l m:List (List UInt8×V)}(b:bh m)(h:m≠[]):aW l m≠[]:=by
 obtain⟨e,a⟩:=zA _ h;exact List.ne_nil_of_mem ((ug b).mpr (.inl a))
abbrev dq(V:Type):=UInt8×List (List UInt8×V)
structure GP(p:List UInt8)(a:List (dq V)):Prop where
 pw:a.Pairwise λx y=>x.1<y.1
 each:∀q∈a,q.2≠[]/\bh q.2/\∀e∈q.2,∃r,e.1=p++q.1::r
def eW(a:List (dq V)):List (List UInt8×V):=(a.map (·.2)).flatten
theorem yI{a:List (dq V)}{e:List UInt8×V}:e∈eW a↔∃q∈a,e∈q.2:=by
 unfold eW;rw[Og];constructor;·rintro⟨g,f,b⟩;obtain⟨q,c,rfl⟩:=iL.mp f;exact⟨q,c,b⟩
 ·rintro⟨q,c,b⟩;exact⟨q.2,iL.mpr ⟨q,c,rfl⟩,b⟩
theorem sr(q:dq V)(a:List (dq V)):eW (q::a)=q.2++eW a:=rfl
theorem GP.to{a:List (dq V)}(h:GP f a):fF f (a.map (·.1)) (a.map (·.2)):=by
 refine⟨az,GZ.mpr h.pw,λi g b=> ?_,λi x g k b=> ?_,λi g b=> ?_⟩
 ·rw[iI,ji]at b;obtain⟨q,c,rfl⟩:=b;exact(h.each q (cG c)).1
 ·rw[iI,ji]at b k;obtain⟨q,c,rfl⟩:=b;obtain⟨l,j,rfl⟩:=k;rw[c]at j;cases j;exact(h.each q (cG c)).2.2
 ·rw[iI,ji]at b;obtain⟨q,c,rfl⟩:=b;exact(h.each q (cG c)).2.1
theorem GP.of{a:List (List (List UInt8×V))}(h:fF f k a):GP f (k.zip a):=by
 refine⟨?_,λq o=> ?_⟩
 ·have c:((k.zip a).map (·.1)).Pairwise (·<·):=by rw[List.map_fst_zip (by rw[h.len];exact aL _)];exact h.pw
  exact GZ.mp c
 ·obtain⟨i,l,e⟩:=GV o;have j:(k.zip a)[i]?=ae q:=by rw[bf l,e]
  obtain⟨p,b⟩:=av7.mp j;exact⟨h.iX i _ b,h.ck i _ b,h.pre i _ _ p b⟩
theorem au7{a:List (List (List UInt8×V))}(h:f.length=a.length):(f.zip a).map (·.2)=a:=List.map_snd_zip (by rw[h];exact aL _)
def mg:List (dq V)->List (dq V)->List (dq V)
 |[],b=>b
 |a,[]=>a
 |q::a,s::b=>if q.1<s.1 then q::mg a (s::b)else if s.1<q.1 then s::mg (q::a) b else(q.1,aW q.2 s.2)::mg a b
 termination_by a b=>a.length+b.length
theorem Br(a:List (dq V)):mg a []=a:=by cases a<;>simp[mg]
theorem Bv(a:List (dq V)):mg [] a=a:=by simp[mg]
theorem F7{q s:dq V}{a b:List (dq V)}(h:q.1<s.1):mg (q::a) (s::b)=q::mg a (s::b):=by rw[mg,if_pos h]
theorem F6{q s:dq V}{a b:List (dq V)}(h:s.1<q.1):mg (q::a) (s::b)=s::mg (q::a) b:=by
 rw[mg,if_neg (λc=>jE _ (rQ h c)),if_pos h]
theorem Lc{q s:dq V}{a b:List (dq V)}(h:q.1=s.1):mg (q::a) (s::b)=(q.1,aW q.2 s.2)::mg a b:=by
 rw[mg,if_neg (by rw[h];exact jE _),if_neg (by rw[h];exact jE _)]
theorem Gv(x y:UInt8):x<y\/x=y\/y<x:=by
 rcases sV x.toNat y.toNat with h|h|h;·exact .inl h
 ·exact .inr (.inl (xv.mp h))
 ·exact .inr (.inr h)
theorem GP.tail{q:dq V}{a:List (dq V)}(h:GP f (q::a)):GP f a:=⟨(kZ.mp h.pw).2,λs b=>h.each s (jD _ b)⟩
theorem GP.cons{p:List UInt8}{q:dq V}{a:List (dq V)}(h:GP p a)(c:∀s∈a,q.1<s.1)(f:q.2≠[]/\bh q.2/\∀e∈q.2,∃r,e.1=p++q.1::r):GP p (q::a):=⟨kZ.mpr ⟨c,h.pw⟩,λs b=>by rcases dk.mp b with rfl|b<;>first|exact f|exact h.each s b⟩
theorem GP.apart{a b:List (dq V)}(j:GP f a)(k:GP f b){q s:dq V}(u:q∈a)(w:s∈b)(p:q.1≠s.1){e c:List UInt8×V}(l:e∈q.2)(o:c∈s.2):c.1≠e.1:=by
 obtain⟨r,v⟩:=(j.each q u).2.2 e l;obtain⟨t,x⟩:=(k.each s w).2.2 c o;intro h;rw[v,x]at h;exact p (pX h).1.symm
theorem w9{p:List UInt8}:∀(n:Nat) {a b:List (dq V)},a.length+b.length<=n->GP p a->GP p b->GP p (mg a b)/\(∀q∈mg a b,(∃s∈a,s.1=q.1)\/∃s∈b,s.1=q.1)/\(∀e,e∈eW (mg a b)↔e∈eW b\/(e∈eW a/\∀q∈eW b,q.1≠e.1))/\a.length<=(mg a b).length/\b.length<=(mg a b).length
 |n,[],b,_,r,v=>by
  rw[Bv];exact⟨v,λq R=>.inr ⟨q,R,rfl⟩,λe=>by simp[eW],az,aL _⟩
 |n,q::a,[],_,r,v=>by
  rw[Br];exact⟨r,λs y=>.inl ⟨s,y,rfl⟩,λe=>by simp[eW],aL _,az⟩
 |0,q::a,s::b,H,_,_=>by simp at H
 |n+1,q::a,s::b,H,r,v=>by
  have U:=(kZ.mp r.pw).1;have W:=(kZ.mp v.pw).1;rcases Gv q.1 s.1 with h|h|h
  ·rw[F7 h];obtain⟨N,w,i3,i4,i5⟩:=w9 n (a:=a) (b:=s::b) (by simp at H⊢;omega) r.tail v;have B:∀t∈s::b,q.1<t.1:=λt j=>by rcases dk.mp j with rfl|j<;>first|exact h|exact rQ h (W t j)
   refine⟨N.cons (λt j=> ?_) (r.each q gq),λt j=> ?_,λe=> ?_,by simp;omega,by simp at i5⊢;omega⟩
   ·rcases w t j with⟨u,l,e⟩|⟨u,l,e⟩;·rw[<-e];exact U u l
    ·rw[<-e];exact B u l
   ·rcases dk.mp j with rfl|j;·exact .inl ⟨t,gq,rfl⟩
    ·rcases w t j with⟨u,l,e⟩|h;·exact .inl ⟨u,jD _ l,e⟩
     ·exact .inr h
   ·rw[sr,dU,i3 e,sr q a,dU];constructor
    ·rintro(c|c|⟨c,o⟩)
     ·refine .inr ⟨.inl c,λf k=> ?_⟩;obtain⟨t,j,a1⟩:=yI.mp k;exact GP.apart r v gq j (Ha (B t j)) c a1
     ·exact .inl c
     ·exact .inr ⟨.inr c,o⟩
    ·rintro(c|⟨c|c,o⟩);·exact .inr (.inl c)
     ·exact .inl c
     ·exact .inr (.inr ⟨c,o⟩)
  ·rw[Lc h];obtain⟨N,w,i3,i4,i5⟩:=w9 n (a:=a) (b:=b) (by simp at H⊢;omega) r.tail v.tail;have R:=r.each q gq;have y:=v.each s gq;refine⟨N.cons (λt j=> ?_) ⟨Yr y.2.1 y.1,qy R.2.1,λe x=> ?_⟩,λt j=> ?_,λe=> ?_,by simp;omega,by simp;omega⟩
   ·rcases w t j with⟨u,l,e⟩|⟨u,l,e⟩;·rw[<-e];exact U u l
    ·rw[<-e];show q.1<u.1;rw[h];exact W u l
   ·rcases(ug y.2.1).mp x with c|⟨c,_⟩
    ·show∃a7,e.1=p++q.1::a7;rw[h];exact y.2.2 e c
    ·exact R.2.2 e c
   ·rcases dk.mp j with rfl|j;·exact .inl ⟨q,gq,rfl⟩
    ·rcases w t j with⟨u,l,e⟩|⟨u,l,e⟩;·exact .inl ⟨u,jD _ l,e⟩
     ·exact .inr ⟨u,jD _ l,e⟩
   ·rw[sr,dU,i3 e,sr q a,sr s b,dU,dU];show e∈aW q.2 s.2\/_↔_;rw[ug y.2.1];have a6:∀f∈eW b,∀e∈q.2,f.1≠e.1:=λf k e x=>by
     obtain⟨t,j,a1⟩:=yI.mp k;exact GP.apart r v gq (jD _ j) (by rw[h];exact Ha (W t j)) x a1
    have a2:∀e∈eW a,∀f∈s.2,f.1≠e.1:=λe x f k=>by
     obtain⟨t,j,Z⟩:=yI.mp x;exact GP.apart r v (jD _ j) gq (by rw[<-h];exact(Ha (U t j)).symm) Z k
    constructor
    ·rintro((c|⟨c,o⟩)|c|⟨c,o⟩);·exact .inl (.inl c)
     ·exact .inr ⟨.inl c,λf k=>by rcases dU.mp k with k|k<;>first|exact o f k|exact a6 f k e c⟩
     ·exact .inl (.inr c)
     ·exact .inr ⟨.inr c,λf k=>by rcases dU.mp k with k|k<;>first|exact a2 e c f k|exact o f k⟩
    ·rintro((c|c)|⟨c|c,o⟩);·exact .inl (.inl c)
     ·exact .inr (.inl c)
     ·exact .inl (.inr ⟨c,λf k=>o f (dU.mpr (.inl k))⟩)
     ·exact .inr (.inr ⟨c,λf k=>o f (dU.mpr (.inr k))⟩)
  ·rw[F6 h];obtain⟨N,w,i3,i4,i5⟩:=w9 n (a:=q::a) (b:=b) (by simp at H⊢;omega) r v.tail;have B:∀t∈q::a,s.1<t.1:=λt j=>by rcases dk.mp j with rfl|j<;>first|exact h|exact rQ h (U t j)
   refine⟨N.cons (λt j=> ?_) (v.each s gq),λt j=> ?_,λe=> ?_,by simp at i4⊢;omega,by simp;omega⟩
   ·rcases w t j with⟨u,l,e⟩|⟨u,l,e⟩;·rw[<-e];exact B u l
    ·rw[<-e];exact W u l
   ·rcases dk.mp j with rfl|j;·exact .inr ⟨t,gq,rfl⟩
    ·rcases w t j with h|⟨u,l,e⟩;·exact .inl h
     ·exact .inr ⟨u,jD _ l,e⟩
   ·rw[sr,dU,i3 e,sr s b,dU];have a2:∀e∈eW (q::a),∀f∈s.2,f.1≠e.1:=λe x f k=>by
     obtain⟨t,j,Z⟩:=yI.mp x;exact GP.apart r v j gq (Ha (B t j)).symm Z k
    constructor
    ·rintro(c|c|⟨c,o⟩);·exact .inl (.inl c)
     ·exact .inl (.inr c)
     ·exact .inr ⟨c,λf k=>by rcases dU.mp k with k|k<;>first|exact a2 e c f k|exact o f k⟩
    ·rintro((c|c)|⟨c,o⟩);·exact .inl c
     ·exact .inr (.inl c)
     ·exact .inr (.inr ⟨c,λf k=>o f (dU.mpr (.inr k))⟩)
structure View(c:List UInt8)(ov:Option V)(a:List (dq V))(l:List (List UInt8×V)):Prop where
 gp:GP c a
 eq:l=c9 c ov++eW a
theorem View.mem{b:Option V}{a:List (dq V)}{l:List (List UInt8×V)}(h:View f b a l){e:List UInt8×V}:e∈l↔(e.1=f/\b=ae e.2)\/e∈eW a:=by
 rw[h.eq,dU,mh]
theorem View.ck{b:Option V}{a:List (dq V)}{l:List (List UInt8×V)}(h:View f b a l):bh l:=by
 rw[h.eq];exact h.gp.to.pq b
theorem GP.front{a:List (dq V)}(h:GP f a){e:List UInt8×V}(b:e∈eW a):e.1≠f:=by
 obtain⟨q,c,b⟩:=yI.mp b;obtain⟨r,j⟩:=(h.each q c).2.2 e b;rw[j];exact nU
theorem Shaped.view{p c:List UInt8}{b:Option V}{a:List (List (List UInt8×V))}{l:List (List UInt8×V)}(h:Shaped p b c a l):View p b (c.zip a) l:=⟨GP.of h.aT,by rw[h.eq];unfold eW;rw[au7 h.aT.len]⟩
theorem aq7{l:List (List UInt8×V)}(h:bh l)(b:l≠[])(c:∀e∈l,∃r,e.1=f++t::r):View f af [(t,l)] l:=⟨⟨az,λq a=>by simp at a;subst a;exact⟨b,h,c⟩⟩,by simp[eW,c9]⟩
theorem View.aW{c:List UInt8}{s p:Option V}{a b:List (dq V)}{l m:List (List UInt8×V)}(r:View c s a l)(k:View c p b m):View c (p.or s) (mg a b) (aW l m):=by
 obtain⟨u,x,w,_,_⟩:=w9 _ (aL _) r.gp k.gp;refine⟨u,?_⟩;refine(Cg r.ck k.ck (u.to.pq _) λe=> ?_).symm;show e∈c9 c (p.or s)++eW (mg a b)↔_;rw[dU,mh,w e,r.mem,k.mem];constructor
 ·rintro(⟨f,j⟩|f|⟨f,j⟩)
  ·cases p with
   |some v=>exact .inl (.inl ⟨f,j⟩)
   |none=>
    refine .inr ⟨.inl ⟨f,j⟩,λq o=> ?_⟩;rcases k.mem.mp o with⟨_,h⟩|h;·cases h
    ·rw[f];exact k.gp.front h
  ·exact .inl (.inr f)
  ·refine .inr ⟨.inr f,λq o=> ?_⟩;rcases k.mem.mp o with⟨h,_⟩|h;·rw[h];exact λe=>r.gp.front f e.symm
   ·exact j q h
 ·rintro((⟨f,j⟩|f)|⟨⟨f,j⟩|f,t⟩);·exact .inl ⟨f,by rw[j];rfl⟩
  ·exact .inr (.inl f)
  ·refine .inl ⟨f,?_⟩;cases p with
   |some v=>exact absurd f.symm (t (c,v) (k.mem.mpr (.inl ⟨rfl,rfl⟩)))
   |none=>exact j
  ·exact .inr (.inr ⟨f,λq o=>t q (k.mem.mpr (.inr o))⟩)
theorem View.shaped{b:Option V}{a:List (dq V)}{l:List (List UInt8×V)}(h:View f b a l)(j:b=af->2<=a.length):Shaped f b (a.map (·.1)) (a.map (·.2)) l:=⟨h.gp.to,h.eq,λc=>by rw[sY];exact j c⟩
end
