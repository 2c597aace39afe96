/- Own texts: WithB, WithC, WithD, UniA, Get, Without. -/
import Derived.Test.YtcgjppacnhmjlaaGreatMN
import Derived.Deep.RegionWith
set_option linter.all false
set_option maxRecDepth 100000
set_option maxHeartbeats 1000000
open Bool renaming true->aq,false->ax
open Decidable renaming decide->aM
open Go renaming World->ak,Value->au,cell_later->aS,Calls->aE,Addr->aH,maxLen->cE,Ending->nH
open Go.Calls renaming quiet_of_same->Cx
open Go.Ending renaming returned->sX
open Go.Lib renaming size_eq->fY,hasPrefix->iK
open Go.Proofs.Tryz renaming prog->aj,ntmps66->CY,func66->D8,ntmps84->Hd,func84->Hq,func67->OY,ntmps86->aE4,ntmps83->aE6,ntmps67->aE9,ntmps52->aF4,func86->aH8,func83->aI0,func52->aI6
open Go.RowKit renaming Below->aA,Hid->aB
open Go.RowKit.Below renaming refl->cD
open Go.Value renaming string->zX
open Int renaming natCast_nonneg->qC
open List renaming getElem?_eq_getElem->bf,getElem?_eq_some_iff->cu,mem_of_getElem?->cG,take_of_length_le->fU,length_append->gJ,drop_eq_getElem_cons->lG,length_eq_zero_iff->kY,getElem?_map->iI,length_pos_iff->kE,append_nil->og,sublist_flatten_of_mem->xd,isPrefixOf_iff_prefix->xf,prefix_iff_eq_take->zB,drop_eq_nil_of_le->zD,length_eq_one_iff->NF,getElem?_zip_eq_some->av7,getElem?_append->ax3
open Nat renaming le_refl->aL,lt_trichotomy->sV,lt_or_eq_of_le->xp,le_succ->Hu,le_of_lt->aH3
open Option renaming some->ae,none->af,map_eq_some_iff->ji
open UInt8 renaming lt_irrefl->jE,lt_trans->rQ,toNat_inj->xv
namespace Go.Proofs.YtcgjppacnhmjlaaGreat
open Go.RowKit
variable {f W:ak} {k t B N H:Nat} {j l:ByteArray} {r:au} {c:List Nat} {s R Z a8:List UInt8} {p:Nat->Prop} {y:List KV} {a7:nH} {v:nH->ak->Prop} {u:Option aH} {x:List (List KV)} {a1:Int} {a2:dq Int} {U:UInt8} {a6:Option Int}
section
attribute [local go_sem↓] Go.wp_at_zero Go.wp_at_succ
theorem Zk(b:Nat)(pre key:ByteArray)(w:ak)(o:w.cell? ⟨b,0,af⟩=ae (.string pre))(j:w.cell? ⟨b,2,af⟩=ae (.slice af 0 0))(k:key.size<=9223372036854775807)(l:pre.size<key.size):aE aj 67 #[.pointer (ae ⟨b,0,af⟩),.string key] w λe h=>e=.returned (.tuple #[.int .i64 0,.bool ax])/\aA w.heap.size w h:=by
 have a:∀n,aE aj 80 #[.slice af 0 0,.int .u8 key[pre.size].toNat,.func (.func 81) #[] #[.pointer (ae ⟨w.heap.size,0,af⟩)]] ((w.alloc (.cells #[.int .i64 pre.size] 3)).drewN n) λe h=>
   e=.returned (.tuple #[.int .i64 0,.bool ax])/\h=(w.alloc (.cells #[.int .i64 pre.size] 3)).drewN n:=λn=>aj7 _ _ _
 have f:aB (∀n,aE aj 80 #[.slice af 0 0,.int .u8 key[pre.size].toNat,.func (.func 81) #[] #[.pointer (ae ⟨w.heap.size,0,af⟩)]] ((w.alloc (.cells #[.int .i64 pre.size] 3)).drewN n) λe h=>
   e=.returned (.tuple #[.int .i64 0,.bool ax])/\h=(w.alloc (.cells #[.int .i64 pre.size] 3)).drewN n):=a
 clear a;have p:∀c,(w.alloc c).cell? ⟨b,2,af⟩=ae (.slice af 0 0):=λc=>aS ((cD _ _).alloc (aL _) _) j
 go_enter OY,aE9
 go_wp2
 go_quiet ((go_at_call 80;exact Cx (f.out _)))
 go_wp2
 go_ret2
 exact⟨rfl,kr (((cD _ _).alloc (aL _) _)) _⟩
theorem wL{S:Nat->Prop}{n:Nat}(u:f.cell? ⟨k,0,af⟩=ae (.string j))(w:f.cell? ⟨k,2,af⟩=ae r)(B:eF S f r c)(a:mO f j.size c s)(v:s.Pairwise (·<·))(p:l.size<=9223372036854775807)(t:j.size<l.size):aE aj 67 #[.pointer (ae ⟨k,0,af⟩),.string l] f λe h=>e=.returned (.tuple #[.int .i64 (posOf l[j.size] s),.bool (aM (s[posOf l[j.size] s]?=ae l[j.size]))])/\aA f.heap.size f h:=by
 rcases B with⟨b,rfl⟩|⟨N,o,cap,b,rfl,R,U,y,W⟩
 ·have H:s=[]:=kY.mp (by rw[<-a.1,b];rfl);subst H;refine(Zk k j l f u w p t).mono ?_;rintro e h ⟨rfl,x⟩;exact⟨rfl,x⟩
 ·exact Zl k j l N o cap c s f u w y a (by rw[a.1];exact qu v) v p t
theorem oy.Fj{n:Nat}{m:Nat}(h:oy p n y (f.drewN m) a7 W):oy p n y f a7 W:=by
 obtain⟨j,a,b,c⟩:=h;exact⟨j,a,b,(kr (cD f.heap.size f) m).trans c⟩
theorem ar5(w:f.cell? ⟨k,0,af⟩=ae (.string l))(s:j.size<=64)(x:l.size<=64)(u:cX j.data.toList l.data.toList<l.size)(hF:∀m,aE aj 77 #[.pointer (ae ⟨k,0,af⟩),.string j,.pointer (ae ⟨t,0,af⟩),.int .i64 (cX j.data.toList l.data.toList)] (f.drewN m) λe h=>∃a,e=.returned (.pointer (ae ⟨a,0,af⟩))/\v e h):aE aj 66 #[.pointer (ae ⟨k,0,af⟩),.string j,.pointer (ae ⟨t,0,af⟩)] f v:=by
 have c:=λb=>zk j l b (by unfold cE;omega) (by unfold cE;omega);generalize cX j.data.toList l.data.toList=q at*;have p:aB (∀b,aE aj 76 #[.string j,.string l] b λe h=>e=.returned (.int .i64 q)/\∃n,h=b.drewN n):=c;have o:aB (∀m,aE aj 77 #[.pointer (ae ⟨k,0,af⟩),.string j,.pointer (ae ⟨t,0,af⟩),.int .i64 q] (f.drewN m) λe h=>∃a,e=.returned (.pointer (ae ⟨a,0,af⟩))/\v e h):=hF;clear c hF
 go_enter D8,CY
 go_wp2_with (first|(go_at_call 76;refine(p.out _).mono ?_;rintro e h ⟨rfl,m,rfl⟩)|(go_at_call 77;refine(o.out _).mono ?_;rintro e h ⟨a,rfl,r⟩))
 exact r
theorem ar9(B:f.cell? ⟨k,0,af⟩=ae (.string l))(y:f.cell? ⟨k,2,af⟩=ae r)(N:j.size<=64)(U:l.size<=64)(u:cX j.data.toList l.data.toList=l.size)(s:j.size=l.size)(hF:∀m,aE aj 75 #[.string l,.pointer (ae ⟨t,0,af⟩),r] (f.drewN m) λe h=>∃a,e=.returned (.pointer (ae ⟨a,0,af⟩))/\aA f.heap.size f h/\v e h):aE aj 66 #[.pointer (ae ⟨k,0,af⟩),.string j,.pointer (ae ⟨t,0,af⟩)] f v:=by
 have c:=λb=>zk j l b (by unfold cE;omega) (by unfold cE;omega);rw[u,<-s]at c;have x:aB (∀b,aE aj 76 #[.string j,.string l] b λe h=>e=.returned (.int .i64 j.size)/\∃n,h=b.drewN n):=c;have w:aB (∀m,aE aj 75 #[.string l,.pointer (ae ⟨t,0,af⟩),r] (f.drewN m) λe h=>∃a,e=.returned (.pointer (ae ⟨a,0,af⟩))/\aA f.heap.size f h/\v e h):=hF;have R:¬(j.size:Int)<(l.size:Int):=ag;have o:aB (f.cell? ⟨k,0,af⟩=ae (.string l)/\f.cell? ⟨k,2,af⟩=ae r):=⟨B,y⟩;clear c hF u s
 go_enter D8,CY
 go_wp2_with (first|(go_at_call 76;refine(x.out _).mono ?_;rintro e h ⟨rfl,m,rfl⟩))
 go_region_held3 (λh=>h.cell? ⟨k,0,af⟩=ae (.string l)/\h.cell? ⟨k,2,af⟩=ae r) (first|exact⟨aS p o.out.1,aS p o.out.2⟩|go_keep) ((go_at_call 75;refine(w.out _).mono ?_;rintro e h ⟨a,rfl,p,H⟩))
 go_wp2
 exact H
theorem ar7{pos:Nat}{L1:ak->Nat->Prop}{L2:ak->Nat->au->Prop}(a7:f.cell? ⟨k,0,af⟩=ae (.string l))(aa:f.cell? ⟨k,1,af⟩=ae (.pointer u))(a1:f.cell? ⟨k,2,af⟩=ae r)(hk:j.size<=64)(am:l.size<=64)(W:cX j.data.toList l.data.toList=l.size)(ac:l.size<j.size)(U:∀a,aA f.heap.size f a->aE aj 67 #[.pointer (ae ⟨k,0,af⟩),.string j] a λe h=>e=.returned (.tuple #[.int .i64 pos,.bool ax])/\aA f.heap.size f h)(R:∀a,aA f.heap.size f a->aE aj 75 #[.string j,.pointer (ae ⟨t,0,af⟩),.slice af 0 0] a λe h=>∃b,e=.returned (.pointer (ae ⟨b,0,af⟩))/\L1 h b/\aA f.heap.size f h)(H:∀a b,L1 a b->aA f.heap.size f a->aE aj 78 #[r,.int .i64 pos,.pointer (ae ⟨b,0,af⟩)] a λe h=>∃o,e=.returned o/\L2 h b o/\aA f.heap.size f h)(N:∀a b o,L2 a b o->aA f.heap.size f a->aE aj 75 #[.string l,.pointer u,o] a λe h=>∃x,e=.returned (.pointer (ae ⟨x,0,af⟩))/\aA f.heap.size f h/\v e h):aE aj 66 #[.pointer (ae ⟨k,0,af⟩),.string j,.pointer (ae ⟨t,0,af⟩)] f v:=by
 have B:=λa=>zk j l a (by unfold cE;omega) (by unfold cE;omega);rw[W]at B;have HS:aB (∀a,aE aj 76 #[.string j,.string l] a λe h=>e=.returned (.int .i64 l.size)/\∃n,h=a.drewN n):=B;have HP:aB (∀a,aA f.heap.size f a->aE aj 67 #[.pointer (ae ⟨k,0,af⟩),.string j] a λe h=>e=.returned (.tuple #[.int .i64 pos,.bool ax])/\aA f.heap.size f h):=U;have HL:aB (∀a,aA f.heap.size f a->aE aj 75 #[.string j,.pointer (ae ⟨t,0,af⟩),.slice af 0 0] a λe h=>∃b,e=.returned (.pointer (ae ⟨b,0,af⟩))/\L1 h b/\aA f.heap.size f h):=R;have Z:aB (∀a b,L1 a b->aA f.heap.size f a->aE aj 78 #[r,.int .i64 pos,.pointer (ae ⟨b,0,af⟩)] a λe h=>∃o,e=.returned o/\L2 h b o/\aA f.heap.size f h):=H;have HJ:aB (∀a b o,L2 a b o->aA f.heap.size f a->aE aj 75 #[.string l,.pointer u,o] a λe h=>∃x,e=.returned (.pointer (ae ⟨x,0,af⟩))/\aA f.heap.size f h/\v e h):=N;have ai:¬(l.size:Int)<(l.size:Int):=ag;have ad:¬(l.size:Int)=(j.size:Int):=ag;have c:aB (f.cell? ⟨k,0,af⟩=ae (.string l)/\f.cell? ⟨k,1,af⟩=ae (.pointer u)/\f.cell? ⟨k,2,af⟩=ae r):=⟨a7,aa,a1⟩;clear B U R H N W
 go_enter D8,CY
 go_wp2_with (first|(go_at_call 76;refine(HS.out _).mono ?_;rintro e h ⟨rfl,m,rfl⟩)|(go_at_call 67;refine(HP.out _ (kr (cD _ _) _)).mono ?_;rintro e w2 ⟨rfl,p⟩))
 have al:=aS p c.out.1;have an:=aS p c.out.2.1;have ab:=aS p c.out.2.2
 go_region_held3 (λh=>h.cell? ⟨k,0,af⟩=ae (.string l)/\h.cell? ⟨k,1,af⟩=ae (.pointer u)/\h.cell? ⟨k,2,af⟩=ae r)
  (first|exact⟨aS y c.out.1,aS y c.out.2.1,aS y c.out.2.2⟩|exact⟨aS w c.out.1,aS w c.out.2.1,aS w c.out.2.2⟩|exact⟨aS s c.out.1,aS s c.out.2.1,aS s c.out.2.2⟩|go_keep)
  (first
   |(go_at_call_of 75 (zX j);refine(HL.out _ p.drew).mono ?_;rintro e w3 ⟨b,rfl,a2,s⟩)
   |(go_at_call 78;refine(Z.out _ _ a2 s).mono ?_;rintro e w4 ⟨o,rfl,a6,w⟩)
   |(go_at_call_of 75 (zX l);refine(HJ.out _ _ _ a6 w).mono ?_;rintro e w5 ⟨x,rfl,y,a8⟩))
 go_wp2
 exact a8
theorem ar6{pos cap c:Nat}{L1:ak->Nat->Prop}{L2:ak->Nat->au->Prop}(aa:f.cell? ⟨k,0,af⟩=ae (.string l))(ac:f.cell? ⟨k,1,af⟩=ae (.pointer u))(a2:f.cell? ⟨k,2,af⟩=ae (.slice (ae ⟨B,N,af⟩) H cap))(a6:f.cell? ⟨B,N+pos,af⟩=ae (.pointer (ae ⟨c,0,af⟩)))(aF:pos<H)(am:H<=256)(hk:j.size<=64)(aJ:l.size<=64)(a1:cX j.data.toList l.data.toList=l.size)(al:l.size<j.size)(hP:∀a,aA f.heap.size f a->aE aj 67 #[.pointer (ae ⟨k,0,af⟩),.string j] a λe h=>e=.returned (.tuple #[.int .i64 pos,.bool aq])/\aA f.heap.size f h)(Z:∀a,aA f.heap.size f a->aE aj 66 #[.pointer (ae ⟨c,0,af⟩),.string j,.pointer (ae ⟨t,0,af⟩)] a λe h=>∃b,e=.returned (.pointer (ae ⟨b,0,af⟩))/\L1 h b/\aA f.heap.size f h)(U:∀a b,L1 a b->aA f.heap.size f a->aE aj 79 #[.slice (ae ⟨B,N,af⟩) H cap,.int .i64 pos,.pointer (ae ⟨b,0,af⟩)] a λe h=>∃p,e=.returned p/\L2 h b p/\aA f.heap.size f h)(W:∀a b p,L2 a b p->aA f.heap.size f a->aE aj 75 #[.string l,.pointer u,p] a λe h=>∃y,e=.returned (.pointer (ae ⟨y,0,af⟩))/\aA f.heap.size f h/\v e h):aE aj 66 #[.pointer (ae ⟨k,0,af⟩),.string j,.pointer (ae ⟨t,0,af⟩)] f v:=by
 have R:=λa=>zk j l a (by unfold cE;omega) (by unfold cE;omega);rw[a1]at R;have HS:aB (∀a,aE aj 76 #[.string j,.string l] a λe h=>e=.returned (.int .i64 l.size)/\∃n,h=a.drewN n):=R;have HP:aB (∀a,aA f.heap.size f a->aE aj 67 #[.pointer (ae ⟨k,0,af⟩),.string j] a λe h=>e=.returned (.tuple #[.int .i64 pos,.bool aq])/\aA f.heap.size f h):=hP;have HL:aB (∀a,aA f.heap.size f a->aE aj 66 #[.pointer (ae ⟨c,0,af⟩),.string j,.pointer (ae ⟨t,0,af⟩)] a λe h=>∃b,e=.returned (.pointer (ae ⟨b,0,af⟩))/\L1 h b/\aA f.heap.size f h):=Z;have HI:aB (∀a b,L1 a b->aA f.heap.size f a->aE aj 79 #[.slice (ae ⟨B,N,af⟩) H cap,.int .i64 pos,.pointer (ae ⟨b,0,af⟩)] a λe h=>∃p,e=.returned p/\L2 h b p/\aA f.heap.size f h):=U;have HJ:aB (∀a b p,L2 a b p->aA f.heap.size f a->aE aj 75 #[.string l,.pointer u,p] a λe h=>∃y,e=.returned (.pointer (ae ⟨y,0,af⟩))/\aA f.heap.size f h/\v e h):=W;have ao:¬(l.size:Int)<(l.size:Int):=ag;have ap:(0:Int)<=(pos:Int):=qC _;have ar:(pos:Int)<(H:Int):=ag;have an:¬(l.size:Int)=(j.size:Int):=ag;have o:aB (f.cell? ⟨k,0,af⟩=ae (.string l)/\f.cell? ⟨k,1,af⟩=ae (.pointer u)/\f.cell? ⟨k,2,af⟩=ae (.slice (ae ⟨B,N,af⟩) H cap)/\f.cell? ⟨B,N+pos,af⟩=ae (.pointer (ae ⟨c,0,af⟩))):=⟨aa,ac,a2,a6⟩;clear R hP Z U W a1
 go_enter D8,CY
 go_wp2_with (first|(go_at_call 76;refine(HS.out _).mono ?_;rintro e h ⟨rfl,m,rfl⟩)|(go_at_call 67;refine(HP.out _ (kr (cD _ _) _)).mono ?_;rintro e w2 ⟨rfl,r⟩))
 have av:=aS r o.out.1;have aP:=aS r o.out.2.1;have ad:=aS r o.out.2.2.1;have ai:=aS r o.out.2.2.2
 go_region_held3 (λh=>h.cell? ⟨k,0,af⟩=ae (.string l)/\h.cell? ⟨k,1,af⟩=ae (.pointer u)/\h.cell? ⟨k,2,af⟩=ae (.slice (ae ⟨B,N,af⟩) H cap)/\h.cell? ⟨B,N+pos,af⟩=ae (.pointer (ae ⟨c,0,af⟩)))
  (first|exact⟨aS x o.out.1,aS x o.out.2.1,aS x o.out.2.2.1,aS x o.out.2.2.2⟩|exact⟨aS w o.out.1,aS w o.out.2.1,aS w o.out.2.2.1,aS w o.out.2.2.2⟩|exact⟨aS s o.out.1,aS s o.out.2.1,aS s o.out.2.2.1,aS s o.out.2.2.2⟩|go_keep)
  (first
   |(go_at_call 66;refine(HL.out _ r.drew).mono ?_;rintro e w3 ⟨b,rfl,a7,s⟩)
   |(go_at_call 79;refine(HI.out _ _ a7 s).mono ?_;rintro e w4 ⟨p,rfl,a8,w⟩)
   |(go_at_call_of 75 (zX l);refine(HJ.out _ _ _ a8 w).mono ?_;rintro e w5 ⟨y,rfl,x,ab⟩))
 go_wp2
 exact ab
end
theorem tG.row{g:Nat}(h:tG f W g k c)(a:Open p f)(b:c≠[]):eF p W (.slice (ae ⟨g,0,af⟩) c.length k) c:=
 .inr ⟨g,0,k,a g h.lo,rfl,h.cap,h.bZ,h.br,b⟩
theorem UZ{pos:Nat}(j:Open p f)(w:eF p f r c)(l:pos<=c.length)(x:c.length<=256):aE aj 78 #[r,.int .i64 pos,.pointer (ae ⟨k,0,af⟩)] f λe h=>∃b,e=.returned b/\eF p h b (c.take pos++k::c.drop pos)/\aA f.heap.size f h:=by
 rcases w with⟨rfl,rfl⟩|⟨y,o,cap,B,rfl,t,u,v,H⟩
 ·obtain rfl:pos=0:=by simpa using l
  refine(UY k f).mono ?_;rintro e h ⟨g,s,rfl,a⟩;exact⟨_,rfl,a.row j az,a.below⟩
 ·refine(V0 y o cap pos k c f v t x l u).mono ?_;rintro e h ⟨g,s,rfl,a⟩;exact⟨_,rfl,a.row j az,a.below⟩
theorem Mw{cap:Nat}{pos:Nat}(j:Open p f)(l:eH f k t c)(o:c.length<=cap)(s:cap<=cE)(u:pos<c.length)(r:c.length<=256):aE aj 79 #[.slice (ae ⟨k,t,af⟩) c.length cap,.int .i64 pos,.pointer (ae ⟨B,0,af⟩)] f λe h=>∃a,e=.returned a/\eF p h a (c.take pos++B::c.drop (pos+1))/\aA f.heap.size f h:=by
 refine(af4 k t cap pos B c f l o r u s).mono ?_;rintro e h ⟨g,v,rfl,b⟩;exact⟨_,rfl,b.row j az,b.below⟩
theorem Vy{n pos:Nat}(t:c.length=x.length)(r:pos<=c.length)(o:∀(i a:Nat) g,c[i]?=ae a->x[i]?=ae g->aY p n f a g)(s:aY p n f k y):∀(i a:Nat) g,(c.take pos++k::c.drop pos)[i]?=ae a->(x.take pos++y::x.drop pos)[i]?=ae g->aY p n f a g:=by
 intro i a g b h;rw[oS _ _ _ _ r]at b;rw[oS _ _ _ _ (t▸r)]at h;by_cases j:i<pos;·rw[if_pos j]at b h;exact o i a g b h
 ·rw[if_neg j]at b h;by_cases l:i=pos;·rw[if_pos l]at b h;cases b;cases h;exact s
  ·rw[if_neg l]at b h;exact o _ a g b h
theorem Ko{n pos:Nat}(s:c.length=x.length)(l:pos<c.length)(r:∀(i a:Nat) g,c[i]?=ae a->x[i]?=ae g->aY p n f a g)(o:aY p n f k y):∀(i a:Nat) g,(c.take pos++k::c.drop (pos+1))[i]?=ae a->(x.take pos++y::x.drop (pos+1))[i]?=ae g->aY p n f a g:=by
 intro i a g b h;rw[B5 _ _ _ _ l]at b;rw[B5 _ _ _ _ (s▸l)]at h;by_cases j:i=pos;·rw[if_pos j]at b h;cases b;cases h;exact o
 ·rw[if_neg j]at b h;exact r _ a g b h
theorem AA{n:Nat}(b:aA f.heap.size f W){h:ak}(j:∃a,a7=.returned (.pointer (ae ⟨a,0,af⟩))/\aY p n h a y/\aA W.heap.size W h):∃a,a7=.returned (.pointer (ae ⟨a,0,af⟩))/\aA f.heap.size f h/\oy p n y f a7 h:=by
 obtain⟨a,rfl,k,c⟩:=j;exact⟨a,rfl,b.trans (c.mono b.size),a,rfl,k,b.trans (c.mono b.size)⟩
theorem ar8(r:Open p f)(t:j.size<=64)(v:p k)(w:f.cell? ⟨k,0,af⟩=ae (.int .i64 a1)):aE aj 66 #[.pointer af,.string j,.pointer (ae ⟨k,0,af⟩)] f (oy p 1 (ins j.data.toList a1 []) f):=by
 have b:=mZ (S:=p) (w:=f) (n:=0) (p:=j) (cs:=[]) r t (uv v w) (.inl ⟨rfl,rfl⟩) rfl (λi c g o=>by simp at o) (BZ j.data.toList a1) az;have l:aB (aE aj 75 #[.string j,.pointer (ae ⟨k,0,af⟩),.slice af 0 0] f λe h=>∃a,e=.returned (.pointer (ae ⟨a,0,af⟩))/\aY p (0+1) h a [(j.data.toList,a1)]/\aA f.heap.size f h):=b;clear b
 go_enter D8,CY
 go_wp2_with (go_at_call 75;refine l.out.mono ?_;rintro e h ⟨a,rfl,u,s⟩)
 go_ret
 exact⟨a,rfl,u,s⟩
theorem tK(w:ak)(m:Nat):aA w.heap.size w (w.drewN m):=kr (cD _ _) m
theorem Nv:∀(n:Nat){S:Nat->Prop} {w:ak} {ad:Nat} {l:List KV} {key:ByteArray} {vb:Nat} {v:Int},Open S w->aY S n w ad l->key.size<=64->S vb->w.cell? ⟨vb,0,af⟩=ae (.int .i64 v)->l.length+1<=1000000->aE aj 66 #[.pointer (ae ⟨ad,0,af⟩),.string key,.pointer (ae ⟨vb,0,af⟩)] w (oy S (n+1) (ins key.data.toList v l) w)
 |0,_,_,_,_,_,_,_,_,k,_,_,_,_=>k.elim
 |n+1,S,w,ad,l,key,vb,v,B,hT,R,hv,a1,hm=>by
  have aa:=hT;obtain⟨pre,vp,bv,ov,o,s,gs,f,hO,hR,W,hC,r⟩:=hT;have aJ:=oZ key.data.toList v l r.ck;have ab:o.length<=256:=by have:=qu r.aT.pw;have:=r.aT.len;omega
  obtain⟨p1,p2,p3⟩:=Kx key.data.toList pre.data.toList;have ar:=Ku key.data.toList pre.data.toList;have av:=Kv key.data.toList pre.data.toList;rw[<-fY]at ar av;by_cases Z:cX key.data.toList pre.data.toList<pre.size
  ·refine ar5 f.c0 R f.short Z ?_;intro m;have p:=tK w m;by_cases a2:cX key.data.toList pre.data.toList=key.size
   ·rw[a2];have hK:key.data.toList.take (cX key.data.toList pre.data.toList)=key.data.toList:=by rw[a2,fU az]
    refine(Ug (w:=w.drewN m) (v:=v) (y:=pre[cX key.data.toList pre.data.toList]) (B.later p) (aa.on p) R hv (aS p a1) hm ?_).mono ?_
    ·intro e he;obtain⟨a8,hr⟩:=r.front he;refine⟨pre.data.toList.drop (cX key.data.toList pre.data.toList+1)++a8,?_⟩;rw[<-hr]
     conv=>lhs;rw[p2,hK]
     rw[lG (by simpa using Z)];simp;rfl
    ·intro e h k;obtain⟨t,b,j,N⟩:=k.Fj;exact⟨t,b,t,b,j,N⟩
   ·have b:cX key.data.toList pre.data.toList<key.size:=ag;have hp:∀e∈l,∃a8,e.1=key.data.toList.take (cX key.data.toList pre.data.toList)++pre[cX key.data.toList pre.data.toList]::a8:=by
     intro e he;obtain⟨a8,hr⟩:=r.front he;refine⟨pre.data.toList.drop (cX key.data.toList pre.data.toList+1)++a8,?_⟩;rw[<-hr]
     conv=>lhs;rw[p2]
     rw[lG (by simpa using Z)];simp;rfl
    have an:key[cX key.data.toList pre.data.toList]≠pre[cX key.data.toList pre.data.toList]:= p3 _ _ _ _ (lG (by simpa using b)) (lG (by simpa using Z));rcases sV key[cX key.data.toList pre.data.toList].toNat pre[cX key.data.toList pre.data.toList].toNat with j|j|j
    ·refine(Uf (w:=w.drewN m) (v:=v) (B.later p) (aa.on p) ag R hv (aS p a1) hm (aS p f.c0) f.short b Z hp j).mono ?_;intro e h k;obtain⟨t,b,j,N⟩:=k.Fj;exact⟨t,b,t,b,j,N⟩
    ·exact absurd (xv.mp j) an
    ·refine(Uh (w:=w.drewN m) (v:=v) (B.later p) (aa.on p) ag R hv (aS p a1) hm (aS p f.c0) f.short b Z hp j).mono ?_;intro e h k;obtain⟨t,b,j,N⟩:=k.Fj;exact⟨t,b,t,b,j,N⟩
  ·have hq:cX key.data.toList pre.data.toList=pre.size:=ag;have ao:pre.data.toList.drop (cX key.data.toList pre.data.toList)=[]:=zD (by rw[hq,fY];exact aL _);have hP:pre.data.toList=key.data.toList.take pre.size:=by rw[ao,og,hq]at p2;exact p2
   by_cases a2:key.size=pre.size
   ·have hK:key.data.toList=pre.data.toList:=by rw[hP,<-a2,fU az]
    refine ar9 f.c0 f.c2 R f.short hq a2 ?_;intro m;have p:=tK w m;refine(mZ (S:=S) (n:=n) (B.later p) f.short (uv hv (aS p a1)) (hR.later p) W (λi c g b j=>(hC i c g b j).on p) (r.put v) (by rw[<-hK];omega)).mono ?_;rintro e h ⟨t,rfl,b,j⟩;rw[<-hK]at b;exact AA p ⟨t,rfl,b.fuel ag,j⟩
   ·have a6:pre.size<key.size:=ag;have ac:=vU key pre.size a6;rw[<-hP]at ac;have hB:mO w pre.size o s:=by rw[fY];exact BW W hC r.aT
    obtain⟨s1,_,_⟩:=wM key[pre.size] s r.aT.pw;have al:posOf key[pre.size] s<=o.length:=by rw[W,<-r.aT.len];exact s1
    by_cases hf:s[posOf key[pre.size] s]?=ae key[pre.size]
    ·obtain⟨g,hg⟩:=r.aT.vQ hf;have a7:posOf key[pre.size] s<o.length:=by rw[W];exact(cu.mp hg).1
     have ai:o[posOf key[pre.size] s]?=ae o[posOf key[pre.size] s]:=bf a7;have am:g.length+1<=1000000:=by
      have b:=r.eq;have j:g.length<=gs.flatten.length:=(xd (cG hg)).length_le;have N:l.length=(c9 pre.data.toList ov).length+gs.flatten.length:=by rw[b,gJ]
      omega
     rcases hR with⟨rfl,_⟩|⟨ap,aF,cap,b,rfl,N,h4,h5,h6⟩;·simp at a7
     refine ar6 (pos:=posOf key[pre.size] s) (c:=o[posOf key[pre.size] s]) (L1:=λh u=>aY S (n+1) h u (ins key.data.toList v g)) (L2:=λh u H=>aY S (n+1) h u (ins key.data.toList v g)/\eF S h H (o.take (posOf key[pre.size] s)++u::o.drop (posOf key[pre.size] s+1)))
      f.c0 f.c1 f.c2 (h5 _ _ ai) a7 ab R f.short hq a6 ?_ ?_ ?_ ?_
     ·intro U a;refine(wL (S:=S) (n:=n) (aS a f.c0) (aS a f.c2) (.inr ⟨ap,aF,cap,b,rfl,N,h4,h5.later a,h6⟩) (hB.later a) r.aT.pw ag a6).mono ?_;rintro e h ⟨rfl,k⟩;exact⟨by rw[hf];simp,a.trans (k.mono a.size)⟩
     ·intro U a;refine(Nv n (B.later a) ((hC _ _ _ ai hg).on a) R hv (aS a a1) am).mono ?_;rintro e h ⟨t,rfl,x,y⟩;exact⟨t,rfl,x,a.trans (y.mono a.size)⟩
     ·intro U u x a;refine(Mw (B.later a) (h5.later a) N h4 a7 ab).mono ?_;rintro e h ⟨H,rfl,y,h9⟩;exact⟨H,rfl,⟨x.on h9,y⟩,a.trans (h9.mono a.size)⟩
     ·rintro U u H ⟨x,y⟩ a;refine(mZ (S:=S) (n:=n+1) (B.later a) f.short (hO.later a) y ?_ (Ko W a7 (λi c g b j=>((hC i c g b j).on a).fuel ag) x) (r.V1 ac hf hg v) ag).mono ?_;·simp;omega
      intro e h k;exact AA a k
    ·refine ar7 (pos:=posOf key[pre.size] s) (L1:=λh u=>aY S 1 h u [(key.data.toList,v)]) (L2:=λh u H=>aY S 1 h u [(key.data.toList,v)]/\eF S h H (o.take (posOf key[pre.size] s)++u::o.drop (posOf key[pre.size] s)))
      f.c0 f.c1 f.c2 R f.short hq a6 ?_ ?_ ?_ ?_
     ·intro U a;refine(wL (S:=S) (n:=n) (aS a f.c0) (aS a f.c2) (hR.later a) (hB.later a) r.aT.pw ag a6).mono ?_;rintro e h ⟨rfl,k⟩;exact⟨by rw[decide_eq_false hf],a.trans (k.mono a.size)⟩
     ·intro U a;refine(mZ (S:=S) (n:=0) (p:=key) (cs:=[]) (B.later a) R (uv hv (aS a a1)) (.inl ⟨rfl,rfl⟩) rfl (λi c g k=>by simp at k) (BZ key.data.toList v) az).mono ?_;rintro e h ⟨t,rfl,x,y⟩;exact⟨t,rfl,x,a.trans (y.mono a.size)⟩
     ·intro U u x a;refine(UZ (B.later a) (hR.later a) al ab).mono ?_;rintro e h ⟨H,rfl,y,h9⟩;exact⟨H,rfl,⟨x.on h9,y⟩,a.trans (h9.mono a.size)⟩
     ·rintro U u H ⟨x,y⟩ a;refine(mZ (S:=S) (n:=n+1) (B.later a) f.short (hO.later a) y ?_ (Vy W al (λi c g b j=>((hC i c g b j).on a).fuel ag) (x.fuel ag)) (r.beside ac hf v) ag).mono ?_;·simp;omega
      intro e h k;exact AA a k
section
attribute [local go_sem↓] Go.wp_at_zero Go.wp_at_succ
def Kids(S:Nat->Prop)(n:Nat)(w:ak)(o:List Nat)(a:List (dq Int)):Prop:=
 o.length=a.length/\∀(i c:Nat) q,o[i]?=ae c->a[i]?=ae q->aY S n w c q.2
section
variable {S S':Nat->Prop} {n m:Nat} {w h:ak} {o ds:List Nat} {a b:List (dq Int)}
theorem Kids.on(b:Kids S n w o a)(k:aA w.heap.size w h):Kids S n h o a:=⟨b.1,λi c q f j=>(b.2 i c q f j).on k⟩
theorem Kids.fuel(h:Kids S n w o a)(j:n<=m):Kids S m w o a:=⟨h.1,λi c q b f=>(h.2 i c q b f).fuel j⟩
theorem Kids.weaken(h:Kids S n w o a)(j:∀k,S k->k<w.heap.size->S' k):Kids S' n w o a:=⟨h.1,λi c q b f=>(h.2 i c q b f).weaken j⟩
theorem Kids.frame(b:Kids S n w o a)(k:Kept S w h):Kids S n h o a:=⟨b.1,λi c q f j=>(b.2 i c q f j).frame k⟩
theorem Kids.nil:Kids S n w [] ([]:List (dq Int)):=⟨rfl,λi c q h=>by simp at h⟩
theorem Kids.one(h:aY S n w k a2.2):Kids S n w [k] [a2]:=⟨rfl,λi d r a b=>by
 cases i with
 |zero=>simp at a b;subst a;subst b;exact h
 |succ i=>simp at a⟩
theorem Kids.head(h:Kids S n w (k::o) (a2::a)):aY S n w k a2.2:=h.2 0 k a2 rfl rfl
theorem Kids.tail(h:Kids S n w (k::o) (a2::a)):Kids S n w o a:=⟨by have:=h.1;simpa using this,λi d r b c=>h.2 (i+1) d r b c⟩
theorem Kids.append(h:Kids S n w o a)(k:Kids S n w ds b):Kids S n w (o++ds) (a++b):=by
 refine⟨by simp[h.1,k.1],λi c q f j=> ?_⟩;rw[ax3]at f j;rw[h.1]at f;by_cases l:i<a.length;·rw[if_pos l]at f j;exact h.2 i c q f j
 ·rw[if_neg l]at f j;exact k.2 _ c q f j
theorem Kids.of(f:o.length=x.length)(k:s.length=x.length)(h:∀(i c:Nat) g,o[i]?=ae c->x[i]?=ae g->aY S n w c g):Kids S n w o (s.zip x):=by
 refine⟨by simp[f,k],λi c q a j=> ?_⟩;obtain⟨_,b⟩:=av7.mp j;exact h i c _ a b
theorem Kids.to(h:Kids S n w o a):o.length=(a.map (·.2)).length/\∀(i c:Nat) g,o[i]?=ae c->(a.map (·.2))[i]?=ae g->aY S n w c g:=by
 refine⟨by simp[h.1],λi c g f b=> ?_⟩;rw[iI,ji]at b;obtain⟨q,j,rfl⟩:=b;exact h.2 i c q f j
end
theorem aj9(l:f.cell? ⟨k,0,af⟩=ae (.string j))(c:j.size<=64)(b:t<j.size):aE aj 86 #[.pointer (ae ⟨k,0,af⟩),.int .i64 t] f λe h=>e=.returned (.tuple #[.pointer af,.slice (ae ⟨f.heap.size,0,af⟩) 1 1])/\h=f.alloc (.cells #[.pointer (ae ⟨k,0,af⟩)] 56):=by
 have a:(t:Int)<(j.size:Int):=ag
 go_enter aH8,aE4
 go_wp2
 go_ret2
 exact⟨rfl,rfl⟩
theorem ak0(o:f.cell? ⟨k,0,af⟩=ae (.string j))(p:f.cell? ⟨k,1,af⟩=ae (.pointer u))(c:f.cell? ⟨k,2,af⟩=ae r)(l:j.size<=64)(a:t=j.size):aE aj 86 #[.pointer (ae ⟨k,0,af⟩),.int .i64 t] f λe h=>e=.returned (.tuple #[.pointer u,r])/\∃n,h=f.drewN n:=by
 subst a;have b:¬(j.size:Int)<(j.size:Int):=ag
 go_enter aH8,aE4
 go_wp2_with fail
 go_quiet (fail)
 go_wp2_with fail
 go_ret2
 exact⟨rfl,_,rfl⟩
end
variable {V:Type}
theorem Shaped.KJ{j:Option V}{a:List (List (List UInt8×V))}{l:List (List UInt8×V)}(h:Shaped s j R a l)(f:¬s<+:Z):lk Z l=none:=
 vX λ_ b c=>f (c▸h.front b)
theorem Shaped.EP{b:Option V}{f:List (List (List UInt8×V))}{l:List (List UInt8×V)}(h:Shaped s b R f l):lk s l=b:=by
 cases b with
 |some v=>exact vY h.ck (h.mem.mpr (.inl ⟨rfl,rfl⟩))
 |none=>
  refine vX λe j k=> ?_;rcases h.mem.mp j with a|⟨i,g,c,a⟩;·cases a.2
  ·obtain⟨x,p⟩:=h.aT.byte c;obtain⟨r,o⟩:=h.aT.pre i x g p c e a;exact nU (o.symm.trans k)
theorem Shaped.KL{u:Option V}{k:List (List (List UInt8×V))}{l:List (List UInt8×V)}(h:Shaped s u R k l)(o:Z=s++U::a8){i:Nat}(t:R[i]?=ae U){g:List (List UInt8×V)}(c:k[i]?=ae g):lk Z l=lk Z g:=by
 refine KI h.ck (h.aT.ck i g c) λv=>⟨λf=> ?_,λf=>h.mem.mpr (.inr ⟨i,g,c,f⟩)⟩;rcases h.mem.mp f with a|⟨j,m,b,a⟩;·exact absurd (o.symm.trans a.1) nU
 ·obtain⟨y,p⟩:=h.aT.byte b;obtain⟨q,r⟩:=h.aT.pre j y m p b _ a;obtain⟨rfl,_⟩:=pX (o.symm.trans r);obtain rfl:=BK h.aT.pw t p;rw[c]at b;cases b;exact a
theorem Shaped.KH{H:Option V}{w:List (List (List UInt8×V))}{l:List (List UInt8×V)}(h:Shaped s H R w l)(u:Z=s++U::a8)(v:R[posOf U R]?≠ae U):lk Z l=none:=by
 refine vX λe x p=> ?_;rcases h.mem.mp x with c|⟨j,m,r,c⟩;·exact nU (u.symm.trans (p.symm.trans c.1))
 ·obtain⟨y,a⟩:=h.aT.byte r;obtain⟨q,B⟩:=h.aT.pre j y m a r _ c;obtain⟨rfl,_⟩:=pX (u.symm.trans (p.symm.trans B));obtain⟨_,s2,s3⟩:=wM U R h.aT.pw;have:posOf U R=j:=LQ U R j (aH3 (cu.mp a).1) (λt z k b=>rC h.aT.pw b a k) (λt z k b o=>by
   rcases xp k with f|f;·exact jE U (rQ (rC h.aT.pw a b f) o)
   ·rw[<-f,a]at b;cases b;exact jE U o)
  rw[this]at v;exact v a
theorem Qo{pos cap:Nat}(l:f.cell? ⟨k,2,af⟩=ae (.slice (ae ⟨t,B,af⟩) H cap))(o:f.cell? ⟨t,B+pos,af⟩=ae (.pointer (ae ⟨N,0,af⟩)))(v:pos<H)(u:H<=256)(c:aE aj 67 #[.pointer (ae ⟨k,0,af⟩),.string j] f λe h=>e=.returned (.tuple #[.int .i64 pos,.bool aq])/\aA f.heap.size f h):aE aj 52 #[.pointer (ae ⟨k,0,af⟩),.string j] f λe h=>e=.returned (.pointer (ae ⟨N,0,af⟩))/\aA f.heap.size f h:=by
 have p:aB (aE aj 67 #[.pointer (ae ⟨k,0,af⟩),.string j] f λe h=>e=.returned (.tuple #[.int .i64 pos,.bool aq])/\aA f.heap.size f h):=c;have b:aB (f.cell? ⟨k,2,af⟩=ae (.slice (ae ⟨t,B,af⟩) H cap)/\f.cell? ⟨t,B+pos,af⟩=ae (.pointer (ae ⟨N,0,af⟩))):=⟨l,o⟩;clear c l o
 go_enter aI6,aF4
 go_wp2_with (go_at_call 67;refine p.out.mono ?_;rintro e w ⟨rfl,a⟩;have r:=aS a b.out.1;have s:=aS a b.out.2)
 go_ret
 exact⟨rfl,a⟩
theorem Qp{pos:Nat}(a:aE aj 67 #[.pointer (ae ⟨k,0,af⟩),.string j] f λe h=>e=.returned (.tuple #[.int .i64 pos,.bool ax])/\aA f.heap.size f h):aE aj 52 #[.pointer (ae ⟨k,0,af⟩),.string j] f λe h=>e=.returned (.pointer af)/\aA f.heap.size f h:=by
 have b:aB (aE aj 67 #[.pointer (ae ⟨k,0,af⟩),.string j] f λe h=>e=.returned (.tuple #[.int .i64 pos,.bool ax])/\aA f.heap.size f h):=a;clear a
 go_enter aI6,aF4
 go_wp2_with (go_at_call 67;refine b.out.mono ?_;rintro e l ⟨rfl,c⟩)
 go_ret
 exact⟨rfl,c⟩
def bD(S:Nat->Prop)(n:Nat)(w:ak)(a:Option aH)(l:List KV):Prop:=(a=af/\l=[])\/∃t,a=ae ⟨t,0,af⟩/\aY S n w t l
theorem bD.on{S:Nat->Prop}{n:Nat}{w h:ak}{b:Option aH}{l:List KV}(a:bD S n w b l)(j:aA w.heap.size w h):bD S n h b l:=by
 rcases a with a|⟨t,c,f⟩;·exact .inl a
 ·exact .inr ⟨t,c,f.on j⟩
theorem Qq{w:ak}{n:Nat}{key:ByteArray}(l:lP p w k j u r y.length)(U:eF p w r c)(hl:c.length=x.length)(R:∀(i H:Nat) g,c[i]?=ae H->x[i]?=ae g->aY p n w H g)(a:Shaped j.data.toList a6 s x y)(hk:key.size<=9223372036854775807)(Z:j.size<key.size)(a2:j.data.toList<+:key.data.toList):aE aj 52 #[.pointer (ae ⟨k,0,af⟩),.string key] w λe h=>∃tp l',e=.returned (.pointer tp)/\bD p n w tp l'/\lk key.data.toList y=lk key.data.toList l'/\aA w.heap.size w h:=by
 have v:=vU key j.size Z;have hP:j.data.toList=key.data.toList.take j.size:=by rw[fY];exact(zB.mp a2)
 rw[<-hP]at v;have hB:mO w j.size c s:=by rw[fY];exact BW hl R a.aT
 have a1:c.length<=256:=by have:=qu a.aT.pw;have:=a.aT.len;omega
 have f:=wL (S:=p) (n:=n) l.c0 l.c2 U hB a.aT.pw hk Z;by_cases b:s[posOf key[j.size] s]?=ae key[j.size]
 ·obtain⟨g,t⟩:=a.aT.vQ b;have B:posOf key[j.size] s<c.length:=by rw[hl];exact(cu.mp t).1
  have W:c[posOf key[j.size] s]?=ae c[posOf key[j.size] s]:=bf B;rcases U with⟨rfl,_⟩|⟨a7,a8,cap,h1,rfl,h3,h4,h5,h6⟩;·simp at B
  rw[b]at f;refine(Qo l.c2 (h5 _ _ W) B a1 (f.mono λe h N=>⟨by rw[N.1];simp,N.2⟩)).mono ?_;rintro e h ⟨rfl,o⟩;exact⟨_,g,rfl,.inr ⟨_,rfl,R _ _ _ W t⟩,a.KL v b t,o⟩
 ·rw[decide_eq_false b]at f;refine(Qp f).mono ?_;rintro e h ⟨rfl,o⟩;exact⟨af,[],rfl,.inl ⟨rfl,rfl⟩,by rw[a.KH v b];rfl,o⟩
def gm(o:Option Int):Int:=o.getD 0
theorem B6{f:Bool}(h:a1=gm a6)(a:f=a6.isSome):sX (.tuple #[.int .i64 a1,.bool f])=.returned (.tuple #[.int .i64 (gm a6),.bool a6.isSome]):=by rw[h,a]
theorem vN{n:Nat}{key:ByteArray}(hT:bD p n f u y)(hk:key.size<=9223372036854775807):aE aj 34 #[.pointer u,.string key] f λe h=>e=.returned (.tuple #[.int .i64 (gm (lk key.data.toList y)),.bool (lk key.data.toList y).isSome])/\aA f.heap.size f h:=by
 have HT:aB (bD p n f u y):=hT;clear hT
 go_enter Tryz.func34,Tryz.ntmps34
 go_wp2
 go_loopg [0] n (λgk tv wr=>∃aQ U,tv=.pointer aQ/\aB (bD p gk wr aQ U)/\aB (lk key.data.toList y=lk key.data.toList U)/\aB (aA f.heap.size f wr))
 case atStart=>exact⟨u,y,rfl,HT,rfl,cD _ _⟩
 case round=>
  obtain⟨aQ,U,rfl,s,c,k⟩:=hrel;rcases s.out with⟨rfl,h0⟩|⟨a2,rfl,hR⟩
  ·have t:aB (lk key.data.toList y=af):=by have:=c.out;rw[h0]at this;exact this
   clear h0
   go_wp2
   go_ret2
   exact⟨B6 (by rw[t.out];rfl) (by rw[t.out];rfl),k.out⟩
  ·obtain⟨g,rfl⟩:∃g,gk=g+1:=by cases gk with
    |zero=>exact hR.elim
    |succ g=>exact⟨g,rfl⟩
   obtain⟨pre,vp,bv,ov,o,xs,gs,a,N,w,x,v,j⟩:=hR;have ar:=a.c0;have a7:=a.c1;have aF:=a.short;have l:aB (∀W,aE aj 45 #[.string key,.string pre] W λe h=>e=.returned (.bool (iK key.data.toList pre.data.toList))/\h=W):=λW=>qf key pre W hk (by unfold cE;omega);by_cases b:iK key.data.toList pre.data.toList=aq
   ·have r:pre.data.toList<+:key.data.toList:=xf.mp b;have av:pre.size<=key.size:=by have:=r.length_le;rwa[<-fY,<-fY]at this
    rw[b]at l;by_cases R:key.size=pre.size
    ·have H:key.data.toList=pre.data.toList:=by
      have:=zB.mp r;rw[this,<-fY,<-R,fU az]
     have B:aB (lk key.data.toList y=ov):=by have:=c.out;rw[H,j.EP,<-H]at this;exact this
     have am:(key.size:Int)=(pre.size:Int):=ag;cases ov with
     |none=>
      obtain rfl:vp=none:=N;clear a w x v j b r H R s c
      go_wp2_with (first|(go_at_call 45;refine(l.out _).mono ?_;rintro e h ⟨rfl,rfl⟩)|(go_at_call 51;refine(Z8 a2 _ a7).mono ?_;rintro e h ⟨rfl,rfl⟩))
      go_ret2
      exact⟨B6 (by rw[B.out];rfl) (by rw[B.out];rfl),k.out⟩
     |some ap=>
      obtain⟨vb,aJ,rfl,ab⟩:=N;have ao:=ab;clear a w x v j b r H R s c ab
      go_wp2_with (first|(go_at_call 45;refine(l.out _).mono ?_;rintro e h ⟨rfl,rfl⟩)|(go_at_call 51;refine(Z9 a2 vb ap _ a7 ao).mono ?_;rintro e h ⟨rfl,rfl⟩))
      go_ret2
      exact⟨B6 (by rw[B.out];rfl) (by rw[B.out];rfl),k.out⟩
    ·have an:pre.size<key.size:=ag;have am:¬(key.size:Int)=(pre.size:Int):=ag;have hb:=Qq (key:=key) (w:=wr) a w x v j hk an r;have ai:aB (aE aj 52 #[.pointer (ae ⟨a2,0,af⟩),.string key] wr λe h=>∃u ac,e=.returned (.pointer u)/\bD p g wr u ac/\lk key.data.toList U=lk key.data.toList ac/\aA wr.heap.size wr h):=hb;clear hb a N w x v j b r R s
     go_wp2_with (first|(go_at_call 45;refine(l.out _).mono ?_;rintro e h ⟨rfl,rfl⟩)|(go_at_call 52;refine ai.out.mono ?_;rintro e h ⟨ad,l2,rfl,a6,a8,a1⟩;have Z:aB (bD p g h ad l2/\lk key.data.toList y=lk key.data.toList l2/\aA f.heap.size f h):=⟨a6.on a1,c.out.trans a8,k.out.trans (a1.mono k.out.size)⟩;clear a6 a8 a1))
     go_roundg g
     case measure=>omega
     case rel=>exact⟨ad,l2,rfl,Z.out.1,Z.out.2.1,Z.out.2.2⟩
   ·have aa:iK key.data.toList pre.data.toList=false:=by simpa using b
    have t:aB (lk key.data.toList y=af):=by have:=c.out;rw[j.KJ (λal=>b (xf.mpr al))]at this;exact this
    rw[aa]at l;clear a N w x v j b aa s c
    go_wp2_with (go_at_call 45;refine(l.out _).mono ?_;rintro e h ⟨rfl,rfl⟩)
    go_ret2
    exact⟨B6 (by rw[t.out];rfl) (by rw[t.out];rfl),k.out⟩
section
attribute [local go_sem↓] Go.wp_at_zero Go.wp_at_succ
theorem ak5(p:ByteArray)(w:ak):aE aj 84 #[.string p,.pointer af,.slice af 0 0] w λe h=>e=.returned (.pointer af)/\h=w:=by
 go_enter Hq,Hd
 go_wp2
 go_ret
 exact⟨rfl,rfl⟩
theorem ak6(p:ByteArray)(k o cap c:Nat)(w:ak)(a:w.cell? ⟨k,o,af⟩=ae (.pointer (ae ⟨c,0,af⟩))):aE aj 84 #[.string p,.pointer af,.slice (ae ⟨k,o,af⟩) 1 cap] w λe h=>e=.returned (.pointer (ae ⟨c,0,af⟩))/\h=w:=by
 go_enter Hq,Hd
 go_wp2
 go_ret
 exact⟨rfl,rfl⟩
theorem ak7(p:ByteArray)(a:aH)(c:au)(w:ak)(f:aE aj 75 #[.string p,.pointer (ae a),c] w λe h=>∃b,e=.returned (.pointer (ae ⟨b,0,af⟩))/\v e h):aE aj 84 #[.string p,.pointer (ae a),c] w v:=by
 have H:aB (aE aj 75 #[.string p,.pointer (ae a),c] w λe h=>∃b,e=.returned (.pointer (ae ⟨b,0,af⟩))/\v e h):=f;clear f
 go_enter Hq,Hd
 go_wp2_with (go_at_call 75;refine H.out.mono ?_;rintro e h ⟨b,rfl,j⟩)
 exact j
theorem ak4(p:ByteArray)(b:Option aH)(len cap:Nat)(w:ak)(j:2<=len)(c:aE aj 75 #[.string p,.pointer af,.slice b len cap] w λe h=>∃a,e=.returned (.pointer (ae ⟨a,0,af⟩))/\v e h):aE aj 84 #[.string p,.pointer af,.slice b len cap] w v:=by
 have H:aB (aE aj 75 #[.string p,.pointer af,.slice b len cap] w λe h=>∃a,e=.returned (.pointer (ae ⟨a,0,af⟩))/\v e h):=c;have k:¬(len:Int)=0:=ag;have l:¬(len:Int)=1:=ag;clear c
 go_enter Hq,Hd
 go_wp2_with (go_at_call 75;refine H.out.mono ?_;rintro e h ⟨a,rfl,f⟩)
 exact f
theorem G8{S:Nat->Prop}{n:Nat}{ov:Option Int}(H:Open S f)(U:j.size<=64)(B:jK S f u ov)(p:eF S f r c)(k:c.length=x.length)(o:∀(i a:Nat) g,c[i]?=ae a->x[i]?=ae g->aY S n f a g)(y:fF j.data.toList s x)(N:(c9 j.data.toList ov++x.flatten).length<=1000000):aE aj 84 #[.string j,.pointer u,r] f λe h=>∃W,e=.returned (.pointer W)/\bD S (n+1) h W (c9 j.data.toList ov++x.flatten)/\aA f.heap.size f h:=by
 cases ov with
 |some a7=>
  obtain⟨vb,t,rfl,l⟩:=B;refine ak7 j _ r f ((mZ (S:=S) (n:=n) H U (uv t l) p k o ⟨y,rfl,λZ=>by cases Z⟩ N).mono ?_);rintro e h ⟨b,rfl,v,w⟩;exact⟨b,rfl,_,rfl,.inr ⟨b,rfl,v⟩,w⟩
 |none=>
  obtain rfl:u=none:=B;have a1:=p;rcases p with⟨rfl,rfl⟩|⟨a2,a6,cap,t,rfl,v,w,h5,h6⟩
  ·refine(ak5 j f).mono ?_;rintro e h ⟨rfl,rfl⟩;obtain rfl:x=[]:=kY.mp (by rw[<-k];rfl);exact⟨af,rfl,.inl ⟨rfl,rfl⟩,cD _ _⟩
  ·by_cases R:c.length=1
   ·obtain⟨a,rfl⟩:=NF.mp R;obtain⟨g,rfl⟩:=NF.mp (k▸R);refine(ak6 j a2 a6 cap a f (h5 0 a rfl)).mono ?_;rintro e h ⟨rfl,rfl⟩;refine⟨_,rfl,.inr ⟨a,rfl,?_⟩,cD _ _⟩;have:=(o 0 a g rfl rfl).fuel (Hu n);simpa[c9]using this
   ·have l:2<=c.length:=by have:=kE.mpr h6;omega
    refine ak4 j _ _ _ f l ((mZ (S:=S) (n:=n) H U (ov:=af) rfl a1 k o ⟨y,rfl,λ_=>ag⟩ N).mono ?_);rintro e h ⟨b,rfl,h7,h8⟩;exact⟨b,rfl,_,rfl,.inr ⟨b,rfl,h7⟩,h8⟩
theorem as0(a:f.cell? ⟨k,1,af⟩=ae (.pointer af)):aE aj 83 #[.pointer (ae ⟨k,0,af⟩)] f λe h=>e=.returned (.pointer (ae ⟨k,0,af⟩))/\h=f:=by
 go_enter aI0,aE6
 go_wp2
 go_ret
 exact⟨rfl,rfl⟩
theorem as1{a:aH}(s:f.cell? ⟨k,0,af⟩=ae (.string j))(u:f.cell? ⟨k,1,af⟩=ae (.pointer (ae a)))(p:f.cell? ⟨k,2,af⟩=ae r)(l:∀m,aE aj 84 #[.string j,.pointer af,r] (f.drewN m) λe h=>∃b,e=.returned (.pointer b)/\aA f.heap.size f h/\v e h):aE aj 83 #[.pointer (ae ⟨k,0,af⟩)] f v:=by
 have H:aB (∀m,aE aj 84 #[.string j,.pointer af,r] (f.drewN m) λe h=>∃b,e=.returned (.pointer b)/\aA f.heap.size f h/\v e h):=l;have c:aB (f.cell? ⟨k,0,af⟩=ae (.string j)/\f.cell? ⟨k,2,af⟩=ae r):=⟨s,p⟩;clear l
 go_enter aI0,aE6
 go_wp2
 go_region_held3 (λh=>h.cell? ⟨k,0,af⟩=ae (.string j)/\h.cell? ⟨k,2,af⟩=ae r) (first|exact⟨aS o c.out.1,aS o c.out.2⟩|go_keep) ((go_at_call 84;refine(H.out 1).mono ?_;rintro e h ⟨b,rfl,o,t⟩))
 go_wp2
 exact t
end
