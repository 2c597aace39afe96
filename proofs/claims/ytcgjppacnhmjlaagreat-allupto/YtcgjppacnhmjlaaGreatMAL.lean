/- Own texts: TwinH, TwinI, TwinJ, RefV, GeA. -/
import Derived.Test.YtcgjppacnhmjlaaGreatMAK
import Derived.Test.YtcgjppacnhmjlaaGreatMAJ
import Derived.Test.YtcgjppacnhmjlaaGreatMZ
import Derived.Test.YtcgjppacnhmjlaaGreatMAG
import Derived.Test.YtcgjppacnhmjlaaGreatMAH
set_option linter.all false
set_option maxRecDepth 100000
set_option maxHeartbeats 2000000
open Bool renaming true->aq,false->ax,false_eq_true->dx,not_false->CQ,not_true->aD7
open Go renaming World->ak,Value->au,cell_later->aS,Calls->aE,TypeId->aK,heap_alloc_new->cY,FuncId->bW,maxLen->cE,info_parts->nF,wpList_append_lies->CI,Obj->dV
open Go.Ending renaming returned->sX
open Go.Op renaming bytesLess->dt
open Go.Proofs.Tryz renaming prog->aj,underlying34->CG,func32->D9,func57->OZ,func41->P1,func33->P2,func9->Pd,ntmps47->aF6,func47->aI8,func37->aJ0,func30->aJ2,func29->aJ3,func20->aJ7,func16->aJ8,func14->aJ9,func13->aK0,func12->aK1,func10->aK2,func8->aK9
open Go.RowKit renaming Below->aA,Hid->aB
open Go.RowKit.Below renaming refl->cD,grown->pI
open Go.Value renaming ownBlock->fX,slice->iM,oneCell'->qF
open Go.World renaming block_lt_of_cell?->cC,cell?->bL,news_of_block->qA,ownsRow_nil->CB
open Go.World.ownsRow renaming alloc->Cw
open List renaming getElem?_eq_getElem->bf,mem_of_getElem?->cG,take_of_length_le->fU,length_append->gJ,length_filter_le->mB,append_nil->og,filter_append->uV,getElem?_set->xr,length_set->zU
open Nat renaming le_refl->aL,le_trans->bT,lt_of_lt_of_le->dG,zero_le->fL,lt_irrefl->OL
open Option renaming some->ae,none->af
namespace Go.Proofs.YtcgjppacnhmjlaaGreat
open Go.RowKit Go Go.Conc Go.ConcN Go.Conc.Lib Go.ConcR.Gen
variable {H:Nat->Nat} {c Z:ak} {u a1 aa ab ac:Nat} {y:Int} {B:au} {f:List KV}
section
attribute [local go_sem↓] Go.wp_at_zero Go.wp_at_succ
def Bj:Obj:=.cells #[.string ⟨#[97,98,100]⟩,.string ⟨#[]⟩,.string ⟨#[97,98,99]⟩,.string ⟨#[97]⟩] 9
structure B4(ρ:Nat->Nat)(w:ak)(W:Nat)(v:Int)(h:au)(x r tb lb i:Nat)(wr:ak):Prop where
 ex:∃b,dM NZ ρ w b wr/\Wd b wr W v h [(x,r,uz i)]/\b tb=0/\b lb=0
 x4:wr.heap[tb]?=ae (jC x r)
 vW:wr.heap[lb]?=ae Bj
theorem B4.on{ρ:Nat->Nat}{w wr a:ak}{W:Nat}{v:Int}{h:au}{x r l k i:Nat}(c:B4 ρ w W v h x r l k i wr)(f:aA wr.heap.size wr a):B4 ρ w W v h x r l k i a:=by
 obtain⟨b,o,j,p,s⟩:=c.ex;exact⟨⟨b,o.trans (dM.jQ j.fresh f),j.on f,p,s⟩,(f.block _ (cJ c.x4)).trans c.x4,(f.block _ (cJ c.vW)).trans c.vW⟩
theorem B4.cells{ρ:Nat->Nat}{w wr:ak}{W:Nat}{v:Int}{h:au}{x r c k i:Nat}(f:B4 ρ w W v h x r c k i wr)(j:Nat)(o:j<4):wr.cell? ⟨c,0,af⟩=ae (.pointer (ae ⟨x,0,af⟩))/\wr.cell? ⟨c,1,af⟩=ae (.pointer (ae ⟨r,0,af⟩))/\wr.cell? ⟨k,j,af⟩=ae (.string (sw j)):=by
 obtain⟨a,b⟩:=ap3 f.x4;refine⟨a,b,?_⟩;have l:=f.vW;have:j=0\/j=1\/j=2\/j=3:=ag;rcases this with rfl|rfl|rfl|rfl<;>simp[bL,l,Bj,sw]
theorem Vu(j:Nat):(sw j).size<=64:=by
 unfold sw;split<;>decide
theorem B4.put{i:Nat}(h:B4 H c u y B a1 aa ab ac i Z):aE aj 16 #[.agg #[.pointer (ae ⟨a1,0,af⟩),.pointer (ae ⟨aa,0,af⟩)],.string (sw i),.int .i64 i] Z λe a=>e=.returned (.bool aq)/\B4 H c u y B a1 aa ab ac (i+1) a:=by
 obtain⟨b,p,f,j,l⟩:=h.ex;refine(Na (f.tw 0 _ rfl) f.fresh (by have:=Vu i;omega)).mono ?_;rintro e a ⟨rfl,s,m,t⟩;have o:∀k,k<Z.heap.size->b k=0->a.heap[k]?=Z.heap[k]?:=λk r e=>m.block k r (by rw[e];exact BH 0);exact⟨rfl,⟨s,p.trans (m.nz ag),f.set (i:=0) rfl m t,(m.agree _ (cJ h.x4)).trans j,(m.agree _ (cJ h.vW)).trans l⟩,(o _ (cJ h.x4) j).trans h.x4,(o _ (cJ h.vW) l).trans h.vW⟩
theorem B4.get(h:B4 H c u y B a1 aa ab ac 4 Z):aE aj 17 #[.pointer (ae ⟨a1,0,af⟩),.string ⟨#[97,98,99]⟩] Z λe a=>e=.returned (.tuple #[.int .i64 2,.bool aq])/\B4 H c u y B a1 aa ab ac 4 a:=by
 obtain⟨b,k,f,l,o⟩:=h.ex;refine(Kc (f.tw 0 _ rfl).ix bc).mono ?_;rintro e a ⟨rfl,j⟩;refine⟨?_,h.on j⟩;show sX (.tuple #[.int .i64 (gm (lk [97,98,99] (uz 4))),.bool (lk [97,98,99] (uz 4)).isSome])=_;rw[VO];rfl
theorem B4.shape{ρ:Nat->Nat}{w wr:ak}{W:Nat}{v:Int}{h:au}{x r k j:Nat}(f:B4 ρ w W v h x r k j 4 wr):aE aj 18 #[.pointer (ae ⟨x,0,af⟩)] wr λe a=>e=.returned (.agg #[.int .i64 2,.int .i64 3,.int .i64 0,.int .i64 0,.int .i64 0,.int .i64 4])/\B4 ρ w W v h x r k j 4 a:=by
 obtain⟨b,t,l,u,y⟩:=f.ex;obtain⟨c,g,s,p⟩:=Eu (l.tw 0 _ rfl).ix;obtain⟨rfl,rfl⟩:=s.uniq ak9;refine p.mono ?_;rintro e a ⟨rfl,o⟩;exact⟨rfl,f.on o⟩
theorem Qf(h:Wd H c u y (.slice af 0 0) []):aE aj 8 #[.pointer (ae ⟨u,0,af⟩),.int .i64 y] c λe a=>e=.returned (.bool aq)/\∃b B t,dM NZ H c b a/\Wd b a u y B [t]:=by
 have a6:aB (aE aj 10 #[] c λe a=>e=.returned (.pointer (ae ⟨c.heap.size,0,af⟩))/\a=c.alloc nY):=Fe c;have HAdd:aB (aE aj 9 #[.pointer (ae ⟨u,0,af⟩),.pointer (ae ⟨c.heap.size,0,af⟩),.pointer (ae ⟨c.heap.size+1,0,af⟩)] ((c.alloc nY).alloc jf) λe a=>e=.returned (.bool aq)/\∃g cap,aB (∃b,dM NZ H c b a/\Wd b a u y (.slice (ae ⟨g,0,af⟩) 1 cap) [(c.heap.size,c.heap.size+1,[])])/\1<=cap/\a.cell? ⟨u,0,af⟩=ae (.slice (ae ⟨g,0,af⟩) 1 cap)/\a.cell? ⟨g,0,af⟩=ae (.pointer (ae ⟨c.heap.size,0,af⟩))/\a.cell? ⟨g,1,af⟩=ae (.pointer (ae ⟨c.heap.size+1,0,af⟩))):=by
  obtain⟨a8,m1,w1,t1⟩:=Uk h;refine(Ip w1 t1 az).mono ?_;rintro e a ⟨rfl,b,B,m2,s⟩;obtain⟨g,cap,rfl,Z,_,ai⟩:=s.at az;obtain⟨a7,aa⟩:=ai 0 _ rfl;exact⟨rfl,g,cap,⟨b,m1.trans m2,s⟩,Z,s.tM,a7,aa⟩
 clear h;have e1:∀w1:ak,w1.alloc (.cells #[.slice af 0 0] 36)=w1.alloc jf:=λ_=>rfl;have e2:∀(w1:ak) (x r:Nat),w1.alloc (.cells #[.pointer (ae ⟨x,0,af⟩),.pointer (ae ⟨r,0,af⟩)] 42)=w1.alloc (jC x r):=λ_ _ _=>rfl;have e3:∀w1:ak,w1.alloc (.cells #[.string ⟨#[97,98,100]⟩,.string ⟨#[]⟩,.string ⟨#[97,98,99]⟩,.string ⟨#[97]⟩] 9)=w1.alloc Bj:=λ_=>rfl
 go_enter aK9,Tryz.ntmps8
 go_wp2_with (first
  |(go_at_call 10;refine a6.out.mono ?_;rintro e w1 ⟨rfl,rfl⟩)
  |(go_at_call 9;refine HAdd.out.mono ?_;rintro e f ⟨rfl,g,cap,w,Z,ab,ac,ad⟩))
 go_loopg [9,10] 4 (λgk s9 am wr=>∃i:Nat,s9=.int .i64 i/\i<=4/\gk=4-i/\aB (B4 H c u y (.slice (ae ⟨g,0,af⟩) 1 cap) c.heap.size (c.heap.size+1) f.heap.size (f.heap.size+1) i wr))
 case atStart=>
  refine⟨0,rfl,ag,rfl,?_⟩;obtain⟨b,m,k⟩:=w.out;have W:aA f.heap.size f ((f.alloc (jC c.heap.size (c.heap.size+1))).alloc Bj):=(cH f _).alloc (cH f _).size _;exact⟨⟨b,m.trans (dM.jQ k.fresh W),k.on W,k.fresh _ (aL _),k.fresh _ ag⟩,yS f _ _,Ff f _ _⟩
 case round=>
  obtain⟨i,rfl,hi,rfl,l⟩:=hrel;clear w ab ac ad;by_cases a1:i<4
  ·have al:(i:Int)<4:=ag;obtain⟨d0,d1,d2⟩:=l.out.cells i a1;have HS:aB (∀i wr,B4 H c u y (.slice (ae ⟨g,0,af⟩) 1 cap) c.heap.size (c.heap.size+1) f.heap.size (f.heap.size+1) i wr->∀j,j<4->wr.cell? ⟨f.heap.size,0,af⟩=ae (.pointer (ae ⟨c.heap.size,0,af⟩))/\wr.cell? ⟨f.heap.size,1,af⟩=ae (.pointer (ae ⟨c.heap.size+1,0,af⟩))/\wr.cell? ⟨f.heap.size+1,j,af⟩=ae (.string (sw j))):=λi wr h j hj=>h.cells j hj
   go_wp2_with fail
   go_region_held3 (λa=>a.cell? ⟨f.heap.size,0,af⟩=ae (.pointer (ae ⟨c.heap.size,0,af⟩))/\a.cell? ⟨f.heap.size,1,af⟩=ae (.pointer (ae ⟨c.heap.size+1,0,af⟩))/\a.cell? ⟨f.heap.size+1,i,af⟩=ae (.string (sw i))) (first|exact⟨d0,d1,d2⟩|exact HS.out _ _ N i a1|go_keep) ((go_at_call 16;refine((l.out.on ((cD _ _).drew)).put).mono ?_;rintro e w6 ⟨rfl,N⟩))
   go_wp2_with fail
   go_roundg (4-(i+1))
   case measure=>omega
   case rel=>exact⟨i+1,by go_num,ag,rfl,N⟩
  ·obtain rfl:i=4:=ag
   go_wp2_with (first
    |(go_at_call 17;refine l.out.get.mono ?_;rintro e w7 ⟨rfl,R⟩;have v:aB (B4 H c u y (.slice (ae ⟨g,0,af⟩) 1 cap) c.heap.size (c.heap.size+1) f.heap.size (f.heap.size+1) 4 w7):=R;clear R)
    |(go_at_call 18;refine v.out.shape.mono ?_;rintro e w8 ⟨rfl,U⟩;have a2:aB (B4 H c u y (.slice (ae ⟨g,0,af⟩) 1 cap) c.heap.size (c.heap.size+1) f.heap.size (f.heap.size+1) 4 w8):=U;clear U))
   all_goals go_ret
   ·obtain⟨b,o,p,_⟩:=(a2.out.on (cH w8 _)).ex;exact⟨rfl,b,_,_,o,p⟩
   ·obtain⟨b,o,p,_⟩:=v.out.ex;exact⟨rfl,b,_,_,o,p⟩
def wdB(v:Int):Obj:=.cells #[.slice af 0 0,.int .i64 v] 28
theorem ar3(w:ak)(v:Int):Wd (λk=>if k=w.heap.size then 100 else 0) (w.alloc (wdB v)) w.heap.size v (.slice af 0 0) []:=⟨cY w _,if_pos rfl,CB _ _ _ _,λg e=>by simp[fX]at e,λi t h=>by simp at h,λk a=>if_neg (by simp at a;omega),az⟩
theorem LH{e:aK}{n:Nat}{j:List au}(h:c.ownsRow u e a1 B n j)(s:aA c.heap.size c Z):Z.ownsRow u e a1 B n j:=by
 have t:=h.lt;obtain⟨f,a|⟨b,k,l,a,o,p,r⟩⟩:=h;·exact⟨f,.inl a⟩
 ·exact⟨f,.inr ⟨b,k,l,a,o,(s.block b (t b (by rw[a];rfl)).2).trans p,r⟩⟩
theorem Ju(f:KV->Bool)(l:List KV)(j:Nat)(e:KV)(h:l[j]?=ae e):(l.take (j+1)).filter f=(l.take j).filter f++(if f e=aq then[e]else[]):=by
 rw[Cc l j e h,uV];cases a:f e<;>simp[a]
def tH(w:ak)(v:au)(ps:List KV)(wr:ak):Prop:=wr.ownsRow w.heap.size 46 2 v ps.length (flat ps)/\aA w.heap.size w wr
theorem ah8(h:bQ c u B f)(k to:ByteArray)(hf:k.size<=9223372036854775807)(ht:to.size<=9223372036854775807):aE aj 29 #[.pointer (ae ⟨u,0,af⟩),.string k,.string to] c λe a=>∃v,e=.returned v/\tH c v (cO k.data.toList to.data.toList f) a:=by
 obtain⟨i0,ac,ad,ai,al⟩:=nF Ex;have aQ:=h.cI;have HH:aB (bQ c u B f):=h;obtain⟨ao,cap,a2⟩:∃ao cap,B=.slice ao f.length cap:=by
  rcases h.cases with⟨rfl,rfl⟩|⟨g,cap,rfl,hp,hc⟩;·exact⟨_,_,rfl⟩
  ·exact⟨_,_,rfl⟩
 subst a2;clear h
 go_enter aJ3,Tryz.ntmps29
 go_wp2
 go_loopg [7,8] f.length (λgk v i wr=>∃j:Nat,j<=f.length/\gk+j=f.length/\i=.int .i64 j/\aB (tH c v (cO k.data.toList to.data.toList (f.take j)) wr))
 case atStart=>exact⟨0,fL _,ag,rfl,CB _ _ _ _,cD _ _⟩
 case round=>
  obtain⟨j,hj,hg,rfl,y⟩:=hrel;have a8:=(HH.out.on y.out.2).cell;by_cases h1:j<f.length
  ·obtain⟨e,N⟩:∃e,f[j]?=ae e:=⟨f[j],bf h1⟩;obtain⟨g,a1,a2,hp,aP⟩:∃g a1,iM ao f.length cap=.slice (ae ⟨g,0,af⟩) f.length a1/\oJ wr g f/\f.length<=a1:=by
    rcases(HH.out.on y.out.2).cases with⟨rfl,_⟩|h;·simp at h1
    ·exact h
   cases a2;obtain⟨c1,c2⟩:=hp j e N;have R:aB (∀(b:ByteArray) w1,b.size<=9223372036854775807->aE aj 46 #[.string (keyOf e),.string b] w1 λo a=>o=.returned (.bool (dt e.1 b.data.toList))/\∃n,a=w1.drewN n):=λb w1 r=>by
    have U:(keyOf e).size<=9223372036854775807:=by
     have:=HH.out.short e (cG N);rw[rm];omega
    have:=KF (keyOf e) b w1 U r;rw[ud]at this;exact this
   have l:aB (cO k.data.toList to.data.toList (f.take (j+1))=cO k.data.toList to.data.toList (f.take j)++(if yu k.data.toList to.data.toList e.1=aq then[e]else[])):=Ju _ f j e N;have aJ:(cO k.data.toList to.data.toList (f.take j)).length<=3000:=by
    have h4:(cO k.data.toList to.data.toList (f.take j)).length<=(f.take j).length:=mB _ _;simp at h4;omega
   have av:(j:Int)<(f.length:Int):=ag;clear N hp;obtain⟨m,hm⟩:∃m,(cO k.data.toList to.data.toList (f.take j)).length=m:=⟨_,rfl⟩;have HM:aB ((cO k.data.toList to.data.toList (f.take j)).length=m):=hm;have Z:=y.out;unfold tH at Z;rw[hm]at aJ Z;have s:aB (wr.ownsRow c.heap.size 46 2 _ m (flat (cO k.data.toList to.data.toList (f.take j)))/\aA c.heap.size c wr):=Z;clear hm Z;unfold yu at l;cases H:dt e.1 k.data.toList with
   |true=>
    rw[H]at l;simp only[aD7,Bool.false_and,dx,if_false,og]at l;have w:=R.out k;rw[H]at w;have am:aB (∀w1,aE aj 46 #[.string (keyOf e),.string k] w1 λo a=>o=.returned (.bool aq)/\∃n,a=w1.drewN n):=λw1=>w w1 hf;clear w R
    go_wp2_with (go_at_call 46;refine(am.out _).mono ?_;rintro o a ⟨rfl,n,rfl⟩)
    go_roundg (gk-1)
    case measure=>omega
    case rel=>exact⟨j+1,ag,ag,by go_num,by rw[l.out];exact y.out.1,kr y.out.2 _⟩
   |false=>
    rw[H]at l;simp only[CQ,Bool.true_and]at l;have w:=R.out k;rw[H]at w;have ab:aB (∀w1,aE aj 46 #[.string (keyOf e),.string k] w1 λo a=>o=.returned (.bool ax)/\∃n,a=w1.drewN n):=λw1=>w w1 hf;clear w;cases h2:to.toList.isEmpty with
    |true=>
     rw[<-Jd,h2]at l;simp only[Bool.true_or,if_true]at l
     go_wp2_with (first
      |(go_at_call 46;refine(ab.out _).mono ?_;rintro o a ⟨rfl,n,rfl⟩)
      |(at_builtin;refine CI _ rfl _ _ _ rfl c.heap.size 46 i0 (.agg #[.string ⟨#[]⟩,.int .i64 0]) 2 24 CG ac ad ai al rfl ag _ m _ rfl (Cw (w:=wr.drewN n) s.out.1 _) ⟨wr.heap.size,0,af⟩ 1 1 [.string (keyOf e),.int .i64 e.2] rfl rfl (qA (cs:= #[.string (keyOf e),.int .i64 e.2]) (t:=46) (fr:=(0,0)) (cY (wr.drewN n) _)) (by simp[qF]) ag (by unfold cE;omega) ag (by have:=s.out.2.size;simp;omega) _ rfl ?_;intro g2 an w1 a7 a6 ap aF))
     go_roundg (gk-1)
     case measure=>omega
     case rel=>exact⟨j+1,ag,ag,by go_num,by rw[l.out,AU,gJ,HM.out];exact a7,pI ((kr s.out.2 n).alloc (by have:=s.out.2.size;simpa using this) _) a6 (by have:=s.out.2.size;simp;omega) (λ_ U=>uw s.out.1 U)⟩
    |false=>
     rw[<-Jd,h2]at l;simp only[Bool.false_or]at l;have x:aB (∀w1,aA wr.heap.size wr w1->w1.cell? ⟨g,j*2,af⟩=ae (.string (keyOf e))/\w1.cell? ⟨g,j*2+1,af⟩=ae (.int .i64 e.2)/\w1.cell? ⟨u,0,af⟩=ae (.slice (ae ⟨g,0,af⟩) f.length cap)):=λw1 r=>⟨aS r c1,aS r c2,aS r a8⟩;have HQ:aB (∀w1,aA wr.heap.size wr w1->w1.ownsRow c.heap.size 46 2 _ m (flat (cO k.data.toList to.data.toList (f.take j)))/\aA c.heap.size c w1):=λw1 r=>⟨LH s.out.1 r,s.out.2.trans (r.mono s.out.2.size)⟩;have aa:aB (∀(b:ByteArray) w1,aA wr.heap.size wr w1->b.size<=9223372036854775807->aE aj 46 #[.string (keyOf e),.string b] w1 λo a=>o=.returned (.bool (dt e.1 b.data.toList))/\aA wr.heap.size wr a):=λb w1 r ar=>(R.out b w1 ar).mono λo a N=>by obtain⟨h4,n,rfl⟩:=N;exact⟨h4,kr r n⟩
     clear R ab;cases W:dt e.1 to.data.toList with
     |true=>
      rw[W]at l;simp only[if_true]at l
      go_wp2_with (first
       |(go_at_call 46;refine(aa.out _ _ (by first|exact cD _ _|exact p) (by assumption)).mono ?_;rintro o w2 ⟨rfl,p⟩;(first|rw[H]|rw[W]);have c1:=(x.out _ p).1;have c2:=(x.out _ p).2.1;have a8:=(x.out _ p).2.2;have t:aB _:=HQ.out _ p)
       |(at_builtin;refine CI _ rfl _ _ _ rfl c.heap.size 46 i0 (.agg #[.string ⟨#[]⟩,.int .i64 0]) 2 24 CG ac ad ai al rfl ag _ m _ rfl (Cw (w:=w2) t.out.1 _) ⟨w2.heap.size,0,af⟩ 1 1 [.string (keyOf e),.int .i64 e.2] rfl rfl (qA (cs:= #[.string (keyOf e),.int .i64 e.2]) (t:=46) (fr:=(0,0)) (cY w2 _)) (by simp[qF]) ag (by unfold cE;omega) ag (by have:=t.out.2.size;simp;omega) _ rfl ?_;intro g2 an w1 a7 a6 ap aF))
      go_roundg (gk-1)
      case measure=>omega
      case rel=>exact⟨j+1,ag,ag,by go_num,by rw[l.out,AU,gJ,HM.out];exact a7,pI (t.out.2.alloc t.out.2.size _) a6 (by have:=t.out.2.size;simp;omega) (λ_ U=>uw t.out.1 U)⟩
     |false=>
      rw[W]at l;simp only[dx,if_false,og]at l
      go_wp2_with (go_at_call 46;refine(aa.out _ _ (by first|exact cD _ _|exact p) (by assumption)).mono ?_;rintro o w2 ⟨rfl,p⟩;(first|rw[H]|rw[W]);have c1:=(x.out _ p).1;have c2:=(x.out _ p).2.1;have a8:=(x.out _ p).2.2;have t:aB _:=HQ.out _ p)
      go_roundg (gk-1)
      case measure=>omega
      case rel=>exact⟨j+1,ag,ag,by go_num,by rw[l.out,HM.out];exact t.out.1,t.out.2⟩
  ·have ej:j=f.length:=ag;have hE:=y.out;rw[ej,fU (aL _)]at hE;have HE:aB _:=hE;clear hE;have av:¬(j:Int)<(f.length:Int):=ag
   go_wp2
   go_ret
   exact⟨_,rfl,HE.out⟩
theorem IC(s p:ByteArray)(w:ak)(f:s.size<=9223372036854775807)(c:p.size<=9223372036854775807):aE aj 47 #[.string s,.string p] w λe a=>e=.returned (.bool (me p.data.toList s.data.toList))/\a=w:=by
 by_cases h:p.size<=s.size
 ·have b:(p.size:Int)<=(s.size:Int):=ag
  go_enter aI8,aF6
  go_wp2
  go_ret
  exact⟨uF (K8 s p h),rfl⟩
 ·have b:¬(p.size:Int)<=(s.size:Int):=ag
  go_enter aI8,aF6
  go_wp2
  go_ret
  exact⟨uF (K9 s p h),rfl⟩
theorem ah3(h:bQ c u B f)(p:ByteArray)(hp:p.size<=9223372036854775807):aE aj 30 #[.pointer (ae ⟨u,0,af⟩),.string p] c λe a=>∃v,e=.returned v/\tH c v (eA p.data.toList f) a:=by
 obtain⟨i0,ab,al,am,an⟩:=nF Ex;have aF:=h.cI;have R:aB (bQ c u B f):=h;obtain⟨Z,cap,a2⟩:∃Z cap,B=.slice Z f.length cap:=by
  rcases h.cases with⟨rfl,rfl⟩|⟨g,cap,rfl,hp,hc⟩;·exact⟨_,_,rfl⟩
  ·exact⟨_,_,rfl⟩
 subst a2;clear h
 go_enter aJ2,Tryz.ntmps30
 go_wp2
 go_loopg [5,6] f.length (λgk v i wr=>∃j:Nat,j<=f.length/\gk+j=f.length/\i=.int .i64 j/\aB (tH c v (eA p.data.toList (f.take j)) wr))
 case atStart=>exact⟨0,fL _,ag,rfl,CB _ _ _ _,cD _ _⟩
 case round=>
  obtain⟨j,hj,hg,rfl,x⟩:=hrel;have a6:=(R.out.on x.out.2).cell;by_cases h1:j<f.length
  ·obtain⟨e,o⟩:∃e,f[j]?=ae e:=⟨f[j],bf h1⟩;obtain⟨g,a1,a2,a8,av⟩:∃g a1,iM Z f.length cap=.slice (ae ⟨g,0,af⟩) f.length a1/\oJ wr g f/\f.length<=a1:=by
    rcases(R.out.on x.out.2).cases with⟨rfl,_⟩|h;·simp at h1
    ·exact h
   cases a2;obtain⟨c1,c2⟩:=a8 j e o;have a7:(keyOf e).size<=9223372036854775807:=by
    have:=R.out.short e (cG o);rw[rm];omega
   have w:aB (eA p.data.toList (f.take (j+1))=eA p.data.toList (f.take j)++(if me p.data.toList e.1=aq then[e]else[])):=Ju _ f j e o;have ad:(eA p.data.toList (f.take j)).length<=3000:=by
    have s:(eA p.data.toList (f.take j)).length<=(f.take j).length:=mB _ _;simp at s;omega
   have ac:(j:Int)<(f.length:Int):=ag;clear o a8;obtain⟨m,hm⟩:∃m,(eA p.data.toList (f.take j)).length=m:=⟨_,rfl⟩;have HM:aB ((eA p.data.toList (f.take j)).length=m):=hm;have H:=x.out;unfold tH at H;rw[hm]at ad H;have W:aB (wr.ownsRow c.heap.size 46 2 _ m (flat (eA p.data.toList (f.take j)))/\aA c.heap.size c wr):=H;clear hm H;have t:aB (∀w1,aA wr.heap.size wr w1->w1.cell? ⟨g,j*2,af⟩=ae (.string (keyOf e))/\w1.cell? ⟨g,j*2+1,af⟩=ae (.int .i64 e.2)/\w1.cell? ⟨u,0,af⟩=ae (.slice (ae ⟨g,0,af⟩) f.length cap)):=λw1 b=>⟨aS b c1,aS b c2,aS b a6⟩;have HQ:aB (∀w1,aA wr.heap.size wr w1->w1.ownsRow c.heap.size 46 2 _ m (flat (eA p.data.toList (f.take j)))/\aA c.heap.size c w1):=λw1 b=>⟨LH W.out.1 b,W.out.2.trans (b.mono W.out.2.size)⟩;cases y:me p.data.toList e.1 with
   |true=>
    rw[y]at w;simp only[if_true]at w;have U:aB (∀w1,aA wr.heap.size wr w1->aE aj 47 #[.string (keyOf e),.string p] w1 λr a=>r=.returned (.bool aq)/\aA wr.heap.size wr a):=λw1 b=>(IC (keyOf e) p w1 a7 hp).mono λr a o=>by
     obtain⟨s,rfl⟩:=o;rw[ud,y]at s;exact⟨s,b⟩
    go_wp2_with (first
     |(go_at_call 47;refine(U.out _ (cD _ _)).mono ?_;rintro r N ⟨rfl,l⟩;have c1:=(t.out _ l).1;have c2:=(t.out _ l).2.1;have a6:=(t.out _ l).2.2;have k:aB _:=HQ.out _ l)
     |(at_builtin;refine CI _ rfl _ _ _ rfl c.heap.size 46 i0 (.agg #[.string ⟨#[]⟩,.int .i64 0]) 2 24 CG ab al am an rfl ag _ m _ rfl (Cw (w:=N) k.out.1 _) ⟨N.heap.size,0,af⟩ 1 1 [.string (keyOf e),.int .i64 e.2] rfl rfl (qA (cs:= #[.string (keyOf e),.int .i64 e.2]) (t:=46) (fr:=(0,0)) (cY N _)) (by simp[qF]) ag (by unfold cE;omega) ag (by have:=k.out.2.size;simp;omega) _ rfl ?_;intro g2 ap w1 ai aa ar aJ))
    go_roundg (gk-1)
    case measure=>omega
    case rel=>exact⟨j+1,ag,ag,by go_num,by rw[w.out,AU,gJ,HM.out];exact ai,pI (k.out.2.alloc k.out.2.size _) aa (by have:=k.out.2.size;simp;omega) (λ_ hk=>uw k.out.1 hk)⟩
   |false=>
    rw[y]at w;simp only[dx,if_false,og]at w;have U:aB (∀w1,aA wr.heap.size wr w1->aE aj 47 #[.string (keyOf e),.string p] w1 λr a=>r=.returned (.bool ax)/\aA wr.heap.size wr a):=λw1 b=>(IC (keyOf e) p w1 a7 hp).mono λr a o=>by
     obtain⟨s,rfl⟩:=o;rw[ud,y]at s;exact⟨s,b⟩
    go_wp2_with (go_at_call 47;refine(U.out _ (cD _ _)).mono ?_;rintro r N ⟨rfl,l⟩;have c1:=(t.out _ l).1;have c2:=(t.out _ l).2.1;have a6:=(t.out _ l).2.2;have k:aB _:=HQ.out _ l)
    go_roundg (gk-1)
    case measure=>omega
    case rel=>exact⟨j+1,ag,ag,by go_num,by rw[w.out,HM.out];exact k.out.1,k.out.2⟩
  ·have ej:j=f.length:=ag;have hE:=x.out;rw[ej,fU (aL _)]at hE;have HE:aB _:=hE;clear hE;have ac:¬(j:Int)<(f.length:Int):=ag
   go_wp2
   go_ret
   exact⟨_,rfl,HE.out⟩
end
namespace Sim
variable {k a2:Nat} {a7:au} {U:BR} {ai:Nat->Nat} {ad:ak} {N:ByteArray}
structure Mv(A:Nat->Prop)(ρ:Nat->Nat)(w:ak)(b:Nat->Nat)(a:ak):Prop where
 size:w.heap.size<=a.heap.size
 agree:∀k,k<w.heap.size->b k=ρ k
 fresh:∀k,a.heap.size<=k->b k=0
 block:∀k,k<w.heap.size->¬A (ρ k)->a.heap[k]?=w.heap[k]?
 os:a.os=w.os
 output:a.output=w.output
section
variable {A A':Nat->Prop} {ρ b a8:Nat->Nat} {w a w1:ak} {i:Nat} {x r:Nat} {l:List KV} {W:Nat} {v:Int} {h:au} {j:TS}
theorem Mv.of{c:Tape}{d:Nat}(h:dM A ρ (Sim.re w c d) b a):Mv A ρ w b a:=⟨h.size,h.agree,h.fresh,h.block,h.os,h.output⟩
theorem Mv.re(h:Mv A ρ w b a)(tp:Tape)(d:Nat):Mv A ρ w b (Sim.re a tp d):=⟨h.size,h.agree,h.fresh,h.block,h.os,h.output⟩
theorem Mv.refl(a:∀k,w.heap.size<=k->ρ k=0):Mv A ρ w ρ w:=⟨aL _,λ_ _=>rfl,a,λ_ _ _=>rfl,rfl,rfl⟩
theorem Mv.cv(c:∀k,w.heap.size<=k->ρ k=0)(h:aO w a):Mv A ρ w ρ a:=⟨h.size,λ_ _=>rfl,λk b=>c k (bT h.size b),λk b _=>h.block k b,h.os,h.output⟩
theorem Mv.trans(h:Mv A ρ w a8 w1)(k:Mv A a8 w1 b a):Mv A ρ w b a:=⟨bT h.size k.size,λi c=>(k.agree i (dG c h.size)).trans (h.agree i c),k.fresh,λi c f=>(k.block i (dG c h.size) (by rw[h.agree i c];exact f)).trans (h.block i c f),k.os.trans h.os,k.output.trans h.output⟩
theorem Mv.mono(h:Mv A ρ w b a)(f:∀c,A c->A' c):Mv A' ρ w b a:=⟨h.size,h.agree,h.fresh,λk j l=>h.block k j λe=>l (f _ e),h.os,h.output⟩
theorem Ba(h:bB (λc=>ρ c=0) w k l)(j:Mv A ρ w b a)(v:¬A 0)(H:¬A (ρ k)):bB (λc=>b c=0) a k l:=by
 obtain⟨n,N,r,o⟩:=h.tree;have p:=cJ r;refine⟨⟨n,N,(j.block k p H).trans r,?_⟩,λe=>h.out ((j.agree k p).symm.trans e),h.cI⟩;rcases o with o|⟨t,x,y⟩;·exact .inl o
 ·refine .inr ⟨t,x,?_⟩;have B:aY (λc=>ρ c=0/\c<w.heap.size) n w t l:=y.weaken (λc s u=>⟨s,u⟩);exact B.bK (λc f=>j.block c f.2 (by rw[f.1];exact v)) (λc f _=>(j.agree c f.2).trans f.1) (aL _)
theorem ae7(h:bQ w r a7 l)(c:Mv A ρ w b a)(j:¬A (ρ r))(f:∀g,a7.ownBlock=ae g->¬A (ρ g)):bQ a r a7 l:=⟨(c.block r (cJ h.blk) j).trans h.blk,ng h.row λg e=>c.block g (h.row.lt g e).2 (f g e),h.out,h.ck,h.short,h.cI⟩
theorem rG(f:Twin ρ i w x r l)(j:Mv A ρ w b a)(s:¬A 0)(o:∀c,Part i c->¬A c):Twin b i a x r l:=by
 obtain⟨h,k,p⟩:=f.ref;refine⟨Ba f.ix j s (o _ (by rw[f.px];exact .inl rfl)),(j.agree x f.ix.lt).trans f.px,(j.agree r (cJ k.blk)).trans f.pr,h,ae7 k j (o _ (by rw[f.pr];exact .inr (.inl rfl))) (λg e=>o _ (by rw[p g e];exact .inr (.inr rfl))),λg e=> ?_⟩;exact(j.agree g (k.row.lt g e).2).trans (p g e)
theorem Co(f:Wd ρ w W v h j)(k:Mv A ρ w b a)(p:¬A 0)(l:∀c,0<c->c<150->¬A c):Wd b a W v h j:=by
 refine⟨(k.block W (cJ f.blk) (by rw[f.pW];exact l _ ag ag)).trans f.blk,(k.agree W (cJ f.blk)).trans f.pW,ng f.row λg e=>k.block g (f.row.lt g e).2 (by rw[f.pg g e];exact l _ ag ag),λg e=>(k.agree g (f.row.lt g e).2).trans (f.pg g e),λi t e=> ?_,k.fresh,f.cI⟩;exact rG (f.tw i t e) k p λc o=>l c (qs (f.lt e).2 o).1 (by have:=(qs (f.lt e).2 o).2;omega)
def qP(i:Nat)(c:Nat):Prop:=Part i c\/c=200
theorem ar4{t:Nat×Nat×List KV}{p:List KV}(f:Wd ρ w W v h j)(x:j[i]?=ae t)(l:Mv (qP i) ρ w b a)(y:Twin b i a t.1 t.2.1 p):Wd b a W v h (j.set i (t.1,t.2.1,p)):=by
 obtain⟨B,s⟩:=f.lt x;have R:¬qP i 100:=λe=>e.elim (λe=>by have:=qs s e;omega) λe=>ag;have U:¬qP i 101:=λe=>e.elim (λe=>by have:=qs s e;omega) λe=>ag;refine⟨(l.block W (cJ f.blk) (by rw[f.pW];exact R)).trans f.blk,(l.agree W (cJ f.blk)).trans f.pW,?_,λg e=>(l.agree g (f.row.lt g e).2).trans (f.pg g e),λN u k=> ?_,l.fresh,by rw[zU];exact f.cI⟩
 ·rw[zU,E8 j i t p x];exact ng f.row λg e=>l.block g (f.row.lt g e).2 (by rw[f.pg g e];exact U)
 ·rw[xr]at k;split at k
  ·rename_i e;subst e
   first
    |(cases k;exact y)
    |(rw[if_pos B]at k;cases k;exact y)
  ·rename_i H;exact rG (f.tw N u k) l (λe=>e.elim (BH i) λe=>ag) (λc r o=>o.elim (λo=>H (LK o r)) λe=>by have:=qs (f.lt k).2 r;omega)
end
def y3(c:Nat):Prop:=NZ c\/c=200
theorem Lo:¬y3 0:=λh=>h.elim (λh=>OL _ h.1) λh=>ag
theorem Zb{i:Nat}(a:i<8)(h:qP i k):y3 k:=h.elim (λh=>.inl ⟨(qs a h).1,by have:=(qs a h).2;omega⟩) .inr
structure PW(o:ak)(W:Nat)(h:au)(ρ:Nat->Nat)(O:Nat->Prop)(R:BR)(w:ak)(j:TS):Prop where
 known:aI Xm O R w
 wd:Wd ρ w W 11 h j
 rW:R W W
 cv:aO o w
 low:∀k,k<o.heap.size->ρ k=0
 own:∀k,O k->ρ k=200
section
variable {o w a:ak} {W:Nat} {h:au} {ρ b:Nat->Nat} {O s:Nat->Prop} {R p:BR} {j:TS}
theorem PW.free(a:PW o W h ρ O R w j)(c:ρ k≠200):¬O k:=λb=>c (a.own k b)
theorem PW.AV(a:PW o W h ρ O R w j)(b:k<o.heap.size):¬O k:=a.free (by rw[a.low k b];decide)
theorem PW.new(a:PW o W h ρ O R w j){k:Nat}(c:w.heap.size<=k):¬O k:=λb=>by have:=a.known.low k b;omega
theorem PW.oW(a:PW o W h ρ O R w j):¬O W:=a.known.apart W a.rW
theorem PW.cell(a:PW o W h ρ O R w j){b f:Nat}{v:au}(c:o.cell? ⟨b,f,af⟩=ae v):¬O b/\w.cell? ⟨b,f,af⟩=ae v:=⟨a.AV (cC _ _ c),a.cv.cell c⟩
theorem PW.on(b:PW o W h ρ O R w j)(c:aO w a)(f:aI Xm O p a)(k:BR.Sub R p):PW o W h ρ O p a j:=⟨f,Co (A:=λ_=>False) b.wd (.cv b.wd.fresh c) (λb=>b) (λ_ _ _ b=>b),k _ _ b.rW,b.cv.trans c,b.low,b.own⟩
theorem PW.grown(b:PW o W h ρ O R w j)(a:dV):PW o W h ρ O R (w.alloc a) j:=b.on (dw w a) (b.known.grown a) (BR.Sub.refl R)
theorem xa{g c:Nat}(h:VR Xm.G U (.slice (ae ⟨g,k,af⟩) a2 c) (.slice (ae ⟨g,k,af⟩) a2 c)):U g g:=by cases h with|slice _ _ h=>exact h.1
theorem Cj{g:Nat}(h:VR Xm.G U (.pointer (ae ⟨g,k,af⟩)) (.pointer (ae ⟨g,k,af⟩))):U g g:=by cases h with|ptr h=>exact h.1
theorem rp(f:aI Xm O R w)(h:R k k)(b:w.cell? ⟨k,a2,af⟩=ae a7):VR Xm.G R a7 a7:=by
 obtain⟨j,a,c⟩:=sL f.wr h b;rw[b]at a;cases a;exact c
theorem PW.list(a:PW o W h ρ O R w j)(l:0<j.length):∃g cap,h=.slice (ae ⟨g,0,af⟩) j.length cap/\j.length<=cap/\R g g/\∀(i:Nat) t,j[i]?=ae t->w.cell? ⟨g,i*2,af⟩=ae (ptr t.1)/\w.cell? ⟨g,i*2+1,af⟩=ae (ptr t.2.1)/\R t.1 t.1/\R t.2.1 t.2.1:=by
 obtain⟨g,cap,e,c,p,f⟩:=a.wd.at l;have b:R g g:=by
  have:=rp a.known a.rW a.wd.tM;rw[e]at this;exact xa this
 refine⟨g,cap,e,c,b,λi t k=> ?_⟩;obtain⟨c1,c2⟩:=f i t k;exact⟨c1,c2,Cj (rp a.known b c1),Cj (rp a.known b c2)⟩
theorem PW.set(c:PW o W h ρ O R w j){i:Nat}{t:Nat×Nat×List KV}{u:List KV}(y:j[i]?=ae t)(l:Mv (qP i) ρ w b a)(H:Twin b i a t.1 t.2.1 u)(v:aI Xm s p a)(B:BR.Sub R p)(x:∀k,s k->O k\/w.heap.size<=k/\b k=200):PW o W h b s p a (j.set i (t.1,t.2.1,u)):=by
 refine⟨v,ar4 c.wd y l H,B _ _ c.rW,⟨bT c.cv.size l.size,λk f=> ?_,l.os.trans c.cv.os,l.output.trans c.cv.output⟩,λk f=>(l.agree k (dG f c.cv.size)).trans (c.low k f),λk f=> ?_⟩;·exact(l.block k (dG f c.cv.size) (by rw[c.low k f];exact λe=>e.elim (BH i) λe=>ag)).trans (c.cv.block k f)
 ·rcases x k f with r|r;·exact(l.agree k (c.known.low k r)).trans (c.own k r)
  ·exact r.2
structure fw(o:ak)(W:Nat)(h:au)(ρ:Nat->Nat)(O:Nat->Prop)(R:BR)(w:ak)(ps:List (Nat×Nat))(b:Nat->Nat)(s:Nat->Prop)(p:BR)(a:ak)(fq:TS):Prop where
 pw:PW o W h b s p a fq
 mv:Mv y3 ρ w b a
 sub:BR.Sub R p
 own:∀k,s k->O k\/w.heap.size<=k
 ps:fq.map pp=ps
theorem fw.refl(a:PW o W h ρ O R w j):fw o W h ρ O R w (j.map pp) ρ O R w j:=⟨a,.refl a.wd.fresh,BR.Sub.refl R,λk b=>.inl b,rfl⟩
theorem fw.trans{ps:List (Nat×Nat)}{a8 r:Nat->Nat}{b c:Nat->Prop}{f R2:BR}{w1 p:ak}{j l:TS}(a:fw o W h ρ O R w ps a8 b f w1 j)(k:fw o W h a8 b f w1 (j.map pp) r c R2 p l):fw o W h ρ O R w ps r c R2 p l:=⟨k.pw,a.mv.trans k.mv,a.sub.trans k.sub,λi t=>(k.own i t).elim (a.own i) λs=>.inr (bT a.mv.size s),k.ps.trans a.ps⟩
theorem fw.on{R0:BR}(b:PW o W h ρ O R w j)(c:aO w a)(l:aI Xm O p a)(f:BR.Sub R p):fw o W h ρ O R w (j.map pp) ρ O p a j:=⟨b.on c l f,.cv b.wd.fresh c,f,λk r=>.inl r,rfl⟩
theorem fw.len{ps:List (Nat×Nat)}{b:Nat->Prop}{a:TS}(c:fw o W h ρ O R w ps ai b U ad a):a.length=ps.length:=by rw[<-c.ps];simp
theorem fw.set(r:PW o W h ρ O R w j){i:Nat}{t:Nat×Nat×List KV}{l:List KV}(f:j[i]?=ae t)(v:Mv (qP i) ρ w b a)(H:Twin b i a t.1 t.2.1 l)(y:aI Xm s p a)(x:BR.Sub R p)(u:∀k,s k->O k\/w.heap.size<=k/\b k=200):fw o W h ρ O R w (j.map pp) b s p a (j.set i (t.1,t.2.1,l)):=⟨r.set f v H y x u,v.mono λc=>Zb (r.wd.lt f).2,x,λk B=>(u k B).imp id (·.1),LR j i t l f⟩
end
theorem U0:fO 13 Tryz.f13 ((Tryz.f13.body).getD .skip):=⟨aK0,ah,ah⟩
theorem U1:fO 14 Tryz.f14 ((Tryz.f14.body).getD .skip):=⟨aJ9,ah,ah⟩
theorem U2:fO 16 Tryz.f16 ((Tryz.f16.body).getD .skip):=⟨aJ8,ah,ah⟩
theorem U8:fO 37 Tryz.f37 ((Tryz.f37.body).getD .skip):=⟨aJ0,ah,ah⟩
theorem TZ:fO 12 Tryz.f12 ((Tryz.f12.body).getD .skip):=⟨aK1,ah,ah⟩
theorem U7:fO 33 Tryz.f33 ((Tryz.f33.body).getD .skip):=⟨P2,ah,ah⟩
theorem Ud:fO 57 Tryz.f57 ((Tryz.f57.body).getD .skip):=⟨OZ,ah,ah⟩
theorem U9:fO 41 Tryz.f41 ((Tryz.f41.body).getD .skip):=⟨P1,ah,ah⟩
theorem U6:fO 32 Tryz.f32 ((Tryz.f32.body).getD .skip):=⟨D9,ah,ah⟩
theorem U4:fO 29 Tryz.f29 ((Tryz.f29.body).getD .skip):=⟨aJ3,ah,ah⟩
theorem U5:fO 30 Tryz.f30 ((Tryz.f30.body).getD .skip):=⟨aJ2,ah,ah⟩
theorem U3:fO 20 Tryz.f20 ((Tryz.f20.body).getD .skip):=⟨aJ7,ah,ah⟩
theorem TY:fO 10 Tryz.f10 ((Tryz.f10.body).getD .skip):=⟨aK2,ah,ah⟩
theorem JC:fO 9 Tryz.f9 ((Tryz.f9.body).getD .skip):=⟨Pd,ah,ah⟩
theorem Ue:fO 8 Tryz.f8 ((Tryz.f8.body).getD .skip):=⟨aK9,ah,ah⟩
theorem kS(h:fj.contains k=aq):Xm.G k:=h
theorem kD(h:U k k):VR Xm.G U (ptr k) (ptr k):=.ptr ⟨h,rfl,rfl⟩
theorem Ck(b:U k k)(a:U a2 a2):VR Xm.G U (.agg #[ptr k,ptr a2]) (.agg #[ptr k,ptr a2]):=sK (iP (l:=[ptr k,ptr a2]) ⟨kD b,kD a,trivial⟩)
section
variable {a6:au->ak->Prop} {o w:ak} {W:Nat} {h:au} {ρ:Nat->Nat} {O:Nat->Prop} {R:BR} {j:TS} {i:Nat} {t:Nat×Nat×List KV}
def lU(o:ak)(W:Nat)(h:au)(ρ:Nat->Nat)(O:Nat->Prop)(R:BR)(w:ak)(ps:List (Nat×Nat)):au->(Nat->Prop)->BR->ak->Prop:=λv s p a=>v=.bool aq/\∃b c,fw o W h ρ O R w ps b s p a c
theorem iD{f:bW}{j:Array au}{K b:au->(Nat->Prop)->BR->ak->Prop}(h:MC a6 f j O w K)(o:∀v s p a,K v s p a->b v s p a):MC a6 f j O w b:=λc k r=>h c k λv s p a l=>r v s p a (o v s p a l)
theorem Fb{i:Nat}{b:Nat->Nat}{a:ak}(h:Mv (Part i) ai ad b a):Mv (qP i) ai ad b a:=h.mono λ_=>.inl
theorem Y3(c:PW o W h ρ O R w j)(H:0<j.length)(x:j[i]?=ae t){v:Int}(y:N.size<=9223372036854775807):MC a6 16 #[.agg #[ptr t.1,ptr t.2.1],.string N,.int .i64 v] O w (lU o W h ρ O R w (j.map pp)):=by
 obtain⟨g,cap,e,_,hg,a1⟩:=c.list H;obtain⟨_,_,hx,U⟩:=a1 i t x;refine iD (kT (R:=R) (Post1:=λu a=>u=.bool aq/\∃b,Mv (Part i) ρ w b a/\Twin b i a t.1 t.2.1 (iE N v t.2.2)) U2 (kS bc) c.known (iP (l:=[.agg #[ptr t.1,ptr t.2.1],.string N,.int .i64 v]) ⟨Ck hx U,.string _,.int _ _,trivial⟩) (λu a l d ⟨k,b,f,r⟩=>⟨k,b,f.re l d,rG (A:=λ_=>False) r (Mv.cv f.fresh ((aO.refl a).re l d)) (λc=>c) (λ_ _ c=>c)⟩) (λl=> ?_)) λu s p a hu=> ?_
 ·have Z:Twin ρ i (Sim.re w l 0) t.1 t.2.1 t.2.2:=rG (A:=λ_=>False) (c.wd.tw i t x) (Mv.cv c.wd.fresh ((aO.refl w).re l 0)) (λc=>c) (λ_ _ c=>c);refine(Na Z c.wd.fresh y).mono ?_;rintro e a ⟨rfl,b,k,f⟩;exact⟨_,rfl,rfl,b,.of k,f⟩
 ·obtain⟨rfl,⟨rfl,b,k,f⟩,r,_,B,_⟩:=hu;exact⟨rfl,b,_,.set c x (Fb k) f r B λa2 y=>.inl y⟩
theorem Y8(c:PW o W h ρ O R w j)(H:0<j.length)(x:j[i]?=ae t)(y:N.size<=9223372036854775807):MC a6 37 #[.agg #[ptr t.1,ptr t.2.1],.string N] O w (lU o W h ρ O R w (j.map pp)):=by
 obtain⟨g,cap,e,_,hg,a1⟩:=c.list H;obtain⟨_,_,hx,U⟩:=a1 i t x;refine iD (kT (R:=R) (Post1:=λu a=>u=.bool aq/\∃b k,Mv (Part i) ρ w b a/\Twin b i a t.1 t.2.1 k) U8 (kS bc) c.known (iP (l:=[.agg #[ptr t.1,ptr t.2.1],.string N]) ⟨Ck hx U,.string _,trivial⟩) (λu a r d ⟨l,b,k,f,v⟩=>⟨l,b,k,f.re r d,rG (A:=λ_=>False) v (Mv.cv f.fresh ((aO.refl a).re r d)) (λc=>c) (λ_ _ c=>c)⟩) (λr=> ?_)) λu s p a hu=> ?_
 ·have Z:Twin ρ i (Sim.re w r 0) t.1 t.2.1 t.2.2:=rG (A:=λ_=>False) (c.wd.tw i t x) (Mv.cv c.wd.fresh ((aO.refl w).re r 0)) (λc=>c) (λ_ _ c=>c);refine(ao3 Z c.wd.fresh y).mono ?_;rintro e a ⟨rfl,b,k,l,f⟩;exact⟨_,rfl,rfl,b,k,.of l,f⟩
 ·obtain⟨rfl,⟨rfl,b,k,l,f⟩,v,_,B,_⟩:=hu;exact⟨rfl,b,_,.set c x (Fb l) f v B λa2 y=>.inl y⟩
theorem KY(b:PW o W h ρ O R w j)(y:0<j.length)(k:j[i]?=ae t)(x:N.size<=9223372036854775807):MC a6 13 #[.agg #[ptr t.1,ptr t.2.1],.string N] O w (λu s p a=>u=.bool aq/\s=O/\aO w a/\aI Xm O p a/\BR.Sub R p):=by
 obtain⟨g,cap,e,_,hg,U⟩:=b.list y;obtain⟨_,_,hx,B⟩:=U i t k;refine iD (kT (R:=R) (Post1:=λu a=>u=.bool aq/\aO w a) U0 (kS bc) b.known (iP (l:=[.agg #[ptr t.1,ptr t.2.1],.string N]) ⟨Ck hx B,.string _,trivial⟩) (λu a f d ⟨c,l⟩=>⟨c,l.re f d⟩) (λf=> ?_)) λu s p a Z=> ?_
 ·have H:Twin ρ i (Sim.re w f 0) t.1 t.2.1 t.2.2:=rG (A:=λ_=>False) (b.wd.tw i t k) (Mv.cv b.wd.fresh ((aO.refl w).re f 0)) (λb=>b) (λ_ _ b=>b);refine(ao2 H b.wd.fresh x).mono ?_;rintro e a ⟨rfl,c⟩;exact⟨_,rfl,rfl,.of c⟩
 ·obtain⟨rfl,⟨rfl,c⟩,r,_,v,_⟩:=Z;exact⟨rfl,rfl,c,r,v⟩
theorem F1(b:PW o W h ρ O R w j)(x:0<j.length)(k:j[i]?=ae t):MC a6 14 #[.agg #[ptr t.1,ptr t.2.1]] O w (λu s p a=>u=.bool aq/\s=O/\aO w a/\aI Xm O p a/\BR.Sub R p):=by
 obtain⟨g,cap,e,_,Z,H⟩:=b.list x;obtain⟨_,_,U,y⟩:=H i t k;refine iD (kT (R:=R) (Post1:=λu a=>u=.bool aq/\aO w a) U1 (kS bc) b.known (iP (l:=[.agg #[ptr t.1,ptr t.2.1]]) ⟨Ck U y,trivial⟩) (λu a f d ⟨c,l⟩=>⟨c,l.re f d⟩) (λf=> ?_)) λu s p a N=> ?_
 ·have B:Twin ρ i (Sim.re w f 0) t.1 t.2.1 t.2.2:=rG (A:=λ_=>False) (b.wd.tw i t k) (Mv.cv b.wd.fresh ((aO.refl w).re f 0)) (λb=>b) (λ_ _ b=>b);refine(ap1 B b.wd.fresh).mono ?_;rintro e a ⟨rfl,c⟩;exact⟨_,rfl,rfl,.of c⟩
 ·obtain⟨rfl,⟨rfl,c⟩,r,_,v,_⟩:=N;exact⟨rfl,rfl,c,r,v⟩
end
