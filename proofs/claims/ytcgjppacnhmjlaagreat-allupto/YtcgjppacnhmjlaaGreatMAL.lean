/- Own texts: TwinH, TwinI, TwinJ, RefV. -/
import Derived.Test.YtcgjppacnhmjlaaGreatMAK
import Derived.Test.YtcgjppacnhmjlaaGreatMAJ
import Derived.Test.YtcgjppacnhmjlaaGreatMZ
set_option linter.all false
set_option maxRecDepth 100000
set_option maxHeartbeats 2000000
open Bool renaming true->aq,false->ax,false_eq_true->dx,not_false->CQ,not_true->aD7
open Go renaming World->ak,Value->au,cell_later->aS,Calls->aE,TypeId->aK,heap_alloc_new->cY,maxLen->cE,info_parts->nF,wpList_append_lies->CI
open Go.Ending renaming returned->sX
open Go.Op renaming bytesLess->dt
open Go.Proofs.Tryz renaming prog->aj,underlying34->CG,ntmps47->aF6,func47->aI8,func30->aJ2,func29->aJ3,func8->aK9
open Go.RowKit renaming Below->aA,Hid->aB
open Go.RowKit.Below renaming refl->cD,grown->pI
open Go.Value renaming ownBlock->fX,slice->iM,oneCell'->qF
open Go.World renaming cell?->bL,news_of_block->qA,ownsRow_nil->CB
open Go.World.ownsRow renaming alloc->Cw
open List renaming getElem?_eq_getElem->bf,mem_of_getElem?->cG,take_of_length_le->fU,length_append->gJ,length_filter_le->mB,append_nil->og,filter_append->uV
open Nat renaming le_refl->aL,zero_le->fL
open Option renaming some->ae,none->af
namespace Go.Proofs.YtcgjppacnhmjlaaGreat
open Go.RowKit
variable {j:Nat->Nat} {a k:ak} {c l o p r:Nat} {f:Int} {h:au} {b:List KV}
section
attribute [local go_sem↓] Go.wp_at_zero Go.wp_at_succ
def Bj:Obj:=.cells #[.string ⟨#[97,98,100]⟩,.string ⟨#[]⟩,.string ⟨#[97,98,99]⟩,.string ⟨#[97]⟩] 9
structure B4(ρ:Nat->Nat)(w:ak)(W:Nat)(bZ:Int)(av:au)(x r tb lb i:Nat)(wr:ak):Prop where
 ex:∃ρ',dM NZ ρ w ρ' wr/\Wd ρ' wr W bZ av [(x,r,uz i)]/\ρ' tb=0/\ρ' lb=0
 x4:wr.heap[tb]?=ae (jC x r)
 vW:wr.heap[lb]?=ae Bj
theorem B4.on{o:Nat->Nat}{w wr l:ak}{W:Nat}{c:Int}{b:au}{x r k j i:Nat}(h:B4 o w W c b x r k j i wr)(a:aA wr.heap.size wr l):B4 o w W c b x r k j i l:=by
 obtain⟨u,p,f,s,t⟩:=h.ex;exact⟨⟨u,p.trans (dM.jQ f.fresh a),f.on a,s,t⟩,(a.block _ (cJ h.x4)).trans h.x4,(a.block _ (cJ h.vW)).trans h.vW⟩
theorem B4.cells{p:Nat->Nat}{w wr:ak}{W:Nat}{l:Int}{k:au}{x r c f i:Nat}(h:B4 p w W l k x r c f i wr)(j:Nat)(s:j<4):wr.cell? ⟨c,0,af⟩=ae (.pointer (ae ⟨x,0,af⟩))/\wr.cell? ⟨c,1,af⟩=ae (.pointer (ae ⟨r,0,af⟩))/\wr.cell? ⟨f,j,af⟩=ae (.string (sw j)):=by
 obtain⟨a,b⟩:=ap3 h.x4;refine⟨a,b,?_⟩;have o:=h.vW;have:j=0\/j=1\/j=2\/j=3:=ag;rcases this with rfl|rfl|rfl|rfl<;>simp[bL,o,Bj,sw]
theorem Vu(j:Nat):(sw j).size<=64:=by
 unfold sw;split<;>decide
theorem B4.put{i:Nat}(b:B4 j a c f h l o p r i k):aE aj 16 #[.agg #[.pointer (ae ⟨l,0,af⟩),.pointer (ae ⟨o,0,af⟩)],.string (sw i),.int .i64 i] k λe v=>e=.returned (.bool aq)/\B4 j a c f h l o p r (i+1) v:=by
 obtain⟨N,B,u,w,x⟩:=b.ex;refine(Na (u.tw 0 _ rfl) u.fresh (by have:=Vu i;omega)).mono ?_;rintro e v ⟨rfl,R,m,t⟩;have y:∀s,s<k.heap.size->N s=0->v.heap[s]?=k.heap[s]?:=λs H e=>m.block s H (by rw[e];exact BH 0);exact⟨rfl,⟨R,B.trans (m.nz ag),u.set (i:=0) rfl m t,(m.agree _ (cJ b.x4)).trans w,(m.agree _ (cJ b.vW)).trans x⟩,(y _ (cJ b.x4) w).trans b.x4,(y _ (cJ b.vW) x).trans b.vW⟩
theorem B4.get(b:B4 j a c f h l o p r 4 k):aE aj 17 #[.pointer (ae ⟨l,0,af⟩),.string ⟨#[97,98,99]⟩] k λe s=>e=.returned (.tuple #[.int .i64 2,.bool aq])/\B4 j a c f h l o p r 4 s:=by
 obtain⟨y,v,t,w,x⟩:=b.ex;refine(Kc (t.tw 0 _ rfl).ix bc).mono ?_;rintro e s ⟨rfl,u⟩;refine⟨?_,b.on u⟩;show sX (.tuple #[.int .i64 (gm (lk [97,98,99] (uz 4))),.bool (lk [97,98,99] (uz 4)).isSome])=_;rw[VO];rfl
theorem B4.shape{l:Nat->Nat}{w wr:ak}{W:Nat}{b:Int}{a:au}{x r j f:Nat}(h:B4 l w W b a x r j f 4 wr):aE aj 18 #[.pointer (ae ⟨x,0,af⟩)] wr λe k=>e=.returned (.agg #[.int .i64 2,.int .i64 3,.int .i64 0,.int .i64 0,.int .i64 0,.int .i64 4])/\B4 l w W b a x r j f 4 k:=by
 obtain⟨B,u,o,v,y⟩:=h.ex;obtain⟨c,g,t,s⟩:=Eu (o.tw 0 _ rfl).ix;obtain⟨rfl,rfl⟩:=t.uniq ak9;refine s.mono ?_;rintro e k ⟨rfl,p⟩;exact⟨rfl,h.on p⟩
theorem Qf(h:Wd j a c f (.slice af 0 0) []):aE aj 8 #[.pointer (ae ⟨c,0,af⟩),.int .i64 f] a λe k=>e=.returned (.bool aq)/\∃l B ai,dM NZ j a l k/\Wd l k c f B [ai]:=by
 have a6:aB (aE aj 10 #[] a λe k=>e=.returned (.pointer (ae ⟨a.heap.size,0,af⟩))/\k=a.alloc nY):=Fe a;have HAdd:aB (aE aj 9 #[.pointer (ae ⟨c,0,af⟩),.pointer (ae ⟨a.heap.size,0,af⟩),.pointer (ae ⟨a.heap.size+1,0,af⟩)] ((a.alloc nY).alloc jf) λe k=>e=.returned (.bool aq)/\∃g cap,aB (∃l,dM NZ j a l k/\Wd l k c f (.slice (ae ⟨g,0,af⟩) 1 cap) [(a.heap.size,a.heap.size+1,[])])/\1<=cap/\k.cell? ⟨c,0,af⟩=ae (.slice (ae ⟨g,0,af⟩) 1 cap)/\k.cell? ⟨g,0,af⟩=ae (.pointer (ae ⟨a.heap.size,0,af⟩))/\k.cell? ⟨g,1,af⟩=ae (.pointer (ae ⟨a.heap.size+1,0,af⟩))):=by
  obtain⟨an,m1,o,t1⟩:=Uk h;refine(Ip o t1 az).mono ?_;rintro e k ⟨rfl,l,B,m2,w⟩;obtain⟨g,cap,rfl,W,_,ad⟩:=w.at az;obtain⟨a7,a8⟩:=ad 0 _ rfl;exact⟨rfl,g,cap,⟨l,m1.trans m2,w⟩,W,w.tM,a7,a8⟩
 clear h;have e1:∀o:ak,o.alloc (.cells #[.slice af 0 0] 36)=o.alloc jf:=λ_=>rfl;have e2:∀(o:ak) (a1 r:Nat),o.alloc (.cells #[.pointer (ae ⟨a1,0,af⟩),.pointer (ae ⟨r,0,af⟩)] 42)=o.alloc (jC a1 r):=λ_ _ _=>rfl;have e3:∀o:ak,o.alloc (.cells #[.string ⟨#[97,98,100]⟩,.string ⟨#[]⟩,.string ⟨#[97,98,99]⟩,.string ⟨#[97]⟩] 9)=o.alloc Bj:=λ_=>rfl
 go_enter aK9,Tryz.ntmps8
 go_wp2_with (first
  |(go_at_call 10;refine a6.out.mono ?_;rintro e o ⟨rfl,rfl⟩)
  |(go_at_call 9;refine HAdd.out.mono ?_;rintro e b ⟨rfl,g,cap,y,W,aa,ab,ac⟩))
 go_loopg [9,10] 4 (λgk s9 am wr=>∃i:Nat,s9=.int .i64 i/\i<=4/\gk=4-i/\aB (B4 j a c f (.slice (ae ⟨g,0,af⟩) 1 cap) a.heap.size (a.heap.size+1) b.heap.size (b.heap.size+1) i wr))
 case atStart=>
  refine⟨0,rfl,ag,rfl,?_⟩;obtain⟨l,m,s⟩:=y.out;have U:aA b.heap.size b ((b.alloc (jC a.heap.size (a.heap.size+1))).alloc Bj):=(cH b _).alloc (cH b _).size _;exact⟨⟨l,m.trans (dM.jQ s.fresh U),s.on U,s.fresh _ (aL _),s.fresh _ ag⟩,yS b _ _,Ff b _ _⟩
 case round=>
  obtain⟨i,rfl,hi,rfl,t⟩:=hrel;clear y aa ab ac;by_cases Z:i<4
  ·have al:(i:Int)<4:=ag;obtain⟨d0,d1,d2⟩:=t.out.cells i Z;have HS:aB (∀i wr,B4 j a c f (.slice (ae ⟨g,0,af⟩) 1 cap) a.heap.size (a.heap.size+1) b.heap.size (b.heap.size+1) i wr->∀p,p<4->wr.cell? ⟨b.heap.size,0,af⟩=ae (.pointer (ae ⟨a.heap.size,0,af⟩))/\wr.cell? ⟨b.heap.size,1,af⟩=ae (.pointer (ae ⟨a.heap.size+1,0,af⟩))/\wr.cell? ⟨b.heap.size+1,p,af⟩=ae (.string (sw p))):=λi wr h p hj=>h.cells p hj
   go_wp2_with fail
   go_region_held3 (λk=>k.cell? ⟨b.heap.size,0,af⟩=ae (.pointer (ae ⟨a.heap.size,0,af⟩))/\k.cell? ⟨b.heap.size,1,af⟩=ae (.pointer (ae ⟨a.heap.size+1,0,af⟩))/\k.cell? ⟨b.heap.size+1,i,af⟩=ae (.string (sw i))) (first|exact⟨d0,d1,d2⟩|exact HS.out _ _ H i Z|go_keep) ((go_at_call 16;refine((t.out.on ((cD _ _).drew)).put).mono ?_;rintro e w6 ⟨rfl,H⟩))
   go_wp2_with fail
   go_roundg (4-(i+1))
   case measure=>omega
   case rel=>exact⟨i+1,by go_num,ag,rfl,H⟩
  ·obtain rfl:i=4:=ag
   go_wp2_with (first
    |(go_at_call 17;refine t.out.get.mono ?_;rintro e w7 ⟨rfl,N⟩;have x:aB (B4 j a c f (.slice (ae ⟨g,0,af⟩) 1 cap) a.heap.size (a.heap.size+1) b.heap.size (b.heap.size+1) 4 w7):=N;clear N)
    |(go_at_call 18;refine x.out.shape.mono ?_;rintro e w8 ⟨rfl,R⟩;have a2:aB (B4 j a c f (.slice (ae ⟨g,0,af⟩) 1 cap) a.heap.size (a.heap.size+1) b.heap.size (b.heap.size+1) 4 w8):=R;clear R))
   all_goals go_ret
   ·obtain⟨l,u,v,_⟩:=(a2.out.on (cH w8 _)).ex;exact⟨rfl,l,_,_,u,v⟩
   ·obtain⟨l,u,v,_⟩:=x.out.ex;exact⟨rfl,l,_,_,u,v⟩
def wdB(a:Int):Obj:=.cells #[.slice af 0 0,.int .i64 a] 28
theorem ar3(w:ak)(a:Int):Wd (λk=>if k=w.heap.size then 100 else 0) (w.alloc (wdB a)) w.heap.size a (.slice af 0 0) []:=⟨cY w _,if_pos rfl,CB _ _ _ _,λg e=>by simp[fX]at e,λi t h=>by simp at h,λk b=>if_neg (by simp at b;omega),az⟩
theorem LH{e:aK}{n:Nat}{p:List au}(j:a.ownsRow c e l h n p)(w:aA a.heap.size a k):k.ownsRow c e l h n p:=by
 have x:=j.lt;obtain⟨o,b|⟨f,r,s,b,t,u,v⟩⟩:=j;·exact⟨o,.inl b⟩
 ·exact⟨o,.inr ⟨f,r,s,b,t,(w.block f (x f (by rw[b];rfl)).2).trans u,v⟩⟩
theorem Ju(f:KV->Bool)(l:List KV)(j:Nat)(e:KV)(h:l[j]?=ae e):(l.take (j+1)).filter f=(l.take j).filter f++(if f e=aq then[e]else[]):=by
 rw[Cc l j e h,uV];cases a:f e<;>simp[a]
def tH(w:ak)(v:au)(ps:List KV)(wr:ak):Prop:=wr.ownsRow w.heap.size 46 2 v ps.length (flat ps)/\aA w.heap.size w wr
theorem ah8(H:bQ a c h b)(k o:ByteArray)(hf:k.size<=9223372036854775807)(ht:o.size<=9223372036854775807):aE aj 29 #[.pointer (ae ⟨c,0,af⟩),.string k,.string o] a λe r=>∃a1,e=.returned a1/\tH a a1 (cO k.data.toList o.data.toList b) r:=by
 obtain⟨i0,ad,ai,al,am⟩:=nF Ex;have aR:=H.cI;have HH:aB (bQ a c h b):=H;obtain⟨ao,cap,a6⟩:∃ao cap,h=.slice ao b.length cap:=by
  rcases H.cases with⟨rfl,rfl⟩|⟨g,cap,rfl,hp,hc⟩;·exact⟨_,_,rfl⟩
  ·exact⟨_,_,rfl⟩
 subst a6;clear H
 go_enter aJ3,Tryz.ntmps29
 go_wp2
 go_loopg [7,8] b.length (λgk a1 i wr=>∃j:Nat,j<=b.length/\gk+j=b.length/\i=.int .i64 j/\aB (tH a a1 (cO k.data.toList o.data.toList (b.take j)) wr))
 case atStart=>exact⟨0,fL _,ag,rfl,CB _ _ _ _,cD _ _⟩
 case round=>
  obtain⟨j,hj,hg,rfl,B⟩:=hrel;have aa:=(HH.out.on B.out.2).cell;by_cases h1:j<b.length
  ·obtain⟨e,R⟩:∃e,b[j]?=ae e:=⟨b[j],bf h1⟩;obtain⟨g,a2,a6,hp,aQ⟩:∃g a2,iM ao b.length cap=.slice (ae ⟨g,0,af⟩) b.length a2/\oJ wr g b/\b.length<=a2:=by
    rcases(HH.out.on B.out.2).cases with⟨rfl,_⟩|H;·simp at h1
    ·exact H
   cases a6;obtain⟨c1,c2⟩:=hp j e R;have U:aB (∀(s:ByteArray) f,s.size<=9223372036854775807->aE aj 46 #[.string (keyOf e),.string s] f λp r=>p=.returned (.bool (dt e.1 s.data.toList))/\∃n,r=f.drewN n):=λs f u=>by
    have W:(keyOf e).size<=9223372036854775807:=by
     have:=HH.out.short e (cG R);rw[rm];omega
    have:=KF (keyOf e) s f W u;rw[ud]at this;exact this
   have l:aB (cO k.data.toList o.data.toList (b.take (j+1))=cO k.data.toList o.data.toList (b.take j)++(if yu k.data.toList o.data.toList e.1=aq then[e]else[])):=Ju _ b j e R;have aP:(cO k.data.toList o.data.toList (b.take j)).length<=3000:=by
    have h4:(cO k.data.toList o.data.toList (b.take j)).length<=(b.take j).length:=mB _ _;simp at h4;omega
   have aF:(j:Int)<(b.length:Int):=ag;clear R hp;obtain⟨m,hm⟩:∃m,(cO k.data.toList o.data.toList (b.take j)).length=m:=⟨_,rfl⟩;have HM:aB ((cO k.data.toList o.data.toList (b.take j)).length=m):=hm;have hO:=B.out;unfold tH at hO;rw[hm]at aP hO;have v:aB (wr.ownsRow a.heap.size 46 2 _ m (flat (cO k.data.toList o.data.toList (b.take j)))/\aA a.heap.size a wr):=hO;clear hm hO;unfold yu at l;cases N:dt e.1 k.data.toList with
   |true=>
    rw[N]at l;simp only[aD7,Bool.false_and,dx,if_false,og]at l;have x:=U.out k;rw[N]at x;have an:aB (∀f,aE aj 46 #[.string (keyOf e),.string k] f λp r=>p=.returned (.bool aq)/\∃n,r=f.drewN n):=λf=>x f hf;clear x U
    go_wp2_with (go_at_call 46;refine(an.out _).mono ?_;rintro p r ⟨rfl,n,rfl⟩)
    go_roundg (gk-1)
    case measure=>omega
    case rel=>exact⟨j+1,ag,ag,by go_num,by rw[l.out];exact B.out.1,kr B.out.2 _⟩
   |false=>
    rw[N]at l;simp only[CQ,Bool.true_and]at l;have x:=U.out k;rw[N]at x;have ac:aB (∀f,aE aj 46 #[.string (keyOf e),.string k] f λp r=>p=.returned (.bool ax)/\∃n,r=f.drewN n):=λf=>x f hf;clear x;cases h2:o.toList.isEmpty with
    |true=>
     rw[<-Jd,h2]at l;simp only[Bool.true_or,if_true]at l
     go_wp2_with (first
      |(go_at_call 46;refine(ac.out _).mono ?_;rintro p r ⟨rfl,n,rfl⟩)
      |(at_builtin;refine CI _ rfl _ _ _ rfl a.heap.size 46 i0 (.agg #[.string ⟨#[]⟩,.int .i64 0]) 2 24 CG ad ai al am rfl ag _ m _ rfl (Cw (w:=wr.drewN n) v.out.1 _) ⟨wr.heap.size,0,af⟩ 1 1 [.string (keyOf e),.int .i64 e.2] rfl rfl (qA (cs:= #[.string (keyOf e),.int .i64 e.2]) (t:=46) (fr:=(0,0)) (cY (wr.drewN n) _)) (by simp[qF]) ag (by unfold cE;omega) ag (by have:=v.out.2.size;simp;omega) _ rfl ?_;intro g2 ap f a8 a7 ar aJ))
     go_roundg (gk-1)
     case measure=>omega
     case rel=>exact⟨j+1,ag,ag,by go_num,by rw[l.out,AU,gJ,HM.out];exact a8,pI ((kr v.out.2 n).alloc (by have:=v.out.2.size;simpa using this) _) a7 (by have:=v.out.2.size;simp;omega) (λ_ W=>uw v.out.1 W)⟩
    |false=>
     rw[<-Jd,h2]at l;simp only[Bool.false_or]at l;have y:aB (∀f,aA wr.heap.size wr f->f.cell? ⟨g,j*2,af⟩=ae (.string (keyOf e))/\f.cell? ⟨g,j*2+1,af⟩=ae (.int .i64 e.2)/\f.cell? ⟨c,0,af⟩=ae (.slice (ae ⟨g,0,af⟩) b.length cap)):=λf u=>⟨aS u c1,aS u c2,aS u aa⟩;have HQ:aB (∀f,aA wr.heap.size wr f->f.ownsRow a.heap.size 46 2 _ m (flat (cO k.data.toList o.data.toList (b.take j)))/\aA a.heap.size a f):=λf u=>⟨LH v.out.1 u,v.out.2.trans (u.mono v.out.2.size)⟩;have ab:aB (∀(s:ByteArray) f,aA wr.heap.size wr f->s.size<=9223372036854775807->aE aj 46 #[.string (keyOf e),.string s] f λp r=>p=.returned (.bool (dt e.1 s.data.toList))/\aA wr.heap.size wr r):=λs f u av=>(U.out s f av).mono λp r R=>by obtain⟨h4,n,rfl⟩:=R;exact⟨h4,kr u n⟩
     clear U ac;cases Z:dt e.1 o.data.toList with
     |true=>
      rw[Z]at l;simp only[if_true]at l
      go_wp2_with (first
       |(go_at_call 46;refine(ab.out _ _ (by first|exact cD _ _|exact t) (by assumption)).mono ?_;rintro p w2 ⟨rfl,t⟩;(first|rw[N]|rw[Z]);have c1:=(y.out _ t).1;have c2:=(y.out _ t).2.1;have aa:=(y.out _ t).2.2;have w:aB _:=HQ.out _ t)
       |(at_builtin;refine CI _ rfl _ _ _ rfl a.heap.size 46 i0 (.agg #[.string ⟨#[]⟩,.int .i64 0]) 2 24 CG ad ai al am rfl ag _ m _ rfl (Cw (w:=w2) w.out.1 _) ⟨w2.heap.size,0,af⟩ 1 1 [.string (keyOf e),.int .i64 e.2] rfl rfl (qA (cs:= #[.string (keyOf e),.int .i64 e.2]) (t:=46) (fr:=(0,0)) (cY w2 _)) (by simp[qF]) ag (by unfold cE;omega) ag (by have:=w.out.2.size;simp;omega) _ rfl ?_;intro g2 ap f a8 a7 ar aJ))
      go_roundg (gk-1)
      case measure=>omega
      case rel=>exact⟨j+1,ag,ag,by go_num,by rw[l.out,AU,gJ,HM.out];exact a8,pI (w.out.2.alloc w.out.2.size _) a7 (by have:=w.out.2.size;simp;omega) (λ_ W=>uw w.out.1 W)⟩
     |false=>
      rw[Z]at l;simp only[dx,if_false,og]at l
      go_wp2_with (go_at_call 46;refine(ab.out _ _ (by first|exact cD _ _|exact t) (by assumption)).mono ?_;rintro p w2 ⟨rfl,t⟩;(first|rw[N]|rw[Z]);have c1:=(y.out _ t).1;have c2:=(y.out _ t).2.1;have aa:=(y.out _ t).2.2;have w:aB _:=HQ.out _ t)
      go_roundg (gk-1)
      case measure=>omega
      case rel=>exact⟨j+1,ag,ag,by go_num,by rw[l.out,HM.out];exact w.out.1,w.out.2⟩
  ·have ej:j=b.length:=ag;have hE:=B.out;rw[ej,fU (aL _)]at hE;have HE:aB _:=hE;clear hE;have aF:¬(j:Int)<(b.length:Int):=ag
   go_wp2
   go_ret
   exact⟨_,rfl,HE.out⟩
theorem IC(s p:ByteArray)(w:ak)(f:s.size<=9223372036854775807)(c:p.size<=9223372036854775807):aE aj 47 #[.string s,.string p] w λe b=>e=.returned (.bool (me p.data.toList s.data.toList))/\b=w:=by
 by_cases h:p.size<=s.size
 ·have a:(p.size:Int)<=(s.size:Int):=ag
  go_enter aI8,aF6
  go_wp2
  go_ret
  exact⟨uF (K8 s p h),rfl⟩
 ·have a:¬(p.size:Int)<=(s.size:Int):=ag
  go_enter aI8,aF6
  go_wp2
  go_ret
  exact⟨uF (K9 s p h),rfl⟩
theorem ah3(y:bQ a c h b)(p:ByteArray)(hp:p.size<=9223372036854775807):aE aj 30 #[.pointer (ae ⟨c,0,af⟩),.string p] a λe u=>∃v,e=.returned v/\tH a v (eA p.data.toList b) u:=by
 obtain⟨i0,ab,al,am,an⟩:=nF Ex;have aF:=y.cI;have U:aB (bQ a c h b):=y;obtain⟨ao,cap,a2⟩:∃ao cap,h=.slice ao b.length cap:=by
  rcases y.cases with⟨rfl,rfl⟩|⟨g,cap,rfl,hp,hc⟩;·exact⟨_,_,rfl⟩
  ·exact⟨_,_,rfl⟩
 subst a2;clear y
 go_enter aJ2,Tryz.ntmps30
 go_wp2
 go_loopg [5,6] b.length (λgk v i wr=>∃j:Nat,j<=b.length/\gk+j=b.length/\i=.int .i64 j/\aB (tH a v (eA p.data.toList (b.take j)) wr))
 case atStart=>exact⟨0,fL _,ag,rfl,CB _ _ _ _,cD _ _⟩
 case round=>
  obtain⟨j,hj,hg,rfl,B⟩:=hrel;have a6:=(U.out.on B.out.2).cell;by_cases h1:j<b.length
  ·obtain⟨e,r⟩:∃e,b[j]?=ae e:=⟨b[j],bf h1⟩;obtain⟨g,a1,a2,a8,av⟩:∃g a1,iM ao b.length cap=.slice (ae ⟨g,0,af⟩) b.length a1/\oJ wr g b/\b.length<=a1:=by
    rcases(U.out.on B.out.2).cases with⟨rfl,_⟩|y;·simp at h1
    ·exact y
   cases a2;obtain⟨c1,c2⟩:=a8 j e r;have a7:(keyOf e).size<=9223372036854775807:=by
    have:=U.out.short e (cG r);rw[rm];omega
   have x:aB (eA p.data.toList (b.take (j+1))=eA p.data.toList (b.take j)++(if me p.data.toList e.1=aq then[e]else[])):=Ju _ b j e r;have ad:(eA p.data.toList (b.take j)).length<=3000:=by
    have t:(eA p.data.toList (b.take j)).length<=(b.take j).length:=mB _ _;simp at t;omega
   have ac:(j:Int)<(b.length:Int):=ag;clear r a8;obtain⟨m,hm⟩:∃m,(eA p.data.toList (b.take j)).length=m:=⟨_,rfl⟩;have HM:aB ((eA p.data.toList (b.take j)).length=m):=hm;have N:=B.out;unfold tH at N;rw[hm]at ad N;have Z:aB (wr.ownsRow a.heap.size 46 2 _ m (flat (eA p.data.toList (b.take j)))/\aA a.heap.size a wr):=N;clear hm N;have w:aB (∀f,aA wr.heap.size wr f->f.cell? ⟨g,j*2,af⟩=ae (.string (keyOf e))/\f.cell? ⟨g,j*2+1,af⟩=ae (.int .i64 e.2)/\f.cell? ⟨c,0,af⟩=ae (.slice (ae ⟨g,0,af⟩) b.length cap)):=λf k=>⟨aS k c1,aS k c2,aS k a6⟩;have HQ:aB (∀f,aA wr.heap.size wr f->f.ownsRow a.heap.size 46 2 _ m (flat (eA p.data.toList (b.take j)))/\aA a.heap.size a f):=λf k=>⟨LH Z.out.1 k,Z.out.2.trans (k.mono Z.out.2.size)⟩;cases H:me p.data.toList e.1 with
   |true=>
    rw[H]at x;simp only[if_true]at x;have W:aB (∀f,aA wr.heap.size wr f->aE aj 47 #[.string (keyOf e),.string p] f λs u=>s=.returned (.bool aq)/\aA wr.heap.size wr u):=λf k=>(IC (keyOf e) p f a7 hp).mono λs u r=>by
     obtain⟨t,rfl⟩:=r;rw[ud,H]at t;exact⟨t,k⟩
    go_wp2_with (first
     |(go_at_call 47;refine(W.out _ (cD _ _)).mono ?_;rintro s R ⟨rfl,o⟩;have c1:=(w.out _ o).1;have c2:=(w.out _ o).2.1;have a6:=(w.out _ o).2.2;have l:aB _:=HQ.out _ o)
     |(at_builtin;refine CI _ rfl _ _ _ rfl a.heap.size 46 i0 (.agg #[.string ⟨#[]⟩,.int .i64 0]) 2 24 CG ab al am an rfl ag _ m _ rfl (Cw (w:=R) l.out.1 _) ⟨R.heap.size,0,af⟩ 1 1 [.string (keyOf e),.int .i64 e.2] rfl rfl (qA (cs:= #[.string (keyOf e),.int .i64 e.2]) (t:=46) (fr:=(0,0)) (cY R _)) (by simp[qF]) ag (by unfold cE;omega) ag (by have:=l.out.2.size;simp;omega) _ rfl ?_;intro g2 ap f ai aa ar aJ))
    go_roundg (gk-1)
    case measure=>omega
    case rel=>exact⟨j+1,ag,ag,by go_num,by rw[x.out,AU,gJ,HM.out];exact ai,pI (l.out.2.alloc l.out.2.size _) aa (by have:=l.out.2.size;simp;omega) (λ_ hk=>uw l.out.1 hk)⟩
   |false=>
    rw[H]at x;simp only[dx,if_false,og]at x;have W:aB (∀f,aA wr.heap.size wr f->aE aj 47 #[.string (keyOf e),.string p] f λs u=>s=.returned (.bool ax)/\aA wr.heap.size wr u):=λf k=>(IC (keyOf e) p f a7 hp).mono λs u r=>by
     obtain⟨t,rfl⟩:=r;rw[ud,H]at t;exact⟨t,k⟩
    go_wp2_with (go_at_call 47;refine(W.out _ (cD _ _)).mono ?_;rintro s R ⟨rfl,o⟩;have c1:=(w.out _ o).1;have c2:=(w.out _ o).2.1;have a6:=(w.out _ o).2.2;have l:aB _:=HQ.out _ o)
    go_roundg (gk-1)
    case measure=>omega
    case rel=>exact⟨j+1,ag,ag,by go_num,by rw[x.out,HM.out];exact l.out.1,l.out.2⟩
  ·have ej:j=b.length:=ag;have hE:=B.out;rw[ej,fU (aL _)]at hE;have HE:aB _:=hE;clear hE;have ac:¬(j:Int)<(b.length:Int):=ag
   go_wp2
   go_ret
   exact⟨_,rfl,HE.out⟩
end
