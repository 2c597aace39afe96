/- Own texts: RefS, RefT, RefU. -/
import Derived.Test.YtcgjppacnhmjlaaGreatMAI
set_option linter.all false
set_option maxRecDepth 100000
set_option maxHeartbeats 1500000
open Array renaming getElem?_modify->fV
open Decidable renaming decide->aM
open Go renaming World->ak,Value->au,cell_later->aS,Calls->aE,TypeId->aK,heap_alloc_new->cY,results->ga,bodyPost_ret->oi,Obj->dV
open Go.Proofs.Tryz renaming prog->aj,results26->rS,ntmps26->OS,func26->P3
open Go.RowKit renaming Below->aA,Hid->aB
open Go.RowKit.Below renaming refl->cD,heap_setCell->hH
open Go.World renaming setCell->eK
open List renaming getElem?_eq_getElem->bf,getElem?_eq_some_iff->cu,mem_of_getElem?->cG,take_of_length_le->fU,length_append->gJ,take_append_drop->jW,getElem?_append_right->np,getElem?_append_left->nu,length_pos_iff->kE,getElem?_take->nv,length->jk,sublist_flatten_of_mem->xd,mem_iff_getElem?->uT,flatten_cons->uX,mem_of_mem_take->zJ,map_append->zT,nil_prefix->CP,sum_append->On,length_flatten->ay3
open Nat renaming le_refl->aL,zero_le->fL,zero_add->ia,max_def->Db
open Option renaming some->ae,none->af,map_some->hZ,ne_none_iff_exists'->av2
open Option.some renaming inj->er
open UInt8 renaming lt_irrefl->jE,toNat_inj->xv
namespace Go.Proofs.YtcgjppacnhmjlaaGreat
open Go.RowKit
variable {h o:ak} {c l:Nat} {w:dV} {a:Nat->Nat} {k:List KV} {p:KV} {r:UInt8} {s t:ByteArray} {f v:List UInt8} {b:List (List KV)} {j:Option Int} {u:au}
theorem ai1{fr at0:Nat}:aE aj 26 #[.pointer (ae ⟨c,0,af⟩),.int .i64 fr,.int .i64 fr,.int .i64 at0] h λe a=>e=.returned (dz (λ_=>0) 0)/\aA h.heap.size h a:=by
 go_enter P3,OS
 go_wp2
 exact oi (v:=dz (λ_=>0) 0) (by simp[ga,rS,go_sem,dz]) rfl ⟨rfl,by
  first
  |exact((cD _ _).alloc (aL _) _).alloc az _
  |exact((((((((Below.refl _ _).alloc (Nat.le_refl _) _).alloc az _).setCell az _).setCell az _).setCell az _).setCell az _).setCell az _).setCell az _⟩
theorem ah9{a:Nat}(j:l<=100000):aE aj 26 #[.pointer (ae ⟨c,0,af⟩),.int .i64 l,.int .i64 (l+1:Nat),.int .i64 a] h λe b=>e=.returned (dz (one 0) 1)/\aA h.heap.size h b:=by
 have f:((l:Int)==((l+1:Nat):Int))=false:=by simp;omega
 go_enter P3,OS
 go_wp2
 exact oi (v:=dz (one 0) 1) (by simp[ga,rS,go_sem,dz,one]) rfl ⟨rfl,by
  first
  |exact((cD _ _).alloc (aL _) _).alloc az _
  |exact((((((((Below.refl _ _).alloc (Nat.le_refl _) _).alloc az _).setCell az _).setCell az _).setCell az _).setCell az _).setCell az _).setCell az _⟩
structure Dw(K:Nat->ByteArray)(fr last at0 pl m:Nat)(b:Nat->Nat):Prop where
 two:fr+1<=last
 low:at0<=pl
 same:∀t,at0<=t->t<pl->∃(h1:t<(K fr).size) (h2:t<(K last).size),((K fr)[t].toNat:Int)=((K last)[t].toNat:Int)
 VP:pl<(K last).size
 VQ:pl<=(K fr).size
 stop:∀h:pl<(K fr).size,((K fr)[pl].toNat:Int)≠((K last)[pl].toNat:Int)
 b0:b 0=if(K fr).size=pl then fr+1 else fr
 bm:b m=last+1
 bs:∀i,i<m->b i<b (i+1)/\b (i+1)<=last+1
 Kh:∀i t,i<m->b i<=t->t<b (i+1)->∃(h:pl<(K t).size) (h':pl<(K (b i)).size),((K t)[pl].toNat:Int)=((K (b i))[pl].toNat:Int)
 out:∀i,i+1<m->∃(h:pl<(K (b (i+1))).size) (h':pl<(K (b i)).size),((K (b (i+1)))[pl].toNat:Int)≠((K (b i))[pl].toNat:Int)
theorem tL(b:aA h.heap.size h o)(a:h.heap[c]?=ae w):o.heap[c]?=ae w:=(b.block c (cJ a)).trans a
structure eU(w:ak)(a:Nat->Nat)(h:Nat)(wr:ak):Prop where
 below:aA w.heap.size w wr
 res:wr.heap[w.heap.size]?=ae (cP (λ_=>0) 0)
 blk:wr.heap[w.heap.size+1]?=ae (cP a h)
theorem eU.drewN{w:ak}{a:Nat->Nat}{h:Nat}{wr:ak}(x:eU w a h wr)(n:Nat):eU w a h (wr.drewN n):=⟨⟨x.below.os,x.below.tape,x.below.output,x.below.size,x.below.block⟩,x.res,x.blk⟩
theorem eU.on{w:ak}(x:eU w a c h)(b:aA h.heap.size h o):eU w a c o:=⟨x.below.trans (b.mono x.below.size),tL b x.res,tL b x.blk⟩
theorem eU.start(w:ak):eU w (λ_=>0) 1 ((w.alloc (cP (λ_=>0) 0)).alloc (cP (λ_=>0) 1)):=⟨((cD _ _).alloc (aL _) _).alloc az _,yS w _ _,by have:=cY (w.alloc (cP (λ_=>0) 0)) (cP (λ_=>0) 1);simpa using this⟩
theorem eU.lt(x:eU h a c o):h.heap.size+1<o.heap.size:=cJ x.blk
theorem eU.add{b:Nat->Nat}(x:eU h a c o):eU h (λj=>a j+b j) c ((((((o.setCell ⟨h.heap.size+1,0,af⟩ (.int .i64 ((a 0:Int)+(b 0:Int)))).setCell ⟨h.heap.size+1,1,af⟩ (.int .i64 ((a 1:Int)+(b 1:Int)))).setCell ⟨h.heap.size+1,2,af⟩ (.int .i64 ((a 2:Int)+(b 2:Int)))).setCell ⟨h.heap.size+1,3,af⟩ (.int .i64 ((a 3:Int)+(b 3:Int)))).setCell ⟨h.heap.size+1,4,af⟩ (.int .i64 ((a 4:Int)+(b 4:Int)))).alloc w):=by
 refine eU.on ⟨((((x.below.setCell az _).setCell az _).setCell az _).setCell az _).setCell az _,?_,?_⟩ (cH _ w)
 ·rw[hH _ _ _ _ az,hH _ _ _ _ az,hH _ _ _ _ az,hH _ _ _ _ az,hH _ _ _ _ az];exact x.res
 ·have f:=x.blk;simp only[eK,fV,if_true,f,hZ];simp[cP]
theorem ai0{w:ak}{r g N cap fr last at0 pl m:Nat}{K:Nat->ByteArray}{cl:List (Nat->Nat)}{hl:List Nat}(hr:w.cell? ⟨r,0,af⟩=ae (.slice (ae ⟨g,0,af⟩) N cap))(hK:∀t,t<N->w.cell? ⟨g,t*2,af⟩=ae (.string (K t)))(cx:last+1<=N)(hN:N<=3000)(aF:∀t,(K t).size<=64)(hk:Dw K fr last at0 pl m a)(hm:m<=256)(co:cl.length=m)(cp:hl.length=m)(bg:∀x∈hl,x<=100000000)(ha:∀i j,dE (λ_=>0) cl i j<=1000000000)(be:∀c∈cl,∀j,c j<=1000000000)(hC:∀i c ac,i<m->cl[i]?=ae c->hl[i]?=ae ac->∀v,aA w.heap.size w v->aE aj 26 #[.pointer (ae ⟨r,0,af⟩),.int .i64 (a i),.int .i64 (a (i+1)),.int .i64 (pl+1:Nat)] v λe k=>e=.returned (dz c ac)/\aA v.heap.size v k):aE aj 26 #[.pointer (ae ⟨r,0,af⟩),.int .i64 fr,.int .i64 (last+1:Nat),.int .i64 at0] w λe k=>e=.returned (dz (λj=>eZ cl j+one (e7 m) j) (dD hl+1))/\aA w.heap.size w k:=by
 have h2:=hk.two;have ca:=hk.low;have cr:=hk.VP;have cs:=hk.VQ;have ct:=aF fr;have cw:=aF last;have t1:((fr:Int)==((last+1:Nat):Int))=false:=by simp;omega
 have t2:((fr:Int)==((last:Nat):Int)+1)=false:=by simp;omega
 have t3:(((last+1:Nat):Int)==(fr:Int)+1)=false:=by simp;omega
 have t4:((last:Int)+1==(fr:Int)+1)=false:=by simp;omega
 have HK:aB (∀t,t<N->w.cell? ⟨g,t*2,af⟩=ae (.string (K t))):=hK;have H:aB (Dw K fr last at0 pl m a):=hk;have HC:aB (∀i c ac,i<m->cl[i]?=ae c->hl[i]?=ae ac->∀v,aA w.heap.size w v->aE aj 26 #[.pointer (ae ⟨r,0,af⟩),.int .i64 (a i),.int .i64 (a (i+1)),.int .i64 (pl+1:Nat)] v λe k=>e=.returned (dz c ac)/\aA v.heap.size v k):=hC;have ar:aB (∀x∈hl,x<=100000000):=bg;have y:aB (∀i j,dE (λ_=>0) cl i j<=1000000000):=ha;have a1:aB (∀c∈cl,∀j,c j<=1000000000):=be;have a6:aB (∀t,(K t).size<=64):=aF;have bd:aB (eU w (λ_=>0) 1 ((w.alloc (cP (λ_=>0) 0)).alloc (cP (λ_=>0) 1))):=eU.start w;have av:∀o a7,aA w.heap.size w ((w.alloc o).alloc a7):=λo a7=>((cD _ _).alloc (aL _) _).alloc az _;have cg:=λo a7=>aS (av o a7) hr;have bZ:=λo a7=>aS (av o a7) (hK fr ag);have c8:=λo a7=>aS (av o a7) (hK last ag);clear av;have HR:aB (w.cell? ⟨r,0,af⟩=ae (.slice (ae ⟨g,0,af⟩) N cap)):=hr;clear hK hk hC bg ha be aF hr
 go_enter P3,OS
 go_wp2
 go_loopg [3] pl (λgk s3 wr=>∃t:Nat,s3=.int .i64 t/\at0<=t/\t<=pl/\pl<=gk+t/\aB (eU w (λ_=>0) 1 wr))
 case atStart=>exact⟨at0,rfl,aL _,ca,ag,bd.out⟩
 case round=>
  clear bd cg bZ c8;obtain⟨t,rfl,ch,cy,hg,l⟩:=hrel;by_cases cb:t<pl
  ·obtain⟨h1,cn,h3⟩:=H.out.same t ch cb
   go_wp2
   go_quiet (fail)
   go_wp2
   go_roundg (gk-1)
   case measure=>omega
   case rel=>exact⟨t+1,by go_num,ag,ag,ag,l.out.drewN _⟩
  ·have et:t=pl:=ag;subst et;by_cases b1:(K fr).size=t
   ·have ad:a 0=fr+1:=by rw[H.out.b0,if_pos b1]
    go_wp2
    go_quiet (fail)
    go_wp2
    have HT:aB (eU w (λ_=>0) 1 (wr.drewN nq)):=l.out.drewN _;clear l
    go_loopg [1,12,13] m (λgk s1 b9 ba wr=>∃i:Nat,i<=m/\gk+i=m/\s1=.int .i64 (a i)/\b9=.int .i64 i/\ba=.int .i64 (dD (hl.take i):Nat)/\aB (eU w (dE (λ_=>0) cl i) 1 wr))
    case atStart=>exact⟨0,fL _,ag,by(first|(rw[ad];done)|(rw[ad];rfl)),rfl,rfl,by rw[Gz];exact HT.out⟩
    case round=>
     clear HT;obtain⟨i,c7,c5,rfl,rfl,rfl,l⟩:=hrel;have ce:dD (hl.take i)<=100000000:=yH λx hx=>ar.out x (zJ hx);by_cases hi:i<m
     ·obtain⟨bk,bl⟩:=H.out.bs i hi
      go_wp2
      go_loopg [14] (a (i+1)) (λaJ bb wr=>∃e:Nat,bb=.int .i64 e/\a i<e/\e<=a (i+1)/\a (i+1)<=aJ+e/\aB (eU w (dE (λ_=>0) cl i) 1 wr))
      case atStart=>exact⟨a i+1,by go_num,ag,ag,ag,l.out⟩
      case round=>
       clear l;obtain⟨e,rfl,bP,bU,bY,l⟩:=hrel;have an:=aS l.out.below HR.out;have al:=aS l.out.below (HK.out (a i) ag);by_cases aU:e<a (i+1)
       ·obtain⟨q1,q2,q3⟩:=H.out.Kh i e hi ag aU;have am:=aS l.out.below (HK.out e ag);have b2:=a6.out e;have b3:=a6.out (a i);have i1:(e:Int)<(last:Int)+1:=ag;have i2:(e:Int)<(N:Int):=ag;have i3:((a i:Nat):Int)<(N:Int):=ag;have i4:(0:Int)<=(e:Int):=ag;have i5:(0:Int)<=((a i:Nat):Int):=ag;have i6:(0:Int)<=(t:Int):=ag;have i7:(t:Int)<((K e).size:Int):=ag;have i8:(t:Int)<((K (a i)).size:Int):=ag
        go_wp2
        go_quiet (fail)
        go_wp2
        go_roundg (gk-1)
        case measure=>omega
        case rel=>exact⟨e+1,by go_num,ag,ag,ag,l.out.drewN _⟩
       ·have ee:e=a (i+1):=ag;subst ee;obtain⟨u,B⟩:∃c,cl[i]?=ae c:=⟨cl[i]'(ag),bf _⟩;obtain⟨Z,a2⟩:∃c,hl[i]?=ae c:=⟨hl[i]'(ag),bf _⟩;have cc:Z<=100000000:=ar.out Z (cG a2);have bo:=a1.out u (cG B) 0;have br:=a1.out u (cG B) 1;have bv:=a1.out u (cG B) 2;have bw:=a1.out u (cG B) 3;have bM:=a1.out u (cG B) 4;have bj:=y.out i 0;have aP:=y.out i 1;have aQ:=y.out i 2;have aR:=y.out i 3;have aT:=y.out i 4;have ab:aB (∀v,eU w (dE (λ_=>0) cl i) 1 v->aE aj 26 #[.pointer (ae ⟨r,0,af⟩),.int .i64 (a i),.int .i64 (a (i+1)),.int .i64 ((t:Int)+1)] v λe k=>e=.returned (dz u Z)/\eU w (dE (λ_=>0) cl i) 1 k):=λv p=>(HC.out i u Z hi B a2 v p.below).mono λe k he=>⟨he.1,p.on he.2⟩;have HS:aB (dD (hl.take (i+1))=max (dD (hl.take i)) Z):=F0 hl i Z a2;have h:aB (dE (λ_=>0) cl (i+1)=λx=>dE (λ_=>0) cl i x+u x):=Gy _ cl i u B;clear B a2;by_cases ao:i+1<m
        ·obtain⟨q1,q2,q3⟩:=H.out.out i ao;obtain⟨q4,q5⟩:=H.out.bs (i+1) ao;have am:=aS l.out.below (HK.out (a (i+1)) ag);have b2:=a6.out (a (i+1));have b3:=a6.out (a i);have i1:((a (i+1):Nat):Int)<(last:Int)+1:=ag;have i2:((a (i+1):Nat):Int)<(N:Int):=ag;have i3:((a i:Nat):Int)<(N:Int):=ag;have i4:(0:Int)<=((a (i+1):Nat):Int):=ag;have i5:(0:Int)<=((a i:Nat):Int):=ag;have i6:(0:Int)<=(t:Int):=ag;have i7:(t:Int)<((K (a (i+1))).size:Int):=ag;have i8:(t:Int)<((K (a i)).size:Int):=ag
         go_wp2
         go_quiet (fail)
         clear am an al;generalize dE (λ_=>0) cl i=b at*;generalize dD (hl.take i)=s at*
         go_wp2_with (go_at_call 26;refine(ab.out _ (l.out.drewN _)).mono ?_;rintro e' k ⟨rfl,p⟩;obtain⟨d0,d1,d2,d3,d4,d5⟩:=kW p.blk;have fd:=iW p.blk;have e0:=λf=>aS (cH k f) d0;have e1:=λf=>aS (cH k f) d1;have e2:=λf=>aS (cH k f) d2;have e3:=λf=>aS (cH k f) d3;have e4:=λf=>aS (cH k f) d4;have ap:=p.lt;have fe:∀f o,(k.alloc f).frozen? ⟨w.heap.size+1,o,af⟩=false:=λf o=>iW (tL (cH k f) p.blk) o;have a8:aB (eU w b 1 k):=p;clear p;unfold dz)
         all_goals
          go_roundg (m-(i+1))
          case measure=>omega
          case rel=>exact⟨i+1,ag,ag,rfl,by go_num,by rw[HS.out];exact congrArg _ (by rw[Db];split<;>omega),by rw[h.out];exact a8.out.add⟩
        ·have ai:a (i+1)=last+1:=by rw[<-H.out.bm];congr 1;omega
         have i1:¬((a (i+1):Nat):Int)<(last:Int)+1:=ag;have b6:aM (((a (i+1):Nat):Int)<(last:Int)+1)=false:=by simp;omega
         clear ai
         go_wp2
         go_quiet (fail)
         clear b6;clear an al;generalize dE (λ_=>0) cl i=b at*;generalize dD (hl.take i)=s at*
         go_wp2_with (go_at_call 26;refine(ab.out _ (l.out.drewN _)).mono ?_;rintro e' k ⟨rfl,p⟩;obtain⟨d0,d1,d2,d3,d4,d5⟩:=kW p.blk;have fd:=iW p.blk;have e0:=λf=>aS (cH k f) d0;have e1:=λf=>aS (cH k f) d1;have e2:=λf=>aS (cH k f) d2;have e3:=λf=>aS (cH k f) d3;have e4:=λf=>aS (cH k f) d4;have ap:=p.lt;have fe:∀f o,(k.alloc f).frozen? ⟨w.heap.size+1,o,af⟩=false:=λf o=>iW (tL (cH k f) p.blk) o;have a8:aB (eU w b 1 k):=p;clear p;unfold dz)
         all_goals
          go_roundg (m-(i+1))
          case measure=>omega
          case rel=>exact⟨i+1,ag,ag,rfl,by go_num,by rw[HS.out];exact congrArg _ (by rw[Db];split<;>omega),by rw[h.out];exact a8.out.add⟩
     ·have ei:i=m:=ag;subst ei;have ai:¬((a i:Nat):Int)<(last:Int)+1:=by have:=H.out.bm;omega
      have HE:aB (dD (hl.take i)=dD hl):=by show _=_;rw[fU ag]
      have h:aB (∀j,dE (λ_=>0) cl i j=eZ cl j):=λj=>by show 0+eZ (cl.take i) j=_;rw[fU ag,ia]
      have aP:=y.out i 1;have aQ:=y.out i 2;have aR:=y.out i 3;have aT:=y.out i 4;obtain⟨d0,d1,d2,d3,d4,d5⟩:=kW l.out.blk;have fd:=iW l.out.blk;obtain⟨r0,r1,r2,r3,r4,r5⟩:=kW l.out.res;have bi:=iW l.out.res;have ap:=l.out.lt;generalize dE (λ_=>0) cl i=b at*;generalize dD (hl.take i)=s at*;by_cases k1:i<=4
      ·have U:e7 i=1:=by simp[e7,k1]
       have R:aB (dz (λj=>eZ cl j+one 1 j) (dD hl+1)=.agg #[.int .i64 ((b 0:Int)),.int .i64 ((b 1:Int)+1),.int .i64 ((b 2:Int)),.int .i64 ((b 3:Int)),.int .i64 ((b 4:Int)),.int .i64 ((s:Int)+1)]):=by
        have u0:=h.out 0;have u1:=h.out 1;have u2:=h.out 2;have u3:=h.out 3;have u4:=h.out 4;have W:=HE.out;show _=_;simp[dz,one,<-u0,<-u1,<-u2,<-u3,<-u4,<-W]
       go_wp2
       try rw[U]
       rw[R.out];exact oi (v:=.agg #[.int .i64 ((b 0:Int)),.int .i64 ((b 1:Int)+1),.int .i64 ((b 2:Int)),.int .i64 ((b 3:Int)),.int .i64 ((b 4:Int)),.int .i64 ((s:Int)+1)]) (by simp[ga,rS,go_sem,r0,r1,r2,r3,r4,r5]) rfl ⟨rfl,(((((((l.out.below.setCell az _).setCell az _).setCell az _).setCell az _).setCell az _).setCell az _).setCell az _).setCell az _⟩
      ·by_cases k2:i<=16
       ·have U:e7 i=2:=by simp[e7,k1,k2]
        have R:aB (dz (λj=>eZ cl j+one 2 j) (dD hl+1)=.agg #[.int .i64 ((b 0:Int)),.int .i64 ((b 1:Int)),.int .i64 ((b 2:Int)+1),.int .i64 ((b 3:Int)),.int .i64 ((b 4:Int)),.int .i64 ((s:Int)+1)]):=by
         have u0:=h.out 0;have u1:=h.out 1;have u2:=h.out 2;have u3:=h.out 3;have u4:=h.out 4;have W:=HE.out;show _=_;simp[dz,one,<-u0,<-u1,<-u2,<-u3,<-u4,<-W]
        go_wp2
        try rw[U]
        rw[R.out];exact oi (v:=.agg #[.int .i64 ((b 0:Int)),.int .i64 ((b 1:Int)),.int .i64 ((b 2:Int)+1),.int .i64 ((b 3:Int)),.int .i64 ((b 4:Int)),.int .i64 ((s:Int)+1)]) (by simp[ga,rS,go_sem,r0,r1,r2,r3,r4,r5]) rfl ⟨rfl,(((((((l.out.below.setCell az _).setCell az _).setCell az _).setCell az _).setCell az _).setCell az _).setCell az _).setCell az _⟩
       ·by_cases k3:i<=48
        ·have U:e7 i=3:=by simp[e7,k1,k2,k3]
         have R:aB (dz (λj=>eZ cl j+one 3 j) (dD hl+1)=.agg #[.int .i64 ((b 0:Int)),.int .i64 ((b 1:Int)),.int .i64 ((b 2:Int)),.int .i64 ((b 3:Int)+1),.int .i64 ((b 4:Int)),.int .i64 ((s:Int)+1)]):=by
          have u0:=h.out 0;have u1:=h.out 1;have u2:=h.out 2;have u3:=h.out 3;have u4:=h.out 4;have W:=HE.out;show _=_;simp[dz,one,<-u0,<-u1,<-u2,<-u3,<-u4,<-W]
         go_wp2
         try rw[U]
         rw[R.out];exact oi (v:=.agg #[.int .i64 ((b 0:Int)),.int .i64 ((b 1:Int)),.int .i64 ((b 2:Int)),.int .i64 ((b 3:Int)+1),.int .i64 ((b 4:Int)),.int .i64 ((s:Int)+1)]) (by simp[ga,rS,go_sem,r0,r1,r2,r3,r4,r5]) rfl ⟨rfl,(((((((l.out.below.setCell az _).setCell az _).setCell az _).setCell az _).setCell az _).setCell az _).setCell az _).setCell az _⟩
        ·have U:e7 i=4:=by simp[e7,k1,k2,k3]
         have R:aB (dz (λj=>eZ cl j+one 4 j) (dD hl+1)=.agg #[.int .i64 ((b 0:Int)),.int .i64 ((b 1:Int)),.int .i64 ((b 2:Int)),.int .i64 ((b 3:Int)),.int .i64 ((b 4:Int)+1),.int .i64 ((s:Int)+1)]):=by
          have u0:=h.out 0;have u1:=h.out 1;have u2:=h.out 2;have u3:=h.out 3;have u4:=h.out 4;have W:=HE.out;show _=_;simp[dz,one,<-u0,<-u1,<-u2,<-u3,<-u4,<-W]
         go_wp2
         try rw[U]
         rw[R.out];exact oi (v:=.agg #[.int .i64 ((b 0:Int)),.int .i64 ((b 1:Int)),.int .i64 ((b 2:Int)),.int .i64 ((b 3:Int)),.int .i64 ((b 4:Int)+1),.int .i64 ((s:Int)+1)]) (by simp[ga,rS,go_sem,r0,r1,r2,r3,r4,r5]) rfl ⟨rfl,(((((((l.out.below.setCell az _).setCell az _).setCell az _).setCell az _).setCell az _).setCell az _).setCell az _).setCell az _⟩
   ·have ad:a 0=fr:=by rw[H.out.b0,if_neg b1]
    have c6:t<(K fr).size:=ag;have cf:=H.out.stop c6
    go_wp2
    go_quiet (fail)
    go_wp2
    rename_i bE cj kk aa;clear bE cj cf b1;have HT:aB (eU w (λ_=>0) 1 (wr.drewN nq)):=l.out.drewN _;clear l
    go_loopg [1,12,13] m (λgk s1 b9 ba wr=>∃i:Nat,i<=m/\gk+i=m/\s1=.int .i64 (a i)/\b9=.int .i64 i/\ba=.int .i64 (dD (hl.take i):Nat)/\aB (eU w (dE (λ_=>0) cl i) 1 wr))
    case atStart=>exact⟨0,fL _,ag,by(first|(rw[ad];done)|(rw[ad];rfl)),rfl,rfl,by rw[Gz];exact HT.out⟩
    case round=>
     clear HT;obtain⟨i,c7,c5,rfl,rfl,rfl,l⟩:=hrel;have ce:dD (hl.take i)<=100000000:=yH λx hx=>ar.out x (zJ hx);by_cases hi:i<m
     ·obtain⟨bk,bl⟩:=H.out.bs i hi
      go_wp2
      go_loopg [14] (a (i+1)) (λaJ bb wr=>∃e:Nat,bb=.int .i64 e/\a i<e/\e<=a (i+1)/\a (i+1)<=aJ+e/\aB (eU w (dE (λ_=>0) cl i) 1 wr))
      case atStart=>exact⟨a i+1,by go_num,ag,ag,ag,l.out⟩
      case round=>
       clear l;obtain⟨e,rfl,bP,bU,bY,l⟩:=hrel;have an:=aS l.out.below HR.out;have al:=aS l.out.below (HK.out (a i) ag);by_cases aU:e<a (i+1)
       ·obtain⟨q1,q2,q3⟩:=H.out.Kh i e hi ag aU;have am:=aS l.out.below (HK.out e ag);have b2:=a6.out e;have b3:=a6.out (a i);have i1:(e:Int)<(last:Int)+1:=ag;have i2:(e:Int)<(N:Int):=ag;have i3:((a i:Nat):Int)<(N:Int):=ag;have i4:(0:Int)<=(e:Int):=ag;have i5:(0:Int)<=((a i:Nat):Int):=ag;have i6:(0:Int)<=(t:Int):=ag;have i7:(t:Int)<((K e).size:Int):=ag;have i8:(t:Int)<((K (a i)).size:Int):=ag
        go_wp2
        go_quiet (fail)
        go_wp2
        go_roundg (gk-1)
        case measure=>omega
        case rel=>exact⟨e+1,by go_num,ag,ag,ag,l.out.drewN _⟩
       ·have ee:e=a (i+1):=ag;subst ee;obtain⟨u,B⟩:∃c,cl[i]?=ae c:=⟨cl[i]'(ag),bf _⟩;obtain⟨Z,a2⟩:∃c,hl[i]?=ae c:=⟨hl[i]'(ag),bf _⟩;have cc:Z<=100000000:=ar.out Z (cG a2);have bo:=a1.out u (cG B) 0;have br:=a1.out u (cG B) 1;have bv:=a1.out u (cG B) 2;have bw:=a1.out u (cG B) 3;have bM:=a1.out u (cG B) 4;have bj:=y.out i 0;have aP:=y.out i 1;have aQ:=y.out i 2;have aR:=y.out i 3;have aT:=y.out i 4;have ab:aB (∀v,eU w (dE (λ_=>0) cl i) 1 v->aE aj 26 #[.pointer (ae ⟨r,0,af⟩),.int .i64 (a i),.int .i64 (a (i+1)),.int .i64 ((t:Int)+1)] v λe k=>e=.returned (dz u Z)/\eU w (dE (λ_=>0) cl i) 1 k):=λv p=>(HC.out i u Z hi B a2 v p.below).mono λe k he=>⟨he.1,p.on he.2⟩;have HS:aB (dD (hl.take (i+1))=max (dD (hl.take i)) Z):=F0 hl i Z a2;have h:aB (dE (λ_=>0) cl (i+1)=λx=>dE (λ_=>0) cl i x+u x):=Gy _ cl i u B;clear B a2;by_cases ao:i+1<m
        ·obtain⟨q1,q2,q3⟩:=H.out.out i ao;obtain⟨q4,q5⟩:=H.out.bs (i+1) ao;have am:=aS l.out.below (HK.out (a (i+1)) ag);have b2:=a6.out (a (i+1));have b3:=a6.out (a i);have i1:((a (i+1):Nat):Int)<(last:Int)+1:=ag;have i2:((a (i+1):Nat):Int)<(N:Int):=ag;have i3:((a i:Nat):Int)<(N:Int):=ag;have i4:(0:Int)<=((a (i+1):Nat):Int):=ag;have i5:(0:Int)<=((a i:Nat):Int):=ag;have i6:(0:Int)<=(t:Int):=ag;have i7:(t:Int)<((K (a (i+1))).size:Int):=ag;have i8:(t:Int)<((K (a i)).size:Int):=ag
         go_wp2
         go_quiet (fail)
         clear am an al;generalize dE (λ_=>0) cl i=b at*;generalize dD (hl.take i)=s at*
         go_wp2_with (go_at_call 26;refine(ab.out _ (l.out.drewN _)).mono ?_;rintro e' k ⟨rfl,p⟩;obtain⟨d0,d1,d2,d3,d4,d5⟩:=kW p.blk;have fd:=iW p.blk;have e0:=λf=>aS (cH k f) d0;have e1:=λf=>aS (cH k f) d1;have e2:=λf=>aS (cH k f) d2;have e3:=λf=>aS (cH k f) d3;have e4:=λf=>aS (cH k f) d4;have ap:=p.lt;have fe:∀f o,(k.alloc f).frozen? ⟨w.heap.size+1,o,af⟩=false:=λf o=>iW (tL (cH k f) p.blk) o;have a8:aB (eU w b 1 k):=p;clear p;unfold dz)
         all_goals
          go_roundg (m-(i+1))
          case measure=>omega
          case rel=>exact⟨i+1,ag,ag,rfl,by go_num,by rw[HS.out];exact congrArg _ (by rw[Db];split<;>omega),by rw[h.out];exact a8.out.add⟩
        ·have ai:a (i+1)=last+1:=by rw[<-H.out.bm];congr 1;omega
         have i1:¬((a (i+1):Nat):Int)<(last:Int)+1:=ag;have b6:aM (((a (i+1):Nat):Int)<(last:Int)+1)=false:=by simp;omega
         clear ai
         go_wp2
         go_quiet (fail)
         clear b6;clear an al;generalize dE (λ_=>0) cl i=b at*;generalize dD (hl.take i)=s at*
         go_wp2_with (go_at_call 26;refine(ab.out _ (l.out.drewN _)).mono ?_;rintro e' k ⟨rfl,p⟩;obtain⟨d0,d1,d2,d3,d4,d5⟩:=kW p.blk;have fd:=iW p.blk;have e0:=λf=>aS (cH k f) d0;have e1:=λf=>aS (cH k f) d1;have e2:=λf=>aS (cH k f) d2;have e3:=λf=>aS (cH k f) d3;have e4:=λf=>aS (cH k f) d4;have ap:=p.lt;have fe:∀f o,(k.alloc f).frozen? ⟨w.heap.size+1,o,af⟩=false:=λf o=>iW (tL (cH k f) p.blk) o;have a8:aB (eU w b 1 k):=p;clear p;unfold dz)
         all_goals
          go_roundg (m-(i+1))
          case measure=>omega
          case rel=>exact⟨i+1,ag,ag,rfl,by go_num,by rw[HS.out];exact congrArg _ (by rw[Db];split<;>omega),by rw[h.out];exact a8.out.add⟩
     ·have ei:i=m:=ag;subst ei;have ai:¬((a i:Nat):Int)<(last:Int)+1:=by have:=H.out.bm;omega
      have HE:aB (dD (hl.take i)=dD hl):=by show _=_;rw[fU ag]
      have h:aB (∀j,dE (λ_=>0) cl i j=eZ cl j):=λj=>by show 0+eZ (cl.take i) j=_;rw[fU ag,ia]
      have aP:=y.out i 1;have aQ:=y.out i 2;have aR:=y.out i 3;have aT:=y.out i 4;obtain⟨d0,d1,d2,d3,d4,d5⟩:=kW l.out.blk;have fd:=iW l.out.blk;obtain⟨r0,r1,r2,r3,r4,r5⟩:=kW l.out.res;have bi:=iW l.out.res;have ap:=l.out.lt;generalize dE (λ_=>0) cl i=b at*;generalize dD (hl.take i)=s at*;by_cases k1:i<=4
      ·have U:e7 i=1:=by simp[e7,k1]
       have R:aB (dz (λj=>eZ cl j+one 1 j) (dD hl+1)=.agg #[.int .i64 ((b 0:Int)),.int .i64 ((b 1:Int)+1),.int .i64 ((b 2:Int)),.int .i64 ((b 3:Int)),.int .i64 ((b 4:Int)),.int .i64 ((s:Int)+1)]):=by
        have u0:=h.out 0;have u1:=h.out 1;have u2:=h.out 2;have u3:=h.out 3;have u4:=h.out 4;have W:=HE.out;show _=_;simp[dz,one,<-u0,<-u1,<-u2,<-u3,<-u4,<-W]
       go_wp2
       try rw[U]
       rw[R.out];exact oi (v:=.agg #[.int .i64 ((b 0:Int)),.int .i64 ((b 1:Int)+1),.int .i64 ((b 2:Int)),.int .i64 ((b 3:Int)),.int .i64 ((b 4:Int)),.int .i64 ((s:Int)+1)]) (by simp[ga,rS,go_sem,r0,r1,r2,r3,r4,r5]) rfl ⟨rfl,(((((((l.out.below.setCell az _).setCell az _).setCell az _).setCell az _).setCell az _).setCell az _).setCell az _).setCell az _⟩
      ·by_cases k2:i<=16
       ·have U:e7 i=2:=by simp[e7,k1,k2]
        have R:aB (dz (λj=>eZ cl j+one 2 j) (dD hl+1)=.agg #[.int .i64 ((b 0:Int)),.int .i64 ((b 1:Int)),.int .i64 ((b 2:Int)+1),.int .i64 ((b 3:Int)),.int .i64 ((b 4:Int)),.int .i64 ((s:Int)+1)]):=by
         have u0:=h.out 0;have u1:=h.out 1;have u2:=h.out 2;have u3:=h.out 3;have u4:=h.out 4;have W:=HE.out;show _=_;simp[dz,one,<-u0,<-u1,<-u2,<-u3,<-u4,<-W]
        go_wp2
        try rw[U]
        rw[R.out];exact oi (v:=.agg #[.int .i64 ((b 0:Int)),.int .i64 ((b 1:Int)),.int .i64 ((b 2:Int)+1),.int .i64 ((b 3:Int)),.int .i64 ((b 4:Int)),.int .i64 ((s:Int)+1)]) (by simp[ga,rS,go_sem,r0,r1,r2,r3,r4,r5]) rfl ⟨rfl,(((((((l.out.below.setCell az _).setCell az _).setCell az _).setCell az _).setCell az _).setCell az _).setCell az _).setCell az _⟩
       ·by_cases k3:i<=48
        ·have U:e7 i=3:=by simp[e7,k1,k2,k3]
         have R:aB (dz (λj=>eZ cl j+one 3 j) (dD hl+1)=.agg #[.int .i64 ((b 0:Int)),.int .i64 ((b 1:Int)),.int .i64 ((b 2:Int)),.int .i64 ((b 3:Int)+1),.int .i64 ((b 4:Int)),.int .i64 ((s:Int)+1)]):=by
          have u0:=h.out 0;have u1:=h.out 1;have u2:=h.out 2;have u3:=h.out 3;have u4:=h.out 4;have W:=HE.out;show _=_;simp[dz,one,<-u0,<-u1,<-u2,<-u3,<-u4,<-W]
         go_wp2
         try rw[U]
         rw[R.out];exact oi (v:=.agg #[.int .i64 ((b 0:Int)),.int .i64 ((b 1:Int)),.int .i64 ((b 2:Int)),.int .i64 ((b 3:Int)+1),.int .i64 ((b 4:Int)),.int .i64 ((s:Int)+1)]) (by simp[ga,rS,go_sem,r0,r1,r2,r3,r4,r5]) rfl ⟨rfl,(((((((l.out.below.setCell az _).setCell az _).setCell az _).setCell az _).setCell az _).setCell az _).setCell az _).setCell az _⟩
        ·have U:e7 i=4:=by simp[e7,k1,k2,k3]
         have R:aB (dz (λj=>eZ cl j+one 4 j) (dD hl+1)=.agg #[.int .i64 ((b 0:Int)),.int .i64 ((b 1:Int)),.int .i64 ((b 2:Int)),.int .i64 ((b 3:Int)),.int .i64 ((b 4:Int)+1),.int .i64 ((s:Int)+1)]):=by
          have u0:=h.out 0;have u1:=h.out 1;have u2:=h.out 2;have u3:=h.out 3;have u4:=h.out 4;have W:=HE.out;show _=_;simp[dz,one,<-u0,<-u1,<-u2,<-u3,<-u4,<-W]
         go_wp2
         try rw[U]
         rw[R.out];exact oi (v:=.agg #[.int .i64 ((b 0:Int)),.int .i64 ((b 1:Int)),.int .i64 ((b 2:Int)),.int .i64 ((b 3:Int)),.int .i64 ((b 4:Int)+1),.int .i64 ((s:Int)+1)]) (by simp[ga,rS,go_sem,r0,r1,r2,r3,r4,r5]) rfl ⟨rfl,(((((((l.out.below.setCell az _).setCell az _).setCell az _).setCell az _).setCell az _).setCell az _).setCell az _).setCell az _⟩
def nZ(l:List KV)(t:Nat):ByteArray:=match l[t]? with|some e=>keyOf e|none=>⟨#[]⟩
theorem Kl(h:k[c]?=ae p):nZ k c=keyOf p:=by simp[nZ,h]
def oC(s:ByteArray)(i:Nat)(x:UInt8):Prop:=∃h:i<s.size,s[i]=x
theorem K7{i:Nat}(h:p.1[i]?=ae r):oC (keyOf p) i r:=by
 obtain⟨a,b⟩:=cu.mp h;refine⟨by rw[rm];exact a,?_⟩;rw[<-b];show(keyOf p).data[i]'_=_;simp[keyOf]
theorem oC.same{i:Nat}(h:oC s i r)(k:oC t i r):∃(a:i<s.size) (b:i<t.size),(s[i].toNat:Int)=(t[i].toNat:Int):=by
 obtain⟨a,b⟩:=h;obtain⟨c,f⟩:=k;exact⟨a,c,by rw[b,f]⟩
theorem oC.differ{i:Nat}{y:UInt8}(h:oC s i r)(k:oC t i y)(c:r≠y):∃(a:i<s.size) (b:i<t.size),(s[i].toNat:Int)≠(t[i].toNat:Int):=by
 obtain⟨a,b⟩:=h;obtain⟨f,j⟩:=k;exact⟨a,f,by rw[b,j];intro e;exact c (xv.mp ag)⟩
theorem Qs(h:p.1=f++r::v):oC (keyOf p) f.length r:=K7 (by rw[h];simp)
theorem IQ(h:f<+:p.1)(b:c<f.length):oC (keyOf p) c f[c]:=by
 obtain⟨r,a⟩:=h;exact K7 (by rw[<-a,nu b];exact bf _)
def dQ(a:List (List KV))(i:Nat):Nat:=((a.take i).map jk).sum
theorem wA{i:Nat}{g:List KV}(h:b[i]?=ae g):dQ b (i+1)=dQ b i+g.length:=by
 unfold dQ;rw[Cc b i g h];simp
theorem Fl(a:List (List KV)):dQ a a.length=a.flatten.length:=by
 unfold dQ;rw[fU (aL _),ay3]
theorem yR(a:List (List KV))(i:Nat):dQ a i<=a.flatten.length:=by
 rw[<-Fl,];unfold dQ;have h:(a.map jk).sum=((a.take i).map jk).sum+((a.drop i).map jk).sum:=by rw[<-On,<-zT,jW]
 rw[fU (i:=a.length) (aL _)];omega
theorem E9:∀(b:List (List KV)) (i j:Nat) (g:List KV) (e:KV),b[i]?=ae g->g[j]?=ae e->b.flatten[dQ b i+j]?=ae e
 |[],i,j,g,e,h,_=>by simp at h
 |a::b,0,j,g,e,h,k=>by
  simp at h;subst h;have f:=(cu.mp k).1;simp only[uX];rw[nu (by simp[dQ];omega)];simpa[dQ]using k
 |a::b,i+1,j,g,e,h,k=>by
  have:=E9 b i j g e (by simpa using h) k;simp only[uX];have c:dQ (a::b) (i+1)=a.length+dQ b i:=by simp[dQ]
  rw[c,np ag];rw[<-this];congr 1;omega
theorem Yz{sub:List KV}{q:List UInt8}(ao:∀i,i<sub.length->k[c+i]?=sub[i]?)(a:Shaped f j v b sub)(al:b≠[])(h2:2<=sub.length)(hq:q.length=l)(an:∀e∈sub,q<+:e.1):Dw (nZ k) c (c+sub.length-1) l f.length b.length (λi=>c+(c9 f j).length+dQ b i):=by
 have aR:sub.length=(c9 f j).length+b.flatten.length:=by rw[a.eq,gJ]
 have hm:0<b.length:=kE.mpr al;have aP:0<b.flatten.length:=by
  have o:b[0]?=ae b[0]:=bf hm;have W:=a.aT.iX 0 _ o;have s:=(xd (cG o)).length_le;have r:=kE.mpr W;omega
 have place:∀i e,sub[i]?=ae e->nZ k (c+i)=keyOf e:=λi e h=>Kl ((ao i (cu.mp h).1).trans h);have group:∀i p g e,b[i]?=ae g->g[p]?=ae e->sub[(c9 f j).length+(dQ b i+p)]?=ae e:=λi p g e h ap=>by
  rw[a.eq,np ag,<-E9 b i p g e h ap];congr 1;omega
 have w:∀i p g x,b[i]?=ae g->v[i]?=ae x->p<g.length->oC (nZ k (c+(c9 f j).length+dQ b i+p)) f.length x:=λi p g x h u hj=>by
  have a8:g[p]?=ae g[p]:=bf hj;have:=group i p g _ h a8;obtain⟨ar,hr⟩:=a.aT.pre i x g u h _ (cG a8);have e1:c+(c9 f j).length+dQ b i+p=c+((c9 f j).length+(dQ b i+p)):=ag;rw[e1,place _ _ this];exact Qs hr
 have ai:l<=f.length:=by rw[<-hq];exact(a.uy an).length_le
 obtain⟨e0,H⟩:∃e,sub[0]?=ae e:=⟨_,bf ag⟩;obtain⟨e9,a7⟩:∃e,sub[sub.length-1]?=ae e:=⟨_,bf ag⟩;have k0:nZ k c=keyOf e0:=place 0 e0 H;have k9:nZ k (c+sub.length-1)=keyOf e9:=by
  have:=place _ e9 a7;rwa[show c+(sub.length-1)=c+sub.length-1 by omega]at this
 obtain⟨y,a1⟩:∃g,b[b.length-1]?=ae g:=⟨_,bf ag⟩;obtain⟨x9,ad⟩:=a.aT.byte a1;have aQ:0<y.length:=kE.mpr (a.aT.iX _ _ a1);have am:dQ b b.length=dQ b (b.length-1)+y.length:=by
  have:=wA a1;rwa[show b.length-1+1=b.length by omega]at this
 have b9:oC (nZ k (c+sub.length-1)) f.length x9:=by
  have:=w _ (y.length-1) y x9 a1 ad ag;rw[Fl]at am;rwa[show c+(c9 f j).length+dQ b (b.length-1)+(y.length-1)=c+sub.length-1 by omega]at this
 have a6:(nZ k c).size=f.length↔(c9 f j).length=1:=by
  rw[k0,rm];cases j with
  |some av=>
   have:sub[0]?=ae (f,av):=by rw[a.eq];rfl
   rw[H]at this;rw[er this];simp[c9]
  |none=>
   constructor
   ·intro h;exfalso;have Z:b[0]?=ae b[0]:=bf hm;have:e0∈b.flatten:=by
     have s:sub=b.flatten:=by rw[a.eq];rfl
     rw[<-s];exact cG H
    obtain⟨x,ar,hr⟩:=a.aT.front this;rw[hr]at h;simp at h
   ·intro h;simp[c9]at h
 have aa:(c9 f j).length=1\/(j=af/\(c9 f j).length=0):=by cases j<;>simp[c9]
 refine⟨ag,ai,λt W s=> ?_,b9.1,?_,λh=> ?_,?_,?_,λi N=> ?_,λi t N W s=> ?_,λi N=> ?_⟩
 ·rw[k0,k9];exact(IQ (a.front (cG H)) s).same (IQ (a.front (cG a7)) s)
 ·rw[k0,rm];exact(a.front (cG H)).length_le
 ·have hz:¬(c9 f j).length=1:=λr=>by rw[a6.mpr r]at h;omega
  rcases aa with r|⟨r,B⟩;·exact absurd r hz
  ·have h6:=a.two r;obtain⟨g0,Z⟩:∃g,b[0]?=ae g:=⟨_,bf hm⟩;obtain⟨x0,ac⟩:=a.aT.byte Z;have b0:=w 0 0 g0 x0 Z ac (kE.mpr (a.aT.iX _ _ Z));rw[B,show c+0+dQ b 0+0=c by simp[dQ]]at b0;have R:=rC a.aT.pw ac ad ag;obtain⟨_,_,h7⟩:=b0.differ b9 (λe=>by rw[e]at R;exact jE _ R);exact h7
 ·show c+(c9 f j).length+dQ b 0=_;have h0:dQ b 0=0:=by simp[dQ]
  rcases aa with r|⟨_,B⟩;·rw[if_pos (a6.mpr r)];omega
  ·rw[if_neg (λh=>by have:=a6.mp h;omega)];omega
 ·show c+(c9 f j).length+dQ b b.length=_;rw[Fl];omega
 ·obtain⟨g,o⟩:∃g,b[i]?=ae g:=⟨_,bf N⟩;have r:=wA o;have B:=kE.mpr (a.aT.iX _ _ o);have h6:=yR b (i+1);show c+(c9 f j).length+dQ b i<c+(c9 f j).length+dQ b (i+1)/\c+(c9 f j).length+dQ b (i+1)<=_;omega
 ·obtain⟨g,o⟩:∃g,b[i]?=ae g:=⟨_,bf N⟩;obtain⟨x,u⟩:=a.aT.byte o;have r:=wA o;have B:=kE.mpr (a.aT.iX _ _ o);have aF:c+(c9 f j).length+dQ b i<=t:=W;have aJ:t<c+(c9 f j).length+dQ b (i+1):=s;have U:=w i (t-(c+(c9 f j).length+dQ b i)) g x o u ag;rw[show c+(c9 f j).length+dQ b i+(t-(c+(c9 f j).length+dQ b i))=t by omega]at U;have b2:=w i 0 g x o u B;exact U.same b2
 ·obtain⟨g,o⟩:∃g,b[i]?=ae g:=⟨_,bf ag⟩;obtain⟨g',a2⟩:∃g,b[i+1]?=ae g:=⟨_,bf N⟩;obtain⟨x,u⟩:=a.aT.byte o;obtain⟨x',ab⟩:=a.aT.byte a2;have U:=w i 0 g x o u (kE.mpr (a.aT.iX _ _ o));have b2:=w (i+1) 0 g' x' a2 ab (kE.mpr (a.aT.iX _ _ a2));have R:=rC a.aT.pw u ab ag;exact b2.differ U (λe=>by rw[e]at R;exact jE _ R)
theorem ng{e:aK}{n:Nat}{j:List au}(p:h.ownsRow 0 e c u n j)(v:∀g,u.ownBlock=ae g->o.heap[g]?=h.heap[g]?):o.ownsRow 0 e c u n j:=by
 obtain⟨f,a|⟨b,k,l,a,r,s,t⟩⟩:=p;·exact⟨f,.inl a⟩
 ·exact⟨f,.inr ⟨b,k,l,a,r,(v b (by rw[a];rfl)).trans s,t⟩⟩
theorem bQ.on{w:ak}(a:bQ w c u k)(b:aA w.heap.size w h):bQ h c u k:=⟨tL b a.blk,ng a.row λg f=>b.block g (a.row.lt g f).2,a.out,a.ck,a.short,a.cI⟩
theorem Vp(h:pR k)(t:Nat):(nZ k t).size<=64:=by
 unfold nZ;split;·rename_i e a;rw[rm];exact h e (cG a)
 ·decide
theorem ap5(a:Shaped f j v b k)(s:b≠[]):2<=k.length:=by
 have N:k.length=(c9 f j).length+b.flatten.length:=by rw[a.eq,gJ]
 have r:0<b.length:=kE.mpr s;obtain⟨g,c⟩:∃g,b[0]?=ae g:=⟨_,bf r⟩;have p:=wA c;have w:=kE.mpr (a.aT.iX _ _ c);cases j with
 |some t=>have:=yR b (0+1);have o:(c9 f (ae t)).length=1:=rfl;omega
 |none=>
  have x:=a.two rfl;obtain⟨u,h⟩:∃g,b[1]?=ae g:=⟨_,bf ag⟩;have y:=wA h;have B:=kE.mpr (a.aT.iX _ _ h);have H:=yR b (1+1);have o:(c9 f (af:Option Int)).length=0:=rfl;have l:(0:Nat)+1=1:=rfl;rw[l]at p;omega
theorem MI:∀(n:Nat){w:ak} {r fr at0 h:Nat} {av:au} {l sub:List KV} {c:Nat->Nat} {q:List UInt8},bQ w r av l->kq n sub c h->(∀i,i<sub.length->l[fr+i]?=sub[i]?)->fr+sub.length<=l.length->q.length=at0->(∀e∈sub,q<+:e.1)->aE aj 26 #[.pointer (ae ⟨r,0,af⟩),.int .i64 fr,.int .i64 (fr+sub.length:Nat),.int .i64 at0] w λe w'=>e=.returned (dz c h)/\aA w.heap.size w w'
 |0,_,_,_,_,_,_,_,_,_,_,_,H,_,_,_,_=>H.elim
 |n+1,w,r,fr,at0,h,av,l,sub,c,q,B,⟨p,t,xs,a,o,H⟩,ab,aF,hq,ao=>by
  have am:sub.length=(c9 p t).length+a.flatten.length:=by rw[o.eq,gJ]
  have ad:=B.cI;rcases H with⟨h1,rfl,rfl⟩|⟨a8,y,R,l1,l2,hc,rfl,rfl⟩
  ·have an:t≠none:=λh0=>by have:=o.two h0;rw[h1]at this;simp at this
   obtain⟨aQ,rfl⟩:=av2.mp an;have W:sub.length=1:=by rw[am,h1];rfl
   rw[W];exact ah9 ag
  ·have h2:=ap5 o a8;rcases B.cases with⟨rfl,rfl⟩|⟨g,cap,rfl,hp,ar⟩
   ·have h0:([]:List KV).length=0:=rfl;omega
   have al:fr+sub.length-1+1=fr+sub.length:=ag;have a6:∀(i:Nat) g,a[i]?=ae g->g.length<=sub.length:=by
    intro i g k;have h2:g.length<=a.flatten.length:=(xd (cG k)).length_le;omega
   have U:∀(i:Nat) g b v,a[i]?=ae g->y[i]?=ae b->R[i]?=ae v->(∀j,b j+1<=2*g.length)/\v<=g.length:=by
    intro i g b v k f Z;have:=(hc i g b v k f Z).bounds;exact⟨this.1,this.2.1⟩
   have a2:=ai0 (w:=w) (r:=r) (g:=g) (N:=l.length) (cap:=cap) (fr:=fr) (last:=fr+sub.length-1) (at0:=at0) (pl:=p.length) (m:=a.length) (K:=nZ l) (cl:=y) (hl:=R) B.cell
    (λa1 ht=>by
     have:=(hp a1 _ (bf ht)).1;rw[this,Kl (bf ht)]) ag ad (λa1=>Vp B.short a1) (Yz ab o a8 h2 hq ao)
    (by have:=qu o.aT.pw;rw[o.aT.len]at this;exact this) l1 l2
    (λx hx=>by
     obtain⟨i,s⟩:=uT.mp hx;have ai:=(cu.mp s).1;have W:=(U i (a[i]'(ag)) (y[i]'(ag)) x (bf _) (bf _) s).2;have h4:=a6 i _ (bf ag);omega)
    (λi j=>by
     have h7:=Cb (cl:=y.take i) (gs:=a.take i) (by simp;omega) (λi' g b k f j=>by
      rw[nv]at k f;split at k
      ·rw[if_pos ‹_›]at f;have s:=(cu.mp k).1;exact(U i' g b (R[i' ]'(ag)) k f (bf _)).1 j
      ·cases k) j
     have h8:=yR a i;unfold dQ at h8;show 0+eZ (y.take i) j<=_;omega)
    (λb f j=>by
     obtain⟨i,s⟩:=uT.mp f;have ai:=(cu.mp s).1;have W:=(U i (a[i]'(ag)) b (R[i]'(ag)) (bf _) s (bf _)).1 j;have h4:=a6 i _ (bf ag);omega)
    (λi b v s f Z w1 ac=>by
     obtain⟨u,N⟩:∃g,a[i]?=ae g:=⟨_,bf s⟩;obtain⟨x,hx⟩:=o.aT.byte N;have aJ:=wA N;have aP:=yR a (i+1);have aa:=MI n (fr:=fr+(c9 p t).length+dQ a i) (q:=p++[x]) (at0:=p.length+1) (B.on ac) (hc i u b v N f Z) (λj hj=>by
      have a7:u[j]?=ae u[j]:=bf hj;rw[a7,show fr+(c9 p t).length+dQ a i+j=fr+((c9 p t).length+(dQ a i+j)) by omega,ab _ ag,o.eq,np ag,<-E9 a i j u _ N a7];congr 1;omega) ag az (λe he=>by
      obtain⟨r',ap⟩:=o.aT.pre i x u hx N e he;rw[ap];exact⟨r',az⟩)
     have e1:fr+(c9 p t).length+dQ a i+u.length=fr+(c9 p t).length+dQ a (i+1):=ag;rw[e1]at aa;exact aa)
   rw[al]at a2;exact a2
theorem ai2(f:bQ h c u k)(b:tJ k a l):aE aj 26 #[.pointer (ae ⟨c,0,af⟩),.int .i64 0,.int .i64 k.length,.int .i64 0] h λe j=>e=.returned (dz a l)/\aA h.heap.size h j:=by
 rcases b with⟨rfl,rfl,rfl⟩|⟨n,b⟩;·exact ai1 (fr:=0) (at0:=0)
 ·have:=MI n (fr:=0) (at0:=0) (q:=[]) f b (λi _=>by rw[ia]) ag rfl (λe _=>CP);rw[ia]at this;exact this
