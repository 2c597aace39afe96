/- Own texts: FzH, FzI, FzJ, FzK, FzL. -/
import Derived.Test.YtcgjppacnhmjlaaGreatMZ
import Derived.OwnWalk
set_option linter.all false
set_option maxRecDepth 100000
set_option maxHeartbeats 400000
open Array renaming mem_push->aC3
open Bind renaming bind->eN
open Bool renaming true->aq,false->ax,false_eq_true->dx
open Go renaming World->ak,Value->au,Frame->aC,Goroutine->aX,Calls->aE,TypeId->aK,heap_alloc_new->cY,Program->aV,Addr->aH,undef->aN,Operand->bC,execOp->bp,FuncId->bW,Event->bX,sizeOf->ed,Oper->bR,Sem->bA,storeCells->xM,loadCellsFrom->CZ,storeVar->vh,isAgg->mL,run_store->Di,loadVar->Ae,store->tz,loadCells->I1,load->vx
open Go.Addr renaming add->vf
open Go.Conc renaming listed->ic
open Go.Frame renaming enter->bG
open Go.Instr renaming sureAddr->uY,storeAt->zW,loadAt->zY
open Go.Proofs.Tryz renaming prog->aj,isAgg3->ib,isAgg26->A4,runUnderlying26->NN,sizeOf42->Hc,func19->P4,ntmps19->aG2
open Go.Result renaming andThen->rP,andThen_ok->GX
open Go.RowKit.Below renaming heap_alloc->rL
open Go.Sem renaming bind->dp,runT_fst->fE,runT_bind'->jj,runT->eL,runT_eq->nE,run_pure->Hm,run_bind->Hn
open Go.Value renaming agg->Ph
open Go.World renaming block_lt_of_cell?->cC,cell?->bL,size_alloc->dh,frozen?->gu,setCell_alloc_new->xg
open List renaming length_cons->rM,length_nil->zV,size_toArray->CE
open Nat renaming le_refl->aL,zero_add->ia,add_zero->th,reduceAdd->OK
open Ne renaming symm->jm
open Option renaming some->ae,none->af
open Prod renaming snd->tu
open Pure renaming pure->bN
namespace Go.Proofs.YtcgjppacnhmjlaaGreat
open Go Go.Conc Go.ConcN Go.Conc.Lib Go.ConcR.Gen Go.RowKit Go.Shelf
namespace Sim
theorem FO{P:aV}{w:ak}{a:aH}:∀(vs:List au)(i:Nat)(acc:Array au) (b:Array bX),(∀(j:Nat) u,vs[j]?=ae u->w.cell? (a.add (i+j))=ae u)->∃c,(CZ a i vs.length acc).runT P w b=(.ok (acc++vs.toArray) w,c)/\∀e∈c,e∈b\/∃j,e=⟨.cell (a.add j),ax,ax⟩
 |[],i,acc,b,h=>⟨b,by simp[-nE,CZ,bN,eL],λe l=>.inl l⟩
 |v::vs,i,acc,b,h=>by
  have o:=h 0 v rfl;rw[th]at o;obtain⟨c,p,r⟩:=FO (P:=P) vs (i+1) (acc.push v) (b.push ⟨.cell (a.add i),ax,ax⟩) λj u s=>by
   have:=h (j+1) u s;rw[show i+(j+1)=i+1+j by omega]at this;exact this
  refine⟨c,?_,λe l=> ?_⟩
  ·rw[show(v::vs).length=vs.length+1 from rfl];unfold CZ;simp only[vx,eN,dp,eL,o];rw[show acc++(v::vs).toArray=acc.push v++vs.toArray by simp];exact p
  ·rcases r e l with f|f
   ·rcases aC3.1 f with k|k;·exact .inl k
    ·exact .inr ⟨i,k⟩
   ·exact .inr f
section
variable {o:au->ak->Prop} {O:Nat->Prop} {g:aX} {w:ak} {i:Nat}
theorem ay.jd{t:aK}{x:bC}{a:aH}{vs:List au}(a1:g.status=.running)(h:dW g i)(W:(oG g).op=.load t x)(hx:(aG g).eval x=.pointer (ae a))(H:∀w,(mL t).runT aj w #[]=(.ok aq w, #[]))(hs:∀w,(ed t).runT aj w #[]=(.ok vs.length w, #[]))(v:¬O a.block)(R:a.block<w.heap.size)(y:∀(j:Nat) u,vs[j]?=ae u->w.cell? (a.add j)=ae u)(U:ay aj o O (bt g (.agg vs.toArray)) w):ay aj o O g w:=by
 refine .step a1 λb d=> ?_;obtain⟨f,p,r⟩:=FO (P:=aj) (w:=Sim.re w b d) (a:=a) vs 0 #[] #[] λj u N=>by rw[ia];exact y j u N
 have k:(bp (aG g).eval (oG g)).runT aj (Sim.re w b d) #[]=(.ok (.value (.agg vs.toArray)) (Sim.re w b d),f):=by
  unfold bp;simp only[W,hx,zY,uY,Ae,I1,eN,dp,bN];rw[jj,jj,H];simp only[if_true];rw[jj,hs];dsimp only;rw[jj,p];simp[-nE,eL]
 have Z:(bp (aG g).eval (oG g)).run aj (Sim.re w b d)=.ok (.value (.agg vs.toArray)) (Sim.re w b d):=by rw[<-fE aj _ _ #[],k]
 have B:(bp (aG g).eval (oG g)).events aj (Sim.re w b d) #[]=f:=by
  have:=congrArg tu k;exact this
 refine⟨_,_,_,pz h Z,aL _,λe c=> ?_,U.re (tp:=b) (d:=d)⟩;unfold ic at c;rw[B]at c;rcases r e (qx c)with s|⟨j,rfl⟩;·simp at s
 ·have l:(a.add j).block=a.block:=by unfold vf;split<;>rfl
  exact qX (by rw[l];exact v) (by rw[l];exact R)
end
end Sim
section
attribute [local go_sem] Oper.semAt_some
def eC(c:Int)(n:Nat):Nat:=((if c<0 then -(c+1)else c).tmod n).toNat
theorem yV(c:Int){n:Nat}(b:0<n):eC c n<n/\(if c<0 then -(c+1)else c).tmod n=(eC c n:Int):=by
 unfold eC;have a:0<=(if c<0 then -(c+1)else c):=by split<;>omega
 generalize (if c<0 then -(c+1)else c)=d at*;have:=Int.tmod_lt_of_pos d (show(0:Int)<n by omega);have:=Int.tmod_nonneg (n:Int) a;omega
theorem FJ(c:Int)(n:Nat)(w:ak)(b:0<n)(l:n<=8)(j: -9223372036854775808<=c/\c<=9223372036854775807):aE aj 19 #[.int .i64 c,.int .i64 n] w λe f=>e=.returned (.int .i64 (eC c n))/\f=w:=by
 have k:¬(n:Int)=0:=ag;have a:=(yV c b).2;by_cases h:c<0
 ·rw[if_pos h]at a
  go_enter P4,aG2
  go_wp2
  go_ret
  refine⟨?_,rfl⟩;first|(rw[a];done)|(rw[<-a];done)|(rw[<-a];congr 2)
 ·rw[if_neg h]at a
  go_enter P4,aG2
  go_wp2
  go_ret
  refine⟨?_,rfl⟩;first|(rw[a];done)|(rw[<-a];done)|(rw[<-a];congr 2)
end
namespace Sim
variable {r:Nat->au}
def eI:Obj:=.cells #[.pointer af,.pointer af] 42
theorem vE(a:bC->au)(o:bR)(b:o.op=.alloc 42):(∀w,(bp a o).run aj w=.ok (.value (ptr w.heap.size)) (w.alloc eI))/\∀w,(bp a o).events aj w #[]= #[]:=by
 unfold bp;simp only[b];exact⟨λw=>ah,λw=>ah⟩
theorem Gj{f:bC->au}{o:bR}{x y:bC}{w:ak}{a b:au}(B:o.op=.store 42 x y)(R:f x=ptr w.heap.size)(U:f y=.agg #[a,b])(r:a.oneCell'=aq)(s:b.oneCell'=aq):(bp f o).run aj (w.alloc eI)=.ok .skip (w.alloc (.cells #[a,b] 42)):=by
 have H:(ed 42).run aj (w.alloc eI)=.ok 2 (w.alloc eI):=Hc _;have st:∀(c:Array au)(i:Nat) (v:au),v.oneCell'=aq->i<c.size->(tz ⟨w.heap.size,i,af⟩ v:bA Unit).run aj (w.alloc (.cells c 42))=.ok () (w.alloc (.cells (c.setIfInBounds i v) 42)):=λc i v N u=>by
  have h:(w.alloc (.cells c 42)).heap[w.heap.size]?=ae (.cells c 42):=cY w _;rw[Di aj _ _ v .plain N];have j:(w.alloc (.cells c 42)).cell? ⟨w.heap.size,i,af⟩=ae c[i]:=by
   unfold bL;rw[h];simp[u]
  have k:(w.alloc (.cells c 42)).frozen? ⟨w.heap.size,i,af⟩=false:=by
   unfold gu;rw[h];simp
  rw[j,k];simp only[dx,if_false];rw[xg]
 have l:=st #[.pointer af,.pointer af] 0 a r az;have p:=st #[a,.pointer af] 1 b s az;unfold bp;simp only[B,R,U,zW,uY,vh];have t:(Ph #[a,b]).cells= #[a,b]:=rfl;simp only[t,Hn,Hm,GX,H];simp only[CE,rM,zV,ne_eq,OK,not_true_eq_false,if_false,xM,vf,Hn,Hm,GX];simp only[eI]at*;simp[l,p,xM,rP]
theorem qY:fO 19 Tryz.f19 ((Tryz.f19.body).getD .skip):=⟨P4,ah,ah⟩
theorem Es:Xm.G 19:=show fj.contains 19=aq from bc
theorem sK{G:bW->Prop}{R:BR}{a b:Array au}(h:bq G R a b):VR G R (.agg a) (.agg b):=.agg h.1 h.2
structure cT(O:Nat->Prop)(a b fld f po m k:Nat)(on:Int)(j h:Nat)(W:ak):Prop where
 iC:¬O a
 fA:¬O b
 cR:¬O f
 cw:W.cell? ⟨a,0,af⟩=ae (.slice (ae ⟨f,po,af⟩) m k)
 co:W.cell? ⟨b,fld,af⟩=ae (.int .i64 on)
 ca:W.cell? ⟨f,po+eC on m*2,af⟩=ae (ptr j)
 cb:W.cell? ⟨f,po+eC on m*2+1,af⟩=ae (ptr h)
 pos:0<m
 cI:m<=8
 int: -9223372036854775808<=on/\on<=9223372036854775807
theorem cT.cv{O:Nat->Prop}{a b p f po m k:Nat}{on:Int}{j h:Nat}{W o:ak}(c:cT O a b p f po m k on j h W)(l:aO W o):cT O a b p f po m k on j h o:=⟨c.iC,c.fA,c.cR,l.cell c.cw,l.cell c.co,l.cell c.ca,l.cell c.cb,c.pos,c.cI,c.int⟩
def eu(a b:Nat)(p:au)(v4:au)(x:Nat->au):Array Value:= #[ptr a,p,x 2,ptr b,v4,x 5,x 6,x 7,x 8,x 9,x 10,x 11,x 12,x 13,x 14,x 15,x 16,x 17,x 18,x 19,x 20,x 21,x 22,x 23,x 24,x 25,x 26,x 27,x 28,x 29,x 30,x 31,x 32,x 33,x 34,x 35,x 36,x 37,x 38,x 39,x 40,x 41,x 42,x 43,x 44,x 45,x 46,x 47,x 48,x 49,x 50,x 51,x 52,x 53,x 54,x 55,x 56,x 57,x 58,x 59,x 60,x 61,x 62,x 63,x 64,x 65,x 66,x 67,x 68]
noncomputable def Ia:Code:=(Tryz.f22.body).getD .skip
noncomputable def ey:Frame:={fn:=22,tmps:= #[],todo:=[],defers:=[],mode:=.run,kind:=.normal}
noncomputable def jz:Array Oper:=match cd [1,0] Ia with
 | .region _ a _=>a
 |_=> #[]
noncomputable def ez:List Item:=[.code (cd [1,1] Ia)]
def kn(i:Nat):Nat:=if i<14 then 6+i else 5
def kN(a b f po m k nb j h:Nat)(on:Int):Nat->au
 |0=>ptr a
 |1=>ptr a
 |2=>ptr a
 |3=>.slice (ae ⟨f,po,af⟩) m k
 |4=>.pointer (ae ⟨b,1,af⟩)
 |5=>.int .i64 on
 |6=>ptr a
 |7=>ptr a
 |8=>ptr a
 |9=>.slice (ae ⟨f,po,af⟩) m k
 |10=>.int .i64 (m:Int)
 |11=>.int .i64 (eC on m:Int)
 |12=>.pointer (ae ⟨f,po+eC on m*2,af⟩)
 |13=>.agg #[ptr j,ptr h]
 |14=>ptr nb
 |_=>aN
section
variable {o:au->ak->Prop} {O:Nat->Prop} {R:BR} {W:ak} {a b f po m k nb j h:Nat} {on:Int} {p:au} {v4:au} {c:aC} {l:List aC}
theorem RK(t:cT O a b 1 f po m k on j h W)(s:aI Xm O R W):bF o O ey ez (c::l) jz (eu a b p v4) kn (kN a b f po m k nb j h on) W W 0:=λv x rest u r=>by
 refine .K 1 ?_;exact .eqv ah r
theorem RL(u:cT O a b 1 f po m k on j h W)(t:aI Xm O R W):bF o O ey ez (c::l) jz (eu a b p v4) kn (kN a b f po m k nb j h on) W W 1:=λv x rest r s=>by
 refine .val (i:=6) (v:=x 6) (v':=ptr a) ah (r 0 ah).2 ?_;refine .K 1 ?_;refine .val (i:=6) (v:=ptr a) (v':=x 6) ah (r 0 ah).2.symm ?_;exact .eqv ah s
theorem RR(u:cT O a b 1 f po m k on j h W)(t:aI Xm O R W):bF o O ey ez (c::l) jz (eu a b p v4) kn (kN a b f po m k nb j h on) W W 2:=λv x rest r s=>by
 refine .val (i:=7) (v:=x 7) (v':=ptr a) ah (r 1 ah).2 ?_;refine .K 1 ?_;refine .val (i:=7) (v:=ptr a) (v':=x 7) ah (r 1 ah).2.symm ?_;exact .eqv ah s
theorem RS(r:cT O a b 1 f po m k on j h W)(u:aI Xm O R W):bF o O ey ez (c::l) jz (eu a b p v4) kn (kN a b f po m k nb j h on) W W 3:=λv x rest s t=>by
 refine .val (i:=8) (v:=x 8) (v':=ptr a) ah (s 2 ah).2 ?_;refine .ep (i:=3) ah bJ (t:=26) (x:=.tmp 8) (a:=⟨a,0,af⟩) (v:=.slice (ae ⟨f,po,af⟩) m k) ah ah A4 r.iC r.cw ?_;refine .val (i:=8) (v:=ptr a) (v':=x 8) ah (s 2 ah).2.symm ?_;exact .eqv ah t
theorem RU(t:cT O a b 1 f po m k on j h W)(s:aI Xm O R W):bF o O ey ez (c::l) jz (eu a b p v4) kn (kN a b f po m k nb j h on) W W 4:=λv x rest u r=>by
 refine .K 1 ?_;exact .eqv ah r
theorem RV(r:cT O a b 1 f po m k on j h W)(u:aI Xm O R W):bF o O ey ez (c::l) jz (eu a b p v4) kn (kN a b f po m k nb j h on) W W 5:=λv x rest s t=>by
 refine .val (i:=10) (v:=x 10) (v':=.pointer (ae ⟨b,1,af⟩)) ah (s 4 ah).2 ?_;refine .ep (i:=5) ah bJ (t:=3) (x:=.tmp 10) (a:=⟨b,1,af⟩) (v:=.int .i64 on) ah ah ib r.fA r.co ?_;refine .val (i:=10) (v:=.pointer (ae ⟨b,1,af⟩)) (v':=x 10) ah (s 4 ah).2.symm ?_;exact .eqv ah t
theorem RX(t:cT O a b 1 f po m k on j h W)(s:aI Xm O R W):bF o O ey ez (c::l) jz (eu a b p v4) kn (kN a b f po m k nb j h on) W W 6:=λv x rest u r=>by
 refine .K 1 ?_;exact .eqv ah r
theorem RY(u:cT O a b 1 f po m k on j h W)(t:aI Xm O R W):bF o O ey ez (c::l) jz (eu a b p v4) kn (kN a b f po m k nb j h on) W W 7:=λv x rest r s=>by
 refine .val (i:=12) (v:=x 12) (v':=ptr a) ah (r 6 ah).2 ?_;refine .K 1 ?_;refine .val (i:=12) (v:=ptr a) (v':=x 12) ah (r 6 ah).2.symm ?_;exact .eqv ah s
theorem RZ(u:cT O a b 1 f po m k on j h W)(t:aI Xm O R W):bF o O ey ez (c::l) jz (eu a b p v4) kn (kN a b f po m k nb j h on) W W 8:=λv x rest r s=>by
 refine .val (i:=13) (v:=x 13) (v':=ptr a) ah (r 7 ah).2 ?_;refine .K 1 ?_;refine .val (i:=13) (v:=ptr a) (v':=x 13) ah (r 7 ah).2.symm ?_;exact .eqv ah s
theorem S0(r:cT O a b 1 f po m k on j h W)(u:aI Xm O R W):bF o O ey ez (c::l) jz (eu a b p v4) kn (kN a b f po m k nb j h on) W W 9:=λv x rest s t=>by
 refine .val (i:=14) (v:=x 14) (v':=ptr a) ah (s 8 ah).2 ?_;refine .ep (i:=9) ah bJ (t:=26) (x:=.tmp 14) (a:=⟨a,0,af⟩) (v:=.slice (ae ⟨f,po,af⟩) m k) ah ah A4 r.iC r.cw ?_;refine .val (i:=14) (v:=ptr a) (v':=x 14) ah (s 8 ah).2.symm ?_;exact .eqv ah t
theorem RM(u:cT O a b 1 f po m k on j h W)(t:aI Xm O R W):bF o O ey ez (c::l) jz (eu a b p v4) kn (kN a b f po m k nb j h on) W W 10:=λv x rest r s=>by
 refine .val (i:=15) (v:=x 15) (v':=.slice (ae ⟨f,po,af⟩) m k) ah (r 9 ah).2 ?_;refine .K 1 ?_;refine .val (i:=15) (v:=.slice (ae ⟨f,po,af⟩) m k) (v':=x 15) ah (r 9 ah).2.symm ?_;exact .eqv ah s
theorem RN(t:cT O a b 1 f po m k on j h W)(H:aI Xm O R W):bF o O ey ez (c::l) jz (eu a b p v4) kn (kN a b f po m k nb j h on) W W 11:=λa1 x rest s N=>by
 refine .val (i:=11) (v:=x 11) (v':=.int .i64 on) ah (s 5 ah).2 ?_;refine .val (i:=16) (v:=x 16) (v':=.int .i64 (m:Int)) ah (s 10 ah).2 ?_;refine .call (i:=11) bI ah (f:=19) (args:= #[.tmp 11,.tmp 16]) (ats:= #[3,3]) ah qY.1 qY.2.1 qY.2.2 Es (vals:= #[.int .i64 on,.int .i64 (m:Int)]) ah H (mV (.int _ _) (.int _ _)) (Post1:=λv u=>v=.int .i64 (eC on m:Int)/\∃r d,u=Sim.re W r d) (λv u r d ⟨y,B⟩=>⟨y,by obtain⟨aQ,d',rfl⟩:=B;exact⟨r,d,rfl⟩⟩) (λr=>(FJ on m (Sim.re W r 0) t.pos t.cI t.int).mono λe u w=>⟨_,w.1,rfl,r,0,w.2⟩) λv W1 Z U _ _ _ _=> ?_;obtain⟨rfl,r,d,rfl⟩:=U;refine .re ?_;refine .val (i:=11) (v:=.int .i64 on) (v':=x 11) ah (s 5 ah).2.symm ?_;refine .val (i:=16) (v:=.int .i64 (m:Int)) (v':=x 16) ah (s 10 ah).2.symm ?_;exact .eqv ah N
theorem RO(s:cT O a b 1 f po m k on j h W)(u:aI Xm O R W):bF o O ey ez (c::l) jz (eu a b p v4) kn (kN a b f po m k nb j h on) W W 12:=λw x rest r t=>by
 refine .val (i:=9) (v:=x 9) (v':=.slice (ae ⟨f,po,af⟩) m k) ah (r 3 ah).2 ?_;refine .val (i:=17) (v:=x 17) (v':=.int .i64 (eC on m:Int)) ah (r 11 ah).2 ?_;have v:=(yV on s.pos).1;refine .ri (i:=12) ah bI (t:=26) (x:=.tmp 9) (y:=.tmp 17) (e:=42) (n:=2) (a:=⟨f,po,af⟩) (l:=m) (c:=k) (k:=(eC on m:Int)) ah ah ah ⟨ag,ag⟩ NN Hc ?_;rw[DK];refine .val (i:=9) (v:=.slice (ae ⟨f,po,af⟩) m k) (v':=x 9) ah (r 3 ah).2.symm ?_;refine .val (i:=17) (v:=.int .i64 (eC on m:Int)) (v':=x 17) ah (r 11 ah).2.symm ?_;exact .eqv ah t
theorem RP(s:cT O a b 1 f po m k on j h W)(B:aI Xm O R W):bF o O ey ez (c::l) jz (eu a b p v4) kn (kN a b f po m k nb j h on) W W 13:=λH x rest t y=>by
 refine .val (i:=18) (v:=x 18) (v':=.pointer (ae ⟨f,po+eC on m*2,af⟩)) ah (t 12 ah).2 ?_;refine .jd (i:=13) ah bJ (t:=42) (x:=.tmp 18) (a:=⟨f,po+eC on m*2,af⟩) (vs:=[ptr j,ptr h]) ah ah (λw=>ah) (λw=>ah) s.cR (cC _ _ s.ca) (λv u r=> ?_) ?_
 ·match v,r with
  |0,r=>cases r;exact s.ca
  |1,r=>cases r;exact s.cb
  |v+2,r=>simp at r
 refine .val (i:=18) (v:=.pointer (ae ⟨f,po+eC on m*2,af⟩)) (v':=x 18) ah (t 12 ah).2.symm ?_;exact .eqv ah y
theorem RQ(u:cT O a b 1 f po m k on j h W)(t:aI Xm O R W)(s:W.heap.size=nb):bF o O ey ez (c::l) jz (eu a b p v4) kn (kN a b f po m k nb j h on) W (W.alloc eI) 14:=λw x rest v r=>by
 refine .uk (i:=14) (ob:=eI) ah bJ (vE _ _ ah).1 (vE _ _ ah).2 ?_;rw[s];exact .eqv ah r
theorem XR(hP:cT O a b 1 f po m k on j h W)(Z:aI Xm O R W)(H:W.heap.size=nb)(ab:R j j)(aa:R h h)(s:∀r N,r 5=ptr nb->aI Xm O N (W.alloc (.cells #[ptr j,ptr h] 42))->N nb nb->BR.Sub R N->ay aj o O (aw (ey.at ⟨eu a b p v4 r,[]⟩ ez) (c::l)) (W.alloc (.cells #[ptr j,ptr h] 42))):ay aj o O (aw (ey.at ⟨eu a b p v4 r,[]⟩ (.code (.region 1 jz aq)::ez)) (c::l)) W:=by
 have hB:aO W (W.alloc eI):=⟨az,λa2 hb=>rL _ _ _ hb,rfl,rfl⟩;have ai:=Z.grown eI;have al:=hP.cv hB;refine .eqv (g':=aw (ey.at ⟨eu a b p v4 r,[]⟩ (.code (.region 1 jz aq)::ez)) (c::l)) rfl ?_;have key:=ay.wW (P:=aj) (Post:=o) (O:=O) (id:=1) (fr:=ey) (cs:=c::l) (k:=ez) (T:=eu a b p v4) (x:=r) (ops:=jz) (n:=16) (c:=15) (W:=λx=>if x 14=aq then W.alloc eI else W) (D:=kn) (V:=kN a b f po m k nb j h on) ah ah (λi an hi hj w=>by unfold kn at w;split at w<;>split at w<;>omega) (λi hi x r rest hl t s=> ?_) λr x a8 y=> ?_;·exact key
 ·by_cases U:i=14
  ·subst U;rw[if_pos (by unfold cz;simp)]at s;rw[hl,if_neg bc];exact RQ hP Z H _ _ _ t s
  ·have e:cz x i 14=x 14:=iV x (jm U);simp only[e]at s;have v:cT O a b 1 f po m k on j h (if x 14=aq then W.alloc eI else W):=by split<;>assumption
   have u:aI Xm O R (if x 14=aq then W.alloc eI else W):=by split<;>assumption
   generalize (if x 14=aq then W.alloc eI else W)=W1 at*
   match i,hi,U with
   |0,_,_=>exact RK v u _ _ _ t s
   |1,_,_=>exact RL v u _ _ _ t s
   |2,_,_=>exact RR v u _ _ _ t s
   |3,_,_=>exact RS v u _ _ _ t s
   |4,_,_=>exact RU v u _ _ _ t s
   |5,_,_=>exact RV v u _ _ _ t s
   |6,_,_=>exact RX v u _ _ _ t s
   |7,_,_=>exact RY v u _ _ _ t s
   |8,_,_=>exact RZ v u _ _ _ t s
   |9,_,_=>exact S0 v u _ _ _ t s
   |10,_,_=>exact RM v u _ _ _ t s
   |11,_,_=>exact RN v u _ _ _ t s
   |12,_,_=>exact RO v u _ _ _ t s
   |13,_,_=>exact RP v u _ _ _ t s
   |14,_,w=>exact absurd rfl w
   |_+15,w,_=>exact absurd w ag
 ·simp only[a8 14 ag,if_true];refine .val (i:=5) (v:=r 5) (v':=ptr nb) ah (y 14 ag) ?_;refine .val (i:=19) (v:=r 19) (v':=.agg #[ptr j,ptr h]) ah (y 13 ag) ?_;have a7:aI Xm O (R.add W.heap.size W.heap.size) (W.alloc eI):=Z.boxed (v:=.agg #[.pointer af,.pointer af]) (sK (mV .pnil .pnil)) 42;refine .Fx (i:=15) (U:=[5,19]) (St:=λw'=>∃B d,w'=Sim.re (W.alloc (.cells #[ptr j,ptr h] 42)) B d) ah bI ah ah a7 (λao hu=> ?_) (λB d=>⟨_,Gj (w:=Sim.re W B d) (x:=.tmp 5) (y:=.tmp 19) ah (by rw[<-H];kernel_rfl) ah rfl rfl,B,d,rfl⟩) λw1 R1 ac a6 a1 am=> ?_
  ·simp at hu;rcases hu with rfl|rfl;·exact qz (u:=ptr nb) ah (.ptr ⟨by rw[<-H];exact .inr ⟨rfl,rfl⟩,rfl,rfl⟩)
   ·exact qz (u:=.agg #[ptr j,ptr h]) ah (sK (mV (.ptr ⟨.inl ab,rfl,rfl⟩) (.ptr ⟨.inl aa,rfl,rfl⟩)))
  ·obtain⟨B,d,rfl⟩:=ac;refine .re ?_;refine .K 1 ?_;refine .val (i:=5) (v:=ptr nb) (v':=r 5) ah (y 14 ag).symm ?_;refine .val (i:=19) (v:=.agg #[ptr j,ptr h]) (v':=r 19) ah (y 13 ag).symm ?_;exact .eqv ah (s r R1 (y 14 ag) (a6.re W.tape W.drawn) (a1 _ _ (by rw[<-H];exact .inr ⟨rfl,rfl⟩)) λad a2 w=>a1 _ _ (.inl w))
end
def fg(a b:Nat)(p:au)(v4:au)(x:Nat->au):Array Value:= #[ptr a,p,x 2,ptr b,v4,x 5,x 6,x 7,x 8,x 9,x 10,x 11,x 12,x 13,x 14,x 15,x 16,x 17,x 18,x 19,x 20,x 21,x 22,x 23,x 24,x 25,x 26,x 27,x 28,x 29,x 30,x 31,x 32,x 33,x 34,x 35,x 36,x 37,x 38,x 39,x 40,x 41,x 42,x 43,x 44,x 45,x 46,x 47,x 48]
noncomputable def qM:Code:=(Tryz.f11.body).getD .skip
noncomputable def fh:Frame:={fn:=11,tmps:= #[],todo:=[],defers:=[],mode:=.run,kind:=.normal}
noncomputable def jy:Array Oper:=match cd [1,0] qM with
 | .region _ a _=>a
 |_=> #[]
noncomputable def fi:List Item:=[.code (cd [1,1] qM)]
def km(i:Nat):Nat:=if i<14 then 6+i else 5
def kM(a b f po m k nb j h:Nat)(on:Int):Nat->au
 |0=>ptr a
 |1=>ptr a
 |2=>ptr a
 |3=>.slice (ae ⟨f,po,af⟩) m k
 |4=>.pointer (ae ⟨b,1,af⟩)
 |5=>.int .i64 on
 |6=>ptr a
 |7=>ptr a
 |8=>ptr a
 |9=>.slice (ae ⟨f,po,af⟩) m k
 |10=>.int .i64 (m:Int)
 |11=>.int .i64 (eC on m:Int)
 |12=>.pointer (ae ⟨f,po+eC on m*2,af⟩)
 |13=>.agg #[ptr j,ptr h]
 |14=>ptr nb
 |_=>aN
section
variable {o:au->ak->Prop} {O:Nat->Prop} {R:BR} {W:ak} {a b f po m k nb j h:Nat} {on:Int} {p:au} {v4:au} {c:aC} {l:List aC}
theorem Rq(t:cT O a b 1 f po m k on j h W)(s:aI Xm O R W):bF o O fh fi (c::l) jy (fg a b p v4) km (kM a b f po m k nb j h on) W W 0:=λv x rest u r=>by
 refine .K 1 ?_;exact .eqv ah r
theorem Rr(u:cT O a b 1 f po m k on j h W)(t:aI Xm O R W):bF o O fh fi (c::l) jy (fg a b p v4) km (kM a b f po m k nb j h on) W W 1:=λv x rest r s=>by
 refine .val (i:=6) (v:=x 6) (v':=ptr a) ah (r 0 ah).2 ?_;refine .K 1 ?_;refine .val (i:=6) (v:=ptr a) (v':=x 6) ah (r 0 ah).2.symm ?_;exact .eqv ah s
theorem Rz(u:cT O a b 1 f po m k on j h W)(t:aI Xm O R W):bF o O fh fi (c::l) jy (fg a b p v4) km (kM a b f po m k nb j h on) W W 2:=λv x rest r s=>by
 refine .val (i:=7) (v:=x 7) (v':=ptr a) ah (r 1 ah).2 ?_;refine .K 1 ?_;refine .val (i:=7) (v:=ptr a) (v':=x 7) ah (r 1 ah).2.symm ?_;exact .eqv ah s
theorem RA(r:cT O a b 1 f po m k on j h W)(u:aI Xm O R W):bF o O fh fi (c::l) jy (fg a b p v4) km (kM a b f po m k nb j h on) W W 3:=λv x rest s t=>by
 refine .val (i:=8) (v:=x 8) (v':=ptr a) ah (s 2 ah).2 ?_;refine .ep (i:=3) ah bJ (t:=26) (x:=.tmp 8) (a:=⟨a,0,af⟩) (v:=.slice (ae ⟨f,po,af⟩) m k) ah ah A4 r.iC r.cw ?_;refine .val (i:=8) (v:=ptr a) (v':=x 8) ah (s 2 ah).2.symm ?_;exact .eqv ah t
theorem RD(t:cT O a b 1 f po m k on j h W)(s:aI Xm O R W):bF o O fh fi (c::l) jy (fg a b p v4) km (kM a b f po m k nb j h on) W W 4:=λv x rest u r=>by
 refine .K 1 ?_;exact .eqv ah r
theorem RE(r:cT O a b 1 f po m k on j h W)(u:aI Xm O R W):bF o O fh fi (c::l) jy (fg a b p v4) km (kM a b f po m k nb j h on) W W 5:=λv x rest s t=>by
 refine .val (i:=10) (v:=x 10) (v':=.pointer (ae ⟨b,1,af⟩)) ah (s 4 ah).2 ?_;refine .ep (i:=5) ah bJ (t:=3) (x:=.tmp 10) (a:=⟨b,1,af⟩) (v:=.int .i64 on) ah ah ib r.fA r.co ?_;refine .val (i:=10) (v:=.pointer (ae ⟨b,1,af⟩)) (v':=x 10) ah (s 4 ah).2.symm ?_;exact .eqv ah t
theorem RF(t:cT O a b 1 f po m k on j h W)(s:aI Xm O R W):bF o O fh fi (c::l) jy (fg a b p v4) km (kM a b f po m k nb j h on) W W 6:=λv x rest u r=>by
 refine .K 1 ?_;exact .eqv ah r
theorem RG(u:cT O a b 1 f po m k on j h W)(t:aI Xm O R W):bF o O fh fi (c::l) jy (fg a b p v4) km (kM a b f po m k nb j h on) W W 7:=λv x rest r s=>by
 refine .val (i:=12) (v:=x 12) (v':=ptr a) ah (r 6 ah).2 ?_;refine .K 1 ?_;refine .val (i:=12) (v:=ptr a) (v':=x 12) ah (r 6 ah).2.symm ?_;exact .eqv ah s
theorem RH(u:cT O a b 1 f po m k on j h W)(t:aI Xm O R W):bF o O fh fi (c::l) jy (fg a b p v4) km (kM a b f po m k nb j h on) W W 8:=λv x rest r s=>by
 refine .val (i:=13) (v:=x 13) (v':=ptr a) ah (r 7 ah).2 ?_;refine .K 1 ?_;refine .val (i:=13) (v:=ptr a) (v':=x 13) ah (r 7 ah).2.symm ?_;exact .eqv ah s
theorem RI(r:cT O a b 1 f po m k on j h W)(u:aI Xm O R W):bF o O fh fi (c::l) jy (fg a b p v4) km (kM a b f po m k nb j h on) W W 9:=λv x rest s t=>by
 refine .val (i:=14) (v:=x 14) (v':=ptr a) ah (s 8 ah).2 ?_;refine .ep (i:=9) ah bJ (t:=26) (x:=.tmp 14) (a:=⟨a,0,af⟩) (v:=.slice (ae ⟨f,po,af⟩) m k) ah ah A4 r.iC r.cw ?_;refine .val (i:=14) (v:=ptr a) (v':=x 14) ah (s 8 ah).2.symm ?_;exact .eqv ah t
theorem Rt(u:cT O a b 1 f po m k on j h W)(t:aI Xm O R W):bF o O fh fi (c::l) jy (fg a b p v4) km (kM a b f po m k nb j h on) W W 10:=λv x rest r s=>by
 refine .val (i:=15) (v:=x 15) (v':=.slice (ae ⟨f,po,af⟩) m k) ah (r 9 ah).2 ?_;refine .K 1 ?_;refine .val (i:=15) (v:=.slice (ae ⟨f,po,af⟩) m k) (v':=x 15) ah (r 9 ah).2.symm ?_;exact .eqv ah s
theorem Ru(t:cT O a b 1 f po m k on j h W)(H:aI Xm O R W):bF o O fh fi (c::l) jy (fg a b p v4) km (kM a b f po m k nb j h on) W W 11:=λa1 x rest s N=>by
 refine .val (i:=11) (v:=x 11) (v':=.int .i64 on) ah (s 5 ah).2 ?_;refine .val (i:=16) (v:=x 16) (v':=.int .i64 (m:Int)) ah (s 10 ah).2 ?_;refine .call (i:=11) bI ah (f:=19) (args:= #[.tmp 11,.tmp 16]) (ats:= #[3,3]) ah qY.1 qY.2.1 qY.2.2 Es (vals:= #[.int .i64 on,.int .i64 (m:Int)]) ah H (mV (.int _ _) (.int _ _)) (Post1:=λv u=>v=.int .i64 (eC on m:Int)/\∃r d,u=Sim.re W r d) (λv u r d ⟨y,B⟩=>⟨y,by obtain⟨aQ,d',rfl⟩:=B;exact⟨r,d,rfl⟩⟩) (λr=>(FJ on m (Sim.re W r 0) t.pos t.cI t.int).mono λe u w=>⟨_,w.1,rfl,r,0,w.2⟩) λv W1 Z U _ _ _ _=> ?_;obtain⟨rfl,r,d,rfl⟩:=U;refine .re ?_;refine .val (i:=11) (v:=.int .i64 on) (v':=x 11) ah (s 5 ah).2.symm ?_;refine .val (i:=16) (v:=.int .i64 (m:Int)) (v':=x 16) ah (s 10 ah).2.symm ?_;exact .eqv ah N
theorem Rv(s:cT O a b 1 f po m k on j h W)(u:aI Xm O R W):bF o O fh fi (c::l) jy (fg a b p v4) km (kM a b f po m k nb j h on) W W 12:=λw x rest r t=>by
 refine .val (i:=9) (v:=x 9) (v':=.slice (ae ⟨f,po,af⟩) m k) ah (r 3 ah).2 ?_;refine .val (i:=17) (v:=x 17) (v':=.int .i64 (eC on m:Int)) ah (r 11 ah).2 ?_;have v:=(yV on s.pos).1;refine .ri (i:=12) ah bI (t:=26) (x:=.tmp 9) (y:=.tmp 17) (e:=42) (n:=2) (a:=⟨f,po,af⟩) (l:=m) (c:=k) (k:=(eC on m:Int)) ah ah ah ⟨ag,ag⟩ NN Hc ?_;rw[DK];refine .val (i:=9) (v:=.slice (ae ⟨f,po,af⟩) m k) (v':=x 9) ah (r 3 ah).2.symm ?_;refine .val (i:=17) (v:=.int .i64 (eC on m:Int)) (v':=x 17) ah (r 11 ah).2.symm ?_;exact .eqv ah t
theorem Rw(s:cT O a b 1 f po m k on j h W)(B:aI Xm O R W):bF o O fh fi (c::l) jy (fg a b p v4) km (kM a b f po m k nb j h on) W W 13:=λH x rest t y=>by
 refine .val (i:=18) (v:=x 18) (v':=.pointer (ae ⟨f,po+eC on m*2,af⟩)) ah (t 12 ah).2 ?_;refine .jd (i:=13) ah bJ (t:=42) (x:=.tmp 18) (a:=⟨f,po+eC on m*2,af⟩) (vs:=[ptr j,ptr h]) ah ah (λw=>ah) (λw=>ah) s.cR (cC _ _ s.ca) (λv u r=> ?_) ?_
 ·match v,r with
  |0,r=>cases r;exact s.ca
  |1,r=>cases r;exact s.cb
  |v+2,r=>simp at r
 refine .val (i:=18) (v:=.pointer (ae ⟨f,po+eC on m*2,af⟩)) (v':=x 18) ah (t 12 ah).2.symm ?_;exact .eqv ah y
theorem Rx(u:cT O a b 1 f po m k on j h W)(t:aI Xm O R W)(s:W.heap.size=nb):bF o O fh fi (c::l) jy (fg a b p v4) km (kM a b f po m k nb j h on) W (W.alloc eI) 14:=λw x rest v r=>by
 refine .uk (i:=14) (ob:=eI) ah bJ (vE _ _ ah).1 (vE _ _ ah).2 ?_;rw[s];exact .eqv ah r
theorem XQ(hP:cT O a b 1 f po m k on j h W)(Z:aI Xm O R W)(H:W.heap.size=nb)(ab:R j j)(aa:R h h)(s:∀r N,r 5=ptr nb->aI Xm O N (W.alloc (.cells #[ptr j,ptr h] 42))->N nb nb->BR.Sub R N->ay aj o O (aw (fh.at ⟨fg a b p v4 r,[]⟩ fi) (c::l)) (W.alloc (.cells #[ptr j,ptr h] 42))):ay aj o O (aw (fh.at ⟨fg a b p v4 r,[]⟩ (.code (.region 1 jy aq)::fi)) (c::l)) W:=by
 have hB:aO W (W.alloc eI):=⟨az,λa2 hb=>rL _ _ _ hb,rfl,rfl⟩;have ai:=Z.grown eI;have al:=hP.cv hB;refine .eqv (g':=aw (fh.at ⟨fg a b p v4 r,[]⟩ (.code (.region 1 jy aq)::fi)) (c::l)) rfl ?_;have key:=ay.wW (P:=aj) (Post:=o) (O:=O) (id:=1) (fr:=fh) (cs:=c::l) (k:=fi) (T:=fg a b p v4) (x:=r) (ops:=jy) (n:=16) (c:=15) (W:=λx=>if x 14=aq then W.alloc eI else W) (D:=km) (V:=kM a b f po m k nb j h on) ah ah (λi an hi hj w=>by unfold km at w;split at w<;>split at w<;>omega) (λi hi x r rest hl t s=> ?_) λr x a8 y=> ?_;·exact key
 ·by_cases U:i=14
  ·subst U;rw[if_pos (by unfold cz;simp)]at s;rw[hl,if_neg bc];exact Rx hP Z H _ _ _ t s
  ·have e:cz x i 14=x 14:=iV x (jm U);simp only[e]at s;have v:cT O a b 1 f po m k on j h (if x 14=aq then W.alloc eI else W):=by split<;>assumption
   have u:aI Xm O R (if x 14=aq then W.alloc eI else W):=by split<;>assumption
   generalize (if x 14=aq then W.alloc eI else W)=W1 at*
   match i,hi,U with
   |0,_,_=>exact Rq v u _ _ _ t s
   |1,_,_=>exact Rr v u _ _ _ t s
   |2,_,_=>exact Rz v u _ _ _ t s
   |3,_,_=>exact RA v u _ _ _ t s
   |4,_,_=>exact RD v u _ _ _ t s
   |5,_,_=>exact RE v u _ _ _ t s
   |6,_,_=>exact RF v u _ _ _ t s
   |7,_,_=>exact RG v u _ _ _ t s
   |8,_,_=>exact RH v u _ _ _ t s
   |9,_,_=>exact RI v u _ _ _ t s
   |10,_,_=>exact Rt v u _ _ _ t s
   |11,_,_=>exact Ru v u _ _ _ t s
   |12,_,_=>exact Rv v u _ _ _ t s
   |13,_,_=>exact Rw v u _ _ _ t s
   |14,_,w=>exact absurd rfl w
   |_+15,w,_=>exact absurd w ag
 ·simp only[a8 14 ag,if_true];refine .val (i:=5) (v:=r 5) (v':=ptr nb) ah (y 14 ag) ?_;refine .val (i:=19) (v:=r 19) (v':=.agg #[ptr j,ptr h]) ah (y 13 ag) ?_;have a7:aI Xm O (R.add W.heap.size W.heap.size) (W.alloc eI):=Z.boxed (v:=.agg #[.pointer af,.pointer af]) (sK (mV .pnil .pnil)) 42;refine .Fx (i:=15) (U:=[5,19]) (St:=λw'=>∃B d,w'=Sim.re (W.alloc (.cells #[ptr j,ptr h] 42)) B d) ah bI ah ah a7 (λao hu=> ?_) (λB d=>⟨_,Gj (w:=Sim.re W B d) (x:=.tmp 5) (y:=.tmp 19) ah (by rw[<-H];kernel_rfl) ah rfl rfl,B,d,rfl⟩) λw1 R1 ac a6 a1 am=> ?_
  ·simp at hu;rcases hu with rfl|rfl;·exact qz (u:=ptr nb) ah (.ptr ⟨by rw[<-H];exact .inr ⟨rfl,rfl⟩,rfl,rfl⟩)
   ·exact qz (u:=.agg #[ptr j,ptr h]) ah (sK (mV (.ptr ⟨.inl ab,rfl,rfl⟩) (.ptr ⟨.inl aa,rfl,rfl⟩)))
  ·obtain⟨B,d,rfl⟩:=ac;refine .re ?_;refine .K 1 ?_;refine .val (i:=5) (v:=ptr nb) (v':=r 5) ah (y 14 ag).symm ?_;refine .val (i:=19) (v:=.agg #[ptr j,ptr h]) (v':=r 19) ah (y 13 ag).symm ?_;exact .eqv ah (s r R1 (y 14 ag) (a6.re W.tape W.drawn) (a1 _ _ (by rw[<-H];exact .inr ⟨rfl,rfl⟩)) λad a2 w=>a1 _ _ (.inl w))
end
def ij(a b:Nat)(p:au)(s:au)(v4:au)(t:au)(x:Nat->au):Array Value:= #[ptr a,p,s,x 3,v4,ptr b,t,x 7,x 8,x 9,x 10,x 11,x 12,x 13,x 14,x 15,x 16,x 17,x 18,x 19,x 20,x 21,x 22,x 23,x 24,x 25,x 26,x 27,x 28,x 29,x 30,x 31,x 32,x 33,x 34,x 35,x 36,x 37]
noncomputable def Ib:Code:=(Tryz.f38.body).getD .skip
noncomputable def iq:Frame:={fn:=38,tmps:= #[],todo:=[],defers:=[],mode:=.run,kind:=.normal}
noncomputable def jA:Array Oper:=match cd [1,0] Ib with
 | .region _ a _=>a
 |_=> #[]
noncomputable def ir:List Item:=[.code (cd [1,1] Ib)]
def kp(i:Nat):Nat:=if i<14 then 10+i else 7
def kO(a b f po m k nb j h:Nat)(on:Int):Nat->au
 |0=>ptr a
 |1=>ptr a
 |2=>ptr a
 |3=>.slice (ae ⟨f,po,af⟩) m k
 |4=>.pointer (ae ⟨b,2,af⟩)
 |5=>.int .i64 on
 |6=>ptr a
 |7=>ptr a
 |8=>ptr a
 |9=>.slice (ae ⟨f,po,af⟩) m k
 |10=>.int .i64 (m:Int)
 |11=>.int .i64 (eC on m:Int)
 |12=>.pointer (ae ⟨f,po+eC on m*2,af⟩)
 |13=>.agg #[ptr j,ptr h]
 |14=>ptr nb
 |_=>aN
section
variable {o:au->ak->Prop} {O:Nat->Prop} {R:BR} {W:ak} {a b f po m k nb j h:Nat} {on:Int} {p:au} {s:au} {v4:au} {t:au} {c:aC} {l:List aC}
theorem S1(v:cT O a b 2 f po m k on j h W)(u:aI Xm O R W):bF o O iq ir (c::l) jA (ij a b p s v4 t) kp (kO a b f po m k nb j h on) W W 0:=λy x rest w r=>by
 refine .K 1 ?_;exact .eqv ah r
theorem S3(w:cT O a b 2 f po m k on j h W)(v:aI Xm O R W):bF o O iq ir (c::l) jA (ij a b p s v4 t) kp (kO a b f po m k nb j h on) W W 1:=λy x rest r u=>by
 refine .val (i:=10) (v:=x 10) (v':=ptr a) ah (r 0 ah).2 ?_;refine .K 1 ?_;refine .val (i:=10) (v:=ptr a) (v':=x 10) ah (r 0 ah).2.symm ?_;exact .eqv ah u
theorem S9(w:cT O a b 2 f po m k on j h W)(v:aI Xm O R W):bF o O iq ir (c::l) jA (ij a b p s v4 t) kp (kO a b f po m k nb j h on) W W 2:=λy x rest r u=>by
 refine .val (i:=11) (v:=x 11) (v':=ptr a) ah (r 1 ah).2 ?_;refine .K 1 ?_;refine .val (i:=11) (v:=ptr a) (v':=x 11) ah (r 1 ah).2.symm ?_;exact .eqv ah u
theorem Sa(r:cT O a b 2 f po m k on j h W)(w:aI Xm O R W):bF o O iq ir (c::l) jA (ij a b p s v4 t) kp (kO a b f po m k nb j h on) W W 3:=λy x rest u v=>by
 refine .val (i:=12) (v:=x 12) (v':=ptr a) ah (u 2 ah).2 ?_;refine .ep (i:=3) ah bJ (t:=26) (x:=.tmp 12) (a:=⟨a,0,af⟩) (v:=.slice (ae ⟨f,po,af⟩) m k) ah ah A4 r.iC r.cw ?_;refine .val (i:=12) (v:=ptr a) (v':=x 12) ah (u 2 ah).2.symm ?_;exact .eqv ah v
theorem Sb(v:cT O a b 2 f po m k on j h W)(u:aI Xm O R W):bF o O iq ir (c::l) jA (ij a b p s v4 t) kp (kO a b f po m k nb j h on) W W 4:=λy x rest w r=>by
 refine .K 1 ?_;exact .eqv ah r
theorem Sc(r:cT O a b 2 f po m k on j h W)(w:aI Xm O R W):bF o O iq ir (c::l) jA (ij a b p s v4 t) kp (kO a b f po m k nb j h on) W W 5:=λy x rest u v=>by
 refine .val (i:=14) (v:=x 14) (v':=.pointer (ae ⟨b,2,af⟩)) ah (u 4 ah).2 ?_;refine .ep (i:=5) ah bJ (t:=3) (x:=.tmp 14) (a:=⟨b,2,af⟩) (v:=.int .i64 on) ah ah ib r.fA r.co ?_;refine .val (i:=14) (v:=.pointer (ae ⟨b,2,af⟩)) (v':=x 14) ah (u 4 ah).2.symm ?_;exact .eqv ah v
theorem Sd(v:cT O a b 2 f po m k on j h W)(u:aI Xm O R W):bF o O iq ir (c::l) jA (ij a b p s v4 t) kp (kO a b f po m k nb j h on) W W 6:=λy x rest w r=>by
 refine .K 1 ?_;exact .eqv ah r
theorem Se(w:cT O a b 2 f po m k on j h W)(v:aI Xm O R W):bF o O iq ir (c::l) jA (ij a b p s v4 t) kp (kO a b f po m k nb j h on) W W 7:=λy x rest r u=>by
 refine .val (i:=16) (v:=x 16) (v':=ptr a) ah (r 6 ah).2 ?_;refine .K 1 ?_;refine .val (i:=16) (v:=ptr a) (v':=x 16) ah (r 6 ah).2.symm ?_;exact .eqv ah u
theorem Sf(w:cT O a b 2 f po m k on j h W)(v:aI Xm O R W):bF o O iq ir (c::l) jA (ij a b p s v4 t) kp (kO a b f po m k nb j h on) W W 8:=λy x rest r u=>by
 refine .val (i:=17) (v:=x 17) (v':=ptr a) ah (r 7 ah).2 ?_;refine .K 1 ?_;refine .val (i:=17) (v:=ptr a) (v':=x 17) ah (r 7 ah).2.symm ?_;exact .eqv ah u
theorem Sg(r:cT O a b 2 f po m k on j h W)(w:aI Xm O R W):bF o O iq ir (c::l) jA (ij a b p s v4 t) kp (kO a b f po m k nb j h on) W W 9:=λy x rest u v=>by
 refine .val (i:=18) (v:=x 18) (v':=ptr a) ah (u 8 ah).2 ?_;refine .ep (i:=9) ah bJ (t:=26) (x:=.tmp 18) (a:=⟨a,0,af⟩) (v:=.slice (ae ⟨f,po,af⟩) m k) ah ah A4 r.iC r.cw ?_;refine .val (i:=18) (v:=ptr a) (v':=x 18) ah (u 8 ah).2.symm ?_;exact .eqv ah v
theorem S4(w:cT O a b 2 f po m k on j h W)(v:aI Xm O R W):bF o O iq ir (c::l) jA (ij a b p s v4 t) kp (kO a b f po m k nb j h on) W W 10:=λy x rest r u=>by
 refine .val (i:=19) (v:=x 19) (v':=.slice (ae ⟨f,po,af⟩) m k) ah (r 9 ah).2 ?_;refine .K 1 ?_;refine .val (i:=19) (v:=.slice (ae ⟨f,po,af⟩) m k) (v':=x 19) ah (r 9 ah).2.symm ?_;exact .eqv ah u
theorem S5(w:cT O a b 2 f po m k on j h W)(U:aI Xm O R W):bF o O iq ir (c::l) jA (ij a b p s v4 t) kp (kO a b f po m k nb j h on) W W 11:=λa2 x rest u Z=>by
 refine .val (i:=15) (v:=x 15) (v':=.int .i64 on) ah (u 5 ah).2 ?_;refine .val (i:=20) (v:=x 20) (v':=.int .i64 (m:Int)) ah (u 10 ah).2 ?_;refine .call (i:=11) bI ah (f:=19) (args:= #[.tmp 15,.tmp 20]) (ats:= #[3,3]) ah qY.1 qY.2.1 qY.2.2 Es (vals:= #[.int .i64 on,.int .i64 (m:Int)]) ah U (mV (.int _ _) (.int _ _)) (Post1:=λv y=>v=.int .i64 (eC on m:Int)/\∃r d,y=Sim.re W r d) (λv y r d ⟨H,N⟩=>⟨H,by obtain⟨aQ,d',rfl⟩:=N;exact⟨r,d,rfl⟩⟩) (λr=>(FJ on m (Sim.re W r 0) w.pos w.cI w.int).mono λe y B=>⟨_,B.1,rfl,r,0,B.2⟩) λv W1 R1 a1 _ _ _ _=> ?_;obtain⟨rfl,r,d,rfl⟩:=a1;refine .re ?_;refine .val (i:=15) (v:=.int .i64 on) (v':=x 15) ah (u 5 ah).2.symm ?_;refine .val (i:=20) (v:=.int .i64 (m:Int)) (v':=x 20) ah (u 10 ah).2.symm ?_;exact .eqv ah Z
theorem S6(u:cT O a b 2 f po m k on j h W)(w:aI Xm O R W):bF o O iq ir (c::l) jA (ij a b p s v4 t) kp (kO a b f po m k nb j h on) W W 12:=λB x rest r v=>by
 refine .val (i:=13) (v:=x 13) (v':=.slice (ae ⟨f,po,af⟩) m k) ah (r 3 ah).2 ?_;refine .val (i:=21) (v:=x 21) (v':=.int .i64 (eC on m:Int)) ah (r 11 ah).2 ?_;have y:=(yV on u.pos).1;refine .ri (i:=12) ah bI (t:=26) (x:=.tmp 13) (y:=.tmp 21) (e:=42) (n:=2) (a:=⟨f,po,af⟩) (l:=m) (c:=k) (k:=(eC on m:Int)) ah ah ah ⟨ag,ag⟩ NN Hc ?_;rw[DK];refine .val (i:=13) (v:=.slice (ae ⟨f,po,af⟩) m k) (v':=x 13) ah (r 3 ah).2.symm ?_;refine .val (i:=21) (v:=.int .i64 (eC on m:Int)) (v':=x 21) ah (r 11 ah).2.symm ?_;exact .eqv ah v
theorem S7(v:cT O a b 2 f po m k on j h W)(N:aI Xm O R W):bF o O iq ir (c::l) jA (ij a b p s v4 t) kp (kO a b f po m k nb j h on) W W 13:=λU x rest y H=>by
 refine .val (i:=22) (v:=x 22) (v':=.pointer (ae ⟨f,po+eC on m*2,af⟩)) ah (y 12 ah).2 ?_;refine .jd (i:=13) ah bJ (t:=42) (x:=.tmp 22) (a:=⟨f,po+eC on m*2,af⟩) (vs:=[ptr j,ptr h]) ah ah (λw=>ah) (λw=>ah) v.cR (cC _ _ v.ca) (λB u r=> ?_) ?_
 ·match B,r with
  |0,r=>cases r;exact v.ca
  |1,r=>cases r;exact v.cb
  |B+2,r=>simp at r
 refine .val (i:=22) (v:=.pointer (ae ⟨f,po+eC on m*2,af⟩)) (v':=x 22) ah (y 12 ah).2.symm ?_;exact .eqv ah H
theorem S8(w:cT O a b 2 f po m k on j h W)(v:aI Xm O R W)(u:W.heap.size=nb):bF o O iq ir (c::l) jA (ij a b p s v4 t) kp (kO a b f po m k nb j h on) W (W.alloc eI) 14:=λB x rest y r=>by
 refine .uk (i:=14) (ob:=eI) ah bJ (vE _ _ ah).1 (vE _ _ ah).2 ?_;rw[u];exact .eqv ah r
theorem XS(hP:cT O a b 2 f po m k on j h W)(hK:aI Xm O R W)(U:W.heap.size=nb)(ab:R j j)(aa:R h h)(u:∀r Z,r 7=ptr nb->aI Xm O Z (W.alloc (.cells #[ptr j,ptr h] 42))->Z nb nb->BR.Sub R Z->ay aj o O (aw (iq.at ⟨ij a b p s v4 t r,[]⟩ ir) (c::l)) (W.alloc (.cells #[ptr j,ptr h] 42))):ay aj o O (aw (iq.at ⟨ij a b p s v4 t r,[]⟩ (.code (.region 1 jA aq)::ir)) (c::l)) W:=by
 have hB:aO W (W.alloc eI):=⟨az,λa2 hb=>rL _ _ _ hb,rfl,rfl⟩;have ai:=hK.grown eI;have al:=hP.cv hB;refine .eqv (g':=aw (iq.at ⟨ij a b p s v4 t r,[]⟩ (.code (.region 1 jA aq)::ir)) (c::l)) rfl ?_;have key:=ay.wW (P:=aj) (Post:=o) (O:=O) (id:=1) (fr:=iq) (cs:=c::l) (k:=ir) (T:=ij a b p s v4 t) (x:=r) (ops:=jA) (n:=16) (c:=15) (W:=λB=>if B 14=aq then W.alloc eI else W) (D:=kp) (V:=kO a b f po m k nb j h on) ah ah (λi an hi hj y=>by unfold kp at y;split at y<;>split at y<;>omega) (λi hi B r rest hl v u=> ?_) λr B a8 H=> ?_;·exact key
 ·by_cases eP:i=14
  ·subst eP;rw[if_pos (by unfold cz;simp)]at u;rw[hl,if_neg bc];exact S8 hP hK U _ _ _ v u
  ·have e:cz B i 14=B 14:=iV B (jm eP);simp only[e]at u;have x:cT O a b 2 f po m k on j h (if B 14=aq then W.alloc eI else W):=by split<;>assumption
   have w:aI Xm O R (if B 14=aq then W.alloc eI else W):=by split<;>assumption
   generalize (if B 14=aq then W.alloc eI else W)=W1 at*
   match i,hi,eP with
   |0,_,_=>exact S1 x w _ _ _ v u
   |1,_,_=>exact S3 x w _ _ _ v u
   |2,_,_=>exact S9 x w _ _ _ v u
   |3,_,_=>exact Sa x w _ _ _ v u
   |4,_,_=>exact Sb x w _ _ _ v u
   |5,_,_=>exact Sc x w _ _ _ v u
   |6,_,_=>exact Sd x w _ _ _ v u
   |7,_,_=>exact Se x w _ _ _ v u
   |8,_,_=>exact Sf x w _ _ _ v u
   |9,_,_=>exact Sg x w _ _ _ v u
   |10,_,_=>exact S4 x w _ _ _ v u
   |11,_,_=>exact S5 x w _ _ _ v u
   |12,_,_=>exact S6 x w _ _ _ v u
   |13,_,_=>exact S7 x w _ _ _ v u
   |14,_,y=>exact absurd rfl y
   |_+15,y,_=>exact absurd y ag
 ·simp only[a8 14 ag,if_true];refine .val (i:=7) (v:=r 7) (v':=ptr nb) ah (H 14 ag) ?_;refine .val (i:=23) (v:=r 23) (v':=.agg #[ptr j,ptr h]) ah (H 13 ag) ?_;have a7:aI Xm O (R.add W.heap.size W.heap.size) (W.alloc eI):=hK.boxed (v:=.agg #[.pointer af,.pointer af]) (sK (mV .pnil .pnil)) 42;refine .Fx (i:=15) (U:=[7,23]) (St:=λw'=>∃N d,w'=Sim.re (W.alloc (.cells #[ptr j,ptr h] 42)) N d) ah bI ah ah a7 (λao hu=> ?_) (λN d=>⟨_,Gj (w:=Sim.re W N d) (x:=.tmp 7) (y:=.tmp 23) ah (by rw[<-U];kernel_rfl) ah rfl rfl,N,d,rfl⟩) λw1 R1 ac a6 a1 am=> ?_
  ·simp at hu;rcases hu with rfl|rfl;·exact qz (u:=ptr nb) ah (.ptr ⟨by rw[<-U];exact .inr ⟨rfl,rfl⟩,rfl,rfl⟩)
   ·exact qz (u:=.agg #[ptr j,ptr h]) ah (sK (mV (.ptr ⟨.inl ab,rfl,rfl⟩) (.ptr ⟨.inl aa,rfl,rfl⟩)))
  ·obtain⟨N,d,rfl⟩:=ac;refine .re ?_;refine .K 1 ?_;refine .val (i:=7) (v:=ptr nb) (v':=r 7) ah (H 14 ag).symm ?_;refine .val (i:=23) (v:=.agg #[ptr j,ptr h]) (v':=r 23) ah (H 13 ag).symm ?_;exact .eqv ah (u r R1 (H 14 ag) (a6.re W.tape W.drawn) (a1 _ _ (by rw[<-U];exact .inr ⟨rfl,rfl⟩)) λad a2 y=>a1 _ _ (.inl y))
end
section
variable {o:au->ak->Prop} {O:Nat->Prop} {R:BR} {W:ak} {a b f po m k nb j h y v x:Nat} {on:Int} {u:Array au} {c:aC} {l:List aC}
theorem WG(r:W.heap.size=b)(w:b+1=nb)(t:cT O a b 1 f po m k on j h (W.alloc (.cells u 39)))(s:aI Xm O R W)(B:R j j)(y:R h h)(v:∀x p,x 5=ptr nb->aI Xm O p ((W.alloc (.cells u 39)).alloc (.cells #[ptr j,ptr h] 42))->p nb nb->BR.Sub R p->ay aj o O (aw (ey.at ⟨eu a b (.agg u) (.bool ax) x,[]⟩ ez) (c::l)) ((W.alloc (.cells u 39)).alloc (.cells #[ptr j,ptr h] 42))):ay aj o O (aw (bG aj 22 #[ptr a,.agg u] .normal) (c::l)) W:=by
 refine .K 2 ?_;refine .bx (i:=0) ah bJ (t:=39) (s:=1) (v:=.agg u) ah ah ?_;rw[r];refine .K 3 ?_;exact .eqv (g':=aw (ey.at ⟨eu a b (.agg u) (.bool ax) (xF (nxtN aj aq 3 (bt (nxtN aj aq 2 (aw (bG aj 22 #[ptr a,.agg u] .normal) (c::l))) (ptr b))).frame),[]⟩ (.code (.region 1 jz aq)::ez)) (c::l)) ah (XR t (s.grown _) (by rw[dh,r,w]) B y v)
theorem VV(r:W.heap.size=b)(w:b+1=nb)(t:cT O a b 1 f po m k on j h (W.alloc (.cells u 39)))(s:aI Xm O R W)(B:R j j)(y:R h h)(v:∀x p,x 5=ptr nb->aI Xm O p ((W.alloc (.cells u 39)).alloc (.cells #[ptr j,ptr h] 42))->p nb nb->BR.Sub R p->ay aj o O (aw (fh.at ⟨fg a b (.agg u) (.bool ax) x,[]⟩ fi) (c::l)) ((W.alloc (.cells u 39)).alloc (.cells #[ptr j,ptr h] 42))):ay aj o O (aw (bG aj 11 #[ptr a,.agg u] .normal) (c::l)) W:=by
 refine .K 2 ?_;refine .bx (i:=0) ah bJ (t:=39) (s:=1) (v:=.agg u) ah ah ?_;rw[r];refine .K 3 ?_;exact .eqv (g':=aw (fh.at ⟨fg a b (.agg u) (.bool ax) (xF (nxtN aj aq 3 (bt (nxtN aj aq 2 (aw (bG aj 11 #[ptr a,.agg u] .normal) (c::l))) (ptr b))).frame),[]⟩ (.code (.region 1 jy aq)::fi)) (c::l)) ah (XQ t (s.grown _) (by rw[dh,r,w]) B y v)
end
