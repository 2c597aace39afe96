/- All: for every script handed in that holds at most 1048576 values and letters, the call returns true and leaves what it was given as it was. (Names and spaces in these texts were shortened by a program, since a claim may hold 1,500,000 bytes.) -/
import Derived.Test.YtcgjppacnhmjlaaGreatMAL
import Derived.Conc.LeavingOf
import Derived.ProofKit
import Derived.Deep.Slices
import Derived.Test.YtcgjppacnhmjlaaGreatMAQ
import Derived.Test.YtcgjppacnhmjlaaGreatRows
import Derived.JoinedCond
set_option linter.all false
set_option maxRecDepth 100000
open Array renaming getElem?_eq_some_iff->cq,getElem?_toList->zF
open Bool renaming true->aq
open Go renaming World->ak,Value->au,TypeId->aK,Addr->aH,maxLen->cE,MemPlace->rX,DataW->nI
open Go.Addr renaming add_lit->jF,add->vf
open Go.DataW renaming trod->iN,trod_struct->az3
open Go.Proofs.Tryz renaming prog->aj,underlying34->CG,underlying9->Oi,underlying3->Oj,underlying22->az6
open Go.Proofs.YtcgjppacnhmjlaaGreat.Rows renaming uptoBulk->l8,uptoBulkAll->zM
open Go.World renaming cells?_some->GY
open List renaming getElem?_eq_getElem->bf,getElem?_eq_some_iff->cu,mem_of_getElem?->cG,mem_cons->dk,mem_range->eh,range->dn,getElem?_of_mem->lJ,mem_map->iL,length_cons->rM,take_succ_cons->NR,drop_succ_cons->NV,take_zero->Ow,drop_zero->Ox
open Nat renaming mul_one->tj
open Option renaming some->ae,none->af,isSome_iff_exists->sO
namespace Go.Proofs.YtcgjppacnhmjlaaGreat
open Go.ChangeShapes Go.WideShapes Go.ChangeAt Go.RowKit Go.Deep Go Go.Conc Go.ConcN Go.Conc.Lib Go.ConcR.Gen
open Sim (OpV OpIn OpsIn OpIn2 ScriptIn)
variable {b c k:Nat} {o:Nat->Bool} {p:Bool} {j:au} {f:List au}
theorem Z6:ownKnob aj.godebug=none:=ah
theorem laidOut:laidOutB aj=true:=ah
theorem yi:aj.cellsOf 3=1:=ah
theorem DU:aj.cellsOf 9=1:=ah
theorem QE:aj.cellsOf 37=1:=ah
theorem IX:aj.cellsOf 22=1:=ah
theorem IW:aj.cellsOf 39=9:=ah
theorem UH{n:Int}(h:(Lit.int .i64 n).wf=aq): -9223372036854775808<=n/\n<=9223372036854775807:=by
 simpa[Lit.wf,IntKind.min,IntKind.max,IntKind.signed,IntKind.bits]using h
section
variable {H:Type} {a:aK×au->H} {W:ak}
theorem yx{x:Option (nI H×List rX)}(l:x.isSome=aq)(h:iN a aj W c o p b 3 [j]=x):∃n,j=.int .i64 n/\ -9223372036854775808<=n/\n<=9223372036854775807:=by
 cases x with
 |none=>cases l
 |some x=>
  obtain⟨n,f,_,k⟩:=DataW.trod_int Oj h;simp at f;exact⟨n,f,UH k⟩
theorem Gk{x:Option (nI H×List rX)}(l:x.isSome=aq)(h:iN a aj W c o p b 9 [j]=x):∃s:ByteArray,j=.string s/\s.size<=9223372036854775807:=by
 cases x with
 |none=>cases l
 |some x=>
  obtain⟨n,f,_,k⟩:=DataW.trod_string Oi h;simp at f;exact⟨n,f,by unfold cE at k;omega⟩
end
section
variable {H:Type}
theorem Ql(d:nI H):1<=l8 d:=by
 cases d with
 |lit l=>cases l<;>simp[l8]
 |_=>simp[l8]
theorem Qk(l:List (nI H)):l.length<=zM l:=by
 induction l with
 |nil=>simp[zM]
 |cons x r a=>have:=Ql x;simp only[zM,rM];omega
theorem IJ{d:nI H}{l:List (nI H)}(h:d∈l):l8 d<=zM l:=by
 induction l with
 |nil=>cases h
 |cons x r a=>
  simp only[zM];rcases dk.1 h with e|e;·subst e;omega
  ·have:=a e;omega
variable {a:aK×au->H} {W:ak}
theorem C3{x:Type}[Inhabited x]{a2 e:aK}{p:Nat->Nat->x->Prop}(ht:aj.underlying a2=ae (.slice e))(R:aj.cellsOf e=b)(am:0<b){a7:nI H×List rX}(hf:iN a aj W 0 (λ_=>aq) aq k a2 [j]=ae a7)(N:l8 a7.1<=c)(hp:∀(o q:Nat)(B:List au)(a8:nI H×List rX) (n:Nat),W.cells? 0 ⟨o,q,af⟩ b=ae B->iN a aj W 0 (λ_=>aq) aq n e B=ae a8->l8 a8.1<=c->∃f,p o q f):∃(y:Option aH)(l:List x) (cap:Nat),j=.slice y l.length cap/\l.length<=c/\l.length<=9223372036854775807/\∀(i:Nat) f,l[i]?=ae f->∃o q,y=ae ⟨o,q,af⟩/\p o (q+i*b) f:=by
 rcases open_slice ht hf with⟨s,_⟩|⟨f,len,cap,m,n,D,Pl,s,_,hl,hm,Z,ai,hx⟩
 ·simp at s;subst s;exact⟨af,[],0,rfl,az,az,λi f h=>by simp at h⟩
 ·simp at s;subst s;simp at Z;subst Z;unfold cE at hm;have al:zM ((dn len).map D)+1<=c:=by
   rw[ai]at N;simp only[l8]at N;omega
  have ac:=Qk ((dn len).map D);simp at ac;by_cases h0:len=0
  ·subst h0;exact⟨ae f,[],_,rfl,az,az,λi f h=>by simp at h⟩
  ·have a1:f.spot=none:=by
    obtain⟨v,t,_⟩:=hx 0 ag;obtain⟨_,ad,U⟩:=GY t;rw[R]at ad U;have r:=U 0 ag;have:(f.add (0*b)).add 0=f:=by cases f;simp[vf]
    rw[this]at r;obtain⟨a6,hu⟩:∃a6,v[0]?=ae a6:=⟨_,bf ag⟩;rw[hu]at r;exact World.cell?_spot r
   obtain⟨o,q,sp⟩:=f;simp at a1;subst a1;obtain⟨aa,ab⟩:=choose_lt (n:=len) (p:=λi f=>p o (q+i*b) f) (λi u=>by
    obtain⟨v,t,r⟩:=hx i ag;rw[R,jF]at t;refine hp o (q+i*b) v (D i,Pl i) n t r ?_;have:=IJ (d:=D i) (l:=(dn len).map D) (iL.2 ⟨i,eh.2 u,rfl⟩);show l8 (D i)<=c;omega)
   refine⟨ae ⟨o,q,af⟩,(dn len).map aa,m,az,by simp;omega,by simp;omega,λi f w=> ?_⟩;have u:i<len:=by have:=(cu.mp w).1;simpa using this
   simp[u]at w;subst w;exact⟨o,q,rfl,ab i u⟩
theorem QF:aj.cellsOf 46=2:=ah
theorem QG:aj.cellsOf 34=1:=ah
theorem YW(h:W.cells? 0 ⟨b,c,af⟩ 1=ae f):∃v,f=[v]/\W.cell? ⟨b,c,af⟩=ae v:=by
 obtain⟨_,j,a⟩:=GY h
 match f,j with
 |[v],_=>
  have:=a 0 ag;rw[jF]at this;exact⟨v,rfl,this⟩
def Dz(W:ak)(k q:Nat)(a:PP):Prop:=W.cell? ⟨k,q,af⟩=ae (.string a.1)/\W.cell? ⟨k,q+1,af⟩=ae (.int .i64 a.2)/\a.1.size<=9223372036854775807
theorem Za{n:Nat}{y:nI H×List rX}(B:W.cells? 0 ⟨b,c,af⟩ 2=ae f)(N:iN a aj W 0 (λ_=>aq) aq n 46 f=ae y):∃x,Dz W b c x:=by
 obtain⟨_,R,p⟩:=GY B;obtain⟨k,v,_,_,_,U,t⟩:=az3 Tryz.underlying46 N;simp at U
 match f,R with
 |[v0,w],_=>
  have u:∀i,i<2->(k[i]?).isSome=true:=λi Z=>by simp;omega
  have h:iN a aj W 0 (λ_=>aq) aq v 9 ((([v0,w]:List au).drop 0).take (aj.cellsOf 9))=k[0]?:=t 0 _ rfl;rw[DU]at h;have j:iN a aj W 0 (λ_=>aq) aq v 3 ((([v0,w]:List au).drop 1).take (aj.cellsOf 3))=k[1]?:=t 1 _ rfl;rw[yi]at j;simp only[Ox,NV,NR,Ow]at h j;obtain⟨s,rfl,r⟩:=Gk (u 0 ag) h;obtain⟨m,rfl,_⟩:=yx (u 1 ag) j;have l:=p 0 ag;have o:=p 1 ag;rw[jF]at l o;exact⟨(s,m),l,o,r⟩
def Ij(W:ak)(B:Nat)(k q:Nat)(ps:List PP):Prop:=∃b h,W.cell? ⟨k,q,af⟩=ae (.slice b ps.length h)/\ps.length<=B/\∀(j:Nat) a,ps[j]?=ae a->∃c f,b=ae ⟨c,f,af⟩/\Dz W c (f+j*2) a
theorem Zc{n:Nat}{y:nI H×List rX}(h:W.cells? 0 ⟨c,k,af⟩ 1=ae f)(j:iN a aj W 0 (λ_=>aq) aq n 34 f=ae y)(s:l8 y.1<=b):∃ps,Ij W b c k ps:=by
 obtain⟨v,rfl,t⟩:=YW h;obtain⟨o,l,cap,rfl,p,_,r⟩:=C3 (p:=Dz W) CG QF ag j s (λc k f y n h j _=>Za h j);exact⟨l,o,cap,t,p,r⟩
theorem Zf{n:Nat}{y:nI H×List rX}(h:iN a aj W 0 (λ_=>aq) aq n 37 [j]=ae y)(hB:l8 y.1<=b):∃N pss pc,j=.slice N pss.length pc/\Sim.xZ W N pss/\pss.length<=b/\(∀ps∈pss,ps.length<=b)/\∀ps∈pss,∀q∈ps,q.1.size<=9223372036854775807:=by
 obtain⟨R,a1,cap,rfl,U,_,p⟩:=C3 (p:=Ij W b) Tryz.underlying37 QG ag h hB (λk q cs y n Z h2 h3=>Zc Z h2 h3);refine⟨R,a1,cap,rfl,λi ps c=> ?_,U,λps s=> ?_,λps s f ha=> ?_⟩
 ·obtain⟨k,q,e,l,o,c1,_,c2⟩:=p i ps c;rw[tj]at c1;refine⟨k,q,l,o,e,c1,λt f r=> ?_⟩;obtain⟨v,w,u,x,B,_⟩:=c2 t f r;exact⟨v,w,u,x,B⟩
 ·obtain⟨i,c⟩:=lJ s;obtain⟨k,q,e,l,o,c1,c3,c2⟩:=p i ps c;exact c3
 ·obtain⟨i,c⟩:=lJ s;obtain⟨k,q,e,l,o,c1,c3,c2⟩:=p i ps c;obtain⟨t,r⟩:=lJ ha;obtain⟨v,w,u,x,B,p3⟩:=c2 t f r;exact p3
instance:Inhabited OpV:=⟨⟨0,0,0,⟨#[]⟩,⟨#[]⟩,0,af,[],0,.slice af 0 0,.slice af 0 0⟩⟩
theorem Ly{n:Nat}{aa:nI H×List rX}(h1:W.cells? 0 ⟨b,c,af⟩ 9=ae f)(h2:iN a aj W 0 (λ_=>aq) aq n 39 f=ae aa)(hB:l8 aa.1<=1048576):∃o:OpV,OpIn W o/\(∀(j:Nat) a2,o.cells[j]?=ae a2->W.cell? ⟨b,c+j,af⟩=ae a2)/\∃h y7 y8,iN a aj W 0 (λ_=>aq) aq h 22 [o.fv]=ae y7/\l8 y7.1<=1048576/\iN a aj W 0 (λ_=>aq) aq h 22 [o.mv]=ae y8/\l8 y8.1<=1048576:=by
 obtain⟨_,ad,ab⟩:=GY h1;obtain⟨k,h,_,hy,_,ai,r⟩:=az3 Tryz.underlying39 h2;simp at ai;have a1:∀(i:Nat) x,k[i]?=ae x->l8 x.1<=1048576:=λi x hx=>by
  rw[hy]at hB;simp only[l8]at hB;have:=IJ (d:=x.1) (l:=k.map (·.1)) (iL.2 ⟨x,cG hx,rfl⟩);omega
 match f,ad with
 |[v0,t,u,v3,v4,v5,v,l,p],_=>
  have s:∀i,i<9->(k[i]?).isSome=true:=λi hi=>by simp;omega
  have N:iN a aj W 0 (λ_=>aq) aq h 3 ((([v0,t,u,v3,v4,v5,v,l,p]:List au).drop 0).take (aj.cellsOf 3))=k[0]?:=r 0 _ rfl;rw[yi]at N;have R:iN a aj W 0 (λ_=>aq) aq h 3 ((([v0,t,u,v3,v4,v5,v,l,p]:List au).drop 1).take (aj.cellsOf 3))=k[1]?:=r 1 _ rfl;rw[yi]at R;have U:iN a aj W 0 (λ_=>aq) aq h 3 ((([v0,t,u,v3,v4,v5,v,l,p]:List au).drop 2).take (aj.cellsOf 3))=k[2]?:=r 2 _ rfl;rw[yi]at U;have Z:iN a aj W 0 (λ_=>aq) aq h 9 ((([v0,t,u,v3,v4,v5,v,l,p]:List au).drop 3).take (aj.cellsOf 9))=k[3]?:=r 3 _ rfl;rw[DU]at Z;have g4:iN a aj W 0 (λ_=>aq) aq h 9 ((([v0,t,u,v3,v4,v5,v,l,p]:List au).drop 4).take (aj.cellsOf 9))=k[4]?:=r 4 _ rfl;rw[DU]at g4;have g5:iN a aj W 0 (λ_=>aq) aq h 3 ((([v0,t,u,v3,v4,v5,v,l,p]:List au).drop 5).take (aj.cellsOf 3))=k[5]?:=r 5 _ rfl;rw[yi]at g5;have w:iN a aj W 0 (λ_=>aq) aq h 37 ((([v0,t,u,v3,v4,v5,v,l,p]:List au).drop 6).take (aj.cellsOf 37))=k[6]?:=r 6 _ rfl;rw[QE]at w;have y:iN a aj W 0 (λ_=>aq) aq h 22 ((([v0,t,u,v3,v4,v5,v,l,p]:List au).drop 7).take (aj.cellsOf 22))=k[7]?:=r 7 _ rfl;rw[IX]at y;have B:iN a aj W 0 (λ_=>aq) aq h 22 ((([v0,t,u,v3,v4,v5,v,l,p]:List au).drop 8).take (aj.cellsOf 22))=k[8]?:=r 8 _ rfl;rw[IX]at B;simp only[Ox,NV,NR,Ow]at N R U Z g4 g5 w y B;obtain⟨n0,rfl,_⟩:=yx (s 0 ag) N;obtain⟨n1,rfl,r1⟩:=yx (s 1 ag) R;obtain⟨n2,rfl,r2⟩:=yx (s 2 ag) U;obtain⟨s3,rfl,r3⟩:=Gk (s 3 ag) Z;obtain⟨s4,rfl,r4⟩:=Gk (s 4 ag) g4;obtain⟨n5,rfl,r5⟩:=yx (s 5 ag) g5;obtain⟨x6,a6⟩:=sO.1 (s 6 ag);obtain⟨x7,a7⟩:=sO.1 (s 7 ag);obtain⟨x8,a8⟩:=sO.1 (s 8 ag);rw[a6]at w;rw[a7]at y;rw[a8]at B;obtain⟨pa,pss,pc,rfl,q1,q2,q3,q4⟩:=Zf w (a1 6 x6 a6);refine⟨⟨n0,n1,n2,s3,s4,n5,pa,pss,pc,l,p⟩,⟨r1,r2,r3,r4,q1,q2,q3,q4⟩,λj a2 hj=> ?_,h,x7,x8,y,a1 7 x7 a7,B,a1 8 x8 a8⟩;have ac:j<9:=(cq.1 hj).1;have:=ab j ac;rw[jF]at this;rw[this,<-hj,<-zF];rfl
theorem LA{n:Nat}{y:nI H×List rX}(h:iN a aj W 0 (λ_=>aq) aq n 22 [j]=ae y)(B:l8 y.1<=1048576):∃r p c,j=.slice r p.length c/\OpsIn W r p/\p.length<=9223372036854775807:=by
 obtain⟨t,l,cap,rfl,_,v,w⟩:=C3 (p:=λk q o=>OpIn W o/\∀(s:Nat) u,o.cells[s]?=ae u->W.cell? ⟨k,q+s,af⟩=ae u) az6 IW ag h B (λk q Z y n b f x=>by
  obtain⟨o,R,U,_⟩:=Ly b f x;exact⟨o,R,U⟩)
 refine⟨t,l,cap,rfl,λi o N=> ?_,v⟩;obtain⟨k,q,e,b,f⟩:=w i o N;exact⟨b,k,q,e,f⟩
theorem aj6{n:Nat}{v:au}{y:nI H×List rX}(a1:iN a aj W 0 (λ_=>aq) aq n 22 [v]=ae y)(hB:l8 y.1<=1048576):∃x w c,v=.slice x w.length c/\ScriptIn W x w/\w.length<=9223372036854775807:=by
 obtain⟨B,a2,cap,rfl,_,g1,g2⟩:=C3 (p:=λk q o=>(∃h t b r f s,OpIn2 W o h t b r f s)/\∀(j:Nat) u,o.cells[j]?=ae u->W.cell? ⟨k,q+j,af⟩=ae u) az6 IW ag a1 hB (λk q cs y n l p h3=>by
  obtain⟨o,q1,q2,n',y7,y8,t7,b7,t8,b8⟩:=Ly l p h3;obtain⟨b,h,f,N,U,Z⟩:=LA t7 b7;obtain⟨r,t,s,R,m1,m2⟩:=LA t8 b8;exact⟨o,⟨h,t,b,r,f,s,q1,N,R,U,m1,Z,m2⟩,q2⟩)
 refine⟨B,a2,cap,rfl,λi o hi=> ?_,g1⟩;obtain⟨k,q,e,l,p⟩:=g2 i o hi;exact⟨l,k,q,e,p⟩
end
namespace Sim
variable {l:Value->World->Prop} {h:World}
theorem ay.fin{P:Program}{O:Nat->Prop}{g:Goroutine}(u:g.status=.running)(c:∀a d,∃v,stepG P true g (Sim.re h a d)=.ended (.done v) (Sim.re h a d) #[]/\l v (Sim.re h a d)):ay P l O g h:=by
 intro a d w y t q f p r;exact beside_ends (D:=λ_ _ _=>False) (Shun:=vC O) (B:=h.heap.size) (n:=0) (λ_ _ _ x=>x.elim) f p r.qt (λB j=>by
  obtain⟨b,rfl⟩:=j;rw[AD];obtain⟨v,k,o⟩:=c a b;exact⟨u,v, #[],k,λe s=>by simp at s,o⟩)
theorem ay.first{P:Program}{g:Goroutine}(b:ay P l (λ_=>False) g h):Fin P l (crowd #[g] h none) #[]:=by
 have:=b h.tape h.drawn #[g] none #[] (λ_=>0) rfl (leavers_one P g) ⟨⟨past_nil.clean,λi a c=>by simp[touchAt,Trace.act?]at c,past_nil.over,rfl,az⟩,λi op x f=>by simp at f,az,az⟩;rwa[uE]at this
theorem VA(c:Tryz.prog.globals.size<=h.heap.size):aI Xm (λ_=>False) (λ_ _=>False) h:=⟨λa b c=>c.elim,⟨⟨λa b j c=>c.elim,λa f b c=>c.elim,λa b c=>c.elim⟩,⟨c,c⟩,λa i c=>c.elim,λa b c=>c.elim⟩,λa c=>c.elim,λa c=>c.elim⟩
noncomputable def TH(a:Value):Frame:=dZ (nxtN Tryz.prog true 1 (nxtN Tryz.prog true 7 (aw (Frame.enter Tryz.prog 6 #[a] .normal) []))).callers
theorem Q1{Post:Value->World->Prop}{W:World}{pa:Option Addr}{pc:Nat}{os:List OpV}(c:Tryz.prog.globals.size<=W.heap.size)(b:ScriptIn W pa os)(a:os.length<=9223372036854775807)(f:∀w,aO W w->Post (.bool true) w):Fin Tryz.prog Post (crowd #[aw (Frame.enter Tryz.prog 6 #[.slice pa os.length pc] .normal) []] W none) #[]:=by
 refine ay.first ?_;refine .K 7 ?_;refine .K 1 ?_;refine .eqv (g':=aw (Frame.enter Tryz.prog 7 #[.slice pa os.length pc,.int .i64 11] .normal) (TH (.slice pa os.length pc)::[])) ah (Yf (VA c) b a _ _ λv l o p j=> ?_);obtain⟨rfl,r,t,s,h⟩:=j;refine .K 3 ?_;exact .fin ah λk d=>⟨.bool true,ah,f _ (h.cv.re k d)⟩
end Sim
section
variable {H:Type} {a:TypeId×Value->H}
theorem QT{u:Assume}{C:Checked}{p:Os}{f:FuncId}{fn:Func}{s:OpenSpec}{k:(H:Type)->List (DataW H)->Bool}(hk:s.cond=some k){F:Stop.Interp}{l:List PathCond}{apart fresh y x:Bool}(own:ownKnob C.prog.godebug=none)(ai:p.Started)(Z:C.prog.funcs[f]?=some fn)(a8:C.prog.globals.size<(begin C.prog (λ_ _=>0) default).world.heap.size)(al:∃(w:World)(tape:Tape) (i:Input),w.os=p/\(w.forCall tape i).Shaped C.prog/\i.vars=[]/\Input.okWide C.prog (w.forCall tape i) .any w.heap.size f i/\s.pre6 a C.prog fn l apart (w.forCall tape i).memory i.args/\u.holds C.prog (lone (Frame.enter C.prog f i.args .normal) [] (w.forCall tape i)))(ad:∀(W:World)(base:Nat)(args:Array Value) (b c:List (DataW H)) (h:List MemPlace),C.prog.globals.size<=W.heap.size->(∀(j:Nat) t v,fn.params[j]?=some t->args[j]?=some v->Value.okWide C.prog W .any base t v)->DataW.Whole a C.prog fn.params.toList s.vars apart W args.toList b c h->k H (b++c)=true->∃M last o r B,runNT C.prog (M+1) (solo (G (Frame.enter C.prog f args .normal) []) W) #[]=(.ended o r,B)/\runN C.prog M (solo (G (Frame.enter C.prog f args .normal) []) W)=.next last/\step C.prog last=.ended o r/\Conc.Good C.prog (λv N=>(s.at F).post a C.prog fn apart fresh y x W.blind args v N.blind) last o r B):ReturnsInLeavingWide u C p f .any (s.pre6 a C.prog fn l apart) ((s.at F).post a C.prog fn apart fresh y x):=by
 refine returnsInLeavingWide_of_good own ai al ?_;intro w tape i _ aa _ a6 a7 _;obtain⟨_,_,_,R,a1,_,_,_,_,ac⟩:=a6;have e:R=fn:=Option.some.inj (a1.symm.trans Z);subst e;obtain⟨b,c,h,hw,_,a2⟩:=(OpenSpec.pre_some hk l apart _ _).1 a7.1;have ab:C.prog.globals.size<=(w.forCall tape i).heap.size:=by
  obtain⟨o,_,U,_⟩:=aa.2 C.prog.globals.size (Nat.le_refl _) a8;exact Nat.le_of_lt (Array.getElem?_eq_some_iff.1 U).1
 exact ad (w.forCall tape i) w.heap.size i.args b c h ab ac (DataW.Whole.of_heap (w':=w.forCall tape i) (by rfl) hw) a2
end
theorem PZ{H:Type}{d:DataW H}(a:Rows.uptoSmall H [d]=true):Rows.uptoBulk d<=1048576:=by
 have h:Rows.uptoBulkAll [d]<=1048576:=of_decide_eq_true a;simp only[Rows.uptoBulkAll]at h;omega
theorem Q2(l:Os)(ad:l.Started)(H:Type)(a:TypeId×Value->H)(F:Stop.Interp):ReturnsInLeavingWide {} Tryz.checked l 6 .any ((Rows.OpenSpec.upto Rows.allSpec).pre6 a Tryz.prog Tryz.f6 Rows.allUptoRow.domain false) (((Rows.OpenSpec.upto Rows.allSpec).at F).post a Tryz.prog Tryz.f6 false true false false):=by
 refine QT (C:=Tryz.checked) (f:=6) (fn:=Tryz.f6) (s:=Rows.OpenSpec.upto Rows.allSpec) (k:=Rows.uptoSmall) rfl Z6 ad Tryz.func6 (of_decide_eq_true ah) (OpenSpec.witness (enc:=a) (C:=Tryz.checked) (os:=l) (f:=6) (fn:=Tryz.f6) (s:=Rows.OpenSpec.upto Rows.allSpec) (k:=Rows.uptoSmall) rfl false ⟨#[], #[.slice none 0 0],[]⟩ 8 ah ah ah (x:=([.nil],[],[])) ah ah ah) ?_;intro W base args ds gs ai ac R u a8;have N:∀(j:Nat) t v,Tryz.f6.params[j]?=some t->args[j]?=some v->Value.okWide Tryz.prog W .any base t v:=R;have f:=u;obtain⟨p,q,s,hV,rfl,al,am⟩:=u;have r:DataW.TrodAll a Tryz.prog W 0 (λ_=>true) true Tryz.f6.params.toList args.toList ds p:=s;rw[Tryz.params6]at r N;obtain⟨v0,Z,rfl,rfl,o⟩:=trodAll_one r;obtain⟨rfl,rfl⟩:=trodVars_none hV;obtain⟨a0,len,cap,rfl⟩:=okWide_slice Tryz.underlying22 (N 0 22 v0 rfl rfl);have a6:=PZ (H:=H) (d:=Z) a8;have a1:=o;obtain⟨fuel,B⟩:=a1;obtain⟨pa,k,pc,e,hS,a2⟩:=aj6 (n:=fuel) (v:=.slice a0 len cap) B a6;cases e;clear s R B;simp only[List.append_nil]at f;have aa:∀x∈p,x.block<W.heap.size:=λx hx=>f.lt x (by simp[hx]);refine Sim.Q1 (W:=W) (os:=k) (pa:=a0) (pc:=cap) (Post:=λv U=>((Rows.OpenSpec.upto Rows.allSpec).at F).post a Tryz.prog Tryz.f6 false true false false W.blind #[.slice a0 k.length cap] v U.blind) ac hS a2 λw c=> ?_;have y:Below W.heap.size W (Sim.re w W.tape w.drawn):=⟨c.os,rfl,c.output,c.size,λb h=>c.block b h⟩;have ab:((Rows.OpenSpec.upto Rows.allSpec).at F).post a Tryz.prog Tryz.f6 false true false false W #[.slice a0 k.length cap] (.bool true) (Sim.re w W.tape w.drawn):=⟨_,_,_,[],_,[],f,trodAll_mk1 (shut_bool Tryz.underlying4 true),trodAll_mk1 (Below.trod laidOut ah (of_decide_eq_true ah) o y aa),rfl,y.frame _,λh=>by cases h⟩;have a7:=ChangeSpec.post_blind ab;exact a7
theorem allUpto_holds : Rows.AllUptoSaid := by
 have p:Tryz.f6.params.all (λt=>Tryz.prog.readableRec t)=true:=ah;have r:Tryz.f6.resultTypes.all (λt=>Tryz.prog.readableRec t&&decide (t<Tryz.prog.types.size))=true:=ah;have l:Tryz.prog.stopKnobs=[]:=ah;have c:Tryz.prog.mayEnter=true:=ah;refine⟨ah,rfl,rfl,rfl,ah,ah,c,⟨rfl,rfl,rfl,rfl,rfl,rfl,rfl⟩,6,Tryz.f6,ah,Tryz.func6,⟨λt b=> ?_,λt b=> ?_⟩,λh=>(by cases h),ah,of_decide_eq_true ah,?_,ah,I9,ah,ah,ah,ah,ah,I9,Py,bI,bI,rfl,λn o=>(by cases o),⟨_,WideRow.started_initial,λk j=> ?_⟩,[],rfl,λs st _ H a _=> ?_⟩;·exact Array.all_eq_true_iff_forall_mem.1 p t b
 ·have:=Array.all_eq_true_iff_forall_mem.1 r t b;rw[Bool.and_eq_true,decide_eq_true_eq]at this;exact this
 ·unfold Func.isWrapper
  first
   |(rw[if_pos (by decide+kernel)];kernel_rfl)
   |(rw[if_neg (by decide+kernel)];exact⟨rfl,rfl⟩)
 ·have f:k∈Tryz.prog.stopKnobs:=j;rw[l]at f;cases f
 ·rw[OpenClaim.post_not_still rfl];intro F;rw[OpenClaim.pre_of_none' rfl];exact Q2 s st H a F c
