/- Own texts: FwT, FwU, FwV. -/
import Derived.Test.YtcgjppacnhmjlaaGreatMT
set_option linter.all false
set_option maxRecDepth 100000
open Array renaming getElem?_eq_some_iff->cq,getElem?_modify->fV
open Bool renaming true->aq
open Go renaming World->ak,Value->au,Frame->aC,TypeId->aK,Addr->aH,undef->aN,FuncId->bW,madeCells->kg,info_parts->nF
open Go.Conc renaming aside_setCell->mG
open Go.Frame renaming enter->bG
open Go.Proofs.Tryz renaming prog->aj,underlying69->kH
open Go.Value renaming pointer->tg,int->tk
open Go.World renaming cell?->bL,cell?_of_block->gV,setCell->eK
open List renaming getElem?_eq_some_iff->cu,getElem?_of_mem->lJ
open List.Pairwise renaming nil->nA
open Nat renaming le_refl->aL,add_zero->th,le_of_not_lt->aB3
open Option renaming some->ae,none->af
open True renaming intro->au8
namespace Go.Proofs.YtcgjppacnhmjlaaGreat
open Go Go.Conc Go.ConcN Go.Conc.Lib Go.ConcR.Gen Go.RowKit
open Go.ConcR (KK wgBlock WgAt stA smA rd wr mk Payload DC0)
namespace Sim
variable {p:Nat} {l:BR}
theorem US:(aj.info? 56).map (λi=>(i.zero,i.size,i.bytes))=ae (ae (.pointer af),1,8):=ah
theorem UR:(aj.info? 78).map (λi=>(i.zero,i.size,i.bytes))=ae (ae (.int .i64 0),1,8):=ah
section
variable (Pb po n cap:Nat) (c:aC) (a:List aC) (T b4 E b5 Wg:Nat)
noncomputable def AZ:Goroutine:=aw (bG aj 73 #[pA Pb po n cap] .normal) (c::a)
noncomputable def JJ:Goroutine:=nxtN aj aq 9 (AZ Pb po n cap c a)
noncomputable def JK:Goroutine:=bz (JJ Pb po n cap c a) (dO T n)
noncomputable def Ei:Goroutine:=bz (JK Pb po n cap c a T) (ptr b4)
noncomputable def JL:Goroutine:=nxtN aj aq 5 (bz (Ei Pb po n cap c a T b4) aN)
noncomputable def JM:Goroutine:=bz (JL Pb po n cap c a T b4) (dO E n)
noncomputable def Ej:Goroutine:=bz (JM Pb po n cap c a T b4 E) (ptr b5)
noncomputable def Ek:Goroutine:=nxtN aj aq 3 (bz (Ej Pb po n cap c a T b4 E b5) aN)
noncomputable def tS:Goroutine:=bz (Ek Pb po n cap c a T b4 E b5) (ptr Wg)
theorem RJ:AtR (JJ Pb po n cap c a) 2:=bI
theorem Si:AtR (Ei Pb po n cap c a T b4) 4:=bI
theorem Ta:AtR (JL Pb po n cap c a T b4) 2:=bI
theorem Tb:AtR (Ej Pb po n cap c a T b4 E b5) 4:=bI
theorem Tc:nxtN aj aq 12 (tS Pb po n cap c a T b4 E b5 Wg)=Em Pb po n cap b4 b5 Wg c a (xF (nxtN aj aq 12 (tS Pb po n cap c a T b4 E b5 Wg)).frame) 0:=ah
theorem Td:Idle aj aq 12 (tS Pb po n cap c a T b4 E b5 Wg):=by((repeat (refine⟨by kernel_rfl,λ_=>by kernel_rfl,?_⟩));exact au8)
end
theorem MV(z:Array au)(n:Nat):(kg z n).size=n:=by simp[kg]
section
variable {Pb po n cap:Nat} {vs:List au} {pss:List (List PP)} {k:au->ak->Prop} {O K0:Nat->Prop} {c:aC} {a:List aC} {w:ak}
abbrev fk(w:ak)(Pb po n cap:Nat)(vs:List au)(pss:List (List PP)):Fk:=
 {Pb:=Pb,po:=po,n:=n,cap:=cap,b4:=w.heap.size+1,b5:=w.heap.size+3,T:=w.heap.size,E:=w.heap.size+2,vs:=vs,pss:=pss}
theorem XP(ac:vs.length=n/\pss.length=n/\n<=16)(aF:∀ps∈pss,ps.length<=9223372036854775807/\∀q∈ps,q.1.size<=9223372036854775807)(R:∀b,K0 b->b<w.heap.size/\¬O b)(U:∀b,O b->b<w.heap.size)(ab:K0 Pb)(av:∀(i:Nat) v,vs[i]?=ae v->w.cell? ⟨Pb,po+i,af⟩=ae v)(aQ:∀(i:Nat) v ps,vs[i]?=ae v->pss[i]?=ae ps->jL K0 w v ps)(ba:aj.globals.size<=w.heap.size)(aJ:∀(m:Nat)(L:Nat->Prop)(x:Nat->au) (h:ak),1<=m->(∀b,K0 b->L b)->(∀b,K0 b->iA w h b)->(∀b,K0 b->(∀v∈vs,¬j7 v b)->h.heap[b]?=w.heap[b]?)->(∃N,h.heap[w.heap.size+1]?=ae (.cells #[dO w.heap.size n] 69 N))->(∃N,h.heap[w.heap.size+3]?=ae (.cells #[dO (w.heap.size+2) n] 127 N))->w.heap.size+4<h.heap.size->h.os=w.os->h.output=w.output->(fk w Pb po n cap vs pss).F L h->oD ((fk w Pb po n cap vs pss).C (w.heap.size+4) m (λb=>O b\/b=w.heap.size+4)) L (m-1+n) h->ay aj k (λb=>O b\/b=w.heap.size+4) (aw (((fk w Pb po n cap vs pss).tP (w.heap.size+4) c a x).finish (.tuple #[])) (c::a)) h):ay aj k O (AZ Pb po n cap c a) w:=by
 obtain⟨be,aT,b9,b3,bi⟩:=nF US;obtain⟨bd,aR,b6,b2,bg⟩:=nF UR;have ad:=ac.2.2;refine .K 9 ?_;refine .new ah (.cells (kg (tg af).cells n) 56) (λT=>JK Pb po n cap c a T) (λw=>N2 (RJ Pb po n cap c a) (t:=69) (x:=.tmp 12) (e:=56) ah ah kH aT b9 ag b3 ad) ?_;generalize hT:dg w (.cells (kg (tg af).cells n) 56)=r;have s1:r.heap.size=w.heap.size+1:=by rw[<-hT];simp[dg]
 have o1:∀b,b<w.heap.size->r.heap[b]?=w.heap[b]?:=λb j=>by rw[<-hT];exact ky w _ j
 have t1:r.heap[w.heap.size]?=ae (.cells (kg (tg af).cells n) 56):=by rw[<-hT];exact rz w _
 have u1:r.os=w.os/\r.output=w.output:=by rw[<-hT];exact⟨rfl,rfl⟩
 clear hT;refine .new ah (.cells #[.slice af 0 0] 69) (λb4=>Ei Pb po n cap c a w.heap.size b4) (λw=>ah) ?_;generalize t:dg r (.cells #[.slice af 0 0] 69)=y;have s2:y.heap.size=w.heap.size+2:=by rw[<-t];simp[dg,s1]
 have o2:∀b,b<r.heap.size->y.heap[b]?=r.heap[b]?:=λb j=>by rw[<-t];exact ky r _ j
 have p2:y.heap[w.heap.size+1]?=ae (.cells #[.slice af 0 0] 69):=by rw[<-t,<-s1];exact rz r _
 have u2:y.os=r.os/\y.output=r.output:=by rw[<-t];exact⟨rfl,rfl⟩
 clear t;rw[s1];refine .st ah (Si Pb po n cap c a w.heap.size (w.heap.size+1)) (t:=69) (x:=.tmp 4) (y:=.tmp 13) (a:=⟨w.heap.size+1,0,af⟩) (v:=dO w.heap.size n) (u:=.slice af 0 0) ah ah ah rfl Tryz.sizeOf69 (λp=>by have:=U _ p;simp at this;omega) (by simp[bL,p2]) (ym p2) ?_;have a3:=mG y ⟨w.heap.size+1,0,af⟩ (dO w.heap.size n);have c3:(y.setCell ⟨w.heap.size+1,0,af⟩ (dO w.heap.size n)).cell? ⟨w.heap.size+1,0,af⟩=ae (dO w.heap.size n):=AJ (u:=.slice af 0 0) (by simp[bL,p2]);have e3:(y.setCell ⟨w.heap.size+1,0,af⟩ (dO w.heap.size n)).heap[w.heap.size+1]?=ae (.cells #[dO w.heap.size n] 69):=by simp[eK,fV,p2]
 generalize y.setCell ⟨w.heap.size+1,0,af⟩ (dO w.heap.size n)=B at a3 c3 e3;have s3:B.heap.size=w.heap.size+2:=by rw[a3.size,s2]
 refine .K 5 ?_;refine .new ah (.cells (kg (tk .i64 0).cells n) 78) (λE=>JM Pb po n cap c a w.heap.size (w.heap.size+1) E) (λh=>N2 (Ta Pb po n cap c a w.heap.size (w.heap.size+1)) (t:=127) (x:=.tmp 15) (e:=78) ah ah Tryz.underlying127 aR b6 ag b2 ad) ?_;generalize hE:dg B (.cells (kg (tk .i64 0).cells n) 78)=s;have s4:s.heap.size=w.heap.size+3:=by rw[<-hE];simp[dg,s3]
 have o4:∀b,b<B.heap.size->s.heap[b]?=B.heap[b]?:=λb j=>by rw[<-hE];exact ky B _ j
 have p4:s.heap[w.heap.size+2]?=ae (.cells (kg (tk .i64 0).cells n) 78):=by rw[<-hE,<-s3];exact rz B _
 have u4:s.os=B.os/\s.output=B.output:=by rw[<-hE];exact⟨rfl,rfl⟩
 clear hE;rw[s3];refine .new ah (.cells #[.slice af 0 0] 127) (λb5=>Ej Pb po n cap c a w.heap.size (w.heap.size+1) (w.heap.size+2) b5) (λw=>ah) ?_;generalize t:dg s (.cells #[.slice af 0 0] 127)=H;have s5:H.heap.size=w.heap.size+4:=by rw[<-t];simp[dg,s4]
 have Z:∀b,b<s.heap.size->H.heap[b]?=s.heap[b]?:=λb j=>by rw[<-t];exact ky s _ j
 have p5:H.heap[w.heap.size+3]?=ae (.cells #[.slice af 0 0] 127):=by rw[<-t,<-s4];exact rz s _
 have u5:H.os=s.os/\H.output=s.output:=by rw[<-t];exact⟨rfl,rfl⟩
 clear t;rw[s4];refine .st ah (Tb Pb po n cap c a w.heap.size (w.heap.size+1) (w.heap.size+2) (w.heap.size+3)) (t:=127) (x:=.tmp 5) (y:=.tmp 16) (a:=⟨w.heap.size+3,0,af⟩) (v:=dO (w.heap.size+2) n) (u:=.slice af 0 0) ah ah ah rfl Tryz.sizeOf127 (λp=>by have:=U _ p;simp at this;omega) (by simp[bL,p5]) (ym p5) ?_;have u:=mG H ⟨w.heap.size+3,0,af⟩ (dO (w.heap.size+2) n);have c6:(H.setCell ⟨w.heap.size+3,0,af⟩ (dO (w.heap.size+2) n)).cell? ⟨w.heap.size+3,0,af⟩=ae (dO (w.heap.size+2) n):=AJ (u:=.slice af 0 0) (by simp[bL,p5]);have e6:(H.setCell ⟨w.heap.size+3,0,af⟩ (dO (w.heap.size+2) n)).heap[w.heap.size+3]?=ae (.cells #[dO (w.heap.size+2) n] 127):=by simp[eK,fV,p5]
 generalize H.setCell ⟨w.heap.size+3,0,af⟩ (dO (w.heap.size+2) n)=l at u c6 e6;have s6:l.heap.size=w.heap.size+4:=by rw[u.size,s5]
 have b0:∀b,b<w.heap.size->l.heap[b]?=w.heap[b]?:=λb j=>(u.block b (by show b≠w.heap.size+3;omega)).trans ((Z b ag).trans ((o4 b ag).trans ((a3.block b (by show b≠w.heap.size+1;omega)).trans ((o2 b ag).trans (o1 b j)))));have ar:l.heap[w.heap.size]?=ae (.cells (kg (tg af).cells n) 56):=(u.block _ (by show w.heap.size≠w.heap.size+3;omega)).trans ((Z _ ag).trans ((o4 _ ag).trans ((a3.block _ (by show w.heap.size≠w.heap.size+1;omega)).trans ((o2 _ ag).trans t1))));have al:l.heap[w.heap.size+2]?=ae (.cells (kg (tk .i64 0).cells n) 78):=(u.block _ (by show w.heap.size+2≠w.heap.size+3;omega)).trans ((Z _ ag).trans p4);have ai:l.cell? ⟨w.heap.size+1,0,af⟩=ae (dO w.heap.size n):=by
  have j:l.heap[w.heap.size+1]?=B.heap[w.heap.size+1]?:=(u.block _ (by show w.heap.size+1≠w.heap.size+3;omega)).trans ((Z _ ag).trans (o4 _ ag));exact(gV (a:=⟨w.heap.size+1,0,af⟩) j).trans c3
 have e4:l.heap[w.heap.size+1]?=ae (.cells #[dO w.heap.size n] 69):=((u.block _ (by show w.heap.size+1≠w.heap.size+3;omega)).trans ((Z _ ag).trans (o4 _ ag))).trans e3;have aP:l.os=w.os/\l.output=w.output:=⟨u.os.trans (u5.1.trans (u4.1.trans (a3.os.trans (u2.1.trans u1.1)))),u.output.trans (u5.2.trans (u4.2.trans (a3.output.trans (u2.2.trans u1.2))))⟩;clear o1 o2 o4 Z t1 p2 p4 p5 a3 u c3 u1 u2 u4 u5 e3;refine .K 3 ?_;refine .eqv (g':=aw (Ek Pb po n cap c a w.heap.size (w.heap.size+1) (w.heap.size+2) (w.heap.size+3)).frame (Ek Pb po n cap c a w.heap.size (w.heap.size+1) (w.heap.size+2) (w.heap.size+3)).callers) ah (ig.Gt ?_);refine ig.begin (ty:=135) (T:=w.heap.size) (E:=w.heap.size+2) (n:=n) (Res:=(fk w Pb po n cap vs pss).Res) (L:=λb=>K0 b\/b=w.heap.size+1\/b=w.heap.size+3) ⟨_,ar,MV _ _⟩ ⟨_,_,_,al,MV _ _,rfl⟩ ag ⟨λp=>by have:=U _ p;omega,λp=>by have:=U _ p;omega⟩ (λb j=>by have:=U b j;omega) ?_ λf d=> ?_
 ·rintro b (j|rfl|rfl)
  ·obtain⟨h1,h2⟩:=R b j;exact⟨ag,ag,ag,h2⟩
  ·exact⟨ag,ag,ag,λp=>by have:=U _ p;omega⟩
  ·exact⟨ag,ag,ag,λp=>by have:=U _ p;omega⟩
 ·refine⟨(tS Pb po n cap c a w.heap.size (w.heap.size+1) (w.heap.size+2) (w.heap.size+3) l.heap.size).frame,(tS Pb po n cap c a w.heap.size (w.heap.size+1) (w.heap.size+2) (w.heap.size+3) l.heap.size).callers,dg (re l f d) (.cells #[.int .u64 0,.int .u32 0] 135),?_,by simp[dg,Sim.re],rz (re l f d) _,λb j=>ky (re l f d) _ j,λm hm=>bO.zr ?_⟩;·kernel_rfl
  ·have a1:∀b,b<w.heap.size->(dg (re l f d) (.cells #[.int .u64 0,.int .u32 0] 135)).heap[b]?=w.heap[b]?:=λb j=>(ky (re l f d) _ (by show b<l.heap.size;omega)).trans (b0 b j);have sN:(dg (re l f d) (.cells #[.int .u64 0,.int .u32 0] 135)).heap.size=w.heap.size+5:=by simp[dg,Sim.re,s6]
   have cN:∀{b o:Nat} {v:au},l.cell? ⟨b,o,af⟩=ae v->(dg (re l f d) (.cells #[.int .u64 0,.int .u32 0] 135)).cell? ⟨b,o,af⟩=ae v:=λ{b o v} p=>IU (w:=re l f d) p;have uN:(dg (re l f d) (.cells #[.int .u64 0,.int .u32 0] 135)).os=w.os/\(dg (re l f d) (.cells #[.int .u64 0,.int .u32 0] 135)).output=w.output:=aP;have a7:(dg (re l f d) (.cells #[.int .u64 0,.int .u32 0] 135)).heap[w.heap.size+1]?=ae (.cells #[dO w.heap.size n] 69):=(ky (re l f d) _ (by show _<l.heap.size;omega)).trans e4;have a8:(dg (re l f d) (.cells #[.int .u64 0,.int .u32 0] 135)).heap[w.heap.size+3]?=ae (.cells #[dO (w.heap.size+2) n] 127):=(ky (re l f d) _ (by show _<l.heap.size;omega)).trans e6;generalize dg (re l f d) (.cells #[.int .u64 0,.int .u32 0] 135)=wN at a1 sN cN uN a7 a8;rw[s6];have ok:(fk w Pb po n cap vs pss).Ok:=⟨ac,aF,by show w.heap.size≠w.heap.size+2;omega⟩;have hS:=(fk w Pb po n cap vs pss).N0 (w.heap.size+4) m (λb=>O b\/b=w.heap.size+4);have aa:∀b,(K0 b\/b=w.heap.size+1\/b=w.heap.size+3)->b≠w.heap.size/\b≠w.heap.size+2:=by
    rintro b (j|rfl|rfl);·have:=(R b j).1;omega
    ·omega
    ·omega
   have b1:∀{b o:Nat} {v:au},b<w.heap.size->w.cell? ⟨b,o,af⟩=ae v->wN.cell? ⟨b,o,af⟩=ae v:=λ{b o v} j p=>(gV (a:=⟨b,o,af⟩) (a1 b j)).trans p;have hF:(fk w Pb po n cap vs pss).F (λb=>K0 b\/b=w.heap.size+1\/b=w.heap.size+3) wN:=by
    refine⟨.inl ab,λi v hi=>b1 (R _ ab).1 (av i v hi),.inr (.inl rfl),cN ai,.inr (.inr rfl),cN c6,λi v ps h1 h2=> ?_,ag⟩;exact((aQ i v ps h1 h2).bK λb j=>.of_eq (a1 b (R b j).1)).mono λb=>.inl
   have hk:=gD (C:=(fk w Pb po n cap vs pss).C (w.heap.size+4) m (λb=>O b\/b=w.heap.size+4)) (J:=m-1) (p:=0) (vb:=0) hS (by show m-1+1-m<2147483600;omega) ag;change bO ((fk w Pb po n cap vs pss).C (w.heap.size+4) m (λb=>O b\/b=w.heap.size+4)) k (λ_=>False) (λb=>K0 b\/b=w.heap.size+1\/b=w.heap.size+3) (m-1) (en ((fk w Pb po n cap vs pss).C (w.heap.size+4) m (λb=>O b\/b=w.heap.size+4)) (m-1) 0 0) 0 _ wN;refine .eqv (g':=tS Pb po n cap c a w.heap.size (w.heap.size+1) (w.heap.size+2) (w.heap.size+3) (w.heap.size+4)) ah (.cL hS hk (n:=12) (Td _ _ _ _ _ _ _ _ _ _ _) ?_);change bO _ _ _ _ _ _ _ (nxtN aj aq 12 _) _;rw[Tc];have:=YI (k:=fk w Pb po n cap vs pss) (Wg:=w.heap.size+4) (m:=m) (O:=λb=>O b\/b=w.heap.size+4) (Post:=k) (c:=c) (cs:=a) (L0:=λb=>K0 b\/b=w.heap.size+1\/b=w.heap.size+3) (w00:=wN) ok hm aa (λL S x h an ap W am hJ=> ?_) n 0 (by show n+0=n;omega) (λb=>K0 b\/b=w.heap.size+1\/b=w.heap.size+3) (λ_=>False) (xF (nxtN aj aq 12 (tS Pb po n cap c a w.heap.size (w.heap.size+1) (w.heap.size+2) (w.heap.size+3) (w.heap.size+4))).frame) wN 0 (λb=>id) (λb p=>p.elim) (λb p=>p.elim) aa hF (.refl _ _ _)
   ·rw[th]at this;exact this
   ·have aU:∀b,K0 b->(∀v∈vs,¬j7 v b)->¬S b:=by
     intro b j a2 ao;have bb:=(R b j).1;rcases ap b ao with⟨v,h1,h2⟩|p|p|p;·exact a2 v h1 h2
     ·have:b=w.heap.size+1:=p;omega
     ·have:b=w.heap.size+3:=p;omega
     ·exact p (.inl j)
    refine aJ m L x h hm (λb j=>an b (.inl j)) (λb j=>(iA.of_eq (a1 b (R b j).1)).trans (W.same b (.inl j))) (λb j a2=>(W.exact b (.inl j) (aU b j a2)).trans (a1 b (R b j).1)) ((W.same _ (.inr (.inl rfl)) _ _ _ a7).elim λN p=>⟨N.1,p⟩) ((W.same _ (.inr (.inr rfl)) _ _ _ a8).elim λN p=>⟨N.1,p⟩) (by have:=W.size;omega) (W.os.trans uN.1) (W.output.trans uN.2) am hJ
end
theorem TT{D:Nat->Prop}:BR.iy p (λa b=>a=b/\D a):=⟨λa b c x y=>x.1.symm.trans y.1,λa b c x y=>x.1.trans y.1.symm,λa b x=>by rw[x.1]⟩
theorem DN{G:bW->Prop}{v:au}(h:VR G l v v):la G l #[v] #[v]:=⟨aL _,λi u c a b=>by
 rw[a]at b;cases b
 match i with
 |0=>simp at a;subst a;exact h
 |i+1=>simp at a⟩
theorem sk{V:aK->Prop}{G:bW->Prop}{c:Array au}{e:aK}{f:Nat×Nat}(h:la G l c c):kl V G l (λ_ _=>False) p (.cells c e f) (.cells c e f):=.cells h (λ_=>.inl rfl) (λ_=>⟨rfl,rfl⟩) (λi x=>x.elim)
section
variable {Pb po n cap:Nat} {vs:List au} {pss:List (List PP)} {O:Nat->Prop} {w h:ak} {R:BR} {m:Nat} {L:Nat->Prop}
structure PC(w:ak)(Pb po n cap:Nat)(vs:List au)(pss:List (List PP))(O:Nat->Prop)(R:BR)(h:ak)(R':BR):Prop where
 known:aI Xm (λb=>O b\/b=w.heap.size+4) R' h
 sub:BR.Sub R R'
 r4:R' (w.heap.size+1) (w.heap.size+1)
 r5:R' (w.heap.size+3) (w.heap.size+3)
 rT:R' w.heap.size w.heap.size
 rE:R' (w.heap.size+2) (w.heap.size+2)
 c4:h.cell? ⟨w.heap.size+1,0,af⟩=ae (dO w.heap.size n)
 c5:h.cell? ⟨w.heap.size+3,0,af⟩=ae (dO (w.heap.size+2) n)
 tree:∀(i:Nat) ps,pss[i]?=ae ps->∃n' f,h.cell? ⟨w.heap.size,i,af⟩=ae (.pointer f)/\bD (λb=>w.heap.size<=b) n' h f (pl ps)/\VR Xm.G R' (.pointer f) (.pointer f)
 AO:∀(i:Nat) ps,pss[i]?=ae ps->h.cell? ⟨w.heap.size+2,i,af⟩=ae (.int .i64 (pe ps))
 size:w.heap.size+4<h.heap.size
theorem Vh(bd:vs.length=n/\pss.length=n/\n<=16)(y:aI Xm O R w)(al:∀(i:Nat) v ps,vs[i]?=ae v->pss[i]?=ae ps->jL (λb=>R b b) w v ps)(hm:1<=m)(hL:∀b,b<w.heap.size->¬O b->L b)(aU:∀b,R b b->iA w h b)(an:∀b,R b b->(∀v∈vs,¬j7 v b)->h.heap[b]?=w.heap[b]?)(h4:∃r,h.heap[w.heap.size+1]?=ae (.cells #[dO w.heap.size n] 69 r))(h5:∃r,h.heap[w.heap.size+3]?=ae (.cells #[dO (w.heap.size+2) n] 127 r))(b0:w.heap.size+4<h.heap.size)(hJ:oD ((fk w Pb po n cap vs pss).C (w.heap.size+4) m (λb=>O b\/b=w.heap.size+4)) L (m-1+n) h):∃t,PC w Pb po n cap vs pss O R h t:=by
 obtain⟨ap,val,M,aT,ai,mY⟩:=hJ;have N:∀i,i<n->∃vP ps,vs[i]?=ae vP/\pss[i]?=ae ps/\qR (j7 vP) ps (val (m+i)) (.int .i64 (pe ps)) (M (m+i)) h/\h.cell? ⟨w.heap.size+2,i,af⟩=ae (.int .i64 (pe ps))/\h.cell? ⟨w.heap.size,i,af⟩=ae (val (m+i)):=by
  intro i l;obtain⟨⟨vP,ps,Z,u,a3,a4⟩,a5⟩:=aT (m+i) (by show m<=m+i;omega) ag;have e:m+i-m=i:=ag;have e2:m+i-((fk w Pb po n cap vs pss).C (w.heap.size+4) m (λb=>O b\/b=w.heap.size+4)).m=i:=e;rw[e]at Z u a4;unfold Has at a5;rw[e2]at a5;exact⟨vP,ps,Z,u,a3,a4,a5⟩
 let Dd:Nat->Prop:=λb=>∃i,i<n/\∃(vP:au) (D:Nat->Prop),vs[i]?=ae vP/\(∀b,D b->M (m+i) b)/\(∀f,val (m+i)=.pointer f->∀ad,f=ae ad->D ad.block)/\(∀b,D b->∃o,h.heap[b]?=ae o/\kl Xm.vw Xm.G (λa b=>a=b/\(D a\/j7 vP a)) (λ_ _=>False) b o o)/\D b;let t:BR:=λa b=>a=b/\(R a a\/a=w.heap.size\/a=w.heap.size+2\/a=w.heap.size+1\/a=w.heap.size+3\/Dd a);have ab:BR.Sub R t:=λa b j=>by
  have e:=y.diag a b j;subst e;exact⟨rfl,.inl j⟩
 have ao:∀i,i<n->∃vP ps n' f,vs[i]?=ae vP/\pss[i]?=ae ps/\val (m+i)=.pointer f/\bD (M (m+i)) n' h f (pl ps)/\VR Xm.G t (.pointer f) (.pointer f):=by
  intro i l;obtain⟨vP,ps,Z,u,⟨_,n',f,W,B,D,d1,d2,d3⟩,a4,a5⟩:=N i l;refine⟨vP,ps,n',f,Z,u,W,B,?_⟩;cases f with
  |none=>exact .pnil
  |some ad=>
   refine .ptr ⟨⟨rfl,.inr (.inr (.inr (.inr (.inr ⟨i,l,vP,D,Z,d1,λf j t' ht=> ?_,d3,d2 ad rfl⟩))))⟩,rfl,rfl⟩;rw[W]at j;cases j;exact d2 t' ht
 have aR:∀{vP:au} {a i:Nat},i<n->vs[i]?=ae vP->j7 vP a->R a a:=by
  intro vP a i l H ha;obtain⟨_,ps,W,B,_⟩:=N i l;exact(al i vP ps H B).Lq ha
 have ba:t (w.heap.size+1) (w.heap.size+1):=⟨rfl,.inr (.inr (.inr (.inl rfl)))⟩;have bb:t (w.heap.size+3) (w.heap.size+3):=⟨rfl,.inr (.inr (.inr (.inr (.inl rfl))))⟩;have aF:t w.heap.size w.heap.size:=⟨rfl,.inr (.inl rfl)⟩;have av:t (w.heap.size+2) (w.heap.size+2):=⟨rfl,.inr (.inr (.inl rfl))⟩;have be:=y.wr.low.1;have aP:∀a,R a a->a<w.heap.size:=λa j=>(y.wr.lt j).1;have aJ:aI Xm (λb=>O b\/b=w.heap.size+4) t h:=by
  refine⟨λa b j=>j.1,⟨TT,⟨ag,ag⟩,λa i j=>j.elim,λa b j=> ?_⟩,λa j=> ?_,λa j=> ?_⟩
  ·obtain⟨rfl,j⟩:=j;rcases j with j|rfl|rfl|rfl|rfl|⟨i,l,vP,D,H,d1,d2,d3,hD⟩
   ·obtain⟨o,o',k,U,q3⟩:=y.wr.blk a a j;rw[k]at U;cases U;cases q3 with
    |@cells c c' e r f' r1 r2 r3 r4=>
     obtain⟨f1,q4⟩:=aU a j c e r k;exact⟨_,_,q4,q4,sk (r1.mono ab)⟩
    |@number x x' ac r1 r2=>
     have:h.heap[a]?=w.heap[a]?:=an a j λv H a7=>by
      obtain⟨i,l⟩:=lJ H;have a8:i<n:=by have:=(cu.1 l).1;omega
      obtain⟨_,ps,_,B,_⟩:=N i a8;rcases al i v ps l B with⟨_,e⟩|⟨b6,o,cp,cc,e,r,p1,p2,p3,p4,_⟩;·obtain⟨o,ac,c,s⟩:=a7;rw[e]at s;cases s
      ·obtain⟨o,ac,c,s⟩:=a7;rw[p2]at s;cases s;rw[k]at p4;cases p4
     exact⟨_,_,this.trans k,this.trans k,.number (r1.mono ab) r2⟩
    |@view x x' bg r0 r1 r2=>
     have:h.heap[a]?=w.heap[a]?:=an a j λv H a7=>by
      obtain⟨i,l⟩:=lJ H;have a8:i<n:=by have:=(cu.1 l).1;omega
      obtain⟨_,ps,_,B,_⟩:=N i a8;rcases al i v ps l B with⟨_,e⟩|⟨b6,o,cp,cc,e,r,p1,p2,p3,p4,_⟩;·obtain⟨o,ac,c,s⟩:=a7;rw[e]at s;cases s
      ·obtain⟨o,ac,c,s⟩:=a7;rw[p2]at s;cases s;rw[k]at p4;cases p4
     exact⟨_,_,this.trans k,this.trans k,.view r0 (r1.mono ab) r2⟩
   ·obtain⟨c,k,U⟩:=ap.T;refine⟨_,_,k,k,sk ⟨aL _,λi v v' x a6=> ?_⟩⟩;rw[x]at a6;cases a6;have l:i<n:=by have:=(cq.1 x).1;rw[U]at this;exact this
    obtain⟨vP,ps,n',f,_,_,W,_,b3⟩:=ao i l;obtain⟨_,_,_,_,_,_,a5⟩:=N i l;have am:h.heap[w.heap.size]?=ae (.cells c 56 (0,0)):=k;have:c[i]?=ae (val (m+i)):=by simpa[bL,am]using a5
    rw[x]at this;cases this;rw[W];exact b3
   ·obtain⟨c,e,r,k,U,q3⟩:=ap.E;refine⟨_,_,k,k,sk ⟨aL _,λi v v' x a6=> ?_⟩⟩;rw[x]at a6;cases a6;have l:i<n:=by have:=(cq.1 x).1;rw[U]at this;exact this
    obtain⟨_,ps,_,_,_,a4,_⟩:=N i l;have am:h.heap[w.heap.size+2]?=ae (.cells c e r):=k;have:c[i]?=ae (.int .i64 (pe ps)):=by simpa[bL,am]using a4
    rw[x]at this;cases this;exact .int _ _
   ·obtain⟨r,k⟩:=h4;exact⟨_,_,k,k,sk (DN (.slice _ _ ⟨aF,rfl,rfl⟩))⟩
   ·obtain⟨r,k⟩:=h5;exact⟨_,_,k,k,sk (DN (.slice _ _ ⟨av,rfl,rfl⟩))⟩
   ·obtain⟨o,k,U⟩:=d3 a hD;refine⟨o,o,k,k,U.mono λx a6 ar=>⟨ar.1,?_⟩⟩;rcases ar.2 with j|j;·exact .inr (.inr (.inr (.inr (.inr ⟨i,l,vP,D,H,d1,d2,d3,j⟩))))
    ·exact .inl (aR l H j)
  ·rcases j.2 with j|rfl|rfl|rfl|rfl|⟨i,l,vP,D,H,d1,d2,d3,hD⟩
   ·rintro(p|p);·exact y.apart a j p
    ·have:=aP a j;omega
   ·rintro(p|p);·have:=y.low _ p;omega
    ·omega
   ·rintro(p|p);·have:=y.low _ p;omega
    ·omega
   ·rintro(p|p);·have:=y.low _ p;omega
    ·omega
   ·rintro(p|p);·have:=y.low _ p;omega
    ·omega
   ·exact(ai (m+i) a (d1 a hD)).2.2.2.2
  ·rcases j with j|j;·have:=y.low _ j;omega
   ·omega
 refine⟨t,aJ,ab,ba,bb,aF,av,?_,?_,λi ps aa=> ?_,λi ps aa=> ?_,b0⟩
 ·obtain⟨r,k⟩:=h4;simp[bL,k]
 ·obtain⟨r,k⟩:=h5;simp[bL,k]
 ·have l:i<n:=by have:=(cu.1 aa).1;omega
  obtain⟨vP,b9,n',f,Z,u,W,B,b3⟩:=ao i l;rw[aa]at u;cases u;obtain⟨_,_,_,_,_,_,a5⟩:=N i l;rw[W]at a5;exact⟨n',f,a5,B.weaken λb hb _=>aB3 λa8=>(ai (m+i) b hb).2.1 (hL b a8 λhO=>(ai (m+i) b hb).2.2.2.2 (.inl hO)),b3⟩
 ·have aQ:i<n:=by have:=(cu.1 aa).1;omega
  obtain⟨_,b9,_,u,_,a4,_⟩:=N i aQ;rw[aa]at u;cases u;exact a4
end
theorem Nh{X m:List KV}(l:bh X)(o:bh m)(k:List UInt8)(v:Int):ins k v (aW X m)=aW X (ins k v m):=by
 refine Cg l (iw o) (iw (qy l)) λe=> ?_;rw[iT,iT,ug o];constructor
 ·rintro(h|⟨a|⟨a,b⟩,j⟩);·exact .inl (.inl h)
  ·exact .inl (.inr ⟨a,j⟩)
  ·refine .inr ⟨a,λq c=> ?_⟩;rcases iT.1 c with rfl|⟨c,_⟩;·exact λh=>j h.symm
   ·exact b q c
 ·rintro((h|⟨a,b⟩)|⟨a,b⟩);·exact .inl h
  ·exact .inr ⟨.inl a,b⟩
  ·have p:e.1≠k:=λh=>b (k,v) (iT.2 (.inl rfl)) h.symm;refine .inr ⟨.inr ⟨a,λq c=> ?_⟩,p⟩;by_cases f:q.1=k;·rw[f];exact λh=>p h.symm
   ·exact b q (iT.2 (.inr ⟨c,f⟩))
def gI(pss:List (List PP)):List KV:=pss.foldl (λl ps=>aW l (pl ps)) []
theorem Nn(pss:List (List PP))(ps:List PP):gI (pss++[ps])=aW (gI pss) (pl ps):=by simp[gI]
theorem MZ(pss:List (List PP)):bh (gI pss):=by
 have key:∀(pss:List (List PP)) (l:List KV),bh l->bh (pss.foldl (λl ps=>aW l (pl ps)) l):=by
  intro pss;induction pss with
  |nil=>intro l h;exact h
  |cons p pss a=>intro l h;exact a _ (qy h)
 exact key pss [] nA
theorem Nf:∀(ps:List PP) {l:List KV},bh l->l.length<=3001->bh (iH ps l)/\(iH ps l).length<=3001
 |[],l,h,a=>⟨h,a⟩
 |p::ps,l,h,a=>by
  unfold iH;split;·exact⟨h,a⟩
  ·exact Nf ps (iw h) (by have:=oZ (eG p.1) p.2 l h;omega)
theorem BI(ps:List PP):bh (pl ps)/\(pl ps).length<=3001:=by
 unfold pl;split;·exact⟨nA,az⟩
 ·exact Nf ps nA az
section
variable (Pb po n cap b4 b5:Nat) (c:aC) (a:List aC) (x:Nat->au) (j:Int) (f:Option aH)
noncomputable def af5:Code:=(sq (sq My).2).2
noncomputable def En:Goroutine:=aw {(nxtN aj aq 15 (aw {bG aj 73 #[pA Pb po n cap] .normal with todo:=[.code af5]} (c::a))).frame with tmps:= #[pA Pb po n cap,x 1,.pointer af,.int .i64 0,ptr b4,ptr b5,x 6,x 7,x 8,.pointer f,x 10,x 11,x 12,x 13,x 14,x 15,x 16,x 17,x 18,x 19,x 20,x 21,x 22,x 23,x 24,x 25,x 26,x 27,pA Pb po n cap,.int .i64 n,.int .i64 j,x 31,x 32,x 33,x 34,x 35,x 36,x 37,aN,aN,aN,aN,x 42,x 43,x 44,x 45,x 46,x 47,x 48,x 49]} (c::a)
theorem ZH(k:Fk)(Wg:Nat)(y:Nat->au):nxtN aj aq 16 (aw ((k.tP Wg c a y).finish (.tuple #[])) (c::a))=En k.Pb k.po k.n k.cap k.b4 k.b5 c a (xF (nxtN aj aq 16 (aw ((k.tP Wg c a y).finish (.tuple #[])) (c::a))).frame) 0 none:=ah
theorem ZI(k:Fk)(Wg:Nat)(y:Nat->au):Idle aj aq 16 (aw ((k.tP Wg c a y).finish (.tuple #[])) (c::a)):=by((repeat (refine⟨by kernel_rfl,λ_=>by kernel_rfl,?_⟩));exact au8)
noncomputable def JR:Goroutine:=nxtN aj aq 14 (dL (nxtN aj aq 1 (En Pb po n cap b4 b5 c a x j f)) 31 (.bool aq))
variable (E T b:Nat) (o:Option aH)
noncomputable def JS:Goroutine:=nxtN aj aq 1 (bz (JR Pb po n cap b4 b5 c a x j f) (dO E n))
noncomputable def B3:Goroutine:=bz (JS Pb po n cap b4 b5 c a x j f E) (.pointer (ae ⟨E,b,af⟩))
noncomputable def JU:Goroutine:=nxtN aj aq 6 (bz (B3 Pb po n cap b4 b5 c a x j f E b) (.int .i64 0))
noncomputable def JV:Goroutine:=nxtN aj aq 1 (bz (JU Pb po n cap b4 b5 c a x j f E b) (dO T n))
noncomputable def JW:Goroutine:=bz (JV Pb po n cap b4 b5 c a x j f E T b) (.pointer (ae ⟨T,b,af⟩))
noncomputable def Eo:Goroutine:=bz (JW Pb po n cap b4 b5 c a x j f E T b) (.pointer o)
theorem ZB:AtR (JR Pb po n cap b4 b5 c a x j f) 0:=bI
theorem ZC:AtR (JS Pb po n cap b4 b5 c a x j f E) 2:=bI
theorem M3:AtR (B3 Pb po n cap b4 b5 c a x j f E b) 3:=bI
theorem ZD:AtR (JU Pb po n cap b4 b5 c a x j f E b) 1:=bI
theorem ZE:AtR (JV Pb po n cap b4 b5 c a x j f E T b) 3:=bI
theorem ZF:AtR (JW Pb po n cap b4 b5 c a x j f E T b) 4:=bI
theorem ZG:AtR (Eo Pb po n cap b4 b5 c a x j f E T b o) 5:=bI
end
