/- Own texts: GfB, GfC, GfD, GfE, AddF. -/
import Derived.Test.YtcgjppacnhmjlaaGreatMAO
import Derived.Test.YtcgjppacnhmjlaaGreatMAK
set_option linter.all false
set_option maxRecDepth 100000
set_option maxHeartbeats 4000000
open Array renaming toArray_toList->ax0
open Bool renaming true->aq,false->ax
open Go renaming World->ak,Value->au,Frame->aC,Calls->aE,heap_alloc_new->cY,Addr->aH,Deferred->jH,Code->du,Loop->nK,Func->pO
open Go.Addr renaming add_lit->jF
open Go.Frame renaming round->D5
open Go.Proofs.Tryz renaming prog->aj,func9->Pd,f44->Pq,ntmps9->aH5
open Go.RowKit renaming Below->aA
open Go.RowKit.Below renaming refl->cD
open Go.Value renaming func->Dc
open Go.World renaming block_lt_of_cell?->cC,cell?->bL,size_alloc->dh,cell?_of_block->gV,putObj_heap_other->kX,size_setCell->jX,frozen?->gu,putObj_heap_same->Cv
open List renaming getElem?_eq_getElem->bf,getElem?_eq_some_iff->cu,mem_cons->dk,length_append->gJ,length_eq_zero_iff->kY,getElem?_map->iI,length_filter_le->mB,attach_map_subtype_val->xe,prefix_append->sS,not_mem_nil->CL,length_attach->az1,prefix_refl->aA2,nodup_nil->aC5
open Nat renaming le_refl->aL,le_trans->bT,zero_le->fL
open Option renaming some->ae,none->af
namespace Go.Proofs.YtcgjppacnhmjlaaGreat
open Go Go.Conc Go.ConcN Go.Conc.Lib Go.ConcR.Gen Go.RowKit
namespace Sim
variable {ab:List OpV} {ac:Option aH} {a7 u:Nat} {a2:ByteArray} {ad:au} {a8:ak} {ai:List KV}
def OpsIn(p:ak)(a:Option aH)(f:List OpV):Prop:=∀(i:Nat) o,f[i]?=ae o->OpIn p o/\∃b c,a=ae ⟨b,c,af⟩/\∀(j:Nat) u,o.cells[j]?=ae u->p.cell? ⟨b,c+i*9+j,af⟩=ae u
structure Aq(b:ak)(f:Nat->Nat)(j b4 b5 ba bg y wb a rb:Nat)(U:Int)(key v:ByteArray)(nn:Int)(fv mv:au)(tn:Nat)(o:Option aH)(wc k:Nat)(s:List KV):Prop where
 uP:eo (λ_=>False) j b4 b5 wb a rb U key v nn fv mv b
 r3:f j=0
 r4:f b4=0
 r5:f b5=0
 ZJ:f ba=0
 ZK:f bg=0
 ZL:f y=0
 ju:b.cell? ⟨ba,0,af⟩=ae (.int .i64 (tn:Int))
 iB:b.cell? ⟨bg,0,af⟩=ae (.slice o s.length wc)
 qW:b.cell? ⟨y,0,af⟩=ae (.int .i64 (k:Int))
 row:∀(i:Nat) e,s[i]?=ae e->∃g,o=ae ⟨g,0,af⟩/\f g=0/\b.cell? ⟨g,i*2,af⟩=ae (.string (keyOf e))/\b.cell? ⟨g,i*2+1,af⟩=ae (.int .i64 e.2)
 le:k<=s.length
 cut:0<=nn\/k=s.length
 cI:s.length<=3000
section
variable {Post:au->ak->Prop} {p:ak} {W:Nat} {Z:au} {a6:Nat->Nat} {Oe:Nat->Prop} {Re:BR} {we:ak} {ps:List (Nat×Nat)} {b:ak} {f:Nat->Nat} {RB:BR} {aU aR:Nat} {B a1 al ow:Nat->Nat} {O O':Nat->Prop} {R R':BR} {A A':ak} {h fq:TS} {N:Nat} {ok:Bool}
variable {j b4 b5 ba bg y wb a rb:Nat} {U:Int} {key v:ByteArray} {nn:Int} {fv mv:au} {tn:Nat} {o:Option aH} {wc k:Nat} {s:List KV}
theorem fy.cell(c:fy p W Z a6 Oe Re we ps b f RB aU aR B a1 O R A h N ok){a o:Nat}{v:au}(l:f a=0)(j:b.cell? ⟨a,o,af⟩=ae v):¬O a/\A.cell? ⟨a,o,af⟩=ae v:=by
 have k:a<b.heap.size:=cC _ _ j;exact⟨c.no k ag,(gV (a:=⟨a,o,af⟩) (c.bK a k (.inl l))).trans j⟩
theorem fy.uP(l:fy p W Z a6 Oe Re we ps b f RB aU aR B a1 O R A h N ok)(c:Aq b f j b4 b5 ba bg y wb a rb U key v nn fv mv tn o wc k s):eo O j b4 b5 wb a rb U key v nn fv mv A:=by
 refine c.uP.on λa7 w=> ?_;have r:j<b.heap.size:=cC _ _ c.uP.c3;have t:b4<b.heap.size:=cC _ _ c.uP.sn;have u:b5<b.heap.size:=cC _ _ c.uP.o0;have x:=c.r3;have H:=c.r4;have a2:=c.r5;rcases w with rfl|rfl|rfl;·exact⟨l.bK _ r (.inl x),l.no r ag⟩
 ·exact⟨l.bK _ t (.inl H),l.no t ag⟩
 ·exact⟨l.bK _ u (.inl a2),l.no u ag⟩
theorem fy.zc(c:fy p W Z a6 Oe Re we ps b f RB aU aR B a1 O R A h N ok)(l:Aq b f j b4 b5 ba bg y wb a rb U key v nn fv mv tn o wc k s):mS O ba bg y aU aR tn N o s.length wc (k:Int) ok A:=by
 have r:=c.cell l.ZJ l.ju;have t:=c.cell l.ZK l.iB;have u:=c.cell l.ZL l.qW;exact⟨r.1,t.1,u.1,c.no c.qk (by rw[c.rq];decide),c.no c.ql (by rw[c.rr];decide),r.2,t.2,u.2,by unfold bL;rw[c.oP];rfl,by unfold bL;rw[c.oQ];rfl,by unfold gu;rw[c.oP];rfl,by unfold gu;rw[c.oQ];rfl⟩
def At(p:ak)(W:Nat)(Z:au)(a6:Nat->Nat)(Oe:Nat->Prop)(Re:BR)(we:ak)(ps:List (Nat×Nat))(b:ak)(f:Nat->Nat)(RB:BR)(aU aR k:Nat)(s:List KV):sd (js s):=λB pre O R A=>∃a1 h N ok,fy p W Z a6 Oe Re we ps b f RB aU aR B a1 O R A h N ok/\N<=k/\(pre<+:s.attach->ok=aq/\N=pre.length)
def DI(p:ak)(W:Nat)(Z:au)(a6:Nat->Nat)(Oe:Nat->Prop)(Re:BR)(we:ak)(ps:List (Nat×Nat))(b:ak)(f:Nat->Nat)(RB:BR)(aU aR k:Nat)(s:List KV)(cd:du):sd (js s):=λB pre O R A=>cd=.exit 4/\∃a1 h ok,fy p W Z a6 Oe Re we ps b f RB aU aR B a1 O R A h k ok/\(pre<+:s.attach->ok=aq)
theorem Vk:tF b.heap.size (At p W Z a6 Oe Re we ps b f RB aU aR k s):=by
 refine⟨λB pre O R A ⟨a1,h,N,ok,a,_⟩=>a.fresh,λB pre O R A ⟨a1,h,N,ok,a,_⟩=>a.fH.pw.known,λB pre O R A ⟨a1,h,N,ok,a,_⟩ x r=>a.own r,λB pre O R A R' A' ⟨a1,h,N,ok,a,j⟩ u o t w l v=> ?_⟩;obtain⟨ow,_,c⟩:=a.grow u o t w l v;exact⟨ow,h,N,ok,c,j⟩
theorem Vl(cd:du):tF b.heap.size (DI p W Z a6 Oe Re we ps b f RB aU aR k s cd):=by
 refine⟨λB pre O R A ⟨_,a1,h,ok,a,_⟩=>a.fresh,λB pre O R A ⟨_,a1,h,ok,a,_⟩=>a.fH.pw.known,λB pre O R A ⟨_,a1,h,ok,a,_⟩ x r=>a.own r,λB pre O R A R' A' ⟨e,a1,h,ok,a,j⟩ u o t w l v=> ?_⟩;obtain⟨ow,_,c⟩:=a.grow u o t w l v;exact⟨e,ow,h,ok,c,j⟩
theorem ao6{lp:nK}{pre:List (js s)}{w:js s}{b1:Int}{x:Nat->au}{c':aC}{aF:List aC}(aa:Aq b f j b4 b5 ba bg y W a rb U key v nn fv (.slice ac ab.length a7) tn o wc k s)(qg:OpsIn p ac ab)(cp:ab.length<=9223372036854775807)(cr:0<ps.length)(hI:At p W Z a6 Oe Re we ps b f RB aU aR k s B pre O R A)(hv:w.1=(a2.data.toList,b1))(hl:A.heap[u]?=ae (.loop lp))(c7:b.heap.size<=u)(c6:B u=0)(cw:lp.state=.ready)(hn:∀al O' R' A' l bd,Dv b.heap.size (bd=af) u B A al A'->A'.heap[u]?=ae (.loop {lp with state:=.busy})->l.mode=.run->l.kind=.normal->l.roundOf=ae u->leaves l=ae bd->(bd=af->At p W Z a6 Oe Re we ps b f RB aU aR k s al (pre++[w]) O' R' A')->(∀cd,bd=ae cd->DI p W Z a6 Oe Re we ps b f RB aU aR k s cd al (pre++[w]) O' R' A')->ay aj Post O' (aw l (c'::aF)) A'):ay aj Post O (aw (D5 u 15 (((bH (ptr j) (ptr b4) (ptr b5) ad (x 8) (ptr ba) (ptr bg) (ptr y) (ptr aU) (ptr aR) (x 15) (x 16) ad x).setIfInBounds 83 (.string a2)).setIfInBounds 84 (.int .i64 b1)) Ay d15 .normal) (c'::aF)) A:=by
 obtain⟨d6,b0,N,ok,h0,d0,c8⟩:=hI;refine Wq hl cw λx=> ?_;have bP:=h0.fH.pw.known;have bo:=cJ hl;obtain⟨H,ai⟩:∃H,A.putObj u (.loop {lp with state:=.busy})=H:=⟨_,rfl⟩;obtain⟨a1,cM,am⟩:=h0.grow (A':=H) (R':=R) (by rw[<-ai];simp) (λa2 hk hc=>by rw[<-ai];exact kX (pf hc c7 c6)) (by rw[<-ai];rfl) (by rw[<-ai];rfl) (by rw[<-ai];exact bP.pn (bP.wy hl) _) (BR.Sub.refl _);have aQ:oE u B A B H:=⟨by rw[<-ai];simp,λ_ _=>rfl,λa2 ci _ _=>by rw[<-ai];exact kX ci⟩;have bY:H.heap[u]?=ae (.loop {lp with state:=.busy}):=by rw[<-ai];exact Cv bo
 have cn:a1 u=202:=(cM u bo).trans (h0.it u c7 bo c6);rw[ai];have cj:u≠aU:=by have:=am.qk;omega
 have bm:u≠aR:=by have:=am.ql;omega
 have d1:=aa.cI;have d3:=aa.le;have cx:N<9223372036854775807:=ag;have hB:=am.uP aa;have hG:=am.zc aa;have br:∀(t:Bool) l,Lv u (ae (.exit 4)) l->N=k->(pre++[w]<+:s.attach->t=aq)->ay aj Post O (aw l (c'::aF)) (H.setCell ⟨aR,0,af⟩ (.bool t)):=by
  intro t l r e1 hb;obtain⟨h,an⟩:=am.G5 u t;rw[e1]at h;exact hn B O R _ l _ (aQ.trans an).e ((ni H aR _ bm).trans bY) r.mode r.kind r.ro r.lv (λe=>by cases e) λcd e=>by cases e;exact⟨rfl,a1,b0,t,h,hb⟩
 have b2:∀(bi bw:Nat->Nat)(O2:Nat->Prop)(R2:BR)(A2:ak)(bv:TS)(be:Bool) (x:Nat->au),fy p W Z a6 Oe Re we ps b f RB aU aR bi bw O2 R2 A2 bv N be->oE u B A bi A2->A2.heap[u]?=ae (.loop {lp with state:=.busy})->N<k->(pre++[w]<+:s.attach->be=aq/\N=pre.length)->
   ay aj Post O2 (aw (FR 15 u [] (bH (ptr j) (ptr b4) (ptr b5) ad (x 8) (ptr ba) (ptr bg) (ptr y) (ptr aU) (ptr aR) (.string a2) (.int .i64 b1) ad x) qi) (c'::aF)) A2:=by
  intro bi bw O2 R2 A2 bv be x h an ao d4 hp;refine Wy (h.zc aa) cx λl r=> ?_;obtain⟨h3,bl⟩:=h.setAt u (N+1);exact hn bi O2 R2 _ l _ (an.trans bl).e ((ni A2 aU _ cj).trans ao) r.mode r.kind r.ro r.lv (λ_=>⟨bw,bv,N+1,be,h3,ag,λc=>⟨(hp c).1,by rw[(hp c).2];simp⟩⟩) λcd e=>by cases e
 by_cases d2:k<=N
 ·have e1:N=k:=ag;have a8:pre++[w]<+:s.attach->ok=aq/\N<s.length:=λc=>by
   have h1:=c8 ((sS _ _).trans c);have h:=c.length_le;rw[gJ,az1]at h;simp at h;exact⟨h1.1,ag⟩
  cases ok with
  |false=>exact Wt hB hG ag λl r=>br ax l r e1 λc=>(a8 c).1
  |true=>
   by_cases h1:N<s.length
   ·refine Wv hB hG ag h1 λl r=> ?_;have d5:0<=nn:=by have:=aa.cut;omega
    rw[decide_eq_true (by omega:nn>=0)];exact br aq l r e1 λ_=>rfl
   ·exact Wu hB hG ag h1 λl r=>br ax l r e1 λc=>absurd (a8 c).2 h1
 ·have bb:N<k:=ag;obtain⟨e,he⟩:∃e,s[N]?=ae e:=⟨_,bf ag⟩;obtain⟨g,cy,cb,cf,cg⟩:=aa.row N e he;subst cy;obtain⟨bU,bE⟩:=am.cell cb cf;obtain⟨_,bM⟩:=am.cell cb cg;have a8:pre++[w]<+:s.attach->ok=aq/\(a2.toList==(keyOf e).toList)=aq/\b1=e.2/\N=pre.length:=λc=>by
   have h1:=c8 ((sS _ _).trans c);obtain⟨z,hz⟩:=c;have h:s.attach[pre.length]?=ae w:=by rw[<-hz];simp
   have h3:s[pre.length]?=ae w.1:=by
    have:=congrArg (Option.map (·.1)) h;rw[<-iI,xe]at this;exact this
   rw[<-h1.2,he]at h3;cases h3;refine⟨h1.1,?_,by rw[hv],h1.2⟩;have:keyOf w.1=a2:=by rw[hv];rfl
   rw[this];exact beq_self_eq_true _
  have bs:∀(t:Bool) (x:Nat->au),(pre++[w]<+:s.attach->t=aq)->ay aj Post O (aw (FR 15 u [] (bH (ptr j) (ptr b4) (ptr b5) ad (x 8) (ptr ba) (ptr bg) (ptr y) (ptr aU) (ptr aR) (.string a2) (.int .i64 b1) ad x) oV) (c'::aF)) (H.setCell ⟨aR,0,af⟩ (.bool t)):=by
   intro t x hb;obtain⟨h,an⟩:=am.G5 u t;have ao:=(ni H aR (.bool t) bm).trans bY;have b6:=h.uP aa;have b9:=h.zc aa;by_cases hm:N<ab.length
   ·cases t with
    |false=>exact Wi b6 b9 hm λx=>b2 B a1 O R _ b0 ax x h (aQ.trans an) ao bb λc=>⟨hb c,(a8 c).2.2.2⟩
    |true=>
     by_cases ht:tn=0
     ·obtain⟨aT,ho⟩:∃aT,ab[N]?=ae aT:=⟨_,bf hm⟩;obtain⟨ct,mb,mp,co,cs⟩:=qg N aT ho;subst co;have ca:=h.fH.pw;have c5:∀(ar:Nat) ap,aT.cells[ar]?=ae ap->¬O mb/\(H.setCell ⟨aR,0,af⟩ (.bool aq)).cell? ⟨mb,mp+N*9+ar,af⟩=ae ap:=λar ap hj=>ca.cell (cs ar ap hj);have bZ:=c5 0 _ rfl;have cl:0<b0.length:=by rw[h.fH.len];exact cr
      refine Wk (vs:=aT.cells.toList) b6 b9 hm cp ht bZ.1 (cC _ _ bZ.2) rfl (λar ap hj=> ?_) (by rw[ax0];exact F4 ca cl ct) λap O3 R3 A3 hu=> ?_;·rw[jF];exact(c5 ar ap (by simpa using hj)).2
      ·obtain⟨rfl,cV,cR,ha⟩:=hu;obtain⟨⟨cS,h3,bl⟩,ch⟩:=h.plain ha u;have bk:=h3.zc aa;have ce:=(ch u (cJ ao) cn).trans ao;refine⟨rfl,bk.eP,aq,bk.kt,bk.uQ,λx=> ?_⟩;obtain⟨h4,cc⟩:=h3.G5 u aq;exact b2 cS cV O3 R3 _ cR aq x h4 (((aQ.trans an).trans bl).trans cc) ((ni A3 aR _ bm).trans ce) bb λc=>⟨rfl,(a8 c).2.2.2⟩
     ·exact Wj b6 b9 hm ht λx=>b2 B a1 O R _ b0 aq x h (aQ.trans an) ao bb λc=>⟨rfl,(a8 c).2.2.2⟩
   ·exact Wh b6 b9 hm λx=>b2 B a1 O R _ b0 t x h (aQ.trans an) ao bb λc=>⟨hb c,(a8 c).2.2.2⟩
  cases ok with
  |false=>exact W6 hB hG ag ag λx=>bs ax x λc=>(a8 c).1
  |true=>
   cases hq:(a2.toList==(keyOf e).toList)with
   |false=>exact W7 hB hG ag ag bU bE bM hq λx=>bs ax x λc=>by rw[(a8 c).2.1]at hq;cases hq
   |true=>exact W8 hB hG ag ag bU bE bM hq λx=>bs _ x λc=>decide_eq_true (a8 c).2.2.1
end
def qQ(n:Nat)(w:ak)(o:Option aH)(s:List KV):Prop:=∀(i:Nat) e,s[i]?=ae e->∃g,o=ae ⟨g,0,af⟩/\n<=g/\w.cell? ⟨g,i*2,af⟩=ae (.string (keyOf e))/\w.cell? ⟨g,i*2+1,af⟩=ae (.int .i64 e.2)
theorem qQ.on{n:Nat}{w:ak}(h:qQ n w ac ai)(a:aO w a8):qQ n a8 ac ai:=λi e k=>by
 obtain⟨g,b,c,f,j⟩:=h i e k;exact⟨g,b,c,a.cell f,a.cell j⟩
theorem LF{l:Tape}{d:Nat}{c:ak}(h:tH (Sim.re a8 l d) ad ai c):(∃o wc,ad=.slice o ai.length wc/\qQ a8.heap.size c o ai)/\aO a8 c:=by
 refine⟨?_,aO.of h.2⟩;have f:=h.1;obtain⟨r,a|⟨g,cap,p,a,k,_⟩⟩:=h.1
 ·refine⟨af,0,by rw[a.1,a.2],λi e b=> ?_⟩;rw[kY.mp a.2]at b;simp at b
 ·refine⟨_,_,a,λi e b=> ?_⟩;rw[a]at f;have j:=FF f i e b;exact⟨g,rfl,k,j.1,j.2⟩
def mA(U:Int)(key v:ByteArray)(l:List KV):List KV:=if U=7 then eA key.data.toList l else cO key.data.toList v.data.toList l
section
variable {Post:au->ak->Prop} {O:Nat->Prop} {R:BR} {w:ak} {r:Nat} {rv:au} {l:List KV}
theorem L4(s:aI Xm O R w)(y:R r r)(h:bQ w r rv l){b:ByteArray}(t:a2.size<=9223372036854775807)(B:b.size<=9223372036854775807):MC Post 29 #[ptr r,.string a2,.string b] O w (λu O' R' a=>O'=O/\(∃o wc,u=.slice o (cO a2.data.toList b.data.toList l).length wc/\qQ w.heap.size a o (cO a2.data.toList b.data.toList l))/\aO w a/\aI Xm O R' a/\BR.Sub R R'):=by
 refine iD (kT (R:=R) (Post1:=λu a=>(∃o wc,u=.slice o (cO a2.data.toList b.data.toList l).length wc/\qQ w.heap.size a o (cO a2.data.toList b.data.toList l))/\aO w a) U4 (kS bc) s (iP (l:=[ptr r,.string a2,.string b]) ⟨kD y,.string _,.string _,trivial⟩) (λu a c d ⟨⟨o,wc,f,j⟩,k⟩=>⟨⟨o,wc,f,j.on ((aO.refl a).re c d)⟩,k.re c d⟩) (λc=> ?_)) λu O' R' a H=> ?_
 ·refine(ah8 (kA h ((aO.refl w).re c 0)) a2 b t B).mono ?_;rintro e a ⟨v,rfl,x⟩;exact⟨v,rfl,LF x⟩
 ·obtain⟨rfl,⟨f,j⟩,k,_,p,_⟩:=H;exact⟨rfl,f,j,k,p⟩
theorem Y6(s:aI Xm O R w)(y:R r r)(h:bQ w r rv l)(t:a2.size<=9223372036854775807):MC Post 30 #[ptr r,.string a2] O w (λu O' R' a=>O'=O/\(∃o wc,u=.slice o (eA a2.data.toList l).length wc/\qQ w.heap.size a o (eA a2.data.toList l))/\aO w a/\aI Xm O R' a/\BR.Sub R R'/\VR Xm.G R' u u):=by
 refine iD (kT (R:=R) (Post1:=λu a=>(∃o wc,u=.slice o (eA a2.data.toList l).length wc/\qQ w.heap.size a o (eA a2.data.toList l))/\aO w a) U5 (kS bc) s (iP (l:=[ptr r,.string a2]) ⟨kD y,.string _,trivial⟩) (λu a b d ⟨⟨o,wc,c,f⟩,j⟩=>⟨⟨o,wc,c,f.on ((aO.refl a).re b d)⟩,j.re b d⟩) (λb=> ?_)) λu O' R' a B=> ?_
 ·refine(ah3 (kA h ((aO.refl w).re b 0)) a2 t).mono ?_;rintro e a ⟨v,rfl,x⟩;exact⟨v,rfl,LF x⟩
 ·obtain⟨rfl,⟨c,f⟩,j,p,k,_⟩:=B;exact⟨rfl,c,f,j,k,p⟩
end
section
variable {Post:au->ak->Prop} {O:Nat->Prop} {R:BR} {A:ak} {j b4 b5 wb a rb ba tn:Nat} {U:Int} {key v:ByteArray} {nn:Int} {fv mv sv:au} {df:List jH} {c:aC} {cs:List aC} {x:Nat->au} {rv:au} {l:List KV}
theorem ao7(ai:U=6\/U=7)(h:eo O j b4 b5 wb a rb U key v nn fv mv A)(a8:tn<2)(dI:¬O ba)(ju:A.cell? ⟨ba,0,af⟩=ae (.int .i64 (tn:Int)))(hK:aI Xm O R A)(hr:R rb rb)(hR:bQ A rb rv l)(hf:key.size<=9223372036854775807)(ht:v.size<=9223372036854775807)(B:∀bg o wc u b x,aO A b->aI Xm O u b->BR.Sub R u->A.heap.size<=bg->b.cell? ⟨bg,0,af⟩=ae (.slice o (mA U key v l).length wc)->qQ A.heap.size b o (mA U key v l)->ay aj Post O (aw (FD 15 df (bH (ptr j) (ptr b4) (ptr b5) sv (x 8) (ptr ba) (ptr bg) (x 12) (x 13) (x 14) (x 15) (x 16) (x 82) x) rf) (c::cs)) b):ay aj Post O (aw (FD 15 df (bH (ptr j) (ptr b4) (ptr b5) sv (x 8) (ptr ba) (x 11) (x 12) (x 13) (x 14) (x 15) (x 16) (x 82) x) oU) (c::cs)) A:=by
 rcases ai with rfl|rfl
 ·have e:mA 6 key v l=cO key.data.toList v.data.toList l:=if_neg bc;rw[e]at B;refine Wr h a8 dI ju (L4 hK hr hR hf ht) λaa O' R' A' t=> ?_;obtain⟨rfl,⟨o,wc,rfl,h1⟩,f,r,w⟩:=t;have s:=dw A' (.cells #[.slice o (cO key.data.toList v.data.toList l).length wc] 34);exact⟨A'.heap.size,o,_,wc,rfl,rfl,λZ=>by have:=r.low _ Z;omega,h.cv (f.trans s),λx=>B A'.heap.size o wc R' _ x (f.trans s) (r.grown _) w f.size (kP A' 34 rfl) (h1.on s)⟩
 ·have e:mA 7 key v l=eA key.data.toList l:=if_pos rfl;rw[e]at B;refine Ws h a8 dI ju (L4 hK hr hR hf ht) λaa O' R' A' t=> ?_;obtain⟨rfl,⟨o,wc,rfl,h1⟩,f,r,w⟩:=t;obtain⟨b,p⟩:∃b,A'.alloc (.cells #[.slice o (cO key.data.toList v.data.toList l).length wc] 34)=b:=⟨_,rfl⟩;have s:aO A' b:=p▸dw _ _;have am:b.heap.size=A'.heap.size+1:=by rw[<-p,dh]
  have ad:b.heap[A'.heap.size]?=ae (.cells #[.slice o (cO key.data.toList v.data.toList l).length wc] 34 (0,0)):=by rw[<-p];exact cY _ _
  have a7:¬O' A'.heap.size:=λZ=>by have:=r.low _ Z;omega
  have ab:aI Xm O' R' b:=p▸r.grown _;have a1:=f.trans s;have al:=f.size;refine⟨A'.heap.size,o,_,wc,_,rfl,rfl,a7,by rw[p];exact h.cv a1,by rw[p];exact Y6 ab (w _ _ hr) (kA hR a1) hf,λaa O2 u W t=> ?_⟩;obtain⟨rfl,⟨H,N,rfl,k1⟩,k2,k3,k4,k5⟩:=t;have a2:W.heap[A'.heap.size]?=ae (.cells #[.slice o (cO key.data.toList v.data.toList l).length wc] 34 (0,0)):=(k2.block _ ag).trans ad;have a6:=λk hk=>ni W A'.heap.size (.slice H (eA key.data.toList l).length N) (k:=k) hk;have y:=a1.trans k2;have ac:aO A (W.setCell ⟨A'.heap.size,0,af⟩ (.slice H (eA key.data.toList l).length N)):=⟨by rw[jX];exact y.size,λk hk=>(a6 k ag).trans (y.block k hk),y.os,y.output⟩;refine⟨H,_,N,_,rfl,a7,by unfold bL;rw[a2];rfl,by unfold gu;rw[a2];rfl,λx=>B A'.heap.size H N u _ x ac (k3.set _ k5) (w.trans k4) al ?_ λi e he=> ?_⟩;·unfold bL;rw[G6 a2];rfl
  ·obtain⟨g,q1,q2,q3,q4⟩:=k1 i e he;have hg:g≠A'.heap.size:=ag;exact⟨g,q1,ag,(gV (a:=⟨g,i*2,af⟩) (a6 g hg)).trans q3,(gV (a:=⟨g,i*2+1,af⟩) (a6 g hg)).trans q4⟩
theorem ao5{wc:Nat}(h:eo O j b4 b5 wb a rb U key v nn fv mv a8)(f:¬O a7)(o:a8.cell? ⟨a7,0,af⟩=ae (.slice ac u wc))(b:∀r,a8.heap.size<=r->¬O r)(l:∀k x,k<=u->(0<=nn\/k=u)->ay aj Post O (aw (FD 15 df (bH (ptr j) (ptr b4) (ptr b5) sv (x 8) (ptr ba) (ptr a7) (ptr a8.heap.size) (ptr (a8.heap.size+1)) (ptr (a8.heap.size+1+1)) (x 15) (x 16) sv x) (.code oO::oX)) (c::cs)) (((a8.alloc (.cells #[.int .i64 ((k:Nat):Int)] 3)).alloc (.cells #[.int .i64 0] 3)).alloc (.cells #[.bool aq] 4))):ay aj Post O (aw (FD 15 df (bH (ptr j) (ptr b4) (ptr b5) sv (x 8) (ptr ba) (ptr a7) (x 12) (x 13) (x 14) (x 15) (x 16) (x 82) x) rf) (c::cs)) a8:=by
 by_cases s:nn<0;·exact Wl h s f o rfl (b _ ag) rfl (b _ ag) rfl (b _ ag) λx=>l u x (aL _) (.inr rfl)
 ·by_cases p:nn<(u:Int)
  ·obtain⟨k,t⟩:=Int.eq_ofNat_of_zero_le (by omega:0<=nn);refine Wm h ⟨ag,p⟩ f o rfl (b _ ag) rfl (b _ ag) rfl (b _ ag) λx=> ?_;have:=l k x ag (.inl ag);rw[<-t]at this;exact this
  ·exact Wn h ⟨ag,p⟩ f o rfl (b _ ag) rfl (b _ ag) rfl (b _ ag) λx=>l u x (aL _) (.inr rfl)
end
def uh(D:Nat):Deferred:={target:=.collected D,args:= #[]}
structure Tn(p:ak)(W:Nat)(Z:au)(a6:Nat->Nat)(Oe:Nat->Prop)(Re:BR)(we:ak)(ps:List (Nat×Nat))(H:ak)(aa:Nat->Nat)(O:Nat->Prop)(R:BR)(A:ak)(h:TS)(Dl:List Nat)(ba tn:Nat):Prop where
 fH:fw p W Z a6 Oe Re we ps aa O R A h
 size:H.heap.size<=A.heap.size
 st:∀k,we.heap.size<=k->k<H.heap.size->aa k=0/\A.heap[k]?=H.heap[k]?
 EH:aa ba=0
 ju:A.cell? ⟨ba,0,af⟩=ae (.int .i64 (tn:Int))
 df:∀D∈Dl,aa D=202/\A.heap[D]?=ae (.deferred (ae []))/\we.heap.size<=D
 yN:Dl.Nodup
theorem ap4{h:TS}{ps:List (Nat×Nat)}{i:Nat}(j:h.map pp=ps)(c:ps[i]?=ae (a7,u)):∃l,h[i]?=ae (a7,u,l):=by
 rw[<-j,iI]at c;cases f:h[i]? with
 |none=>rw[f]at c;cases c
 |some t=>
  rw[f]at c;obtain⟨a,b,l⟩:=t;simp[pp]at c;obtain⟨rfl,rfl⟩:=c;exact⟨l,rfl⟩
theorem Qx:oO=.rangeFunc (.tmp 82) #[83,84] Ay d15:=ah
section
variable {Post:au->ak->Prop} {p:ak} {W:Nat} {Z:au} {a6:Nat->Nat} {Oe:Nat->Prop} {Re:BR} {we:ak} {ps:List (Nat×Nat)} {H:ak} {aa:Nat->Nat} {O:Nat->Prop} {R:BR} {A:ak} {h:TS} {Dl:List Nat} {ba tn:Nat}
variable {j b4 b5 a rb i gf:Nat} {lb:Array au} {U:Int} {key v:ByteArray} {nn:Int} {fv:au} {ms:List OpV} {ma:Option aH} {mc:Nat} {fn:pO} {cc:du} {c:aC} {cs:List aC} {x:Nat->au}
theorem N8(T:Tn p W Z a6 Oe Re we ps H aa O R A h Dl ba tn)(bU:tn<2)(ce:U=6\/U=7)(hT:eo (λ_=>False) j b4 b5 W a rb U key v nn fv (.slice ma ms.length mc) H)(cx:we.heap.size<=j/\we.heap.size<=b4/\we.heap.size<=b5)(d1:we.heap.size<=H.heap.size)(qg:OpsIn p ma ms)(ch:ms.length<=9223372036854775807)(hi:ps[i]?=ae (a,rb))(hf:key.size<=9223372036854775807)(ht:v.size<=9223372036854775807)(cb:fO gf fn cc)(cj:∀(f:Nat->Nat)(RB:BR)(b:ak) (l:List KV),(∀r,we.heap.size<=r->r<H.heap.size->f r=0/\b.heap[r]?=H.heap[r]?)->RB a a->bB (λr=>f r=0/\RB r r) b a l->∃b2,yc (α:=js (mA U key v l)) Post gf lb (·.1) (λq=>q=(mA U key v l).attach) (λq=>q<+:(mA U key v l).attach) b2 f RB b)(hn:∀a2 O2 R2 w a7 D b6 x,Tn p W Z a6 Oe Re we ps H a2 O2 R2 w a7 (D::Dl) b6 (tn+1)->ay aj Post O2 (aw (FD 15 ((D::Dl).map uh) (bH (ptr j) (ptr b4) (ptr b5) (.func (.func gf) #[] lb) (x 8) (ptr b6) (x 11) (x 12) (x 13) (x 14) (x 15) (x 16) (x 82) x) oU) (c::cs)) w):ay aj Post O (aw (FD 15 (Dl.map uh) (bH (ptr j) (ptr b4) (ptr b5) (.func (.func gf) #[] lb) (x 8) (ptr ba) (x 11) (x 12) (x 13) (x 14) (x 15) (x 16) (x 82) x) oU) (c::cs)) A:=by
 obtain⟨sv,bP⟩:∃sv,Dc (.func gf) #[] lb=sv:=⟨_,rfl⟩;rw[bP]at hn⊢;obtain⟨l,b0⟩:=ap4 T.fH.ps hi;have ac:=T.fH.pw;have bs:0<h.length:=by have:=(cu.1 b0).1;omega
 have cg:0<ps.length:=by rw[<-T.fH.len];exact bs
 obtain⟨g0,cp,_,_,_,cl⟩:=ac.list bs;obtain⟨_,_,hx,hr⟩:=cl i _ b0;have ar:=ac.wd.tw i _ b0;obtain⟨rv,bE,_⟩:=ar.ref;dsimp only at hx hr ar bE;have cV:=T.size;have ai:∀u,u=j\/u=b4\/u=b5->we.heap.size<=u/\u<H.heap.size:=λu hb=>by
  have k3:j<H.heap.size:=cC _ _ hT.c3;have k4:b4<H.heap.size:=cC _ _ hT.sn;have k5:b5<H.heap.size:=cC _ _ hT.o0;omega
 have bl:eo O j b4 b5 W a rb U key v nn fv (.slice ma ms.length mc) A:=hT.on λu hb=>by
  obtain⟨k1,k2⟩:=ai u hb;obtain⟨k3,k4⟩:=T.st u k1 k2;exact⟨k4,ac.free (by rw[k3];decide)⟩
 have dI:¬O ba:=ac.free (by rw[T.EH];decide);have cw:ba<A.heap.size:=cC _ _ T.ju;refine ao7 ce bl bU dI T.ju ac.known hr bE hf ht λbg o wc R2 w x aR c7 aU bm iB bw=> ?_;have bi:∀r,A.heap.size<=r->¬O r:=λr hk=>ac.new hk;have cR:=aR.size;refine ao5 (bl.cv aR) (bi _ bm) iB (λr hk=>bi r ag) λk x bv hcut=> ?_;obtain⟨s,b1⟩:∃s,mA U key v l=s:=⟨_,rfl⟩;rw[b1]at iB bw bv hcut;have cn:s.length<=3000:=by
  have h1:=ar.ix.cI;rw[<-b1];unfold mA;split
  ·have:(eA key.data.toList l).length<=l.length:=mB _ _;omega
  ·have:(cO key.data.toList v.data.toList l).length<=l.length:=mB _ _;omega
 obtain⟨y,aQ⟩:∃y,w.heap.size=y:=⟨_,rfl⟩;obtain⟨b,am⟩:∃b,((w.alloc (.cells #[.int .i64 (k:Int)] 3)).alloc (.cells #[.int .i64 0] 3)).alloc (.cells #[.bool aq] 4)=b:=⟨_,rfl⟩;have s1:(w.alloc (.cells #[.int .i64 (k:Int)] 3)).heap.size=y+1:=by rw[dh,aQ]
 have s2:((w.alloc (.cells #[.int .i64 (k:Int)] 3)).alloc (.cells #[.int .i64 0] 3)).heap.size=y+1+1:=by rw[dh,s1]
 have cS:b.heap.size=y+3:=by rw[<-am,dh,s2]
 have bY:aO w (w.alloc (.cells #[.int .i64 (k:Int)] 3)):=dw _ _;have b9:aO (w.alloc (.cells #[.int .i64 (k:Int)] 3)) ((w.alloc (.cells #[.int .i64 (k:Int)] 3)).alloc (.cells #[.int .i64 0] 3)):=dw _ _;have aF:aO ((w.alloc (.cells #[.int .i64 (k:Int)] 3)).alloc (.cells #[.int .i64 0] 3)) b:=am▸dw _ _;have an:aO w b:=(bY.trans b9).trans aF;have a8:aO A b:=aR.trans an;have be:aI Xm O R2 b:=am▸((c7.grown _).grown _).grown _;have bZ:b.cell? ⟨y,0,af⟩=ae (.int .i64 (k:Int)):=aF.cell (b9.cell (by rw[<-aQ];exact kP w 3 rfl));have oP:b.heap[y+1]?=ae (.cells #[.int .i64 ((0:Nat):Int)] 3 (0,0)):=(aF.block _ ag).trans (by rw[<-s1];exact cY _ _);have oQ:b.heap[y+1+1]?=ae (.cells #[.bool aq] 4 (0,0)):=by rw[<-am,<-s2];exact cY _ _
 rw[am,aQ];let f:Nat->Nat:=λr=>if r=y+1\/r=y+1+1 then 201 else aa r
 have ab:∀r,r≠y+1->r≠y+1+1->f r=aa r:=λr h1 h2=>by
  show(if _ then _ else _)=_;rw[if_neg ag]
 have ao:=ac.wd.fresh;have aT:Mv (λ_=>False) aa A f b:=⟨a8.size,λr hk=>ab r ag ag,λr hk=>(ab r ag ag).trans (ao r ag),λr hk _=>a8.block r hk,a8.os,a8.output⟩;have d2:we.heap.size<=A.heap.size:=T.fH.mv.size;have c8:fy p W Z a6 Oe Re we ps b f R2 (y+1) (y+1+1) f f O R2 b h 0 true:=⟨T.fH.same aT (λt=>t) (λ_ _ _ t=>t) be aU (λr hk=>a8.block r ag),λ_ _ _=>rfl,λ_ _=>⟨rfl,rfl⟩,λr h1 h2 _=>ag,aT.fresh,aL _,BR.Sub.refl _,oP,oQ,ag,ag,ag,ag,ag,ag,if_pos (.inl rfl),if_pos (.inr rfl)⟩;have ap:∀r,we.heap.size<=r->r<H.heap.size->f r=0/\b.heap[r]?=H.heap[r]?:=λr h1 h2=>⟨(ab r ag ag).trans (T.st r h1 h2).1,(a8.block r ag).trans (T.st r h1 h2).2⟩;have cy:bg<w.heap.size:=cC _ _ iB;have bk:Aq b f j b4 b5 ba bg y W a rb U key v nn fv (.slice ma ms.length mc) tn o wc k s:=by
  have hz:∀u,u=j\/u=b4\/u=b5->f u=0:=λu hb=>(ap u (ai u hb).1 (ai u hb).2).1;refine⟨hT.on λu hb=>⟨(ap u (ai u hb).1 (ai u hb).2).2,λt=>t⟩,hz _ (.inl rfl),hz _ (.inr (.inl rfl)),hz _ (.inr (.inr rfl)),(ab ba ag ag).trans T.EH,(ab bg ag ag).trans (ao _ bm),(ab y ag ag).trans (ao _ ag),a8.cell T.ju,an.cell iB,bZ,λco e he=> ?_,bv,hcut,cn⟩;obtain⟨g,q1,q2,q3,q4⟩:=bw co e he;have cM:g<w.heap.size:=cC _ _ q3;exact⟨g,q1,(ab g ag ag).trans (ao _ q2),an.cell q3,an.cell q4⟩
 have c6:bB (λr=>f r=0) b a l:=Ba ar.ix aT (λt=>t) (λt=>t);obtain⟨b2,bM⟩:=cj f R2 b l ap (aU _ _ hx) (Ew be (aU _ _ hx) c6);rw[b1]at bM
 have bb:∀(a2 a1:Nat->Nat)(O2:Nat->Prop)(R3:BR)(W2:ak)(a7:TS) (x:Nat->au),fy p W Z a6 Oe Re we ps b f R2 (y+1) (y+1+1) a2 a1 O2 R3 W2 a7 k aq->W2.heap[b.heap.size]?=ae (.deferred (ae []))->a2 b.heap.size=0->
   ay aj Post O2 (aw (FD 15 ((b.heap.size::Dl).map uh) (bH (ptr j) (ptr b4) (ptr b5) sv (x 8) (ptr ba) (ptr bg) (ptr y) (ptr (y+1)) (ptr (y+1+1)) (x 15) (x 16) sv x) vR) (c::cs)) W2:=by
  intro a2 a1 O2 R3 W2 a7 x t hd al;have bd:=t.fH.pw.known;have d0:=t.size;have bo:=cJ hd;refine W5 (t.zc bk) rfl bU rfl (λhO=>by have:=bd.low _ hO;omega) λx=> ?_;have br:=t.fH.pw.wd.fresh;have ad:=dw W2 (.cells #[.int .i64 ((tn+1:Nat):Int)] 3);refine hn a1 O2 R3 _ a7 b.heap.size W2.heap.size x ⟨t.fH.same (Mv.cv br ad) (λt=>t) (λ_ _ _ t=>t) (bd.grown _) (BR.Sub.refl _) (λr hk=>ad.block r ag),by have:=ad.size;omega,λr h1 h2=> ?_,br _ (aL _),kP W2 3 rfl,λD hD=> ?_,?_⟩
  ·obtain⟨q1,q2⟩:=ap r h1 h2;exact⟨(t.jP r ag).2.trans q1,(ad.block r ag).trans ((t.bK r ag (.inl q1)).trans q2)⟩
  ·rcases dk.1 hD with rfl|hD;·exact⟨t.it _ (aL _) bo al,(ad.block _ bo).trans hd,ag⟩
   ·obtain⟨q1,q2,q3⟩:=T.df D hD;have c5:=cJ q2;have q4:f D=202:=(ab D ag ag).trans q1;exact⟨(t.jP D ag).2.trans q4,(ad.block D ag).trans ((t.bK D ag (.inr q4)).trans ((a8.block D c5).trans q2)),q3⟩
  ·refine List.nodup_cons.2 ⟨λhD=> ?_,T.yN⟩;have:=cJ (T.df _ hD).2.1;omega
 refine KT (val:=(·.1)) (w:=b) (ρ:=f) (ρ₀:=f) (R₀:=R2) (R:=R2) (fr:=FD 15 (Dl.map uh) (bH (ptr j) (ptr b4) (ptr b5) sv (x 8) (ptr ba) (ptr bg) (ptr y) (ptr (y+1)) (ptr (y+1+1)) (x 15) (x 16) sv x) (.code oO::oX)) (fo:=.tmp 82) (p1:=83) (p2:=84) (asg:=Ay) (body:=d15) (k:=oX) rfl rfl rfl (by rw[<-Qx];rfl) (by rw[bP];rfl) cb bM (aO.refl _) (λ_ _=>rfl)
  (At p W Z a6 Oe Re we ps b f R2 (y+1) (y+1+1) k s) (DI p W Z a6 Oe Re we ps b f R2 (y+1) (y+1+1) k s) Vk Vl (λB pre O R W ⟨a1,h,N,ok,t,_⟩=>t.sub) ⟨f,h,0,aq,c8,fL _,λ_=>⟨rfl,rfl⟩⟩ ?body ?done ?stop
 case body=>
  intro a2 O2 R3 A3 pre d4 r d3 c' cr hI hN hv hl cf ca;exact ao6 bk qg ch cg hI hv hl ag cf rfl ca
 case done=>
  rintro a2 ys O2 R3 W2 rfl ⟨a1,a7,N,ok,t,ct,hp⟩ hd al;obtain⟨rfl,e⟩:=hp (aA2 _);have e2:N=k:=by rw[az1]at e;omega
  subst e2;exact Ww (df:=(b.heap.size::Dl).map uh) λx=>bb a2 a1 O2 R3 W2 a7 x t hd al
 case stop=>
  rintro cd a2 pre O2 R3 W2 ci ⟨rfl,a1,a7,ok,t,hp⟩ hd al;have:=hp ci;subst this;exact Wx (df:=(b.heap.size::Dl).map uh) λx=>bb a2 a1 O2 R3 W2 a7 x t hd al
end
structure OpIn2(p:ak)(o:OpV)(fs ms:List OpV)(fa ma:Option aH)(fc mc:Nat):Prop where
 op:OpIn p o
 fv:o.fv=.slice fa fs.length fc
 mv:o.mv=.slice ma ms.length mc
 r9:OpsIn p fa fs
 qg:OpsIn p ma ms
 fl:fs.length<=9223372036854775807
 ml:ms.length<=9223372036854775807
theorem aI.Ll{O:Nat->Prop}{R:BR}(c:aI Xm O R a8){r:Option (List jH)}(f:a8.heap[a7]?=ae (.deferred r)):¬R a7 a7:=λh=>by
 obtain⟨o,k,a,j,b⟩:=c.wr.blk a7 a7 h;rw[f]at a;cases a;cases b
section
variable {Post:au->ak->Prop} {p:ak} {W:Nat} {Z:au} {B:Nat->Nat} {O:Nat->Prop} {R:BR} {w:ak} {h:TS}
variable {j b4 b5 a rb i gf:Nat} {lb:Array au} {U:Int} {key v:ByteArray} {nn:Int} {fs ms:List OpV} {fa ma:Option aH} {fc mc:Nat} {fn:pO} {cc:du} {c:aC} {cs:List aC} {x:Nat->au} {H:ak}
theorem N7(a6:PW p W Z B O R w h)(aJ:aO w H)(bi:aI Xm O R H)(b0:U=6\/U=7)(hT:eo (λ_=>False) j b4 b5 W a rb U key v nn (.slice fa fs.length fc) (.slice ma ms.length mc) H)(aF:w.heap.size<=j/\w.heap.size<=b4/\w.heap.size<=b5)(r9:OpsIn p fa fs)(bk:fs.length<=9223372036854775807)(qg:OpsIn p ma ms)(b1:ms.length<=9223372036854775807)(hi:(h.map pp)[i]?=ae (a,rb))(hf:key.size<=9223372036854775807)(ht:v.size<=9223372036854775807)(aU:fO gf fn cc)(b2:∀(f:Nat->Nat)(RB:BR)(b:ak) (l:List KV),(∀k,w.heap.size<=k->k<H.heap.size->f k=0/\b.heap[k]?=H.heap[k]?)->RB a a->bB (λk=>f k=0/\RB k k) b a l->∃bb,yc (α:=js (mA U key v l)) Post gf lb (·.1) (λq=>q=(mA U key v l).attach) (λq=>q<+:(mA U key v l).attach) bb f RB b)(hn:∀b9 O' R' W',lU p W Z B O R w (h.map pp) b9 O' R' W'->ay aj Post O' (aw (c.finish b9) cs) W'):ay aj Post O (aw (FD 15 [] (bH (ptr j) (ptr b4) (ptr b5) (.func (.func gf) #[] lb) (.int .i64 ((0:Nat):Int)) (x 10) (x 11) (x 12) (x 13) (x 14) (x 15) (x 16) (x 82) x) qh) (c::cs)) H:=by
 have b6:=aJ.size;have ar:∀o,o=j\/o=b4\/o=b5->w.heap.size<=o/\o<H.heap.size:=λo hb=>by
  have k3:j<H.heap.size:=cC _ _ hT.c3;have k4:b4<H.heap.size:=cC _ _ hT.sn;have k5:b5<H.heap.size:=cC _ _ hT.o0;omega
 have bd:∀(ab:Nat->Nat)(y:Nat->Prop)(R2:BR)(r:ak)(a8:TS)(s t ba:Nat) (x:Nat->au),Tn p W Z B O R w (h.map pp) H ab y R2 r a8 [t,s] ba 2->ay aj Post y (aw (FD 15 ([t,s].map uh) (bH (ptr j) (ptr b4) (ptr b5) (.func (.func gf) #[] lb) (x 8) (ptr ba) (x 11) (x 12) (x 13) (x 14) (x 15) (x 16) (x 82) x) oU) (c::cs)) r:=by
  intro ab y R2 r a8 s t ba x T;obtain⟨p1,p2,p3⟩:=T.df s az;obtain⟨q1,q2,q3⟩:=T.df t az;have bm:s≠t:=λe=>by have:=T.yN;rw[e]at this;simp at this
  have hK:=T.fH.pw.known;have bg:aI Xm y R2 ((r.putObj t (.deferred af)).putObj s (.deferred af)):=(hK.pn (hK.Ll q2) _).pn (hK.Ll p2) _;have aQ:∀k,k≠s->k≠t->((r.putObj t (.deferred af)).putObj s (.deferred af)).heap[k]?=r.heap[k]?:=λk k1 k2=>(kX k1).trans (kX k2);have ap:((r.putObj t (.deferred af)).putObj s (.deferred af)).heap.size=r.heap.size:=az;have am:=T.fH.pw.wd.fresh;refine Wo (T.fH.pw.free (by rw[T.EH];decide)) T.ju q2 p2 bm (hn _ y R2 _ ⟨rfl,ab,a8,T.fH.same (M:=λc=>c=202) ⟨ag,λ_ _=>rfl,λk hk=>am k ag,λk hk hl=>aQ k (λe=>hl (by rw[e];exact p1)) (λe=>hl (by rw[e];exact q1)),rfl,rfl⟩ bc (λc _ hc e=>ag) bg (BR.Sub.refl _) λk hk=>aQ k ag ag⟩)
 have first:∀(ai a1:Nat),ai+a1=fs.length->∀(aa:Nat->Nat)(u:Nat->Prop)(R1:BR)(A:ak)(ad:TS) (x:Nat->au),fw p W Z B O R w (h.map pp) aa u R1 A ad->H.heap.size<=A.heap.size->(∀k,w.heap.size<=k->k<H.heap.size->aa k=0/\A.heap[k]?=H.heap[k]?)->
   ay aj Post u (aw (FD 15 [] (bH (ptr j) (ptr b4) (ptr b5) (.func (.func gf) #[] lb) (.int .i64 (a1:Int)) (x 10) (x 11) (x 12) (x 13) (x 14) (x 15) (x 16) (x 82) x) qh) (c::cs)) A:=by
  intro ai;induction ai with
  |zero=>
   intro a1 hj aa u R1 A ad x hA ap a7;have N:=hA.pw;have an:eo u j b4 b5 W a rb U key v nn (.slice fa fs.length fc) (.slice ma ms.length mc) A:=hT.on λo hb=>by
    obtain⟨k1,k2⟩:=ar o hb;obtain⟨k3,k4⟩:=a7 o k1 k2;exact⟨k4,N.free (by rw[k3];decide)⟩
   refine W9 an ag rfl (N.new (aL _)) λx=> ?_;have am:=N.wd.fresh;have al:=dw A (.cells #[.int .i64 0] 3);have bE:w.heap.size<=A.heap.size:=hA.mv.size;have T0:Tn p W Z B O R w (h.map pp) H aa u R1 (A.alloc (.cells #[.int .i64 0] 3)) ad [] A.heap.size 0:=⟨hA.same (Mv.cv am al) (λa6=>a6) (λ_ _ _ a6=>a6) (N.known.grown _) (BR.Sub.refl _) (λk hk=>al.block k ag),by have:=al.size;omega,λk h1 h2=>⟨(a7 k h1 h2).1,(al.block k ag).trans (a7 k h1 h2).2⟩,am _ (aL _),kP A 3 rfl,λD hD=>(CL hD).elim,aC5⟩;refine N8 T0 ag b0 hT aF b6 qg b1 hi hf ht aU b2 λab y R2 r a8 s bw x T1=> ?_;exact N8 T1 ag b0 hT aF b6 qg b1 hi hf ht aU b2 λbv O3 R3 A3 bs t be x T2=>bd bv O3 R3 A3 bs s t be x T2
  |succ ai ih=>
   intro a1 hj aa u R1 A ad x hA ap a7;have N:=hA.pw;have an:eo u j b4 b5 W a rb U key v nn (.slice fa fs.length fc) (.slice ma ms.length mc) A:=hT.on λo hb=>by
    obtain⟨k1,k2⟩:=ar o hb;obtain⟨k3,k4⟩:=a7 o k1 k2;exact⟨k4,N.free (by rw[k3];decide)⟩
   obtain⟨ac,ho⟩:∃ac,fs[a1]?=ae ac:=⟨_,bf ag⟩;obtain⟨br,fb,fp,bj,bo⟩:=r9 a1 ac ho;subst bj;have aT:∀(j':Nat) a2,ac.cells[j']?=ae a2->¬u fb/\A.cell? ⟨fb,fp+a1*9+j',af⟩=ae a2:=λj' a2 ao=>N.cell (bo j' a2 ao);have aR:=aT 0 _ rfl;have bl:0<ad.length:=by
    rw[hA.len];have:=(cu.1 hi).1;omega
   refine Wa (vs:=ac.cells.toList) an ag bk aR.1 (cC _ _ aR.2) rfl (λj' a2 ao=> ?_) (by rw[ax0];exact F4 N bl br) λa2 y R2 r hu=> ?_;·rw[jF];exact(aT j' a2 (by simpa using ao)).2
   ·obtain⟨rfl,ab,a8,ha⟩:=hu;refine⟨rfl,λx=>ih (a1+1) ag ab y R2 r a8 x (hA.trans ha) (bT ap ha.mv.size) λk h1 h2=> ?_⟩;obtain⟨q1,q2⟩:=a7 k h1 h2;exact⟨(ha.mv.agree k ag).trans q1,(ha.mv.block k ag (by rw[q1];exact Lo)).trans q2⟩
 exact first fs.length 0 ag B O R H h x (fw.on (R0:=R) a6 aJ bi (BR.Sub.refl _)) (aL _) λk h1 h2=>⟨a6.wd.fresh k h1,rfl⟩
end
theorem Ua:fO 44 Pq ((Pq.body).getD .skip):=⟨Tryz.func44,ah,ah⟩
theorem IN(w:ak)(a:Nat)(b c:ByteArray):(im w a b c).cell? ⟨w.heap.size,0,af⟩=ae (ptr a)/\(im w a b c).cell? ⟨w.heap.size+1,0,af⟩=ae (.string b)/\(im w a b c).cell? ⟨w.heap.size+2,0,af⟩=ae (.string c)/\(im w a b c).heap.size=w.heap.size+3:=by
 unfold im;refine⟨((dw _ _).trans (dw _ _)).cell (rA _ _ _ rfl),(dw _ _).cell (rA _ _ _ az),rA _ _ _ az,az⟩
theorem Qr(w:ak)(a:Nat)(b:ByteArray):(pY w a b).cell? ⟨w.heap.size,0,af⟩=ae (ptr a)/\(pY w a b).cell? ⟨w.heap.size+1,0,af⟩=ae (.string b)/\(pY w a b).heap.size=w.heap.size+2:=by
 unfold pY;refine⟨(dw _ _).cell (rA _ _ _ rfl),rA _ _ _ az,az⟩
theorem Cm(w:ak)(wb a rb:Nat)(o:OpV)(O:Nat->Prop)(f:∀k,w.heap.size<=k->¬O k):eo O w.heap.size (w.heap.size+1) (w.heap.size+1+1) wb a rb o.kd o.key o.gT o.nn o.fv o.mv (lS w wb a rb o.cells)/\(lS w wb a rb o.cells).heap.size=w.heap.size+3/\aO w (lS w wb a rb o.cells):=by
 unfold lS;have s1:(w.alloc (.cells #[ptr wb] 25)).heap.size=w.heap.size+1:=dh _ _;have s2:((w.alloc (.cells #[ptr wb] 25)).alloc (.cells #[ptr a,ptr rb] 42)).heap.size=w.heap.size+1+1:=by rw[dh,s1]
 have l:=dw (w.alloc (.cells #[ptr wb] 25)) (.cells #[ptr a,ptr rb] 42);have j:=dw ((w.alloc (.cells #[ptr wb] 25)).alloc (.cells #[ptr a,ptr rb] 42)) (.cells o.cells 39);have c:∀(b:Nat) v,o.cells[b]?=ae v->(((w.alloc (.cells #[ptr wb] 25)).alloc (.cells #[ptr a,ptr rb] 42)).alloc (.cells o.cells 39)).cell? ⟨w.heap.size+1+1,b,af⟩=ae v:=λb v h=>by rw[<-s2];exact kP _ 39 h
 have p:∀(b:Nat) v,(#[ptr a,ptr rb]:Array au)[b]?=ae v->(((w.alloc (.cells #[ptr wb] 25)).alloc (.cells #[ptr a,ptr rb] 42)).alloc (.cells o.cells 39)).cell? ⟨w.heap.size+1,b,af⟩=ae v:=λb v h=>j.cell (by rw[<-s1];exact kP _ 42 h);exact⟨⟨f _ ag,f _ ag,f _ ag,j.cell (l.cell (kP w 25 rfl)),p 0 _ rfl,p 1 _ rfl,c 0 _ rfl,c 3 _ rfl,c 4 _ rfl,c 5 _ rfl,c 7 _ rfl,c 8 _ rfl⟩,by rw[dh,s2],((dw w _).trans l).trans j⟩
section
variable {Post:au->ak->Prop} {p:ak} {W:Nat} {Z:au} {B:Nat->Nat} {O:Nat->Prop} {R:BR} {w:ak} {h:TS} {i:Nat} {t:Nat×Nat×List KV}
theorem F2(s:PW p W Z B O R w h)(hi:h[i]?=ae t){a8:OpV}{ms:List OpV}{ma:Option aH}(ho:OpIn2 p a8 ab ms ac ma a7 u)(ar:a8.kd=6\/a8.kd=7):MC Post 15 #[ptr W,.agg #[ptr t.1,ptr t.2.1],.agg a8.cells] O w (lU p W Z B O R w (h.map pp)):=by
 intro c cs hn;obtain⟨x,r,l⟩:=t;dsimp only at hn⊢;have ap:(h.map pp)[i]?=ae (x,r):=by rw[iI,hi];rfl
 obtain⟨U,on,ot,key,j,nn,pa,pss,pc,fv,mv⟩:=a8;obtain⟨op,rfl,rfl,r9,qg,ao,aF⟩:=ho;have hf:=op.key;have ht:=op.gT;dsimp only at ar hf ht;have aJ:∀a6,w.heap.size<=a6->¬O a6:=λa6 hk=>s.new hk;have an:∀{w':ak},aO w w'->aI Xm O R w':=λk=>s.known.grow (λa hR=>k.block a (s.known.wr.lt hR).1) k.size;rcases ar with rfl|rfl
 ·obtain⟨a2,N,k⟩:=Cm w W x r ⟨6,on,ot,key,j,nn,pa,pss,pc,.slice ac ab.length a7,.slice ma ms.length u⟩ O aJ;obtain⟨v,_,_⟩:=Cm w W x r ⟨6,on,ot,key,j,nn,pa,pss,pc,.slice ac ab.length a7,.slice ma ms.length u⟩ (λ_=>False) (λ_ _ s=>s);dsimp only[OpV.cells]at a2 v N k⊢;refine Wc rfl rfl rfl a2 λaT=> ?_;obtain⟨o,am⟩:∃o,lS w W x r (opC 6 on ot key j nn (.slice pa pss.length pc) (.slice ac ab.length a7) (.slice ma ms.length u))=o:=⟨_,rfl⟩;rw[am]at v N k⊢;obtain⟨d0,d1,d2,aP⟩:=IN o x key j;have y:=AE o x key j;generalize im o x key j=H at*;refine N7 (gf:=42) s (k.trans y) (an (k.trans y)) (.inl rfl) (v.cv y) ag r9 ao qg aF ap hf ht JA (λf RB b l al ad aa=> ?_) hn;have e:mA 6 key j l=cO key.data.toList j.data.toList l:=if_neg bc;rw[e];obtain⟨n,tq,hx,ai⟩:=aa.tree;rw[N]at d0 d1 d2;have hc:∀a a1,w.heap.size<=a->H.cell? ⟨a,0,af⟩=ae a1->f a=0/\b.cell? ⟨a,0,af⟩=ae a1:=λa a1 k hv=>by
   obtain⟨q1,q2⟩:=al a k (cC _ _ hv);exact⟨q1,(gV (a:=⟨a,0,af⟩) q2).trans hv⟩
  have k0:=hc (w.heap.size+3) _ ag d0;have k1:=hc (w.heap.size+3+1) _ ag d1;have k2:=hc (w.heap.size+3+2) _ ag d2;exact⟨_,MO (α:=js (cO key.data.toList j.data.toList l)) (val:=(·.1)) (ys:=(cO key.data.toList j.data.toList l).attach) hf k0.2 k1.2 k2.2 k0.1 k1.1 k2.1 (jc hx) ad (ai.weaken λa6 h1 h2=>⟨h2,h1.1,h1.2⟩) (xe _)⟩
 ·obtain⟨a2,N,k⟩:=Cm w W x r ⟨7,on,ot,key,j,nn,pa,pss,pc,.slice ac ab.length a7,.slice ma ms.length u⟩ O aJ;obtain⟨v,_,_⟩:=Cm w W x r ⟨7,on,ot,key,j,nn,pa,pss,pc,.slice ac ab.length a7,.slice ma ms.length u⟩ (λ_=>False) (λ_ _ s=>s);dsimp only[OpV.cells]at a2 v N k⊢;refine We rfl rfl rfl a2 λaT=> ?_;obtain⟨o,am⟩:∃o,lS w W x r (opC 7 on ot key j nn (.slice pa pss.length pc) (.slice ac ab.length a7) (.slice ma ms.length u))=o:=⟨_,rfl⟩;rw[am]at v N k⊢;obtain⟨_,_,_,aP⟩:=IN o x key j;have aR:=AE o x key j;generalize im o x key j=wK at*;obtain⟨d0,d1,aU⟩:=Qr wK x key;have aQ:aO wK (pY wK x key):=(dw _ _).trans (dw _ _);have y:=aR.trans aQ;generalize pY wK x key=H at*;refine N7 (gf:=44) s (k.trans y) (an (k.trans y)) (.inr rfl) (v.cv y) ag r9 ao qg aF ap hf ht Ua (λf RB b l al ad aa=> ?_) hn;have e:mA 7 key j l=eA key.data.toList l:=if_pos rfl;rw[e];obtain⟨n,tq,hx,ai⟩:=aa.tree;rw[aP,N]at d0 d1;have hc:∀a a1,w.heap.size<=a->H.cell? ⟨a,0,af⟩=ae a1->f a=0/\b.cell? ⟨a,0,af⟩=ae a1:=λa a1 k hv=>by
   obtain⟨q1,q2⟩:=al a k (cC _ _ hv);exact⟨q1,(gV (a:=⟨a,0,af⟩) q2).trans hv⟩
  have k0:=hc (w.heap.size+3+3) _ ag d0;have k1:=hc (w.heap.size+3+3+1) _ ag d1;exact⟨_,ak2 hf k0.2 k1.2 k0.1 k1.1 (jc hx) ad (ai.weaken λa6 h1 h2=>⟨h2,h1.1,h1.2⟩)⟩
end
end Sim
theorem PU{B:Nat->Nat}{w:ak}{W:Nat}{f:Int}{Z:au}{h:TS}{x r:Nat}(b:Wd B w W f Z h)(t:¬h.length<8):aE aj 9 #[.pointer (ae ⟨W,0,af⟩),.pointer (ae ⟨x,0,af⟩),.pointer (ae ⟨r,0,af⟩)] w λe k=>e=.returned (.bool aq)/\aA w.heap.size w k:=by
 obtain⟨c,len,cap,rfl,j⟩:∃c len cap,Z=.slice c len cap/\len=h.length:=by
  obtain⟨s,a|⟨p,l,o,a,_⟩⟩:=b.row;·exact⟨_,_,_,a.1,a.2.symm⟩
  ·exact⟨_,_,_,a,rfl⟩
 have v:=b.tM;have u:W<w.heap.size:=cJ b.blk;subst j;have y:¬(h.length:Int)<8:=ag
 go_enter Pd,aH5
 go_wp2
 go_ret
 exact⟨rfl,cD _ _⟩
