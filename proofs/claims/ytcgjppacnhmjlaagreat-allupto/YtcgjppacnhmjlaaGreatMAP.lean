/- Own texts: GfE, AddF, GgA, GgB, OpOpen, AllA. -/
import Derived.Test.YtcgjppacnhmjlaaGreatMAO
import Derived.Test.YtcgjppacnhmjlaaGreatMAK
import Derived.Test.YtcgjppacnhmjlaaGreatMR
import Derived.Test.YtcgjppacnhmjlaaGreatMAL
import Derived.Conc.LeavingOf
import Derived.ProofKit
import Derived.Deep.Slices
import Derived.Test.YtcgjppacnhmjlaaGreatRows
set_option linter.all false
set_option maxRecDepth 100000
set_option maxHeartbeats 1000000
open Array renaming getElem?_eq_some_iff->cq,getElem?_toList->zF,toArray_toList->ax0
open Bool renaming true->aq
open Go renaming World->ak,Value->au,Frame->aC,Calls->aE,TypeId->aK,heap_alloc_new->cY,Addr->aH,maxLen->cE,Deferred->jH,Code->du,MemPlace->rX,DataW->nI,Func->pO
open Go.Addr renaming add_lit->jF,add->vf
open Go.DataW renaming trod->iN,trod_struct->az3
open Go.Proofs.Tryz renaming prog->aj,underlying34->CG,underlying9->Oi,underlying3->Oj,func9->Pd,underlying22->az6,f44->Pq,ntmps9->aH5
open Go.Proofs.YtcgjppacnhmjlaaGreat.Rows renaming uptoBulk->l8,uptoBulkAll->zM
open Go.RowKit renaming Below->aA
open Go.RowKit.Below renaming refl->cD
open Go.Value renaming ownBlock->fX
open Go.World renaming block_lt_of_cell?->cC,size_alloc->dh,cell?_of_block->gV,putObj_heap_other->kX,cells?_some->GY
open Inhabited renaming default->fM
open List renaming getElem?_eq_getElem->bf,getElem?_eq_some_iff->cu,mem_of_getElem?->cG,mem_cons->dk,mem_range->eh,range->dn,getElem?_map->iI,getElem?_of_mem->lJ,mem_map->iL,attach_map_subtype_val->xe,length_cons->rM,not_mem_nil->CL,take_succ_cons->NR,drop_succ_cons->NV,take_zero->Ow,drop_zero->Ox,nodup_nil->aC5
open Nat renaming le_refl->aL,le_trans->bT,lt_of_lt_of_le->dG,mul_one->tj,lt_irrefl->OL
open Ne renaming symm->jm
open Option renaming some->ae,none->af,isSome_iff_exists->sO
namespace Go.Proofs.YtcgjppacnhmjlaaGreat
open Go Go.Conc Go.ConcN Go.Conc.Lib Go.ConcR.Gen Go.RowKit Go.ChangeShapes Go.WideShapes Go.ChangeAt Go.Deep
open Sim (OpV OpIn OpsIn OpIn2 ScriptIn)
namespace Sim
variable {a1:Nat}
structure OpIn2(b:ak)(o:OpV)(k l:List OpV)(s p:Option aH)(fc B:Nat):Prop where
 op:OpIn b o
 fv:o.fv=.slice s k.length fc
 mv:o.mv=.slice p l.length B
 r9:OpsIn b s k
 qg:OpsIn b p l
 fl:k.length<=9223372036854775807
 ml:l.length<=9223372036854775807
theorem aI.Ll{O:Nat->Prop}{R:BR}{w:ak}(c:aI Xm O R w){r:Option (List jH)}(f:w.heap[a1]?=ae (.deferred r)):¬R a1 a1:=λh=>by
 obtain⟨o,k,a,j,b⟩:=c.wr.blk a1 a1 h;rw[f]at a;cases a;cases b
section
variable {Post:au->ak->Prop} {b:ak} {W:Nat} {h:au} {f:Nat->Nat} {O:Nat->Prop} {R:BR} {w:ak} {a:TS}
variable {Z b4 b5 j U i gf:Nat} {lb:Array au} {kd:Int} {key aP:ByteArray} {nn:Int} {k l:List OpV} {s p:Option aH} {fc B:Nat} {fn:pO} {cc:du} {c:aC} {y:List aC} {x:Nat->au} {v:ak}
theorem N7(a7:PW b W h f O R w a)(aT:aO w v)(bl:aI Xm O R v)(b6:kd=6\/kd=7)(hT:eo (λ_=>False) Z b4 b5 W j U kd key aP nn (.slice s k.length fc) (.slice p l.length B) v)(aR:w.heap.size<=Z/\w.heap.size<=b4/\w.heap.size<=b5)(r9:OpsIn b s k)(bo:k.length<=9223372036854775807)(qg:OpsIn b p l)(b9:l.length<=9223372036854775807)(hi:(a.map pp)[i]?=ae (j,U))(hf:key.size<=9223372036854775807)(ht:aP.size<=9223372036854775807)(b2:fO gf fn cc)(bb:∀(aJ:Nat->Nat)(RB:BR)(wB:ak) (ao:List KV),(∀o,w.heap.size<=o->o<v.heap.size->aJ o=0/\wB.heap[o]?=v.heap[o]?)->RB j j->bB (λo=>aJ o=0/\RB o o) wB j ao->∃bg,yc (α:=js (mA kd key aP ao)) Post gf lb (·.1) (λq=>q=(mA kd key aP ao).attach) (λq=>q<+:(mA kd key aP ao).attach) bg aJ RB wB)(hn:∀be O' R' W',lU b W h f O R w (a.map pp) be O' R' W'->ay aj Post O' (aw (c.finish be) y) W'):ay aj Post O (aw (FD 15 [] (bH (ptr Z) (ptr b4) (ptr b5) (.func (.func gf) #[] lb) (.int .i64 ((0:Nat):Int)) (x 10) (x 11) (x 12) (x 13) (x 14) (x 15) (x 16) (x 82) x) qh) (c::y)) v:=by
 have bd:=aT.size;have aQ:∀r,r=Z\/r=b4\/r=b5->w.heap.size<=r/\r<v.heap.size:=λr hb=>by
  have k3:Z<v.heap.size:=cC _ _ hT.c3;have k4:b4<v.heap.size:=cC _ _ hT.sn;have k5:b5<v.heap.size:=cC _ _ hT.o0;omega
 have bi:∀(ab:Nat->Nat)(O2:Nat->Prop)(R2:BR)(t:ak)(aa:TS)(u H ba:Nat) (x:Nat->au),Tn b W h f O R w (a.map pp) v ab O2 R2 t aa [H,u] ba 2->ay aj Post O2 (aw (FD 15 ([H,u].map uh) (bH (ptr Z) (ptr b4) (ptr b5) (.func (.func gf) #[] lb) (x 8) (ptr ba) (x 11) (x 12) (x 13) (x 14) (x 15) (x 16) (x 82) x) oU) (c::y)) t:=by
  intro ab O2 R2 t aa u H ba x T;obtain⟨p1,p2,p3⟩:=T.df u az;obtain⟨q1,q2,q3⟩:=T.df H az;have bs:u≠H:=λe=>by have:=T.yN;rw[e]at this;simp at this
  have hK:=T.fH.pw.known;have bk:aI Xm O2 R2 ((t.putObj H (.deferred af)).putObj u (.deferred af)):=(hK.pn (hK.Ll q2) _).pn (hK.Ll p2) _;have aU:∀o,o≠u->o≠H->((t.putObj H (.deferred af)).putObj u (.deferred af)).heap[o]?=t.heap[o]?:=λo k1 k2=>(kX k1).trans (kX k2);have aF:((t.putObj H (.deferred af)).putObj u (.deferred af)).heap.size=t.heap.size:=az;have an:=T.fH.pw.wd.fresh;refine Wo (T.fH.pw.free (by rw[T.EH];decide)) T.ju q2 p2 bs (hn _ O2 R2 _ ⟨rfl,ab,aa,T.fH.same (M:=λc=>c=202) ⟨ag,λ_ _=>rfl,λo hk=>an o ag,λo hk hl=>aU o (λe=>hl (by rw[e];exact p1)) (λe=>hl (by rw[e];exact q1)),rfl,rfl⟩ bc (λc _ hc e=>ag) bk (BR.Sub.refl _) λo hk=>aU o ag ag⟩)
 have first:∀(al a2:Nat),al+a2=k.length->∀(ai:Nat->Nat)(N:Nat->Prop)(R1:BR)(A:ak)(ad:TS) (x:Nat->au),fw b W h f O R w (a.map pp) ai N R1 A ad->v.heap.size<=A.heap.size->(∀o,w.heap.size<=o->o<v.heap.size->ai o=0/\A.heap[o]?=v.heap[o]?)->
   ay aj Post N (aw (FD 15 [] (bH (ptr Z) (ptr b4) (ptr b5) (.func (.func gf) #[] lb) (.int .i64 (a2:Int)) (x 10) (x 11) (x 12) (x 13) (x 14) (x 15) (x 16) (x 82) x) qh) (c::y)) A:=by
  intro al;induction al with
  |zero=>
   intro a2 hj ai N R1 A ad x hA aF a8;have a1:=hA.pw;have ap:eo N Z b4 b5 W j U kd key aP nn (.slice s k.length fc) (.slice p l.length B) A:=hT.on λr hb=>by
    obtain⟨k1,k2⟩:=aQ r hb;obtain⟨k3,k4⟩:=a8 r k1 k2;exact⟨k4,a1.free (by rw[k3];decide)⟩
   refine W9 ap ag rfl (a1.new (aL _)) λx=> ?_;have an:=a1.wd.fresh;have am:=dw A (.cells #[.int .i64 0] 3);have bU:w.heap.size<=A.heap.size:=hA.mv.size;have T0:Tn b W h f O R w (a.map pp) v ai N R1 (A.alloc (.cells #[.int .i64 0] 3)) ad [] A.heap.size 0:=⟨hA.same (Mv.cv an am) (λa7=>a7) (λ_ _ _ a7=>a7) (a1.known.grown _) (BR.Sub.refl _) (λo hk=>am.block o ag),by have:=am.size;omega,λo h1 h2=>⟨(a8 o h1 h2).1,(am.block o ag).trans (a8 o h1 h2).2⟩,an _ (aL _),kP A 3 rfl,λD hD=>(CL hD).elim,aC5⟩;refine N8 T0 ag b6 hT aR bd qg b9 hi hf ht b2 bb λab O2 R2 t aa u bP x T1=> ?_;exact N8 T1 ag b6 hT aR bd qg b9 hi hf ht b2 bb λbM O3 R3 A3 bE H bj x T2=>bi bM O3 R3 A3 bE u H bj x T2
  |succ al ih=>
   intro a2 hj ai N R1 A ad x hA aF a8;have a1:=hA.pw;have ap:eo N Z b4 b5 W j U kd key aP nn (.slice s k.length fc) (.slice p l.length B) A:=hT.on λr hb=>by
    obtain⟨k1,k2⟩:=aQ r hb;obtain⟨k3,k4⟩:=a8 r k1 k2;exact⟨k4,a1.free (by rw[k3];decide)⟩
   obtain⟨ac,ho⟩:∃ac,k[a2]?=ae ac:=⟨_,bf ag⟩;obtain⟨bw,fb,fp,bm,bv⟩:=r9 a2 ac ho;subst bm;have b1:∀(j':Nat) a6,ac.cells[j']?=ae a6->¬N fb/\A.cell? ⟨fb,fp+a2*9+j',af⟩=ae a6:=λj' a6 ar=>a1.cell (bv j' a6 ar);have b0:=b1 0 _ rfl;have br:0<ad.length:=by
    rw[hA.len];have:=(cu.1 hi).1;omega
   refine Wa (vs:=ac.cells.toList) ap ag bo b0.1 (cC _ _ b0.2) rfl (λj' a6 ar=> ?_) (by rw[ax0];exact F4 a1 br bw) λa6 O2 R2 t hu=> ?_;·rw[jF];exact(b1 j' a6 (by simpa using ar)).2
   ·obtain⟨rfl,ab,aa,ha⟩:=hu;refine⟨rfl,λx=>ih (a2+1) ag ab O2 R2 t aa x (hA.trans ha) (bT aF ha.mv.size) λo h1 h2=> ?_⟩;obtain⟨q1,q2⟩:=a8 o h1 h2;exact⟨(ha.mv.agree o ag).trans q1,(ha.mv.block o ag (by rw[q1];exact Lo)).trans q2⟩
 exact first k.length 0 ag f O R v a x (fw.on (R0:=R) a7 aT bl (BR.Sub.refl _)) (aL _) λo h1 h2=>⟨a7.wd.fresh o h1,rfl⟩
end
theorem Ua:fO 44 Pq ((Pq.body).getD .skip):=⟨Tryz.func44,ah,ah⟩
theorem IN(w:ak)(j:Nat)(a b:ByteArray):(im w j a b).cell? ⟨w.heap.size,0,af⟩=ae (ptr j)/\(im w j a b).cell? ⟨w.heap.size+1,0,af⟩=ae (.string a)/\(im w j a b).cell? ⟨w.heap.size+2,0,af⟩=ae (.string b)/\(im w j a b).heap.size=w.heap.size+3:=by
 unfold im;refine⟨((dw _ _).trans (dw _ _)).cell (rA _ _ _ rfl),(dw _ _).cell (rA _ _ _ az),rA _ _ _ az,az⟩
theorem Qr(w:ak)(j:Nat)(a:ByteArray):(pY w j a).cell? ⟨w.heap.size,0,af⟩=ae (ptr j)/\(pY w j a).cell? ⟨w.heap.size+1,0,af⟩=ae (.string a)/\(pY w j a).heap.size=w.heap.size+2:=by
 unfold pY;refine⟨(dw _ _).cell (rA _ _ _ rfl),rA _ _ _ az,az⟩
theorem Cm(w:ak)(a j U:Nat)(o:OpV)(O:Nat->Prop)(f:∀k,w.heap.size<=k->¬O k):eo O w.heap.size (w.heap.size+1) (w.heap.size+1+1) a j U o.kd o.key o.gT o.nn o.fv o.mv (lS w a j U o.cells)/\(lS w a j U o.cells).heap.size=w.heap.size+3/\aO w (lS w a j U o.cells):=by
 unfold lS;have s1:(w.alloc (.cells #[ptr a] 25)).heap.size=w.heap.size+1:=dh _ _;have s2:((w.alloc (.cells #[ptr a] 25)).alloc (.cells #[ptr j,ptr U] 42)).heap.size=w.heap.size+1+1:=by rw[dh,s1]
 have l:=dw (w.alloc (.cells #[ptr a] 25)) (.cells #[ptr j,ptr U] 42);have Z:=dw ((w.alloc (.cells #[ptr a] 25)).alloc (.cells #[ptr j,ptr U] 42)) (.cells o.cells 39);have c:∀(b:Nat) v,o.cells[b]?=ae v->(((w.alloc (.cells #[ptr a] 25)).alloc (.cells #[ptr j,ptr U] 42)).alloc (.cells o.cells 39)).cell? ⟨w.heap.size+1+1,b,af⟩=ae v:=λb v h=>by rw[<-s2];exact kP _ 39 h
 have p:∀(b:Nat) v,(#[ptr j,ptr U]:Array au)[b]?=ae v->(((w.alloc (.cells #[ptr a] 25)).alloc (.cells #[ptr j,ptr U] 42)).alloc (.cells o.cells 39)).cell? ⟨w.heap.size+1,b,af⟩=ae v:=λb v h=>Z.cell (by rw[<-s1];exact kP _ 42 h);exact⟨⟨f _ ag,f _ ag,f _ ag,Z.cell (l.cell (kP w 25 rfl)),p 0 _ rfl,p 1 _ rfl,c 0 _ rfl,c 3 _ rfl,c 4 _ rfl,c 5 _ rfl,c 7 _ rfl,c 8 _ rfl⟩,by rw[dh,s2],((dw w _).trans l).trans Z⟩
section
variable {Post:au->ak->Prop} {b:ak} {W:Nat} {h:au} {f:Nat->Nat} {O:Nat->Prop} {R:BR} {w:ak} {a:TS} {i:Nat} {t:Nat×Nat×List KV}
theorem F2(H:PW b W h f O R w a)(hi:a[i]?=ae t){ab:OpV}{k l:List OpV}{s p:Option aH}{B:Nat}(ho:OpIn2 b ab k l s p a1 B)(aF:ab.kd=6\/ab.kd=7):MC Post 15 #[ptr W,.agg #[ptr t.1,ptr t.2.1],.agg ab.cells] O w (lU b W h f O R w (a.map pp)):=by
 intro c y hn;obtain⟨x,a6,N⟩:=t;dsimp only at hn⊢;have ar:(a.map pp)[i]?=ae (x,a6):=by rw[iI,hi];rfl
 obtain⟨kd,on,ot,key,o,nn,pa,pss,pc,fv,mv⟩:=ab;obtain⟨op,rfl,rfl,r9,qg,ap,aJ⟩:=ho;have hf:=op.key;have ht:=op.gT;dsimp only at aF hf ht;have aP:∀aa,w.heap.size<=aa->¬O aa:=λaa hk=>H.new hk;have ao:∀{w':ak},aO w w'->aI Xm O R w':=λr=>H.known.grow (λj hR=>r.block j (H.known.wr.lt hR).1) r.size;rcases aF with rfl|rfl
 ·obtain⟨a8,a2,r⟩:=Cm w W x a6 ⟨6,on,ot,key,o,nn,pa,pss,pc,.slice s k.length a1,.slice p l.length B⟩ O aP;obtain⟨U,_,_⟩:=Cm w W x a6 ⟨6,on,ot,key,o,nn,pa,pss,pc,.slice s k.length a1,.slice p l.length B⟩ (λ_=>False) (λ_ _ H=>H);dsimp only[OpV.cells]at a8 U a2 r⊢;refine Wc rfl rfl rfl a8 λaU=> ?_;obtain⟨u,am⟩:∃u,lS w W x a6 (opC 6 on ot key o nn (.slice pa pss.length pc) (.slice s k.length a1) (.slice p l.length B))=u:=⟨_,rfl⟩;rw[am]at U a2 r⊢;obtain⟨d0,d1,d2,aQ⟩:=IN u x key o;have Z:=AE u x key o;generalize im u x key o=v at*;refine N7 (gf:=42) H (r.trans Z) (ao (r.trans Z)) (.inl rfl) (U.cv Z) ag r9 ap qg aJ ar hf ht JA (λan RB wB N al ad ac=> ?_) hn;have e:mA 6 key o N=cO key.data.toList o.data.toList N:=if_neg bc;rw[e];obtain⟨n,tq,hx,ai⟩:=ac.tree;rw[a2]at d0 d1 d2;have hc:∀j a7,w.heap.size<=j->v.cell? ⟨j,0,af⟩=ae a7->an j=0/\wB.cell? ⟨j,0,af⟩=ae a7:=λj a7 r hv=>by
   obtain⟨q1,q2⟩:=al j r (cC _ _ hv);exact⟨q1,(gV (a:=⟨j,0,af⟩) q2).trans hv⟩
  have k0:=hc (w.heap.size+3) _ ag d0;have k1:=hc (w.heap.size+3+1) _ ag d1;have k2:=hc (w.heap.size+3+2) _ ag d2;exact⟨_,MO (α:=js (cO key.data.toList o.data.toList N)) (val:=(·.1)) (ys:=(cO key.data.toList o.data.toList N).attach) hf k0.2 k1.2 k2.2 k0.1 k1.1 k2.1 (jc hx) ad (ai.weaken λaa h1 h2=>⟨h2,h1.1,h1.2⟩) (xe _)⟩
 ·obtain⟨a8,a2,r⟩:=Cm w W x a6 ⟨7,on,ot,key,o,nn,pa,pss,pc,.slice s k.length a1,.slice p l.length B⟩ O aP;obtain⟨U,_,_⟩:=Cm w W x a6 ⟨7,on,ot,key,o,nn,pa,pss,pc,.slice s k.length a1,.slice p l.length B⟩ (λ_=>False) (λ_ _ H=>H);dsimp only[OpV.cells]at a8 U a2 r⊢;refine We rfl rfl rfl a8 λaU=> ?_;obtain⟨u,am⟩:∃u,lS w W x a6 (opC 7 on ot key o nn (.slice pa pss.length pc) (.slice s k.length a1) (.slice p l.length B))=u:=⟨_,rfl⟩;rw[am]at U a2 r⊢;obtain⟨_,_,_,aQ⟩:=IN u x key o;have aT:=AE u x key o;generalize im u x key o=wK at*;obtain⟨d0,d1,b0⟩:=Qr wK x key;have aR:aO wK (pY wK x key):=(dw _ _).trans (dw _ _);have Z:=aT.trans aR;generalize pY wK x key=v at*;refine N7 (gf:=44) H (r.trans Z) (ao (r.trans Z)) (.inr rfl) (U.cv Z) ag r9 ap qg aJ ar hf ht Ua (λan RB wB N al ad ac=> ?_) hn;have e:mA 7 key o N=eA key.data.toList N:=if_pos rfl;rw[e];obtain⟨n,tq,hx,ai⟩:=ac.tree;rw[aQ,a2]at d0 d1;have hc:∀j a7,w.heap.size<=j->v.cell? ⟨j,0,af⟩=ae a7->an j=0/\wB.cell? ⟨j,0,af⟩=ae a7:=λj a7 r hv=>by
   obtain⟨q1,q2⟩:=al j r (cC _ _ hv);exact⟨q1,(gV (a:=⟨j,0,af⟩) q2).trans hv⟩
  have k0:=hc (w.heap.size+3+3) _ ag d0;have k1:=hc (w.heap.size+3+3+1) _ ag d1;exact⟨_,ak2 hf k0.2 k1.2 k0.1 k1.1 (jc hx) ad (ai.weaken λaa h1 h2=>⟨h2,h1.1,h1.2⟩)⟩
end
end Sim
theorem PU{f:Nat->Nat}{w:ak}{W:Nat}{k:Int}{h:au}{a:TS}{x r:Nat}(c:Wd f w W k h a)(v:¬a.length<8):aE aj 9 #[.pointer (ae ⟨W,0,af⟩),.pointer (ae ⟨x,0,af⟩),.pointer (ae ⟨r,0,af⟩)] w λe o=>e=.returned (.bool aq)/\aA w.heap.size w o:=by
 obtain⟨j,len,cap,rfl,l⟩:∃j len cap,h=.slice j len cap/\len=a.length:=by
  obtain⟨u,b|⟨t,p,s,b,_⟩⟩:=c.row;·exact⟨_,_,_,b.1,b.2.symm⟩
  ·exact⟨_,_,_,b,rfl⟩
 have B:=c.tM;have y:W<w.heap.size:=cJ c.blk;subst l;have H:¬(a.length:Int)<8:=ag
 go_enter Pd,aH5
 go_wp2
 go_ret
 exact⟨rfl,cD _ _⟩
namespace Sim
variable {al:Nat->Nat} {a7:ak} {a8:au} {ap:TS} {am:BR} {r aa:Nat} {ab:List KV} {ad:Nat->Prop} {ac:List OpV} {an:Option aH}
section
variable {Post:au->ak->Prop} {b:ak} {W:Nat} {h:au} {f:Nat->Nat} {O:Nat->Prop} {R:BR} {w:ak} {a:TS}
def yd(b:ak)(W:Nat):au->(Nat->Prop)->BR->ak->Prop:=λv c f j=>v=.bool aq/\∃h k a,PW b W h k c f j a/\0<a.length
theorem PW.nf(j:PW b W h f O R w a)(o:Mv NZ f w al a7)(s:Wd al a7 W 11 a8 ap)(p:aI Xm O am a7)(r:BR.Sub R am):PW b W a8 al O am a7 ap:=by
 have l:=j.cv;refine⟨p,s,r _ _ j.rW,⟨bT l.size o.size,λk c=> ?_,o.os.trans l.os,o.output.trans l.output⟩,λk c=>(o.agree k (dG c l.size)).trans (j.low k c),λk c=>(o.agree k (j.known.low k c)).trans (j.own k c)⟩;exact(o.block k (dG c l.size) (by rw[j.low k c];exact λj=>OL _ j.1)).trans (l.block k c)
theorem zu{a:Int}(h:Wd al a7 r a a8 ap)(b:Tape)(d:Nat):Wd al (Sim.re a7 b d) r a a8 ap:=Co (A:=λ_=>False) h (Mv.cv h.fresh ((aO.refl a7).re b d)) (λh=>h) (λ_ _ _ h=>h)
theorem L6(c:PW b W h f O R w a)(a1:0<a.length)(hx:R r r)(Z:R aa aa)(ht:a.length<8->Twin f a.length w r aa ab):MC Post 9 #[ptr W,ptr r,ptr aa] O w (λa6 x y l=>yd b W a6 x y l/\x=O/\∀k,k<w.heap.size->f k=0->l.heap[k]?=w.heap[k]?):=by
 by_cases H:a.length<8
 ·refine iD (kT (R:=R) (Post1:=λu l=>u=.bool aq/\∃p s,Mv NZ f w p l/\Wd p l W 11 s (a++[(r,aa,ab)])) JC (kS bc) c.known (iP (l:=[ptr W,ptr r,ptr aa]) ⟨kD c.rW,kD hx,kD Z,trivial⟩) (λu l o d ⟨j,p,s,t,v⟩=>⟨j,p,s,t.re o d,zu v o d⟩) (λo=> ?_)) λu x y l U=> ?_
  ·have a2:Twin f a.length (Sim.re w o 0) r aa ab:=rG (A:=λ_=>False) (ht H) (Mv.cv c.wd.fresh ((aO.refl w).re o 0)) (λc=>c) (λ_ _ c=>c);refine(Ip (zu c.wd o 0) a2 H).mono ?_;rintro e l ⟨rfl,p,s,j,t⟩;exact⟨_,rfl,rfl,p,s,.of j,t⟩
  ·obtain⟨rfl,⟨rfl,p,s,j,t⟩,v,_,B,_⟩:=U;exact⟨⟨rfl,s,p,_,c.nf j t v B,az⟩,rfl,λk N h0=>j.block k N (by rw[h0];exact λc=>OL _ c.1)⟩
 ·refine iD (kT (R:=R) (Post1:=λu l=>u=.bool aq/\aO w l) JC (kS bc) c.known (iP (l:=[ptr W,ptr r,ptr aa]) ⟨kD c.rW,kD hx,kD Z,trivial⟩) (λu l o d ⟨j,t⟩=>⟨j,t.re o d⟩) (λo=> ?_)) λu x y l U=> ?_
  ·refine(PU (zu c.wd o 0) H).mono ?_;rintro e l ⟨rfl,j⟩;exact⟨_,rfl,rfl,.of j⟩
  ·obtain⟨rfl,⟨rfl,j⟩,v,_,B,_⟩:=U;exact⟨⟨rfl,h,f,a,c.on j v B,a1⟩,rfl,λk N _=>j.block k N⟩
open Classical in
theorem PW.mark(c:PW b W h f O R w a){p:ak}{y:BR}(s:aO w p)(hK:aI Xm O y p)(hs:BR.Sub R y){x r:Nat}{v:au}{l:List KV}{S:Nat->Prop}(hx:w.heap.size<=x)(hr:w.heap.size<=r)(a7:x≠r)(H:bB S p x l)(N:∀k,S k->k<w.heap.size/\f k=0)(u:bQ p r v l)(Z:∀g,v.ownBlock=ae g->w.heap.size<=g/\g≠x):∃o,PW b W h o O y p a/\(a.length<8->Twin o a.length p x r l)/\∀k,k<w.heap.size->o k=f k:=by
 have a1:=c.wd.fresh;have a6:=s.size;have aa:=H.lt;have a8:=cJ u.blk;let o:Nat->Nat:=λk=>if k=x then 3*a.length+1 else if k=r then 3*a.length+2 else if v.ownBlock=ae k then 3*a.length+3 else f k
 have t:∀k,k<w.heap.size->o k=f k:=λk j=>by
  show(if _ then _ else if _ then _ else if _ then _ else _)=_;rw[if_neg ag,if_neg ag,if_neg (λe=>by have:=(Z k e).1;omega)]
 have hm:Mv (λ_=>False) f w o p:=by
  refine⟨a6,t,λk j=> ?_,λk j _=>s.block k j,s.os,s.output⟩;show(if _ then _ else if _ then _ else if _ then _ else _)=_;rw[if_neg ag,if_neg ag,if_neg (λe=>by have:=(u.row.lt k e).2;omega)];exact a1 k ag
 have U:o x=3*a.length+1:=if_pos rfl;have a2:o r=3*a.length+2:=by
  show(if _ then _ else if _ then _ else _)=_;rw[if_neg (jm a7),if_pos rfl]
 refine⟨o,⟨hK,Co c.wd hm (λc=>c) (λ_ _ _ c=>c),hs _ _ c.rW,c.cv.trans s,λk j=>(t k (dG j c.cv.size)).trans (c.low k j),λk j=>(t k (c.known.low k j)).trans (c.own k j)⟩,λ_=>⟨?_,U,a2,v,u,λg B=> ?_⟩,t⟩;·exact tX H rfl (λ_ _ _=>rfl) (λk j _=>(t k (N k j).1).trans (N k j).2) (λe=>by rw[U]at e;omega)
 ·show(if _ then _ else if _ then _ else if _ then _ else _)=_;rw[if_neg (Z g B).2,if_neg (λe=>u.out (by rw[<-e];exact B)),if_pos B]
theorem Y0(r:aI Xm O R w):MC Post 10 #[] O w (λu l c a=>l=O/\u=ptr w.heap.size/\aO w a/\w.heap.size<a.heap.size/\bB (λ_=>False) a w.heap.size []/\aI Xm O c a/\BR.Sub R c/\c w.heap.size w.heap.size):=by
 refine iD (kT (R:=R) (Post1:=λu a=>u=ptr w.heap.size/\aO w a/\bB (λ_=>False) a w.heap.size []) TY (kS bc) r (iP (l:=[]) trivial) (λu a b d ⟨j,f,k⟩=>⟨j,f.re b d,qj k b d⟩) (λb=> ?_)) λu l c a s=> ?_
 ·refine(Fe (Sim.re w b 0)).mono ?_;rintro e a ⟨rfl,rfl⟩;exact⟨_,rfl,rfl,aO.BB (dw (Sim.re w b 0) _),⟨⟨0,af,cY _ _,.inl ⟨rfl,rfl⟩⟩,λh=>h,az⟩⟩
 ·obtain⟨rfl,⟨rfl,j,f⟩,k,p,o,_⟩:=s;exact⟨rfl,rfl,j,f.lt,f,k,o,Cj p⟩
theorem Y4(t:aI Xm O R w)(B:R r r)(h:bB ad w r ab)(v:∀k,ad k->k<w.heap.size):MC Post 20 #[ptr r] O w (λu p f a=>p=O/\u=ptr w.heap.size/\aO w a/\bB ad a w.heap.size ab/\aI Xm O f a/\BR.Sub R f/\f w.heap.size w.heap.size):=by
 refine iD (kT (R:=R) (Post1:=λu a=>u=ptr w.heap.size/\aO w a/\bB ad a w.heap.size ab) U3 (kS bc) t (iP (l:=[ptr r]) ⟨kD B,trivial⟩) (λu a l d ⟨b,c,j⟩=>⟨b,c.re l d,qj j l d⟩) (λl=> ?_)) λu p f a y=> ?_
 ·refine(UO (qj h l 0)).mono ?_;rintro e a ⟨rfl,⟨n,H,b,c⟩,j,o⟩;exact⟨_,rfl,rfl,.of o,⟨⟨n,H,b,c⟩,λx=>by have:=v _ x;omega,h.cI⟩⟩
 ·obtain⟨rfl,⟨rfl,b,c⟩,j,s,o,_⟩:=y;exact⟨rfl,rfl,b,c,j,o,Cj s⟩
theorem an5(o:0<a.length)(k:lU b W h f O R w (a.map pp) a8 ad am a7):yd b W a8 ad am a7:=by
 obtain⟨l,p,j,c⟩:=k;exact⟨l,h,p,j,c.pw,by rw[c.len];simpa using o⟩
theorem Y1(B:PW b W h f O R w a)(a6:0<a.length){o:OpV}{l:List OpV}{p:Option aH}(ho:OpIn2 b o ac l an p r aa):MC Post 11 #[ptr W,.agg o.cells] O w (yd b W):=by
 intro c y hn;obtain⟨g,cap,t,ht,hP,hx,hr⟩:=B.pick a6 (dw w (.cells o.cells 39)) (ob:=w.heap.size) (fld:=1) (on:=o.on) (B.new (aL _)) (kP w 39 rfl) ho.op.on;refine VV rfl rfl hP B.known hx hr λaR R1 hy ab aF hs=> ?_;obtain⟨H,hw⟩:∃H,(w.alloc (.cells o.cells 39)).alloc (.cells #[ptr t.1,ptr t.2.1] 42)=H:=⟨_,rfl⟩;have s:=B.opAt o hw;have hb:aO w H:=hw▸(dw w _).trans (dw _ _);rw[hw]at ab⊢;have Z:PW b W h f O R1 H a:=B.on hb ab hs;have fin:∀v x u j,lU b W h f O R1 H (a.map pp) v x u j->ay aj Post x (aw (c.finish v) y) j:=λv x u j hy=>hn v x u j (an5 a6 hy);by_cases k6:o.kd=6
 ·have hB:=F2 (Post:=Post) Z ht ho (.inl k6);unfold OpV.cells opC at hB;rw[k6]at s hB;exact W4 hy s hB fin
 by_cases k7:o.kd=7
 ·have hB:=F2 (Post:=Post) Z ht ho (.inr k7);unfold OpV.cells opC at hB;rw[k7]at s hB;exact VY hy s hB fin
 by_cases k8:o.kd=8
 ·rw[k8]at s;refine VW hy s (Y0 Z.known) (λa1 x u j hu=> ?_) hn;obtain⟨rfl,rfl,N,q2,q3,q4,q5,q6⟩:=hu;have ad:=dw j (.cells #[.slice af 0 0] 36);have am:aI Xm x (u.add j.heap.size j.heap.size) (j.alloc (.cells #[.slice af 0 0] 36)):=q4.boxed (v:=.slice af 0 0) (.snil 0 0) 36;obtain⟨al,p1,p2,p3⟩:=Z.mark (N.trans ad) am (q5.trans (BR.gF _ _ _)) (x:=H.heap.size) (r:=j.heap.size) (aL _) N.size ag (tX q3 (ad.block _ q2) (λ_ B _=>B.elim) (λ_ B _=>B) (λB=>B)) (λ_ B=>B.elim) (Mu (o:=fM) (cY j _)) (λg hg=>by simp[fX]at hg);exact iD (L6 p1 a6 (BR.gF _ _ _ _ _ q6) (.inr ⟨rfl,rfl⟩) p2) λv x u j hv=>hv.1
 by_cases k9:o.kd=9
 ·rw[k9]at s;have a8:=Z.wd.tw _ _ ht;obtain⟨rv,ar,aJ⟩:=a8.ref;have hI:bB (λk=>f k=0/\k<H.heap.size) H t.1 t.2.2:=tX a8.ix rfl (λ_ _ _=>rfl) (λk Z h2=>⟨Z,h2⟩) (λe=>a8.ix.out e.1);refine VU (K1:=_) (K2:=λa1 v x u j=>∃yv U,aO H U/\bB (λk=>f k=0/\k<H.heap.size) U H.heap.size t.2.2/\aO U j/\x=O/\a1=ptr H.heap.size/\v=ptr U.heap.size/\bQ j U.heap.size yv t.2.2/\(∀g,yv.ownBlock=ae g->U.heap.size<=g)/\aI Xm O u j/\BR.Sub R1 u/\u H.heap.size H.heap.size/\u U.heap.size U.heap.size) (K3:=λv x u j=>yd b W v x u j/\¬x (w.heap.size+1)/\j.cell? ⟨w.heap.size+1,0,af⟩=ae (ptr t.1)/\j.cell? ⟨w.heap.size+1,1,af⟩=ae (ptr t.2.1)) hy s (Y4 Z.known (hs _ _ hx) hI (λk hk=>hk.2)) (λa1 x u j hu=> ?_) (λa1 v x u j hu=> ?_) (λa1 x u j hu=>⟨hu.2,hn a1 x u j hu.1⟩)
  ·obtain⟨rfl,rfl,N,q2,q3,q4,q5⟩:=hu;refine⟨⟨s.jO,N.cell s.n0,N.cell s.n1⟩,iD (F3 q3 (q4 _ _ (hs _ _ hr)) (kA ar N)) λv O2 R2 W2 hv=> ?_⟩;obtain⟨rfl,rfl,⟨yv,p1,p2⟩,p3,p4,p5,p6⟩:=hv;exact⟨yv,j,N,q2,p3,rfl,rfl,rfl,p1,p2,p4,q4.trans p5,p5 _ _ q5,p6⟩
  ·obtain⟨yv,U,N,q2,q3,rfl,rfl,rfl,q4,q5,q6,q7,q8,q9⟩:=hu;have a2:=N.trans q3;have ap:=q2.lt;refine⟨⟨s.jO,a2.cell s.n0,a2.cell s.n1⟩,?_⟩;have aP:=N.size;obtain⟨al,p1,p2,p3⟩:=Z.mark a2 q6 q7 (x:=H.heap.size) (r:=U.heap.size) (aL _) N.size ag (tX q2 (q3.block _ ap) (λk hk ao=>q3.block k ao) (λk B _=>B) (λe=>q2.out e)) (λk hk=>⟨hk.2,hk.1⟩) q4 (λg hg=>⟨by have:=q5 g hg;omega,by have:=q5 g hg;omega⟩);have aQ:H.heap.size=w.heap.size+2:=by rw[<-hw,dh,dh]
   have ai:∀(a7:Nat) v,j.cell? ⟨w.heap.size+1,a7,af⟩=ae v->∀W2:ak,(∀k,k<j.heap.size->al k=0->W2.heap[k]?=j.heap[k]?)->W2.cell? ⟨w.heap.size+1,a7,af⟩=ae v:=λa7 v hc W2 hk=>(gV (a:=⟨w.heap.size+1,a7,af⟩) (hk _ (cC _ _ hc) ((p3 (w.heap.size+1) ag).trans (B.wd.fresh (w.heap.size+1) ag)))).trans hc;refine iD (L6 p1 a6 q8 q9 p2) λv O2 R2 W2 hv=> ?_;obtain⟨h3,rfl,h5⟩:=hv;exact⟨h3,s.jO,ai 0 _ (a2.cell s.n0) W2 h5,ai 1 _ (a2.cell s.n1) W2 h5⟩
 exact VZ hy s ⟨k6,k7,k8,k9⟩ (F4 Z a6 ho.op) fin
end
def ScriptIn(b:ak)(a:Option aH)(h:List OpV):Prop:=∀(i:Nat) o,h[i]?=ae o->(∃k l s p fc B,OpIn2 b o k l s p fc B)/\∃c f,a=ae ⟨c,f,af⟩/\∀(j:Nat) u,o.cells[j]?=ae u->b.cell? ⟨c,f+i*9+j,af⟩=ae u
section
variable {Post:au->ak->Prop} {b:ak} {W:Nat} {h:au} {f:Nat->Nat} {O:Nat->Prop} {R:BR} {w:ak} {a:TS} {c:aC} {y:List aC}
theorem Y2(p:aI Xm O R w)(t:R r r)(h:bB ad w r ab):MC Post 12 #[ptr r] O w (λu j c a=>j=O/\u=.int .i64 (ab.length:Int)/\aO w a/\aI Xm O c a/\BR.Sub R c):=by
 refine iD (kT (R:=R) (Post1:=λu a=>u=.int .i64 (ab.length:Int)/\aO w a) TZ (kS bc) p (iP (l:=[ptr r]) ⟨kD t,trivial⟩) (λu a b d ⟨f,k⟩=>⟨f,k.re b d⟩) (λb=> ?_)) λu j c a s=> ?_
 ·refine(Kd (qj h b 0)).mono ?_;rintro e a ⟨rfl,rfl⟩;exact⟨_,rfl,rfl,(aO.refl w).re b 0⟩
 ·obtain⟨rfl,⟨rfl,f⟩,l,_,o,_⟩:=s;exact⟨rfl,rfl,f,l,o⟩
theorem Yg(h:PW b W (.slice af 0 0) f O R w []):MC Post 8 #[ptr W,.int .i64 11] O w (yd b W):=by
 refine iD (kT (R:=R) (Post1:=λu l=>u=.bool aq/\∃a c t,Mv NZ f w a l/\Wd a l W 11 c [t]) Ue (kS bc) h.known (iP (l:=[ptr W,.int .i64 11]) ⟨kD h.rW,.int _ _,trivial⟩) (λu l o d ⟨j,a,c,t,k,p⟩=>⟨j,a,c,t,k.re o d,zu p o d⟩) (λo=> ?_)) λu v x l s=> ?_
 ·refine(Qf (zu h.wd o 0)).mono ?_;rintro e l ⟨rfl,a,c,t,j,k⟩;exact⟨_,rfl,rfl,a,c,t,.of j,k⟩
 ·obtain⟨rfl,⟨rfl,a,c,t,j,k⟩,p,_,r,_⟩:=s;exact⟨rfl,c,a,_,h.nf j k p r,az⟩
def pj:OpV:=⟨6,0,0,⟨#[]⟩,⟨#[]⟩, -1,af,[],0,.slice af 0 0,.slice af 0 0⟩
theorem YX:pj.cells=opC 6 0 0 ⟨#[]⟩ ⟨#[]⟩ (-1) (.slice af 0 0) (.slice af 0 0) (.slice af 0 0):=rfl
theorem YZ:pj.kd=6:=rfl
theorem YY(b:ak):OpIn2 b pj [] [] af af 0 0:=⟨⟨by unfold pj;decide,by unfold pj;decide,by unfold pj;decide,by unfold pj;decide,λi ps h=>(by simp[pj]at h),by unfold pj;decide,λps h=>(by simp[pj]at h),λps h=>(by simp[pj]at h)⟩,rfl,rfl,λi o h=>(by simp at h),λi o h=>(by simp at h),bc,bc⟩
theorem Q0{ps:List (Nat×Nat)}(b6:0<ps.length)(hn:∀U R' w' aU fq,PW b W h aU U R' w' fq->ay aj Post U (aw (c.finish (.bool aq)) y) w'):∀(a7 i:Nat),a7+i=ps.length->∀(f:Nat->Nat)(O:Nat->Prop)(R:BR)(w:ak)(a:TS) (x:Nat->au),PW b W h f O R w a->a.map pp=ps->ay aj Post O (aw (FD 7 [] (T7 a8 (.int .i64 11) (ptr W) (.bool aq) (.int .i64 (i:Int)) (x 9) (x 10) x) ub) (c::y)) w:=by
 intro a7;induction a7 with
 |zero=>
  intro i hi f O R w a x l ac;have aJ:a.length=ps.length:=by rw[<-ac];simp
  obtain⟨g,cap,e,hc,hg,an⟩:=l.list ag;have a6:=l.wd.tM;rw[e]at a6;exact XL l.oW a6 ag (hn O R w f a l)
 |succ a7 ih=>
  intro i hi f O R w a x l ac;have aJ:a.length=ps.length:=by rw[<-ac];simp
  obtain⟨g,cap,e,hc,hg,an⟩:=l.list ag;have a6:=l.wd.tM;rw[e]at a6;obtain⟨t,ht⟩:∃t,a[i]?=ae t:=⟨_,bf ag⟩;obtain⟨c1,c2,hx,hr⟩:=an i t ht;have h8:=l.wd.cI;refine XO l.oW a6 ag h8 (l.known.apart g hg) c1 c2 rfl (l.new (aL _)) λx=> ?_;obtain⟨B,ad⟩:∃B,w.alloc (.cells #[ptr t.1,ptr t.2.1] 42)=B:=⟨_,rfl⟩;have h1:PW b W h f O R B a:=ad▸l.grown _;have Z:B.cell? ⟨w.heap.size,0,af⟩=ae (ptr t.1):=ad▸kP w 42 rfl;have b1:B.cell? ⟨w.heap.size,1,af⟩=ae (ptr t.2.1):=ad▸kP w 42 rfl;have a1:¬O w.heap.size:=l.new (aL _);rw[ad];have ap:=h1.wd.tw i t ht;obtain⟨rv,a2,_⟩:=ap.ref;obtain⟨ao,ci,aP⟩:∃ao ci,rv=.slice ao t.2.2.length ci:=by
   rcases a2.cases with⟨e,rfl⟩|⟨g,cap,rfl,_⟩;·exact⟨af,0,by rw[e];rfl⟩
   ·exact⟨_,_,rfl⟩
  have ab:=a2.cell;rw[aP]at ab;have tail:∀(r:BR)(p:ak) (x:Nat->au),aO B p->aI Xm O r p->BR.Sub R r->ay aj Post O (aw (FD 7 [] (T7 a8 (.int .i64 11) (ptr W) (.bool aq) (.int .i64 (i:Int)) (ptr w.heap.size) (x 10) x) Bd) (c::y)) p:=by
   intro r p x j s v;have h2:=h1.on j s v;refine XN a1 (j.cell Z) (j.cell b1) (F1 h2 ag ht) λai U R3 w3 u=> ?_;obtain⟨rfl,rfl,o,H,N⟩:=u;refine⟨rfl,λx=> ?_⟩;have h3:=h2.on o H N;have hB:=F2 (Post:=Post) h3 ht (YY b) (.inl YZ);rw[YX]at hB;refine XF a1 (o.cell (j.cell Z)) (o.cell (j.cell b1)) ag hB λai O4 R4 w4 u=> ?_;obtain⟨rfl,b2,aT,hA⟩:=u;exact⟨rfl,λx=>ih (i+1) ag b2 O4 R4 w4 aT x hA.pw (hA.ps.trans ac)⟩
  have yU:∀(aa k:Nat),aa+k=t.2.2.length->∀(r:BR)(p:ak) (x:Nat->au),aO B p->aI Xm O r p->BR.Sub R r->ay aj Post O (aw (FD 7 [] (T7 a8 (.int .i64 11) (ptr W) (.bool aq) (.int .i64 (i:Int)) (ptr w.heap.size) (.int .i64 (k:Int)) x) uc) (c::y)) p:=by
   intro aa;induction aa with
   |zero=>
    intro k hk r p x j s v;exact XH a1 (j.cell Z) (j.cell b1) (s.apart _ (v _ _ hr)) (j.cell ab) ag λx=>tail r p x j s v
   |succ aa aR=>
    intro k hk r p x j s v;obtain⟨e,he⟩:∃e,t.2.2[k]?=ae e:=⟨_,bf ag⟩;obtain⟨kb,b3,aQ,hp,_⟩:∃g cap,rv=.slice (ae ⟨g,0,af⟩) t.2.2.length cap/\oJ B g t.2.2/\t.2.2.length<=cap:=by
     rcases a2.cases with⟨e',_⟩|l;·rw[e']at he;simp at he
     ·exact l
    have al:=a2.cell;rw[aQ]at al;have am:=v _ _ hr;have ar:r kb kb:=xa (rp s am (j.cell al));have aF:(keyOf e).size<=9223372036854775807:=by have:=EC a2.short (cG he);omega
    refine XI a1 (j.cell Z) (j.cell b1) (s.apart _ am) (j.cell al) ag a2.cI (s.apart _ ar) (j.cell (hp k e he).1) (KY (h1.on j s v) ag ht aF) λai U R3 w3 u=> ?_;obtain⟨rfl,rfl,o,H,N⟩:=u;exact⟨rfl,λx=>aR (k+1) ag R3 w3 x (j.trans o) H (v.trans N)⟩
  refine XJ a1 Z b1 (h1.known.apart _ hr) ab (Y2 h1.known hx ap.ix) (λai U R' w' u=> ?_) λai U R' w' u x=> ?_
  ·obtain⟨rfl,rfl,o,H,N⟩:=u;exact⟨rfl,a1,o.cell Z,o.cell b1,H.apart _ (N _ _ hr),o.cell ab⟩
  ·obtain⟨rfl,rfl,o,H,N⟩:=u;exact yU t.2.2.length 0 ag R' w' x o H N
theorem Yf(hK:aI Xm (λ_=>False) R b)(hS:ScriptIn b an ac)(a6:ac.length<=9223372036854775807):MC Post 7 #[.slice an ac.length r,.int .i64 11] (λ_=>False) b (λa8 v H N=>a8=.bool aq/\∃h f a,PW b b.heap.size h f v H N a):=by
 intro c y hn;have ad:aI Xm (λ_=>False) (R.add b.heap.size b.heap.size) (b.alloc (.cells #[.slice af 0 0,.int .i64 11] 28)):=hK.boxed (v:=.agg #[.slice af 0 0,.int .i64 11]) (sK (iP (l:=[.slice af 0 0,.int .i64 11]) ⟨.snil 0 0,.int _ _,trivial⟩)) 28;have ai:=ar3 b 11;have h0:PW b b.heap.size (.slice af 0 0) (λa1=>if a1=b.heap.size then 100 else 0) (λ_=>False) (R.add b.heap.size b.heap.size) (b.alloc (.cells #[.slice af 0 0,.int .i64 11] 28)) []:=⟨ad,ai,.inr ⟨rfl,rfl⟩,dw b _,λa1 hk=>if_neg ag,λa1 t=>t.elim⟩;refine XG rfl (Yg h0) λu O1 R1 w1 hu=> ?_;obtain⟨rfl,ab,aP,aJ,h1,am⟩:=hu;refine⟨rfl,?_⟩;have aF:∀(U i:Nat),U+i=ac.length->∀(h:au)(f:Nat->Nat)(O:Nat->Prop)(R:BR)(w:ak)(a:TS) (x:Nat->au),PW b b.heap.size h f O R w a->0<a.length->ay aj Post O (GF 7 (c::y) (oL (.slice an ac.length r) b.heap.size aq i x) i7) w:=by
  intro U;induction U with
  |zero=>
   intro i hi h f O R w a x t Z;refine XE ag λx=> ?_;exact Q0 (ps:=a.map pp) (by simpa using Z) (λv H N a2 fq h'=>hn _ v H N ⟨rfl,h,a2,fq,h'⟩) a.length 0 az f O R w a x t rfl
  |succ U ih=>
   intro i hi h f O R w a x t Z;obtain⟨o,ho⟩:∃o,ac[i]?=ae o:=⟨_,bf ag⟩;obtain⟨⟨k,l,s,p,fc,B,ap⟩,pb,po,ar,ao⟩:=hS i o ho;subst ar;have a7:∀(j:Nat) u,o.cells[j]?=ae u->¬O pb/\w.cell? ⟨pb,po+i*9+j,af⟩=ae u:=λj u hj=>t.cell (ao j u hj);have W:=a7 0 _ rfl;by_cases hk:o.kd<=11
   ·refine XM (kd:=o.kd) (ov:=o.cells.toList.tail) ag a6 W.1 W.2 rfl (λj u hj=> ?_) hk (Y1 t Z ap) λa8 v H N hv=> ?_;·rw[jF];exact(a7 j u (by rw[<-hj];rw[<-zF];rfl)).2
    ·obtain⟨rfl,aa,a2,fq,h',al⟩:=hv;exact⟨aq,rfl,λx=>ih (i+1) ag aa a2 v H N fq x h' al⟩
   ·exact XK ag a6 W.1 W.2 hk λx=>ih (i+1) ag h f O R w a x t Z
 intro x;exact aF ac.length 0 ag ab aP O1 R1 w1 aJ x h1 am
end
end Sim
variable {u N ar:Nat} {aF:Nat->Bool} {aJ:Bool} {a6:au} {a2:List au}
theorem Z6:ownKnob aj.godebug=none:=ah
theorem laidOut:laidOutB aj=true:=ah
theorem yi:aj.cellsOf 3=1:=ah
theorem DU:aj.cellsOf 9=1:=ah
theorem QE:aj.cellsOf 37=1:=ah
theorem IX:aj.cellsOf 22=1:=ah
theorem IW:aj.cellsOf 39=9:=ah
theorem UH{n:Int}(h:(Lit.int .i64 n).wf=aq): -9223372036854775808<=n/\n<=9223372036854775807:=by
 simpa[Lit.wf,IntKind.min,IntKind.max,IntKind.signed,IntKind.bits]using h
section
variable {H:Type} {o:aK×au->H} {W:ak}
theorem yx{x:Option (nI H×List rX)}(c:x.isSome=aq)(h:iN o aj W N aF aJ u 3 [a6]=x):∃n,a6=.int .i64 n/\ -9223372036854775808<=n/\n<=9223372036854775807:=by
 cases x with
 |none=>cases c
 |some x=>
  obtain⟨n,a,_,b⟩:=DataW.trod_int Oj h;simp at a;exact⟨n,a,UH b⟩
theorem Gk{x:Option (nI H×List rX)}(c:x.isSome=aq)(h:iN o aj W N aF aJ u 9 [a6]=x):∃s:ByteArray,a6=.string s/\s.size<=9223372036854775807:=by
 cases x with
 |none=>cases c
 |some x=>
  obtain⟨n,a,_,b⟩:=DataW.trod_string Oi h;simp at a;exact⟨n,a,by unfold cE at b;omega⟩
end
section
variable {H:Type}
theorem Ql(d:nI H):1<=l8 d:=by
 cases d with
 |lit l=>cases l<;>simp[l8]
 |_=>simp[l8]
theorem Qk(l:List (nI H)):l.length<=zM l:=by
 induction l with
 |nil=>simp[zM]
 |cons x r a=>have:=Ql x;simp only[zM,rM];omega
theorem IJ{d:nI H}{l:List (nI H)}(h:d∈l):l8 d<=zM l:=by
 induction l with
 |nil=>cases h
 |cons x r a=>
  simp only[zM];rcases dk.1 h with e|e;·subst e;omega
  ·have:=a e;omega
variable {o:aK×au->H} {W:ak}
theorem C3{v:Type}[Inhabited v]{t e:aK}{p:Nat->Nat->v->Prop}(ht:aj.underlying t=ae (.slice e))(R:aj.cellsOf e=u)(al:0<u){x:nI H×List rX}(hf:iN o aj W 0 (λ_=>aq) aq ar t [a6]=ae x)(B:l8 x.1<=N)(hp:∀(k q:Nat)(y:List au)(a7:nI H×List rX) (n:Nat),W.cells? 0 ⟨k,q,af⟩ u=ae y->iN o aj W 0 (λ_=>aq) aq n e y=ae a7->l8 a7.1<=N->∃a,p k q a):∃(w:Option aH)(l:List v) (cap:Nat),a6=.slice w l.length cap/\l.length<=N/\l.length<=9223372036854775807/\∀(i:Nat) a,l[i]?=ae a->∃k q,w=ae ⟨k,q,af⟩/\p k (q+i*u) a:=by
 rcases open_slice ht hf with⟨c,_⟩|⟨a,len,cap,m,n,D,Pl,c,_,hl,hm,Z,ad,hx⟩
 ·simp at c;subst c;exact⟨af,[],0,rfl,az,az,λi a h=>by simp at h⟩
 ·simp at c;subst c;simp at Z;subst Z;unfold cE at hm;have ai:zM ((dn len).map D)+1<=N:=by
   rw[ad]at B;simp only[l8]at B;omega
  have ab:=Qk ((dn len).map D);simp at ab;by_cases h0:len=0
  ·subst h0;exact⟨ae a,[],_,rfl,az,az,λi a h=>by simp at h⟩
  ·have a1:a.spot=none:=by
    obtain⟨r,f,_⟩:=hx 0 ag;obtain⟨_,ac,U⟩:=GY f;rw[R]at ac U;have b:=U 0 ag;have:(a.add (0*u)).add 0=a:=by cases a;simp[vf]
    rw[this]at b;obtain⟨a2,hu⟩:∃a2,r[0]?=ae a2:=⟨_,bf ag⟩;rw[hu]at b;exact World.cell?_spot b
   obtain⟨k,q,sp⟩:=a;simp at a1;subst a1;obtain⟨a8,aa⟩:=choose_lt (n:=len) (p:=λi a=>p k (q+i*u) a) (λi j=>by
    obtain⟨r,f,b⟩:=hx i ag;rw[R,jF]at f;refine hp k (q+i*u) r (D i,Pl i) n f b ?_;have:=IJ (d:=D i) (l:=(dn len).map D) (iL.2 ⟨i,eh.2 j,rfl⟩);show l8 (D i)<=N;omega)
   refine⟨ae ⟨k,q,af⟩,(dn len).map a8,m,az,by simp;omega,by simp;omega,λi a s=> ?_⟩;have j:i<len:=by have:=(cu.mp s).1;simpa using this
   simp[j]at s;subst s;exact⟨k,q,rfl,aa i j⟩
theorem QF:aj.cellsOf 46=2:=ah
theorem QG:aj.cellsOf 34=1:=ah
theorem YW(h:W.cells? 0 ⟨u,N,af⟩ 1=ae a2):∃v,a2=[v]/\W.cell? ⟨u,N,af⟩=ae v:=by
 obtain⟨_,b,a⟩:=GY h
 match a2,b with
 |[v],_=>
  have:=a 0 ag;rw[jF]at this;exact⟨v,rfl,this⟩
def Dz(W:ak)(k q:Nat)(a:PP):Prop:=W.cell? ⟨k,q,af⟩=ae (.string a.1)/\W.cell? ⟨k,q+1,af⟩=ae (.int .i64 a.2)/\a.1.size<=9223372036854775807
theorem Za{n:Nat}{y:nI H×List rX}(w:W.cells? 0 ⟨u,N,af⟩ 2=ae a2)(x:iN o aj W 0 (λ_=>aq) aq n 46 a2=ae y):∃a,Dz W u N a:=by
 obtain⟨_,B,k⟩:=GY w;obtain⟨f,t,_,_,_,R,l⟩:=az3 Tryz.underlying46 x;simp at R
 match a2,B with
 |[v0,v],_=>
  have p:∀i,i<2->(f[i]?).isSome=true:=λi U=>by simp;omega
  have b:iN o aj W 0 (λ_=>aq) aq t 9 ((([v0,v]:List au).drop 0).take (aj.cellsOf 9))=f[0]?:=l 0 _ rfl;rw[DU]at b;have c:iN o aj W 0 (λ_=>aq) aq t 3 ((([v0,v]:List au).drop 1).take (aj.cellsOf 3))=f[1]?:=l 1 _ rfl;rw[yi]at c;simp only[Ox,NV,NR,Ow]at b c;obtain⟨s,rfl,r⟩:=Gk (p 0 ag) b;obtain⟨m,rfl,_⟩:=yx (p 1 ag) c;have h:=k 0 ag;have j:=k 1 ag;rw[jF]at h j;exact⟨(s,m),h,j,r⟩
def Ij(W:ak)(B:Nat)(k q:Nat)(ps:List PP):Prop:=∃b h,W.cell? ⟨k,q,af⟩=ae (.slice b ps.length h)/\ps.length<=B/\∀(j:Nat) a,ps[j]?=ae a->∃c f,b=ae ⟨c,f,af⟩/\Dz W c (f+j*2) a
theorem Zc{n:Nat}{y:nI H×List rX}(a:W.cells? 0 ⟨N,ar,af⟩ 1=ae a2)(b:iN o aj W 0 (λ_=>aq) aq n 34 a2=ae y)(j:l8 y.1<=u):∃ps,Ij W u N ar ps:=by
 obtain⟨v,rfl,k⟩:=YW a;obtain⟨c,l,cap,rfl,f,_,h⟩:=C3 (p:=Dz W) CG QF ag b j (λN ar a2 y n a b _=>Za a b);exact⟨l,c,cap,k,f,h⟩
theorem Zf{n:Nat}{s:nI H×List rX}(h:iN o aj W 0 (λ_=>aq) aq n 37 [a6]=ae s)(hB:l8 s.1<=u):∃N pss pc,a6=.slice N pss.length pc/\Sim.xZ W N pss/\pss.length<=u/\(∀ps∈pss,ps.length<=u)/\∀ps∈pss,∀q∈ps,q.1.size<=9223372036854775807:=by
 obtain⟨R,a1,cap,rfl,U,_,l⟩:=C3 (p:=Ij W u) Tryz.underlying37 QG ag h hB (λk q y s n Z h2 h3=>Zc Z h2 h3);refine⟨R,a1,cap,rfl,λi ps b=> ?_,U,λps r=> ?_,λps r a ha=> ?_⟩
 ·obtain⟨k,q,e,c,f,c1,_,c2⟩:=l i ps b;rw[tj]at c1;refine⟨k,q,c,f,e,c1,λj a p=> ?_⟩;obtain⟨v,w,t,x,B,_⟩:=c2 j a p;exact⟨v,w,t,x,B⟩
 ·obtain⟨i,b⟩:=lJ r;obtain⟨k,q,e,c,f,c1,c3,c2⟩:=l i ps b;exact c3
 ·obtain⟨i,b⟩:=lJ r;obtain⟨k,q,e,c,f,c1,c3,c2⟩:=l i ps b;obtain⟨j,p⟩:=lJ ha;obtain⟨v,w,t,x,B,p3⟩:=c2 j a p;exact p3
instance:Inhabited OpV:=⟨⟨0,0,0,⟨#[]⟩,⟨#[]⟩,0,af,[],0,.slice af 0 0,.slice af 0 0⟩⟩
theorem Ly{n:Nat}{ab:nI H×List rX}(h1:W.cells? 0 ⟨u,N,af⟩ 9=ae a2)(h2:iN o aj W 0 (λ_=>aq) aq n 39 a2=ae ab)(hB:l8 ab.1<=1048576):∃w:OpV,OpIn W w/\(∀(j:Nat) a6,w.cells[j]?=ae a6->W.cell? ⟨u,N+j,af⟩=ae a6)/\∃a y7 y8,iN o aj W 0 (λ_=>aq) aq a 22 [w.fv]=ae y7/\l8 y7.1<=1048576/\iN o aj W 0 (λ_=>aq) aq a 22 [w.mv]=ae y8/\l8 y8.1<=1048576:=by
 obtain⟨_,ai,ac⟩:=GY h1;obtain⟨b,a,_,hy,_,al,h⟩:=az3 Tryz.underlying39 h2;simp at al;have a1:∀(i:Nat) x,b[i]?=ae x->l8 x.1<=1048576:=λi x hx=>by
  rw[hy]at hB;simp only[l8]at hB;have:=IJ (d:=x.1) (l:=b.map (·.1)) (iL.2 ⟨x,cG hx,rfl⟩);omega
 match a2,ai with
 |[v0,l,p,v3,v4,v5,r,c,f],_=>
  have k:∀i,i<9->(b[i]?).isSome=true:=λi hi=>by simp;omega
  have y:iN o aj W 0 (λ_=>aq) aq a 3 ((([v0,l,p,v3,v4,v5,r,c,f]:List au).drop 0).take (aj.cellsOf 3))=b[0]?:=h 0 _ rfl;rw[yi]at y;have B:iN o aj W 0 (λ_=>aq) aq a 3 ((([v0,l,p,v3,v4,v5,r,c,f]:List au).drop 1).take (aj.cellsOf 3))=b[1]?:=h 1 _ rfl;rw[yi]at B;have R:iN o aj W 0 (λ_=>aq) aq a 3 ((([v0,l,p,v3,v4,v5,r,c,f]:List au).drop 2).take (aj.cellsOf 3))=b[2]?:=h 2 _ rfl;rw[yi]at R;have U:iN o aj W 0 (λ_=>aq) aq a 9 ((([v0,l,p,v3,v4,v5,r,c,f]:List au).drop 3).take (aj.cellsOf 9))=b[3]?:=h 3 _ rfl;rw[DU]at U;have Z:iN o aj W 0 (λ_=>aq) aq a 9 ((([v0,l,p,v3,v4,v5,r,c,f]:List au).drop 4).take (aj.cellsOf 9))=b[4]?:=h 4 _ rfl;rw[DU]at Z;have g5:iN o aj W 0 (λ_=>aq) aq a 3 ((([v0,l,p,v3,v4,v5,r,c,f]:List au).drop 5).take (aj.cellsOf 3))=b[5]?:=h 5 _ rfl;rw[yi]at g5;have s:iN o aj W 0 (λ_=>aq) aq a 37 ((([v0,l,p,v3,v4,v5,r,c,f]:List au).drop 6).take (aj.cellsOf 37))=b[6]?:=h 6 _ rfl;rw[QE]at s;have t:iN o aj W 0 (λ_=>aq) aq a 22 ((([v0,l,p,v3,v4,v5,r,c,f]:List au).drop 7).take (aj.cellsOf 22))=b[7]?:=h 7 _ rfl;rw[IX]at t;have v:iN o aj W 0 (λ_=>aq) aq a 22 ((([v0,l,p,v3,v4,v5,r,c,f]:List au).drop 8).take (aj.cellsOf 22))=b[8]?:=h 8 _ rfl;rw[IX]at v;simp only[Ox,NV,NR,Ow]at y B R U Z g5 s t v;obtain⟨n0,rfl,_⟩:=yx (k 0 ag) y;obtain⟨n1,rfl,r1⟩:=yx (k 1 ag) B;obtain⟨n2,rfl,r2⟩:=yx (k 2 ag) R;obtain⟨s3,rfl,r3⟩:=Gk (k 3 ag) U;obtain⟨s4,rfl,r4⟩:=Gk (k 4 ag) Z;obtain⟨n5,rfl,r5⟩:=yx (k 5 ag) g5;obtain⟨x6,a7⟩:=sO.1 (k 6 ag);obtain⟨x7,a8⟩:=sO.1 (k 7 ag);obtain⟨x8,aa⟩:=sO.1 (k 8 ag);rw[a7]at s;rw[a8]at t;rw[aa]at v;obtain⟨pa,pss,pc,rfl,q1,q2,q3,q4⟩:=Zf s (a1 6 x6 a7);refine⟨⟨n0,n1,n2,s3,s4,n5,pa,pss,pc,c,f⟩,⟨r1,r2,r3,r4,q1,q2,q3,q4⟩,λj a6 hj=> ?_,a,x7,x8,t,a1 7 x7 a8,v,a1 8 x8 aa⟩;have ad:j<9:=(cq.1 hj).1;have:=ac j ad;rw[jF]at this;rw[this,<-hj,<-zF];rfl
theorem LA{n:Nat}{s:nI H×List rX}(h:iN o aj W 0 (λ_=>aq) aq n 22 [a6]=ae s)(B:l8 s.1<=1048576):∃a r c,a6=.slice a r.length c/\OpsIn W a r/\r.length<=9223372036854775807:=by
 obtain⟨t,l,cap,rfl,_,v,w⟩:=C3 (p:=λk q b=>OpIn W b/\∀(j:Nat) u,b.cells[j]?=ae u->W.cell? ⟨k,q+j,af⟩=ae u) az6 IW ag h B (λk q y s n f p x=>by
  obtain⟨b,R,U,_⟩:=Ly f p x;exact⟨b,R,U⟩)
 refine⟨t,l,cap,rfl,λi b N=> ?_,v⟩;obtain⟨k,q,e,f,p⟩:=w i b N;exact⟨f,k,q,e,p⟩
theorem aj6{n:Nat}{v:au}{w:nI H×List rX}(a1:iN o aj W 0 (λ_=>aq) aq n 22 [v]=ae w)(hB:l8 w.1<=1048576):∃a t c,v=.slice a t.length c/\ScriptIn W a t/\t.length<=9223372036854775807:=by
 obtain⟨x,a2,cap,rfl,_,g1,g2⟩:=C3 (p:=λf q b=>(∃k l s p fc B,OpIn2 W b k l s p fc B)/\∀(j:Nat) u,b.cells[j]?=ae u->W.cell? ⟨f,q+j,af⟩=ae u) az6 IW ag a1 hB (λf q y w n h r h3=>by
  obtain⟨b,q1,q2,n',y7,y8,t7,b7,t8,b8⟩:=Ly h r h3;obtain⟨s,k,fc,N,U,Z⟩:=LA t7 b7;obtain⟨p,l,B,R,m1,m2⟩:=LA t8 b8;exact⟨b,⟨k,l,s,p,fc,B,q1,N,R,U,m1,Z,m2⟩,q2⟩)
 refine⟨x,a2,cap,rfl,λi b hi=> ?_,g1⟩;obtain⟨f,q,e,h,r⟩:=g2 i b hi;exact⟨h,f,q,e,r⟩
end
