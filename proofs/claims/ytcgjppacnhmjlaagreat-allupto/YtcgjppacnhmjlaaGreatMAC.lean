/- Own texts: FzT, FzU, GaA. -/
import Derived.Test.YtcgjppacnhmjlaaGreatMAB
set_option linter.all false
set_option maxRecDepth 100000
open Array renaming getElem?_eq_getElem->jV,getD_eq_getD_getElem?->sM,ext_getElem?->rK,getElem?_eq_none->zC,getElem?_mapIdx->zG,getElem?_setIfInBounds->GN,getD->P9
open Bind renaming bind->eN
open Bool renaming true->aq,false->ax,and_eq_true->dj
open Decidable renaming decide->aM
open Go renaming World->ak,Value->au,Frame->aC,Goroutine->aX,TypeId->aK,heap_alloc_new->cY,Addr->aH,undef->aN,Operand->bC,execOp->bp,FuncId->bW,underlying->iZ,sizeOf->ed,Oper->bR,yielded->fN,Deferred->jH,Code->du,heap_alloc_old->xu,Item->dP,isAgg->mL,seen->jo,Obj->dV,loadVar->Ae,loadCells->I1
open Go.Act renaming eval->Dk
open Go.Addr renaming add_lit->jF,add->vf
open Go.Conc renaming listed->ic
open Go.Frame renaming enter->bG
open Go.Instr renaming sureAddr->uY,loadAt->zY
open Go.IntKind renaming i64->cZ,wrap_i64->ft
open Go.Proofs.Tryz renaming prog->aj
open Go.Region renaming wanted->iJ
open Go.Sem renaming bind->dp,runT_fst->fE,runT_bind'->jj,runT->eL,runT_eq->nE
open Go.World renaming block_lt_of_cell?->cC,cell?->bL,size_alloc->dh,cell?_of_block->gV,frozen?->gu,setCell_alloc_new->xg
open Inhabited renaming default->fM
open List renaming all_eq_true->eJ,mem_range->eh,range->dn,range'->jZ,find?_eq_none->GW,mem_of_find?_eq_some->av6,find?_some->aB7
open Nat renaming le_refl->aL,zero_add->ia
open Ne renaming symm->jm
open Option renaming some->ae,none->af,map_some->hZ,getD_some->lK,bind_some->qD
open Prod renaming snd->tu
open Pure renaming pure->bN
namespace Go.Proofs.YtcgjppacnhmjlaaGreat
open Go Go.Conc Go.ConcN Go.Conc.Lib Go.ConcR.Gen Go.RowKit
namespace Sim
variable {a2:List Nat} {s:Array au} {am:Nat->au} {a y U a8:Nat} {a1 ap:au} {b:Array bR} {a6 ao:Int} {an:au->(Nat->Prop)->BR->ak->Prop} {a7:au->ak->Prop} {ab:List jH} {ac:List aC} {p:du} {ad:List dP} {aa ai:ByteArray} {Z al:ak}
def wj(q:bC->Bool):Op->Bool
 | .nilCheck x=>q x
 |o=>lx q o
theorem E3{q:bC->Bool}{c f:bC->au}(h:∀x,q x=aq->c x=f x){o:bR}(a:wj q o.op=aq):bp c o=bp f o:=by
 cases b:o.op with
 |nilCheck x=>
  rw[b]at a;unfold bp;simp only[b];rw[h x a]
 |_=>exact execOp_congr h (by rw[b]at a⊢;exact a)
def VN(a:List au)(i:Nat):Value:=(a[i]?).getD aN
def cA(a:Array bR)(c:Nat):List Nat:=(dn c).filterMap (ew a)
def bS(a:List Nat)(b:Array au)(x:Nat->au):Array Value:=b.mapIdx λi v=>if a.contains i then x i else v
def lz(a:Array bR)(c t:Nat):Option Nat:=(dn c).find? λj=>ew a j==ae t
def xV(b:Array bR)(c:Nat)(a:List au)(t:Nat):Value:=match lz b c t with
 |some j=>VN a j
 |none=>aN
def vH(b:Array bR)(c:Nat)(a:List au)(h:Array au):bC->au
 | .tmp t=>match lz b c t with
  |some j=>VN a j
  |none=>h.getD t aN
 | .const v=>v
 | .global g=>.pointer (ae ⟨g,0,af⟩)
 | .func f=>.func (.func f) #[] #[]
def AI(a:Array bR)(c nt:Nat):Bool:=(dn c).all λi=>match a[i]? with
 |none=>ax
 |some o=>qn o.op&&(match o.dst with
  |none=>ax
  |some d=>aM (d<nt)&&(dn c).all λj=>aM (i=j)||ew a j !=ae d)&&
  wj (λx=>match x with
   | .tmp t=>(dn c).all λj=>ew a j !=ae t||dY a i j
   |_=>aq) o.op&&(match o.guard with
  |none=>aq
  |some (g,_)=>aM (g<c)&&dY a i g)
def Cn(h:Array bR)(c:Nat)(a:List au):Bool:=(dn c).all λi=>match (h[i]?).bind (·.guard)with
 |none=>aq
 |some (g,b)=>match VN a g with
  | .bool f=>f==b
  |_=>ax
def gz(O:Nat->Prop)(W:ak)(j:bC->au)(o:bR)(v:au):Prop:=
 ∀a d,(bp j o).run aj (Sim.re W a d)=.ok (.value v) (Sim.re W a d)/\∀fn,∀e∈jo aj fn ((bp j o).events aj (Sim.re W a d) #[]),nQ O W.heap.size e
section
variable {O:Nat->Prop} {W:ak} {j:bC->au} {o:bR} {v:au}
theorem gz.id(h:∀w,(bp j o).runT aj w #[]=(.ok (.value v) w, #[])):gz O W j o v:=λc d=>by
 have a:=h (Sim.re W c d);refine⟨by rw[<-fE aj _ _ #[],a],λfn e b=> ?_⟩;have f:(bp j o).events aj (Sim.re W c d) #[]= #[]:=congrArg tu a;rw[f,seen_none]at b;simp at b
theorem gz.ld{t:aK}{x:bC}{a:aH}(r:o.op=.load t x)(s:j x=.pointer (ae a))(p:∀w,(mL t).run aj w=.ok ax w)(l:¬O a.block)(b:W.cell? a=ae v):gz O W j o v:=λf d=>by
 obtain⟨h,k⟩:=E2 (P:=aj) (w:=Sim.re W f d) r s (p _) (show(Sim.re W f d).cell? a=ae v from b);refine⟨h,λfn e c=> ?_⟩;rw[k]at c;rw[qw _ _ _ e c];exact qX l (cC _ _ b)
theorem gz.ix{t e:aK}{x y:bC}{a:aH}{l c n:Nat}{k:Int}(r:o.op=.indexAddr t x y)(H:j x=.slice (ae a) l c)(N:j y=.int .i64 k)(p:0<=k/\k<l)(u:∀w,(iZ t).run aj w=.ok (.slice e) w)(s:∀w,(ed e).run aj w=.ok n w)(B:v=.pointer (ae (a.add (k.toNat*n)))):gz O W j o v:=λR d=>by
 obtain⟨f,h⟩:=E1 (P:=aj) (w:=Sim.re W R d) r H N p (u _) (s _);refine⟨by rw[B];exact f,λfn e b=> ?_⟩;rw[h,seen_none]at b;simp at b
theorem gz.jd{t:aK}{x:bC}{a:aH}{vs:List au}(Z:o.op=.load t x)(hx:j x=.pointer (ae a))(N:∀w,(mL t).runT aj w #[]=(.ok aq w, #[]))(hs:∀w,(ed t).runT aj w #[]=(.ok vs.length w, #[]))(y:¬O a.block)(U:a.block<W.heap.size)(B:∀(b:Nat) u,vs[b]?=ae u->W.cell? (a.add b)=ae u)(hv:v=.agg vs.toArray):gz O W j o v:=λc d=>by
 obtain⟨f,p,r⟩:=FO (P:=aj) (w:=Sim.re W c d) (a:=a) vs 0 #[] #[] λb u R=>by rw[ia];exact B b u R
 have h:(bp j o).runT aj (Sim.re W c d) #[]=(.ok (.value (.agg vs.toArray)) (Sim.re W c d),f):=by
  unfold bp;simp only[Z,hx,zY,uY,Ae,I1,eN,dp,bN];rw[jj,jj,N];simp only[if_true];rw[jj,hs];dsimp only;rw[jj,p];simp[-nE,eL]
 refine⟨by rw[<-fE aj _ _ #[],h,hv],λfn e l=> ?_⟩;have H:(bp j o).events aj (Sim.re W c d) #[]=f:=congrArg tu h;rw[H]at l;rcases r e (qx l)with s|⟨b,rfl⟩;·simp at s
 ·have k:(a.add b).block=a.block:=by unfold vf;split<;>rfl
  exact qX (by rw[k];exact y) (by rw[k];exact U)
end
def QL(O:Nat->Prop)(W:ak)(j:bC->au)(a:Array bR):Nat->List au->Prop
 |_,[]=>True
 |i,v::vs=>gz O W j ((a[i]?).getD fM) v/\QL O W j a (i+1) vs
theorem QL.get{O:Nat->Prop}{W:ak}{j:bC->au}{b:Array bR}:∀{vs:List au} {k:Nat},QL O W j b k vs->∀i,i<vs.length->gz O W j ((b[k+i]?).getD fM) (VN vs i)
 |[],k,h,i,a=>by simp at a
 |v::vs,k,h,0,a=>h.1
 |v::vs,k,h,i+1,a=>by
  have:=QL.get h.2 i (by simpa using a);rw[show k+(i+1)=k+1+i by omega];exact this
theorem yK:(bS a2 s am).getD a aN=if a2.contains a=aq/\a<s.size then am a else s.getD a undef:=by
 unfold bS;by_cases b:a<s.size
 ·simp only[sM,zG];rw[jV b];by_cases c:a2.contains a=aq;·simp[c,b]
  ·simp[c,b]
 ·rw[if_neg (λh=>b h.2)];simp[sM,zC (show s.size<=a by omega),b]
theorem yL{d:Nat}(a:a2.contains d=aq):(bS a2 s am).setIfInBounds d a1=bS a2 s (cB am d a1):=by
 apply rK;intro i;unfold bS;rw[GN,zG,zG];by_cases e:d=i
 ·subst e;rw[if_pos rfl];by_cases h:d<s.size
  ·have b:d∈a2:=by simpa using a
   simp[h,b,cB]
  ·simp[h,zC (show s.size<=d by omega)]
 ·rw[if_neg e];cases s[i]? with
  |none=>rfl
  |some u=>simp[cB,jm e]
theorem F8{y:Nat->au}(h:∀t,a2.contains t=aq->am t=y t):bS a2 s am=bS a2 s y:=by
 apply rK;intro i;unfold bS;rw[zG,zG];cases s[i]? with
 |none=>rfl
 |some u=>
  simp only[hZ];split;·rename_i a;rw[h i a]
  ·rfl
theorem F9:bS a2 s (λt=>s.getD t aN)=s:=by
 apply rK;intro i;unfold bS;rw[zG];cases h:s[i]? with
 |none=>rfl
 |some u=>
  simp only[hZ];split;·simp[sM,h]
  ·rfl
theorem lu:(cA b a).contains y=aq↔∃j,j<a/\ew b j=ae y:=by
 unfold cA;rw[List.contains_iff_mem,List.mem_filterMap];constructor;·rintro⟨j,c,f⟩;exact⟨j,eh.1 c,f⟩
 ·rintro⟨j,c,f⟩;exact⟨j,eh.2 c,f⟩
theorem yQ(h:lz b a y=ae U):U<a/\ew b U=ae y:=by
 unfold lz at h;have c:=av6 h;have f:=aB7 h;exact⟨eh.1 c,by simpa using f⟩
theorem yP(h:lz b a y=af):∀j,j<a->ew b j≠ae y:=by
 unfold lz at h;intro j c e;have:=GW.1 h j (eh.2 c);simp[e]at this
theorem ay.calm{Post:au->ak->Prop}{n:Nat}{id:Nat}{df:List jH}{fr:aC}{cs:List aC}{k:List dP}{tm:Array au}{O:Nat->Prop}{W:ak}(c:List au)(hn:b.size=n)(hs:uJ b a=aq)(hc:AI b a tm.size=aq)(hl:c.length=a)(hw:Cn b a c=aq)(hk:(fr.kind==.early)=ax)(hq:QL O W (vH b a c tm) b 0 c)(aF:ay aj Post O (aw (fr.atR ⟨bS (cA b a) tm (xV b a c),df⟩ (.inRegion b (jZ a (n-a))::k)) cs) W):ay aj Post O (aw (fr.atR ⟨tm,df⟩ (.code (.region id b aq)::k)) cs) W:=by
 have N:∀i,i<a->∃o d,b[i]?=ae o/\o.dst=ae d/\qn o.op=aq/\d<tm.size/\(∀j,j<a->ew b j=ae d->i=j)/\wj (λx=>match x with
   | .tmp t=>(dn a).all λj=>ew b j !=ae t||dY b i j
   |_=>aq) o.op=aq/\∀g B,o.guard=ae (g,B)->g<a/\dY b i g=true:=by
  intro i w;have h:=eJ.1 hc i (eh.2 w);cases ho:b[i]? with
  |none=>rw[ho]at h;cases h
  |some o=>
   rw[ho]at h;simp only[dj]at h;obtain⟨⟨⟨p,r⟩,h3⟩,h4⟩:=h;cases R:o.dst with
   |none=>rw[R]at r;cases r
   |some d=>
    rw[R]at r;simp only[dj,decide_eq_true_eq]at r;refine⟨o,d,rfl,R,p,r.1,λj f ar=> ?_,h3,λg B hg=> ?_⟩
    ·have:=eJ.1 r.2 j (eh.2 f);simpa[ar]using this
    ·rw[hg]at h4;simpa using h4
 have u:∀i o d,b[i]?=ae o->o.dst=ae d->ew b i=ae d:=λi o d p r=>by simp[ew,p,r]
 have hD:∀i,i<a->∀d,ew b i=ae d->(ew b i).getD 0=d:=λi _ d h=>by rw[h];rfl
 have hx:tm=bS (cA b a) tm (λt=>tm.getD t aN):=F9.symm;have key:=ay.am0 (P:=aj) (Post:=Post) (id:=id) (df:=df) (fr:=fr) (cs:=cs) (k:=k) (T:=bS (cA b a) tm) (x:=λt=>tm.getD t aN) (O:=O) (W:=λ_=>W) (D:=λi=>(ew b i).getD 0) (V:=VN c) hn hs (λi j w f e=> ?_) (λi w aQ x rest hl R a1=> ?_) λx aQ _ hx=> ?_;·rw[<-hx]at key;exact key
 ·obtain⟨o,d,p,r,_,_,h5,_⟩:=N i w;obtain⟨y,l,a8,aa,_⟩:=N j f;refine h5 j f ?_;rw[u j y l a8 aa];rw[u i o d p r,u j y l a8 aa]at e;simpa using e.symm
 ·obtain⟨o,d,p,r,h3,h4,h5,h6,h7⟩:=N i w;have ad:=u i o d p r;rw[ad]at a1;simp only[lK]at a1;rw[<-yL (lu.2 ⟨i,w,ad⟩)]at a1;have ac:∀j,j<a->dY b i j=aq->∀t,ew b j=ae t->x t=VN c j:=λj f an t ht=>by
   have:=(R j an).2;rw[ht]at this;exact this
  have ab:bp (Dk ⟨bS (cA b a) tm x,df⟩) o=bp (vH b a c tm) o:=by
   refine E3 (λaT hy=> ?_) h6;cases aT with
   |tmp t=>
    have aP:∀j,j<a->ew b j=ae t->dY b i j=true:=λj f s=>by
     have:=eJ.1 hy j (eh.2 f);simpa[s]using this
    show(bS (cA b a) tm x).getD t aN=match lz b a t with
     |some j=>VN c j
     |none=>tm.getD t aN
    rw[yK];cases U:lz b a t with
    |none=>
     rw[if_neg];rintro⟨hm,_⟩;obtain⟨j,f,s⟩:=lu.1 hm;exact yP U j f s
    |some j=>
     obtain⟨f,s⟩:=yQ U;obtain⟨y,l,Z,q2,_,q4,_⟩:=N j f;have:l=t:=by have:=u j y l Z q2;rw[s]at this;cases this;rfl
     subst this;rw[if_pos ⟨lu.2 ⟨j,f,s⟩,q4⟩];exact ac j f (aP j f s) _ s
   |const v=>rfl
   |global g=>rfl
   |func aU=>rfl
  have ai:=hq.get i ag;rw[ia,p,lK]at ai;have aJ:iJ o (fN b (bS (cA b a) tm x))=true:=by
   have H:=eJ.1 hw i (eh.2 w);rw[p]at H;unfold iJ;cases hg:o.guard with
   |none=>rfl
   |some gb=>
    obtain⟨g,B⟩:=gb;obtain⟨a6,ao⟩:=h7 g B hg;simp only[qD,hg]at H;obtain⟨y,l,Z,q2,_,q4,_⟩:=N g a6;have hv:=ac g a6 ao l (u g y l Z q2)
    have hy:fN b (bS (cA b a) tm x) g=match VN c g with
      | .bool B=>ae B
      |_=>none:=by
     unfold fN;rw[Z];simp only[qD,q2];have:(bS (cA b a) tm x)[l]?=ae (VN c g):=by
      have h8:(bS (cA b a) tm x)[l]?=ae ((bS (cA b a) tm x).getD l aN):=by
       have:l<(bS (cA b a) tm x).size:=by unfold bS;simpa using q4
       simp[P9,this]
      rw[h8,yK,if_pos ⟨lu.2 ⟨g,a6,u g y l Z q2⟩,q4⟩,hv]
     rw[this];generalize VN c g=aR;cases aR<;>rfl
    dsimp only;rw[hy];cases al:VN c g with
    |bool b'=>rw[al]at H;simpa using H
    |_=>rw[al]at H;cases H
  have am:dW (aw (fr.atR ⟨bS (cA b a) tm x,df⟩ (.inRegion b (i::rest)::k)) cs) i:=by
   refine⟨rfl,?_,?_,hk,?_⟩
   ·show b[i]?=ae ((b[i]?).getD fM);rw[p];rfl
   ·show iJ ((b[i]?).getD fM) (fN b (bS (cA b a) tm x))=aq;rw[p];exact aJ
   ·show qn ((b[i]?).getD fM).op=aq;rw[p];exact h3
  have a7:oG (aw (fr.atR ⟨bS (cA b a) tm x,df⟩ (.inRegion b (i::rest)::k)) cs)=o:=by
   show(b[i]?).getD fM=o;rw[p];rfl
  have a2:aG (aw (fr.atR ⟨bS (cA b a) tm x,df⟩ (.inRegion b (i::rest)::k)) cs)=⟨bS (cA b a) tm x,df⟩:=rfl;refine .step rfl λtp dd=> ?_;obtain⟨r1,r2⟩:=ai tp dd;refine⟨_,Sim.re W tp dd,_,pz (v:=VN c i) am (by rw[a7,a2,ab];exact r1),aL _,λe he=> ?_,?_⟩
  ·unfold ic at he;rw[a7,a2,ab]at he;exact r2 _ e he
  ·have:bt (aw (fr.atR ⟨bS (cA b a) tm x,df⟩ (.inRegion b (i::rest)::k)) cs) (VN c i)=aw (fr.atR ⟨(bS (cA b a) tm x).setIfInBounds d (VN c i),df⟩ (.inRegion b rest::k)) cs:=by
    unfold bt;rw[a7,a2,r];rfl
   rw[this];exact a1.re (tp:=tp) (d:=dd)
 ·have:bS (cA b a) tm x=bS (cA b a) tm (xV b a c):=F8 λt ht=>by
   obtain⟨j0,ap,av⟩:=lu.1 ht;unfold xV;cases U:lz b a t with
   |none=>exact absurd av (yP U j0 ap)
   |some j=>
    obtain⟨f,s⟩:=yQ U;have:=hx j f;rw[s]at this;exact this
  rw[this];exact aF
def lr(g:aX):Nat:=match g.frame.todo with| .inRegion _ (i::_)::_=>i|_=>0
def gl:Op->aK| .load t _=>t| .store t _ _=>t| .indexAddr t _ _=>t| .box t _=>t| .alloc t=>t|_=>0
def je:Op->bC| .load _ x=>x| .store _ x _=>x| .indexAddr _ x _=>x| .box _ x=>x|_=>.tmp 0
def oc:Op->bC| .store _ _ y=>y| .indexAddr _ _ y=>y|_=>.tmp 0
noncomputable def FD(f:Nat)(a:List jH)(c:Array au)(b:List dP):Frame:={fn:=f,tmps:=c,todo:=b,defers:=a,mode:=.run,kind:=.normal}
noncomputable def FR(f:Nat)(l:Nat)(a:List jH)(c:Array au)(b:List dP):Frame:={fn:=f,tmps:=c,todo:=b,defers:=a,mode:=.run,kind:=.normal,roundOf:=ae l}
def rO:du->Array bR
 | .region _ a _=>a
 |_=> #[]
theorem dr{n m:Nat}(h:m=y+a6.toNat*n):(⟨a,y,af⟩:aH).add (a6.toNat*n)=⟨a,m,af⟩:=by rw[h,jF]
section
variable {Post:au->ak->Prop} {O:Nat->Prop} {g:aX} {w:ak} {R:BR}
theorem ay.E(a:aX)(b:ay aj Post O a w)(h:g=a:=by kernel_rfl):ay aj Post O g w:=.eqv h b
theorem ay.V(i:Nat)(v v':au)(b:v=v')(a:ay aj Post O (dL g i v') w)(h:g=dL g i v:=by kernel_rfl):ay aj Post O g w:=.val h b a
theorem ay.T(f:Nat)(a:List jH)(cs:List aC)(c:(Nat->au)->Array au)(b:List dP)(j:∀x,ay aj Post O (aw (FD f a (c x) b) cs) w)(h:g=aw (FD f a (c (xF g.frame)) b) cs:=by kernel_rfl):ay aj Post O g w:=by rw[h];exact j _
theorem ay.TR(f l:Nat)(a:List jH)(cs:List aC)(c:(Nat->au)->Array au)(b:List dP)(j:∀x,ay aj Post O (aw (FR f l a (c x) b) cs) w)(h:g=aw (FR f l a (c (xF g.frame)) b) cs:=by kernel_rfl):ay aj Post O g w:=by rw[h];exact j _
theorem ay.L(a:aH)(v:au)(b:¬O a.block)(c:w.cell? a=ae v)(j:ay aj Post O (bt g v) w)(l:g.status=.running:=by kernel_rfl)(h:dW g (lr g):=by exact bJ)(k:(oG g).op=.load (gl (oG g).op) (je (oG g).op):=by kernel_rfl)(o:(aG g).eval (je (oG g).op)=.pointer (ae a):=by kernel_rfl)(f:∀w,(mL (gl (oG g).op)).runT aj w #[]=(.ok ax w, #[]):=by(intro _;kernel_rfl)):ay aj Post O g w:=
 .ep l h k o (λw=>by rw[<-fE aj _ _ #[],f w]) b c j
theorem ay.La(a:aH)(vs:List au)(b:¬O a.block)(k:a.block<w.heap.size)(c:∀(j:Nat) u,vs[j]?=ae u->w.cell? (a.add j)=ae u)(l:ay aj Post O (bt g (.agg vs.toArray)) w)(r:∀w,(ed (gl (oG g).op)).runT aj w #[]=(.ok vs.length w, #[]):=by(intro _;kernel_rfl))(p:g.status=.running:=by kernel_rfl)(h:dW g (lr g):=by exact bJ)(o:(oG g).op=.load (gl (oG g).op) (je (oG g).op):=by kernel_rfl)(s:(aG g).eval (je (oG g).op)=.pointer (ae a):=by kernel_rfl)(f:∀w,(mL (gl (oG g).op)).runT aj w #[]=(.ok aq w, #[]):=by(intro _;kernel_rfl)):ay aj Post O g w:=
 .jd p h o s f r b k c l
theorem ay.X(a:aH)(l c:Nat)(k:Int)(n:Nat)(b:aH)(j:0<=k/\k<l)(f:a.add (k.toNat*n)=b)(o:ay aj Post O (bt g (.pointer (ae b))) w)(r:g.status=.running:=by kernel_rfl)(h:dW g (lr g):=by exact bJ)(p:(oG g).op=.indexAddr (gl (oG g).op) (je (oG g).op) (oc (oG g).op):=by kernel_rfl)(u:(aG g).eval (je (oG g).op)=.slice (ae a) l c:=by kernel_rfl)(v:(aG g).eval (oc (oG g).op)=.int .i64 k:=by kernel_rfl)
  (t:∀w,(iZ (gl (oG g).op)).runT aj w #[]=(.ok (.slice (match aj.underlying (gl (oG g).op)with|some (.slice e)=>e|_=>0)) w, #[]):=by(intro _;kernel_rfl)) (s:∀w,(ed (match aj.underlying (gl (oG g).op)with|some (.slice e)=>e|_=>0)).runT aj w #[]=(.ok n w, #[]):=by(intro _;kernel_rfl)):ay aj Post O g w:=
 .Vd r h p u v j (λw=>by rw[<-fE aj _ _ #[],t w]) (λw=>by rw[<-fE aj _ _ #[],s w]) (by rw[f];exact o)
theorem ay.S(a:aH)(v u:au)(o:v.oneCell'=aq)(b:¬O a.block)(c:w.cell? a=ae u)(s:w.frozen? a=ax)(f:ay aj Post O (bt g aN) (w.setCell a v))(k:g.status=.running:=by kernel_rfl)(h:dW g (lr g):=by exact bJ)(j:(oG g).op=.store (gl (oG g).op) (je (oG g).op) (oc (oG g).op):=by kernel_rfl)(p:(aG g).eval (je (oG g).op)=.pointer (ae a):=by kernel_rfl)(r:(aG g).eval (oc (oG g).op)=v:=by kernel_rfl)(l:∀w,(ed (gl (oG g).op)).runT aj w #[]=(.ok 1 w, #[]):=by(intro _;kernel_rfl)):ay aj Post O g w:=
 .str k h j p r o (λw=>by rw[<-fE aj _ _ #[],l w]) b c s f
theorem ay.Bx(vs:Array au)(b:Nat)(c:w.heap.size=b)(t:aK)(f:ay aj Post O (bt g (ptr b)) (w.alloc (.cells vs t)))(j:g.status=.running:=by kernel_rfl)(h:dW g (lr g):=by exact bJ)(a:∀w,(bp (aG g).eval (oG g)).runT aj w #[]=(.ok (.value (ptr w.heap.size)) (w.alloc (.cells vs t)), #[]):=by(intro _;kernel_rfl)):ay aj Post O g w:=
 .uk j h (λw=>by rw[<-fE aj _ _ #[],a w]) (λw=>congrArg tu (a w)) (by rw[c];exact f)
theorem ay.A(z:au)(t:aK)(b:Nat)(c:w.heap.size=b)(f:ay aj Post O (bt g (ptr b)) (w.alloc (.cells #[z] t)))(j:g.status=.running:=by kernel_rfl)(h:dW g (lr g):=by exact bJ)(a:∀w,(bp (aG g).eval (oG g)).runT aj w #[]=(.ok (.value (ptr w.heap.size)) (w.alloc (.cells #[z] t)), #[]):=by(intro _;kernel_rfl)):ay aj Post O g w:=
 .uk j h (λw=>by rw[<-fE aj _ _ #[],a w]) (λw=>congrArg tu (a w)) (by rw[c];exact f)
theorem ay.C(f:bW)(args:Array au)(j:(Nat->au)->aC)(cs:List aC)(k:MC Post f args O w an)(o:∀x v a c b,an v a c b->ay aj Post a (aw ((j x).finish v) cs) b)(h:g=aw (bG aj f args .normal) (j (xF (dZ g.callers))::cs):=by kernel_rfl):ay aj Post O g w:=by
 rw[h];exact k _ _ λv a c b l=>o _ v a c b l
theorem ay.AS(z v:au)(t:aK)(b:Nat)(f:w.heap.size=b)(c:¬O b)(s:v.oneCell'=aq)(j:ay aj Post O (bt (bt g (ptr b)) aN) (w.alloc (.cells #[v] t)))(o:g.status=.running:=by kernel_rfl)(h:dW g (lr g):=by exact bJ)(l:∀w,(bp (aG g).eval (oG g)).runT aj w #[]=(.ok (.value (ptr w.heap.size)) (w.alloc (.cells #[z] t)), #[]):=by(intro _;kernel_rfl))(p:(bt g (ptr b)).status=.running:=by kernel_rfl)(a:dW (bt g (ptr b)) (lr (bt g (ptr b))):=by exact bJ)(k:(oG (bt g (ptr b))).op=.store (gl (oG (bt g (ptr b))).op) (je (oG (bt g (ptr b))).op) (oc (oG (bt g (ptr b))).op):=by kernel_rfl)(u:(aG (bt g (ptr b))).eval (je (oG (bt g (ptr b))).op)=.pointer (ae ⟨b,0,af⟩):=by kernel_rfl)(x:(aG (bt g (ptr b))).eval (oc (oG (bt g (ptr b))).op)=v:=by kernel_rfl)(r:∀w,(ed (gl (oG (bt g (ptr b))).op)).runT aj w #[]=(.ok 1 w, #[]):=by(intro _;kernel_rfl)):ay aj Post O g w:=by
 subst f;refine .A z t w.heap.size rfl (.S ⟨w.heap.size,0,af⟩ v z s c ?_ ?_ ?_ p a k u x r) o h l;·unfold bL;rw[cY];rfl
 ·unfold gu;rw[cY];rfl
 ·have e:(w.alloc (.cells #[z] t)).setCell ⟨w.heap.size,0,af⟩ v=w.alloc (.cells #[v] t):=by
   rw[xg];rfl
  rw[e];exact j
end
def rI:du->Nat
 | .region id _ _=>id
 |_=>0
section
variable {O:Nat->Prop} {W:ak} {j:bC->au} {o:bR} {v:au}
theorem gz.I(h:∀w,(bp j o).runT aj w #[]=(.ok (.value v) w, #[]):=by(intro _;kernel_rfl)):gz O W j o v:=.id h
theorem gz.J(a:au)(b:a=v)(h:∀w,(bp j o).runT aj w #[]=(.ok (.value a) w, #[]):=by(intro _;kernel_rfl)):gz O W j o v:=b▸ .id h
theorem gz.D(a:aH)(b:¬O a.block)(c:W.cell? a=ae v)(h:o.op=.load (gl o.op) (je o.op):=by kernel_rfl)(k:j (je o.op)=.pointer (ae a):=by kernel_rfl)(f:∀w,(mL (gl o.op)).runT aj w #[]=(.ok ax w, #[]):=by(intro _;kernel_rfl)):gz O W j o v:=.ld h k (λw=>by rw[<-fE aj _ _ #[],f w]) b c
theorem gz.Da(a:aH)(vs:List au)(c:¬O a.block)(k:a.block<W.heap.size)(f:∀(b:Nat) u,vs[b]?=ae u->W.cell? (a.add b)=ae u)(r:v=.agg vs.toArray)(p:∀w,(ed (gl o.op)).runT aj w #[]=(.ok vs.length w, #[]):=by(intro _;kernel_rfl))(l:o.op=.load (gl o.op) (je o.op):=by kernel_rfl)(s:j (je o.op)=.pointer (ae a):=by kernel_rfl)(h:∀w,(mL (gl o.op)).runT aj w #[]=(.ok aq w, #[]):=by(intro _;kernel_rfl)):gz O W j o v:=.jd l s h p c k f r
theorem gz.X(a:aH)(l c:Nat)(k:Int)(n:Nat)(b:aH)(h:0<=k/\k<l)(f:a.add (k.toNat*n)=b)(t:v=.pointer (ae b):=by rfl)(p:o.op=.indexAddr (gl o.op) (je o.op) (oc o.op):=by kernel_rfl)(u:j (je o.op)=.slice (ae a) l c:=by kernel_rfl)(x:j (oc o.op)=.int .i64 k:=by kernel_rfl)
  (s:∀w,(iZ (gl o.op)).runT aj w #[]=(.ok (.slice (match aj.underlying (gl o.op)with|some (.slice e)=>e|_=>0)) w, #[]):=by(intro _;kernel_rfl)) (r:∀w,(ed (match aj.underlying (gl o.op)with|some (.slice e)=>e|_=>0)).runT aj w #[]=(.ok n w, #[]):=by(intro _;kernel_rfl)):gz O W j o v:=
 .ix p u x h (λw=>by rw[<-fE aj _ _ #[],s w]) (λw=>by rw[<-fE aj _ _ #[],r w]) (by rw[f];exact t)
theorem ay.Q(c:Nat)(b:List au)(k:QL O W (vH (rO p) c b s) (rO p) 0 b)(j:ay aj a7 O (aw (FD a ab (bS (cA (rO p) c) s (xV (rO p) c b)) (.inRegion (rO p) (jZ c ((rO p).size-c))::ad)) ac) W)(r:p=.region (rI p) (rO p) true:=by kernel_rfl)(l:uJ (rO p) c=true:=by kernel_rfl)(f:AI (rO p) c s.size=true:=by kernel_rfl)(h:b.length=c:=by kernel_rfl)(o:Cn (rO p) c b=true:=by kernel_rfl):ay aj a7 O (aw (FD a ab s (.code p::ad)) ac) W:=by
 have:=ay.calm (Post:=a7) (id:=rI p) (df:=ab) (fr:=FD a [] #[] []) (cs:=ac) (k:=ad) (tm:=s) (O:=O) (W:=W) b rfl l f h o rfl k j;rw[<-r]at this;exact this
theorem ay.QR(c:Nat)(b:List au)(k:QL O W (vH (rO p) c b s) (rO p) 0 b)(j:ay aj a7 O (aw (FR a y ab (bS (cA (rO p) c) s (xV (rO p) c b)) (.inRegion (rO p) (jZ c ((rO p).size-c))::ad)) ac) W)(r:p=.region (rI p) (rO p) true:=by kernel_rfl)(l:uJ (rO p) c=true:=by kernel_rfl)(f:AI (rO p) c s.size=true:=by kernel_rfl)(h:b.length=c:=by kernel_rfl)(o:Cn (rO p) c b=true:=by kernel_rfl):ay aj a7 O (aw (FR a y ab s (.code p::ad)) ac) W:=by
 have:=ay.calm (Post:=a7) (id:=rI p) (df:=ab) (fr:=FR a y [] #[] []) (cs:=ac) (k:=ad) (tm:=s) (O:=O) (W:=W) b rfl l f h o rfl k j;rw[<-r]at this;exact this
end
def jf:du->du
 | .rangeFunc _ _ _ b=>b
 |c=>c
def rfA:du->du
 | .rangeFunc _ _ a _=>a
 |c=>c
noncomputable def cQ:Code:=(Tryz.f15.body).getD .skip
def bH(v3 v4 v5 j k v10 v11 a b c f h l:au)(x:Nat->au):Array Value:= #[x 0,x 1,x 2,v3,v4,v5,x 6,j,k,x 9,v10,v11,a,b,c,f,h,x 17,x 18,x 19,x 20,x 21,x 22,x 23,x 24,x 25,x 26,x 27,x 28,x 29,x 30,x 31,x 32,x 33,x 34,x 35,x 36,x 37,x 38,x 39,x 40,x 41,x 42,x 43,x 44,x 45,x 46,x 47,x 48,x 49,x 50,x 51,x 52,x 53,x 54,x 55,x 56,x 57,x 58,x 59,x 60,x 61,x 62,x 63,x 64,x 65,x 66,x 67,x 68,x 69,x 70,x 71,x 72,x 73,x 74,x 75,x 76,x 77,x 78,x 79,x 80,x 81,l,x 83,x 84,x 85,x 86,x 87,x 88,x 89,x 90,x 91,x 92,x 93,x 94,x 95,x 96,x 97,x 98,x 99,x 100,x 101,x 102,x 103,x 104,x 105,x 106,x 107,x 108,x 109,x 110,x 111,x 112,x 113,x 114,x 115,x 116,x 117,x 118,x 119,x 120,x 121,x 122,x 123,x 124,x 125,x 126,x 127,x 128,x 129,x 130,x 131,x 132,x 133,x 134,x 135,x 136,x 137,x 138,x 139,x 140,x 141,x 142,x 143,x 144,x 145,x 146,x 147]
structure eo(O:Nat->Prop)(k b4 b5 l f r:Nat)(kd:Int)(key h:ByteArray)(u:Int)(B t:au)(A:ak):Prop where
 h3:¬O k
 h4:¬O b4
 h5:¬O b5
 c3:A.cell? ⟨k,0,af⟩=ae (ptr l)
 sn:A.cell? ⟨b4,0,af⟩=ae (ptr f)
 yg:A.cell? ⟨b4,1,af⟩=ae (ptr r)
 o0:A.cell? ⟨b5,0,af⟩=ae (.int .i64 kd)
 o3:A.cell? ⟨b5,3,af⟩=ae (.string key)
 o4:A.cell? ⟨b5,4,af⟩=ae (.string h)
 o5:A.cell? ⟨b5,5,af⟩=ae (.int .i64 u)
 o7:A.cell? ⟨b5,7,af⟩=ae B
 o8:A.cell? ⟨b5,8,af⟩=ae t
theorem eo.on{O l:Nat->Prop}{b4 b5:Nat}(h:eo O a b4 b5 y U a8 a6 aa ai ao a1 ap Z)(j:∀b,b=a\/b=b4\/b=b5->al.heap[b]?=Z.heap[b]?/\¬l b):eo l a b4 b5 y U a8 a6 aa ai ao a1 ap al:=by
 have p:=j a (.inl rfl);have k:=j b4 (.inr (.inl rfl));have f:=j b5 (.inr (.inr rfl));have c:∀{b o v},al.heap[b]?=Z.heap[b]?->Z.cell? ⟨b,o,af⟩=ae v->al.cell? ⟨b,o,af⟩=ae v:=λe h=>(gV (a:=⟨_,_,af⟩) e).trans h;exact⟨p.2,k.2,f.2,c p.1 h.c3,c k.1 h.sn,c k.1 h.yg,c f.1 h.o0,c f.1 h.o3,c f.1 h.o4,c f.1 h.o5,c f.1 h.o7,c f.1 h.o8⟩
theorem eo.cv{O:Nat->Prop}{b4 b5:Nat}(h:eo O a b4 b5 y U a8 a6 aa ai ao a1 ap Z)(b:aO Z al):eo O a b4 b5 y U a8 a6 aa ai ao a1 ap al:=⟨h.h3,h.h4,h.h5,b.cell h.c3,b.cell h.sn,b.cell h.yg,b.cell h.o0,b.cell h.o3,b.cell h.o4,b.cell h.o5,b.cell h.o7,b.cell h.o8⟩
theorem dw(w:ak)(o:dV):aO w (w.alloc o):=⟨az,λb a=>xu w o a,rfl,rfl⟩
def opC(a on H:Int)(key h:ByteArray)(u:Int)(N B t:au):Array Value:= #[.int .i64 a,.int .i64 on,.int .i64 H,.string key,.string h,.int .i64 u,N,B,t]
def lS(W:ak)(l f r:Nat)(op:Array au):World:=((W.alloc (.cells #[ptr l] 25)).alloc (.cells #[ptr f,ptr r] 42)).alloc (.cells op 39)
theorem KZ{O:Nat->Prop}:MC a7 27 #[ptr a,.string aa,.string ai] O Z λv b j f=>v=.func (.func 42) #[] #[ptr Z.heap.size,ptr (Z.heap.size+1),ptr (Z.heap.size+2)]/\b=O/\f=im Z a aa ai:=λc cs h=>KN (h _ O (λ_ _=>False) _ ⟨rfl,rfl,rfl⟩)
theorem Y5{O:Nat->Prop}:MC a7 28 #[ptr a,.string aa] O Z λv b j f=>v=.func (.func 44) #[] #[ptr Z.heap.size,ptr (Z.heap.size+1)]/\b=O/\f=pY Z a aa:=λc cs h=>WM (h _ O (λ_ _=>False) _ ⟨rfl,rfl,rfl⟩)
theorem AE(w:ak)(f:Nat)(a to:ByteArray):aO w (im w f a to):=((dw _ _).trans (dw _ _)).trans (dw _ _)
section
variable {Post:au->ak->Prop} {O:Nat->Prop} {R:BR} {W A:ak} {k b4 b5 l f r:Nat} {on H:Int} {key h:ByteArray} {u:Int} {N B t:au} {c:aC} {cs:List aC} {x:Nat->au}
noncomputable def qh:List Item:=[.code (cd [1,1,1,1,0,1,2,2] cQ),.inLoop (cd [1,1,1,1,0,1,2,2] cQ),.inBlock 0,.code (cd [1,1,1,1,1] cQ)]
noncomputable def oU:List Item:=[.code (cd [1,1,1,1,1,0,1,2,2] cQ),.inLoop (cd [1,1,1,1,1,0,1,2,2] cQ),.inBlock 2,.code (cd [1,1,1,1,1,1] cQ)]
theorem Wc(j:W.heap.size=k)(e4:k+1=b4)(e5:b4+1=b5)(a:eo O k b4 b5 l f r 6 key h u B t (lS W l f r (opC 6 on H key h u N B t)))(w:∀x,ay aj Post O (aw (FD 15 [] (bH (ptr k) (ptr b4) (ptr b5) (.func (.func 42) #[] #[ptr (b5+1),ptr (b5+1+1),ptr (b5+1+2)]) (.int .i64 ((0:Nat):Int)) (x 10) (x 11) (x 12) (x 13) (x 14) (x 15) (x 16) (x 82) x) qh) (c::cs)) (im (lS W l f r (opC 6 on H key h u N B t)) f key h)):ay aj Post O (aw (bG aj 15 #[ptr l,.agg #[ptr f,ptr r],.agg (opC 6 on H key h u N B t)] .normal) (c::cs)) W:=by
 have p:W.heap.size=k:=j;have s:(W.alloc (.cells #[ptr l] 25)).heap.size=b4:=by rw[dh];omega
 have v:((W.alloc (.cells #[ptr l] 25)).alloc (.cells #[ptr f,ptr r] 42)).heap.size=b5:=by rw[dh];omega
 have b:(((W.alloc (.cells #[ptr l] 25)).alloc (.cells #[ptr f,ptr r] 42)).alloc (.cells (opC 6 on H key h u N B t) 39)).heap.size=b5+1:=by rw[dh];omega
 have a1:(im (((W.alloc (.cells #[ptr l] 25)).alloc (.cells #[ptr f,ptr r] 42)).alloc (.cells (opC 6 on H key h u N B t) 39)) f key h).heap.size=b5+4:=by
  unfold im;simp only[dh]at b⊢;omega
 refine .K 2 ?_;refine .Bx #[ptr l] k p 25 ?_;refine .Bx #[ptr f,ptr r] b4 s 42 ?_;refine .Bx (opC 6 on H key h u N B t) b5 v 39 ?_;refine .K 5 ?_;refine .L ⟨b4,0,af⟩ (ptr f) a.h4 a.sn ?_;refine .K 1 ?_;refine .L ⟨b5,3,af⟩ (.string key) a.h5 a.o3 ?_;refine .K 1 ?_;refine .L ⟨b5,4,af⟩ (.string h) a.h5 a.o4 ?_;refine .K 1 ?_;refine .C 27 #[ptr f,.string key,.string h] (λx=>FD 15 [] (bH (ptr k) (ptr b4) (ptr b5) (x 7) (x 8) (x 10) (x 11) (x 12) (x 13) (x 14) (x 15) (x 16) (x 82) x) [.inRegion (rO (cd [1,0] cQ)) [6,7],.code (cd [1,1] cQ)]) (c::cs) KZ λx a2 R U Z y=> ?_;obtain⟨rfl,rfl,rfl⟩:=y;rw[b];refine .K 5 ?_;have o:aO (lS W l f r (opC 6 on H key h u N B t)) (im (lS W l f r (opC 6 on H key h u N B t)) f key h):=AE _ _ _ _;refine .K 1 ?_;refine .L ⟨b5,0,af⟩ (.int .i64 6) a.h5 (o.cell a.o0) ?_;refine .K 19 ?_;exact .T 15 [] (c::cs) (λx=>bH (ptr k) (ptr b4) (ptr b5) (.func (.func 42) #[] #[ptr (b5+1),ptr (b5+1+1),ptr (b5+1+2)]) (.int .i64 0) (x 10) (x 11) (x 12) (x 13) (x 14) (x 15) (x 16) (x 82) x) qh w
theorem We(w:W.heap.size=k)(e4:k+1=b4)(e5:b4+1=b5)(a:eo O k b4 b5 l f r 7 key h u B t (lS W l f r (opC 7 on H key h u N B t)))(Z:∀x,ay aj Post O (aw (FD 15 [] (bH (ptr k) (ptr b4) (ptr b5) (.func (.func 44) #[] #[ptr (b5+4),ptr (b5+4+1)]) (.int .i64 ((0:Nat):Int)) (x 10) (x 11) (x 12) (x 13) (x 14) (x 15) (x 16) (x 82) x) qh) (c::cs)) (pY (im (lS W l f r (opC 7 on H key h u N B t)) f key h) f key)):ay aj Post O (aw (bG aj 15 #[ptr l,.agg #[ptr f,ptr r],.agg (opC 7 on H key h u N B t)] .normal) (c::cs)) W:=by
 have y:W.heap.size=k:=w;have R:(W.alloc (.cells #[ptr l] 25)).heap.size=b4:=by rw[dh];omega
 have U:((W.alloc (.cells #[ptr l] 25)).alloc (.cells #[ptr f,ptr r] 42)).heap.size=b5:=by rw[dh];omega
 have o:(((W.alloc (.cells #[ptr l] 25)).alloc (.cells #[ptr f,ptr r] 42)).alloc (.cells (opC 7 on H key h u N B t) 39)).heap.size=b5+1:=by rw[dh];omega
 have a1:(im (((W.alloc (.cells #[ptr l] 25)).alloc (.cells #[ptr f,ptr r] 42)).alloc (.cells (opC 7 on H key h u N B t) 39)) f key h).heap.size=b5+4:=by
  unfold im;simp only[dh]at o⊢;omega
 refine .K 2 ?_;refine .Bx #[ptr l] k y 25 ?_;refine .Bx #[ptr f,ptr r] b4 R 42 ?_;refine .Bx (opC 7 on H key h u N B t) b5 U 39 ?_;refine .K 5 ?_;refine .L ⟨b4,0,af⟩ (ptr f) a.h4 a.sn ?_;refine .K 1 ?_;refine .L ⟨b5,3,af⟩ (.string key) a.h5 a.o3 ?_;refine .K 1 ?_;refine .L ⟨b5,4,af⟩ (.string h) a.h5 a.o4 ?_;refine .K 1 ?_;refine .C 27 #[ptr f,.string key,.string h] (λx=>FD 15 [] (bH (ptr k) (ptr b4) (ptr b5) (x 7) (x 8) (x 10) (x 11) (x 12) (x 13) (x 14) (x 15) (x 16) (x 82) x) [.inRegion (rO (cd [1,0] cQ)) [6,7],.code (cd [1,1] cQ)]) (c::cs) KZ λx a2 p s v j=> ?_;obtain⟨rfl,rfl,rfl⟩:=j;rw[o];refine .K 5 ?_;have b:aO (lS W l f r (opC 7 on H key h u N B t)) (im (lS W l f r (opC 7 on H key h u N B t)) f key h):=AE _ _ _ _;refine .K 1 ?_;refine .L ⟨b5,0,af⟩ (.int .i64 7) a.h5 (b.cell a.o0) ?_;refine .K 5 ?_;refine .L ⟨b4,0,af⟩ (ptr f) a.h4 (b.cell a.sn) ?_;refine .K 1 ?_;refine .L ⟨b5,3,af⟩ (.string key) a.h5 (b.cell a.o3) ?_;refine .K 1 ?_;refine .C 28 #[ptr f,.string key] (λx=>FD 15 [] (bH (ptr k) (ptr b4) (ptr b5) (.func (.func 42) #[] #[ptr (b5+1),ptr (b5+1+1),ptr (b5+1+2)]) (x 8) (x 10) (x 11) (x 12) (x 13) (x 14) (x 15) (x 16) (x 82) x) [.inRegion (rO (cd [1,1,0,1,3] cQ)) [4,5],.code (cd [1,1,1] cQ)]) (c::cs) Y5 λx a2 p s v j=> ?_;obtain⟨rfl,rfl,rfl⟩:=j;rw[a1];refine .K 17 ?_;exact .T 15 [] (c::cs) (λx=>bH (ptr k) (ptr b4) (ptr b5) (.func (.func 44) #[] #[ptr (b5+4),ptr (b5+4+1)]) (.int .i64 0) (x 10) (x 11) (x 12) (x 13) (x 14) (x 15) (x 16) (x 82) x) qh Z
end
section
variable {Post:au->ak->Prop} {O:Nat->Prop} {R:BR} {W A:ak} {k b4 b5 l f r:Nat} {on H:Int} {key h:ByteArray} {u:Int} {N B t:au} {c:aC} {cs:List aC} {x:Nat->au}
theorem Wa{i:Nat}{vs:List au}(b:eo O k b4 b5 l f r a6 key h u (.slice (ae ⟨a,y,af⟩) U a8) t A)(hi:i<U)(hl:U<=9223372036854775807)(W:¬O a)(a7:a<A.heap.size)(a2:vs.length=9)(Z:∀(j:Nat) p,vs[j]?=ae p->A.cell? ((⟨a,y+i*9,af⟩:aH).add j)=ae p)(R:MC Post 22 #[ptr l,.agg vs.toArray] O A an)(w:∀v o s B,an v o s B->v=.bool aq/\∀x,ay aj Post o (aw (FD 15 [] (bH (ptr k) (ptr b4) (ptr b5) a1 (.int .i64 ((i+1:Nat):Int)) (x 10) (x 11) (x 12) (x 13) (x 14) (x 15) (x 16) (x 82) x) qh) (c::cs)) B):ay aj Post O (aw (FD 15 [] (bH (ptr k) (ptr b4) (ptr b5) a1 (.int .i64 (i:Int)) (x 10) (x 11) (x 12) (x 13) (x 14) (x 15) (x 16) (x 82) x) qh) (c::cs)) A:=by
 have N:cZ.wrap ((i:Int)+1)=((i+1:Nat):Int):=by rw[ft];omega
 refine .K 5 ?_;refine .L ⟨b5,7,af⟩ (.slice (ae ⟨a,y,af⟩) U a8) b.h5 b.o7 ?_;refine .K 2 ?_;refine .V 38 (.bool (aM ((i:Int)<(U:Int)))) (.bool aq) (by rw[decide_eq_true ag]) ?_;refine .K 6 ?_;refine .T 15 [] (c::cs) (λx=>bH (ptr k) (ptr b4) (ptr b5) a1 (.int .i64 (i:Int)) (x 10) (x 11) (x 12) (x 13) (x 14) (x 15) (x 16) (x 82) x) [.code (cd [1,1,1,1,0,1,2,2,1,0,2,0] cQ),.code (cd [1,1,1,1,0,1,2,2,1,0,2,1] cQ),.inBlock 1,.code (cd [1,1,1,1,0,1,2,2,1,1] cQ),.inLoop (cd [1,1,1,1,0,1,2,2] cQ),.inBlock 0,.code (cd [1,1,1,1,1] cQ)] λx=> ?_;refine .Q 6 [ptr l,.pointer (ae ⟨b5,7,af⟩),.slice (ae ⟨a,y,af⟩) U a8,.int .i64 (i:Int),.pointer (ae ⟨a,y+i*9,af⟩),.agg vs.toArray] ⟨.D ⟨k,0,af⟩ b.h3 b.c3,.I,.D ⟨b5,7,af⟩ b.h5 b.o7,.I,.X ⟨a,y,af⟩ U a8 (i:Int) 9 ⟨a,y+i*9,af⟩ ⟨ag,ag⟩ (dr ag),.Da ⟨a,y+i*9,af⟩ vs W a7 Z rfl (Gn a2),trivial⟩ ?_;refine .K 1 ?_;refine .C 22 #[ptr l,.agg vs.toArray] (λx=>FD 15 [] (bH (ptr k) (ptr b4) (ptr b5) a1 (.int .i64 (i:Int)) (x 10) (x 11) (x 12) (x 13) (x 14) (x 15) (x 16) (x 82) x) [.inRegion (rO (cd [1,1,1,1,0,1,2,2,1,0,2,0] cQ)) [6,7],.code (cd [1,1,1,1,0,1,2,2,1,0,2,1] cQ),.inBlock 1,.code (cd [1,1,1,1,0,1,2,2,1,1] cQ),.inLoop (cd [1,1,1,1,0,1,2,2] cQ),.inBlock 0,.code (cd [1,1,1,1,1] cQ)]) (c::cs) R λx p o s H hu=> ?_;obtain⟨rfl,w⟩:=w p o s H hu;refine .K 13 ?_;refine .V 40 (.int .i64 (cZ.wrap ((i:Int)+1))) (.int .i64 ((i+1:Nat):Int)) (by rw[N]) ?_;refine .K 3 ?_;exact .T 15 [] (c::cs) (λx=>bH (ptr k) (ptr b4) (ptr b5) a1 (.int .i64 ((i+1:Nat):Int)) (x 10) (x 11) (x 12) (x 13) (x 14) (x 15) (x 16) (x 82) x) qh w
theorem W9{b:Option aH}{i:Nat}(j:eo O k b4 b5 l f r a6 key h u (.slice b a y) t A)(v:¬i<a)(p:A.heap.size=U)(o:¬O U)(s:∀x,ay aj Post O (aw (FD 15 [] (bH (ptr k) (ptr b4) (ptr b5) a1 (x 8) (ptr U) (x 11) (x 12) (x 13) (x 14) (x 15) (x 16) (x 82) x) oU) (c::cs)) (A.alloc (.cells #[.int .i64 0] 3))):ay aj Post O (aw (FD 15 [] (bH (ptr k) (ptr b4) (ptr b5) a1 (.int .i64 (i:Int)) (x 10) (x 11) (x 12) (x 13) (x 14) (x 15) (x 16) (x 82) x) qh) (c::cs)) A:=by
 refine .K 5 ?_;refine .L ⟨b5,7,af⟩ (.slice b a y) j.h5 j.o7 ?_;refine .K 2 ?_;refine .V 38 (.bool (aM ((i:Int)<(a:Int)))) (.bool ax) (by rw[decide_eq_false ag]) ?_;refine .K 6 ?_;refine .AS (.int .i64 0) (.int .i64 0) 3 U p o rfl ?_;refine .K 3 ?_;exact .T 15 [] (c::cs) (λx=>bH (ptr k) (ptr b4) (ptr b5) a1 (x 8) (ptr U) (x 11) (x 12) (x 13) (x 14) (x 15) (x 16) (x 82) x) oU s
end
