/- Own texts: FwN, FwO, FwP, FwQ, FwR, FwS. -/
import Derived.Test.YtcgjppacnhmjlaaGreatMS
import Derived.Laws.MakeOwn
set_option linter.all false
set_option maxRecDepth 100000
open Array renaming getElem?_eq_some_iff->cq,getElem?_modify->fV,getElem?_eq_getElem->jV,mem_of_getElem?->lH,getD_eq_getD_getElem?->sM,ext_getElem?->rK,getElem?_eq_none->zC
open Array.mk renaming injEq->H7
open Bool renaming true->aq,false->ax
open Classical renaming byContradiction->pC,choose->l6,choose_spec->uS
open Decidable renaming decide->aM
open False renaming elim->aK4
open Go renaming World->ak,Value->au,Frame->aC,Goroutine->aX,Calls->aE,TypeId->aK,Program->aV,Addr->aH,undef->aN,Operand->bC,execOp->bp,stepG->aZ,FuncId->bW,Event->bX,sizeOf->ed,Oper->bR,results->ga,madeCells->kg,Code->du,run_underlying->ta,IntKind->mK,TypeInfo->qI,sameLayout->xN,liesAt->pK,typeInfo->vg,isAgg->mL,asIntOf->tx,Obj->dV,unwind->rY,newRow->rZ,doReturn->xP,zeroValue->Ac,askRoom->xS,rowAt->tA,roomBytes->I0,asInt->Ai
open Go.Addr renaming add->vf
open Go.Conc renaming aside_setCell->mG,listed->ic
open Go.Frame renaming enter->bG
open Go.GStep renaming after->jG
open Go.Instr renaming makeSlice->zR
open Go.IntKind renaming i64->cZ,wrap_i64->ft
open Go.MemAct renaming ofEvent->fD,touch?->mF
open Go.Proofs.Tryz renaming prog->aj,func90->D6,sizeOf3->ON,f90->HY,sizeOf102->aC8,f73->Pp,isAgg102->aD6
open Go.Result renaming evThen->te
open Go.Sem renaming runT_fst->fE,runT_eq->nE
open Go.Value renaming slice->iM
open Go.World renaming block_lt_of_cell?->cC,cell?->bL,setCell->eK,frozen?->gu
open Iff renaming rfl->xR
open Int renaming toNat_natCast->H4,natCast_mul->aC7,le_refl->aK7
open List renaming getElem?_eq_getElem->bf,getElem?_eq_some_iff->cu,mem_of_getElem?->cG,length_eq_zero_iff->kY,getElem?_map->iI,length_map->sY
open List.cons renaming injEq->CJ
open Nat renaming le_refl->aL,le_trans->bT,zero_le->fL,mul_one->tj,add_assoc->CU,mul_comm->aH2
open Option renaming some->ae,none->af,map_eq_some_iff->ji
open Option.some renaming inj->er,injEq->iY
open Prod renaming fst->Po
namespace Go.Proofs.YtcgjppacnhmjlaaGreat
open Go Go.Conc Go.ConcN Go.Conc.Lib Go.ConcR.Gen
open Go.ConcR (KK wgBlock WgAt stA smA rd wr mk Payload DC0)
namespace Sim
variable {aa:ByteArray} {f:au} {b h U:Nat} {a8:bW->Prop} {W:BR} {Z:aK} {l:ak} {a6:Array au} {B:aC} {ab:List aC} {H a7:Nat->Prop} {s:qI}
section
variable {V:aK->Prop} {N:Nat} {G:bW->Prop} {R:BR} {S:Nat->Nat->Prop} {w w':ak} {Sl Sr:Nat->Prop}
theorem ar1(h:VR G R (.string aa) f):f=.string aa:=by cases h;rfl
theorem GC{k:mK}{n:Int}(h:VR G R (.int k n) f):f=.int k n:=by cases h;rfl
theorem GD(h:VR G R (.pointer af) f):f=.pointer none:=by cases h;rfl
theorem Ci(h:VR G R (.pointer (ae ⟨b,0,af⟩)) f):∃c,R b c/\f=.pointer (ae ⟨c,0,af⟩):=by
 cases h with
 |@ptr a p h=>
  obtain⟨c,o,r⟩:=p;obtain⟨j,k,l⟩:=h;dsimp only at j k l;subst k l;exact⟨c,j,rfl⟩
theorem ar0(a:VR G R (.slice af b h) f):f=.slice af b h:=by cases a;rfl
theorem aq9{c:Nat}(k:VR G R (.slice (ae ⟨b,h,af⟩) U c) f):∃j,R b j/\f=.slice (ae ⟨j,h,af⟩) U c:=by
 cases k with
 |@slice a r U c k=>
  obtain⟨j,s,t⟩:=r;obtain⟨l,o,p⟩:=k;dsimp only at l o p;subst o p;exact⟨j,l,rfl⟩
theorem sL(c:WR V N G R S w w')(k:R b h)(j:w.cell? ⟨b,U,af⟩=ae f):∃a,w'.cell? ⟨h,U,af⟩=ae a/\VR G R f a:=c.cell (a:=⟨b,U,af⟩) (a':=⟨h,U,af⟩) ⟨k,rfl,rfl⟩ j
theorem at8{n:Nat}{y:Option aH}(p:WR V N G R S w w')(hS:∀i,¬S b i)(r:R b h)(j:lP Sl w b aa y f n)(a6:Sr h):∃l B,lP Sr w' h aa l B n/\VR G R (.pointer y) (.pointer l)/\VR G R f B:=by
 obtain⟨o,o',H,U,W⟩:=p.blk b h r;rw[j.blk]at H;cases H;obtain⟨v0,s,r0⟩:=sL p r j.c0;obtain⟨v1,t,x⟩:=sL p r j.c1;obtain⟨v2,u,r2⟩:=sL p r j.c2;obtain⟨v3,v,r3⟩:=sL p r j.c3;obtain rfl:=ar1 r0;obtain rfl:=GC r3;unfold node at W;cases W with
 |@cells c c' e a8 f' a1 a2 a3 a4=>
  obtain⟨rfl,a7⟩:=a3 hS;have hp:∃l,v1=.pointer l:=by
   cases y with
   |none=>exact⟨af,GD x⟩
   |some a=>
    cases x with
    |@ptr a Z _=>exact⟨ae Z,rfl⟩
  obtain⟨l,rfl⟩:=hp;refine⟨l,v2,⟨a6,?_,j.short⟩,x,r2⟩;rw[U];unfold node;congr 2;simp only[bL,U]at s t u v;simp at s t u v;apply rK;intro i
  match i with
  |0=>simpa using s
  |1=>simpa using t
  |2=>simpa using u
  |3=>simpa using v
  |k+4=>
   rw[zC (by rw[a7];simp),zC az]
theorem at9{v:Int}(c:WR V N G R S w w')(j:R b h)(f:w.cell? ⟨b,0,af⟩=ae (.int .i64 v)):w'.cell? ⟨h,0,af⟩=ae (.int .i64 v):=by
 obtain⟨v0,a,k⟩:=sL c j f;obtain rfl:=GC k;exact a
open Classical in
theorem GI(h:WR V N G R S w w')(hS:∀b,Sl b->∀i,¬S b i)(x:∀b j,R b j->Sl b->Sr j):∀(n:Nat){b j:Nat} {l:List KV},R b j->aY Sl n w b l->aY Sr n w' j l
 |0,_,_,_,_,hR=>hR.elim
 |n+1,b,j,l,hr,⟨pre,vp,bv,y,cs,xs,gs,B,hO,a7,hl,hC,hs⟩=>by
  obtain⟨W,aa,a1,r1,r2⟩:=at8 (Sr:=Sr) h (hS b B.iS) hr B (x b j hr B.iS);have a2:jK Sr w' W y:=by
   cases y with
   |none=>
    have e:vp=none:=hO;subst e;have:=GD r1;cases this;rfl
   |some v=>
    obtain⟨vb,o1,rfl,o3⟩:=hO;obtain⟨a8,t,U⟩:=Ci r1;cases U;exact⟨a8,x _ _ t o1,rfl,at9 h t o3⟩
  rcases a7 with⟨rfl,rfl⟩|⟨k,o,cap,k1,rfl,k3,k4,k5,k6⟩
  ·have:=ar0 r2;subst this;exact⟨pre,W,_,y,[],xs,gs,a1,a2,.inl ⟨rfl,rfl⟩,hl,λi c g p=>by simp at p,hs⟩
  ·obtain⟨H,t,U⟩:=aq9 r2;subst U;have ex:∀(i c:Nat),cs[i]?=ae c->∃a,R c a/\w'.cell? ⟨H,o+i,af⟩=ae (.pointer (ae ⟨a,0,af⟩)):=by
    intro i c r;obtain⟨v0,e0,r0⟩:=sL h t (k5 i c r);obtain⟨a,s1,s2⟩:=Ci r0;subst s2;exact⟨a,s1,e0⟩
   let f:Nat->Nat:=λc=>if s:∃a,R c a then l6 s else 0
   have hf:∀{c a:Nat},R c a->f c=a:=by
    intro c a hc;have s:∃a,R c a:=⟨a,hc⟩;have e:f c=l6 s:=dif_pos s;rw[e];exact h.dC.fn c _ _ (uS s) hc
   have a6:∀(i a:Nat),(cs.map f)[i]?=ae a->∃c,cs[i]?=ae c/\R c a/\w'.cell? ⟨H,o+i,af⟩=ae (.pointer (ae ⟨a,0,af⟩)):=by
    intro i a r;rw[iI,ji]at r;obtain⟨c,p,u⟩:=r;obtain⟨d,Z,d2⟩:=ex i c p;rw[hf Z]at u;subst u;exact⟨c,p,Z,d2⟩
   refine⟨pre,W,_,y,cs.map f,xs,gs,a1,a2,.inr ⟨H,o,cap,x _ _ t k1,by rw[sY],by rw[sY];exact k3,k4,λi a r=>(a6 i a r).choose_spec.2.2,by simpa using k6⟩,by rw[sY];exact hl,λi a g p u=> ?_,hs⟩;obtain⟨c,c1,c2,_⟩:=a6 i a p;exact GI h hS x n c2 (hC i c g c1 u)
theorem aq8(y:∀r,G r->a8 r)(w:∀a b,R a b->W b b){j:au}(h:VR G R f j):VR a8 W j j:=by
 have arr:∀{u p:Array au},u.size=p.size->(∀(i:Nat) f j,u[i]?=ae f->p[i]?=ae j->VR a8 W j j)->∀(i:Nat) f j,p[i]?=ae f->p[i]?=ae j->VR a8 W f j:=by
  intro u p N t i f j o v;rw[o]at v;cases v;have H:i<u.size:=by rw[N];exact(cq.1 o).1
  exact t i _ _ (jV H) o
 induction h with
 |bool b=>exact .bool b
 |int k n=>exact .int k n
 |string s=>exact .string s
 |pnil=>exact .pnil
 |@ptr a a' h=>exact .ptr ⟨w _ _ h.1,rfl,rfl⟩
 |snil l c=>exact .snil l c
 |slice l c h=>exact .slice l c ⟨w _ _ h.1,rfl,rfl⟩
 |func r B o _ x _ U Z=>exact .func r (y r B) rfl (arr o U) rfl (arr x Z)
 |nilFunc=>exact .nilFunc
 |anyN=>exact .anyN
 |agg o _ t=>exact .agg rfl (arr o t)
 |tuple o _ t=>exact .tuple rfl (arr o t)
theorem Qj{p:aK->Prop}(w:∀f,G f->a8 f)(H:∀u,V u->p u)(k:∀b h,R b h->W h h){o l:dV}(B:∀j,¬S b j)(r:kl V G R S b o l):kl p a8 W (λ_ _=>False) h l l:=by
 cases r with
 |@cells c Z e f f' a h2 t h4=>
  obtain⟨_,U⟩:=t B;refine .cells ⟨aL _,λi v v' x y=> ?_⟩ (λ_=>.inl rfl) (λ_=>⟨rfl,rfl⟩) (λi x=>x.elim);rw[x]at y;cases y;have N:i<c.size:=by rw[<-U];exact(cq.1 x).1
  exact aq8 w k (a.2 i _ _ (jV N) x)
 |number a _=>exact .number ⟨k _ _ a.1,rfl,rfl⟩ λ_=>id
 |view s a _=>exact .view (H _ s) ⟨k _ _ a.1,rfl,rfl⟩ λ_=>id
end
theorem ap7{p:aV}{d:TypeDesc}(h:p.underlying Z=ae d):(p.info? (p.underlyingId Z)).map (·.desc)=ae d:=by
 unfold Program.underlying at h;unfold Program.underlyingId;split at h;·rename_i a;simp only[a];exact h
 ·rename_i a b;split
  ·rename_i c;rw[b]at c;cases c;exact(a _ _ _ _ _ _ _ _ _ _ _ rfl).elim
  ·rw[b];exact h
 ·cases h
theorem ag8{fits:aK->Bool}(b:fits 9=ax)(a:fits 3=ax):∀(t:aK),t=9\/t=3->∀d c off n,tA aj fits d t c off n=false:=by
 intro t f d c off n;cases d with
 |zero=>rfl
 |succ d=>
  unfold tA;rcases f with rfl|rfl
  ·have e:aj.underlying 9=ae .string:=ah;simp[e,b]
  ·have e:aj.underlying 3=ae (.int .i64):=ah;simp[e,a]
theorem Yq:¬mN aj 103:=by
 rintro⟨c,off,e,n,l,j⟩;have p:=ap7 l;have ne:∀t,(aj.info? t).map (·.desc)≠ae (.int .u8)->(t==aj.underlyingId e)=false:=λt y=>by
  rw[beq_eq_false_iff_ne];intro h;rw[<-h]at p;exact y p
 have k:∀d,xN aj d 103 e=ax/\xN aj d 9 e=ax/\xN aj d 3 e=false:=by
  intro d;cases d with
  |zero=>exact⟨rfl,rfl,rfl⟩
  |succ d=>
   have B:aj.underlyingId 103=45:=ah;have H:aj.underlyingId 9=9:=ah;have i3:aj.underlyingId 3=3:=ah;have N:=ne 45 (λh=>by
                  have:(match (aj.info? 45).map (·.desc)with|some (.struct _)=>aq|_=>ax)=true:=ah;rw[h]at this;cases this)
   have R:=ne 9 (λh=>by
                  have:(match (aj.info? 9).map (·.desc)with|some .string=>aq|_=>ax)=true:=ah;rw[h]at this;cases this)
   have U:=ne 3 (λh=>by
                  have:(match (aj.info? 3).map (·.desc)with|some (.int .i64)=>aq|_=>ax)=true:=ah;rw[h]at this;cases this)
   have b:∃a,aj.underlying 103=ae (.struct a):=⟨match aj.underlying 103 with|some (.struct a)=>a|_=> #[],ah⟩;have r:aj.underlying 9=ae .string:=ah;have s:aj.underlying 3=ae (.int .i64):=ah;obtain⟨a,b⟩:=b;unfold xN;rw[B,H,i3,N,R,U,b,r,s,l];exact⟨rfl,rfl,rfl⟩
 have hF:(match aj.underlying 103 with|some (.struct a)=>a|_=> #[]).all (λf=>f.type==9||f.type==3)=true:=ah;have b:aj.underlying 103=ae (.struct (match aj.underlying 103 with|some (.struct a)=>a|_=> #[])):=ah;generalize (match aj.underlying 103 with|some (.struct a)=>a|_=> #[])=F at hF b;have x:∀d,tA aj (xN aj aj.depth · e) d 103 c off n=false:=by
  intro d;cases d with
  |zero=>rfl
  |succ d=>
   unfold tA;have:F.any (λf=>aM (f.offset<=off%aj.cellsOf 103)&&aM (off%aj.cellsOf 103<f.offset+aj.cellsOf f.type)&&tA aj (xN aj aj.depth · e) d f.type 1 (off%aj.cellsOf 103-f.offset) n)=false:=by
    rw[Array.any_eq_false'];intro f w;have u:=Array.all_eq_true'.1 hF f w;have v:f.type=9\/f.type=3:=by simpa using u
    rw[ag8 (fits:=(xN aj aj.depth · e)) (k _).2.1 (k _).2.2 f.type v];simp
   simp only[b,this,(k _).1,Bool.and_false,Bool.or_false,ite_self]
 cases o:aj.depth with
 |zero=>rw[o]at j;cases j
 |succ d=>
  rw[o]at j;unfold pK at j;rw[x,l]at j;cases j
noncomputable abbrev Xm:Ctx:=ctx aj fj aq [71]
def j7(v:au)(b:Nat):Prop:=∃o l c,v=.slice (ae ⟨b,o,af⟩) l c
def qR(part:Nat->Prop)(ps:List PP)(h f:au)(M:Nat->Prop)(w:ak):Prop:=
 f=.int .i64 (pe ps)/\∃n c,h=.pointer c/\bD M n w c (pl ps)/\∃D:Nat->Prop,(∀b,D b->M b)/\(∀t,c=ae t->D t.block)/\∀b,D b->∃o,w.heap[b]?=ae o/\kl Xm.vw Xm.G (λa b=>a=b/\(D a\/part a)) (λ_ _=>False) b o o
theorem qR.bK{part:Nat->Prop}{ps:List PP}:∀(c a:au)(M:Nat->Prop) (w r:ak),(∀b,M b->r.heap[b]?=w.heap[b]?)->qR part ps c a M w->qR part ps c a M r:=by
 rintro c a M w r j ⟨s,n,N,u,v,D,f,l,p⟩;refine⟨s,n,N,u,?_,D,f,l,λb k=> ?_⟩
 ·rcases v with h|⟨t,x,y⟩;·exact .inl h
  ·exact .inr ⟨t,x,y.frame j⟩
 ·obtain⟨o,B,H⟩:=p b k;exact⟨o,(j b (f b k)).trans B,H⟩
theorem Uz:∀f,nj.contains f=aq->fj.contains f=true:=by
 intro f a;have h:f∈nj:=by simpa using a
 have key:∀g∈nj,fj.contains g=true:=bc;exact key f h
noncomputable abbrev Xw:Ctx:=ctx aj nj ax []
theorem GJ:Xw.vw=λ_=>False:=by
 funext u;simp[ctx]
theorem au0:∀u,Xw.vw u->gP Xw.P u:=λu h=>by rw[GJ]at h;exact h.elim
section
variable {p:Wp} {w:ak} {Q:(Nat->Prop)->aX->ak->Prop}
def pZ(w:ak)(k:Nat)(c:Array au)(e:aK):World:={w with heap:=w.heap.setIfInBounds k (.cells c e (0,c.size))}
theorem Ul(w:ak)(k:Nat)(c:Array au)(e:aK):(pZ w k c e).heap.size=w.heap.size:=by simp[pZ]
theorem AX(h:b<l.heap.size):(pZ l b a6 Z).heap[b]?=ae (.cells a6 Z (0,a6.size)):=by simp[pZ,h]
theorem JE{j:Nat×Nat}(a:l.heap[b]?=ae (.cells a6 Z j))(c:l.cell? ⟨b,h,af⟩=ae f):(pZ l b a6 Z).cell? ⟨b,h,af⟩=ae f:=by
 simp only[bL,a]at c;simp only[bL,AX (cq.1 a).1];exact c
theorem Zn{G:bW->Prop}(h:DC f):VR G W f f:=by
 rcases h with⟨s,rfl⟩|⟨k,n,rfl⟩;·exact .string s
 ·exact .int k n
def vB(ps:List PP)(B:Nat)(v:au)(w:ak):Prop:=∃n a,v=.tuple #[.pointer a,.int .i64 (pe ps)]/\bD (λk=>B<=k) n w a (pl ps)
theorem vB.re{ps:List PP}{B:Nat}:∀(v:au)(w:ak)(tp:Tape) (d:Nat),vB ps B v w->vB ps B v (re w tp d):=by
 rintro v w tp d ⟨n,j,a,b⟩;refine⟨n,j,a,?_⟩;rcases b with h|⟨t,c,f⟩;·exact .inl h
 ·exact .inr ⟨t,c,f.frame λ_ _=>rfl⟩
theorem Mx(t:Array au)(w:ak)(a:Array bX):(ga HY t).runT aj w a=(.ok (.tuple #[t.getD 2 aN,t.getD 3 aN]) w,a):=ah
theorem QS{z:WZ}{M:Nat->Prop}{c:aC}(h:B.fn=90)(k:B.mode=.returning)(b:B.defers=[])(j:B.kind=.normal)(l:cW aj z Q M (aw (c.finish (.tuple #[B.tmps.getD 2 aN,B.tmps.getD 3 aN])) ab) w):cW aj z Q M (aw B (c::ab)) w:=by
 refine .ctl rfl (λr=> ?_) l;have f:aj.funcs[B.fn]?=ae Tryz.f90:=by rw[h];exact D6
 have a:=Mx B.tmps r #[];simp[aZ,rY,aw,k,b,f,a,j,xP,jG,seen_none, -nE]
theorem JB:∃fn c,Xw.P.funcs[90]?=ae fn/\fn.body=ae c:=⟨HY,(HY.body).getD .skip,D6,ah⟩
theorem Kb:Xw.G 90:=show nj.contains 90=aq from bc
theorem IS(an:p.Ok){wl:ak}{R:BR}{S:Nat->Nat->Prop}(hF:p.F w)(bb:wl.heap.size=w.heap.size)(hd:∀a b,R a b->a=b)(b6:WR Xw.vw Xw.P.globals.size Xw.G R (λ_ _=>False) wl wl)(a8:WR Xw.vw Xw.P.globals.size Xw.G R S wl w)(l:bq Xw.G R #[p.vP] #[p.vP])(aP:∀a b,R a b->p.z.part b/\∀j,S a j)(ar:∀a j,S a j->R a a/\j7 p.vP a)(hc:∀tp,aE Xw.P 90 #[p.vP] (re wl tp 0) λe w'=>∃v,e=.returned v/\vB p.ps wl.heap.size v w')(hk:∀c vt ve w',(∀b,c b->¬p.z.all b)->p.F w'->vt.oneCell'=aq->ve.oneCell'=aq->qR (j7 p.vP) p.ps vt ve c w'->cW aj p.z Q c (aw (B.finish (.tuple #[vt,ve])) ab) w'):cW aj p.z Q (λ_=>False) (aw (bG aj 90 #[p.vP] .normal) (B::ab)) w:=by
 have hE:=Th GG au0 Kb JB hd b6 l vB.re hc;have av:kL Xw aj nj ax [] R (bG Xw.P 90 #[p.vP] .normal,[]) (bG Xw.P 90 #[p.vP] .normal,[]):=⟨fP.enter GG Kb l JB,.nil⟩
 have aR:=QW GG GJ rfl Yq (z:={ro:=p.z.part,Y:=λ_=>False,i:=0}) (S:=S) (λs hs=>hs.1.1)
  (R0:=R) (Q:=λM f w'=>∃W s,BR.Sub R W/\(Am Xw.P (vB p.ps wl.heap.size) s/\s.fr.fn=90)/\WR Xw.vw Xw.P.globals.size Xw.G W S s.w w'/\fP Xw aj nj ax [] W s.fr f/\Class {ro:=p.z.part,Y:=λ_=>False,i:=0} M W S s.w)
  (λR M s f w' h a b B d=>⟨R,s,h,a,b,B,d⟩) hE (R:=R) (M:=λ_=>False) (fr':=bG aj 90 #[p.vP] .normal) (fs':=[]) (w':=w) (BR.Sub.refl R)
  (by have:=lE a8 T0 w.tape 0 w.drawn;rwa[uE]at this) av (λa b aF=>.inl (aP a b aF)) (λb=>⟨λ_=>⟨id,id⟩,λh=>h.elim⟩) (λb hb=>hb.elim (λh=>hF.all b (.inr (.inr h))) (λh=>h.elim))
 refine QQ an.out aR (λb hb=>hb.elim) hF.all λc f w' a1 a2 a3 a4 a5=> ?_;obtain⟨U,s,b2,⟨⟨ba,b1,v,fn,aU,ai,b0⟩,ac⟩,hW,k,a6⟩:=a5 w' (Ry.refl _ _ _);obtain rfl:fn=Tryz.f90:=by
  rw[ac]at ai;exact(er (ai.symm.trans D6))
 have hv:v=.tuple #[s.fr.tmps.getD 2 aN,s.fr.tmps.getD 3 aN]:=by
  have h1:(ga HY s.fr.tmps).run aj (re s.w T0 0)=.ok v (re s.w T0 0):=b0 T0 0;have h2:=congrArg Po (Mx s.fr.tmps (re s.w T0 0) #[]);rw[fE]at h2;rw[h2]at h1;cases h1;rfl
 obtain⟨n,tp,b3,hT⟩:=aU;rw[b3]at hv;simp only[Value.tuple.injEq,H7,CJ,and_true]at hv;obtain⟨e2,e3⟩:=hv;have get:∀(i:Nat) (u:au),u=s.fr.tmps.getD i aN->u≠aN->VR Xw.G U u (f.tmps.getD i aN):=by
  intro i u r aT;have a7:i<s.fr.tmps.size:=by
   apply pC;intro h;rw[sM,zC ag]at r;exact aT r
  have al:i<f.tmps.size:=by rw[<-k.tmps.1];exact a7
  rw[r,sM,sM,jV a7,jV al];exact k.tmps.2 i _ _ (jV a7) (jV al)
 have r2:=get 2 _ e2 (by intro h;cases h);have r3:=get 3 _ e3 (by intro h;cases h);have am:=GC r3;refine QS (by rw[k.fn];exact ac) (by rw[k.mode];exact b1) k.p'.defers k.p'.kind ?_;have hM:∀b Z,U b Z->wl.heap.size<=b->c Z:=by
  intro b Z aJ b9;rcases a6 b Z aJ with⟨_,h⟩|⟨h,_⟩;·have:=a8.sl b 0 (h 0);omega
  ·exact h
 have ad:∀b,wl.heap.size<=b->∀i,¬S b i:=λb hb i h=>by have:=a8.sl b i h;omega
 have ao:=hF.ry an a4;have ap:∃H,f.tmps.getD 2 aN=.pointer H/\bD c n w' H (pl p.ps)/\∀t,H=ae t->∃a,U a t.block/\∀j,¬S a j:=by
  rcases hT with⟨rfl,hl⟩|⟨t,rfl,hR⟩;·exact⟨af,GD r2,.inl ⟨rfl,hl⟩,λt h=>by cases h⟩
  ·obtain⟨t',N,q2⟩:=Ci r2;exact⟨_,q2,.inr ⟨t',rfl,GI hW ad hM n N hR⟩,λu h=>by cases h;exact⟨t,N,ad t hR.lt.1⟩⟩
 obtain⟨H,N,q2,q3⟩:=ap;refine hk c _ _ w' a1 ao (by rw[N];rfl) (by rw[am];rfl) ⟨am,n,H,N,q2,λb=>∃a,U a b/\∀j,¬S a j,λb ⟨a,l,hj⟩=> ?_,q3,λb ⟨a,l,hj⟩=> ?_⟩
 ·rcases a6 a b l with⟨_,h⟩|⟨h,_⟩;·exact absurd (h 0) (hj 0)
  ·exact h
 ·obtain⟨o,o',o1,o2,o3⟩:=hW.blk a b l;refine⟨o',o2,Qj Uz (λu r=>by rw[GJ]at r;exact r.elim) (λx y aa=>⟨rfl,?_⟩) hj o3⟩;rcases a6 x y aa with⟨_,h⟩|⟨_,h⟩
  ·obtain⟨h1,h2⟩:=ar x 0 (h 0);obtain rfl:=hW.dC.fn x y x aa (b2 _ _ h1);exact .inr h2
  ·exact .inl ⟨x,aa,h⟩
theorem call87(ok:p.Ok)(a1:∀q∈p.ps,q.1.size<=9223372036854775807)(a2:p.ps.length<=9223372036854775807):p.Call (qR (j7 p.vP) p.ps) Q:=by
 intro w c cs hF t;rcases hF.yU with⟨a8,hv⟩|⟨k,o,cap,f,e,a7,h1,r,h3,s,h5,h6⟩
 ·refine IS (w:=w) ok (wl:=w) (R:=λ_ _=>False) (S:=λ_ _=>False) hF rfl (λa b h=>h.elim) ⟨⟨λa b c h=>h.elim,λa b c h=>h.elim,λa b h=>h.elim⟩,⟨hF.kR,hF.kR⟩,λa i h=>h.elim,λa b h=>h.elim⟩ ⟨⟨λa b c h=>h.elim,λa b c h=>h.elim,λa b h=>h.elim⟩,⟨hF.kR,hF.kR⟩,λa i h=>h.elim,λa b h=>h.elim⟩ ⟨rfl,λi v v' a b=> ?_⟩ (λa b h=>h.elim) (λa j h=>h.elim) (λB=> ?_) t
  ·rw[hv]at a b;rw[a]at b;cases b
   match i with
   |0=>simp at a;subst a;exact .snil 0 0
   |i+1=>simp at a
  ·refine(LJ (S:=λk=>w.heap.size<=k) (w:=re w B 0) (ps:=p.ps) (λk t=>t) (.inl ⟨a8,af,0,hv⟩) a2 a1).mono ?_;rintro e w' ⟨n,W,rfl,H,_⟩;exact⟨_,rfl,n,W,rfl,H⟩
 ·have u:=(cq.1 s).1;have a6:∀{R:BR},la Xw.G R f f:=λ{R}=>⟨aL _,λi v v' a b=>by rw[a]at b;cases b;exact Zn (h6 v (lH a))⟩;have Z:BR.iy Xw.P.globals.size (λa b=>a=k/\b=k):=⟨λa b c x y=>x.2.trans y.2.symm,λa b c x y=>x.1.trans y.1.symm,λa b x=>by rw[x.1,x.2]⟩;have N:=Ul w k f e;have U:Xw.P.globals.size<=(pZ w k f e).heap.size:=by rw[N];exact hF.kR
  refine IS (w:=w) ok (wl:=pZ w k f e) (R:=λa b=>a=k/\b=k) (S:=λa _=>a=k) hF N (λa b h=>h.1.trans h.2.symm) ⟨Z,⟨U,U⟩,λa i h=>h.elim,λa b h=>⟨.cells f e (0,f.size),.cells f e (0,f.size),by rw[h.1];exact AX u,by rw[h.2];exact AX u,.cells a6 (λ_=>.inl rfl) (λ_=>⟨rfl,rfl⟩) (λi h=>h.elim)⟩⟩ ⟨Z,⟨U,hF.kR⟩,λa i h=>by(have:a=k:=h;rw[this,N];exact u),λa b h=>⟨.cells f e (0,f.size),.cells f e a7,by rw[h.1];exact AX u,by rw[h.2];exact s,.cells a6 (λ⟨i,l⟩=>absurd h.1 l) (λl=>absurd h.1 (l 0)) (λi _ l=>⟨fL _,l⟩)⟩⟩ ⟨rfl,λi v v' a b=> ?_⟩ (λa b h=>⟨by rw[h.2];exact h1,λ_=>h.1⟩) (λa j h=>⟨⟨h,h⟩,o,p.ps.length,cap,by rw[r];show _=iM (ae ⟨a,o,af⟩) _ _;rw[show a=k from h]⟩) (λB=> ?_) t
  ·rw[r]at a b;rw[a]at b;cases b
   match i with
   |0=>simp at a;subst a;exact .slice _ _ ⟨⟨rfl,rfl⟩,rfl,rfl⟩
   |i+1=>simp at a
  ·have hP:y6 (re (pZ w k f e) B 0) k o p.ps:=λi q l=>⟨JE s (h5 i q l).1,JE s (h5 i q l).2⟩;refine(LJ (S:=λj=>(pZ w k f e).heap.size<=j) (w:=re (pZ w k f e) B 0) (ps:=p.ps) (λj hj=>hj) (by
    by_cases h0:0<p.ps.length;·exact .inr ⟨k,o,cap,r,hP,h0⟩
    ·have e0:p.ps.length=0:=ag;exact .inl ⟨kY.1 e0,ae ⟨k,o,af⟩,cap,by rw[r,e0]⟩) a2 a1).mono ?_
   rintro e w' ⟨n,W,rfl,H,_⟩;exact⟨_,rfl,n,W,rfl,H⟩
end
def sq:du->du×du
 | .seq a b=>(a,b)
 |c=>(c,c)
noncomputable def DR:Code:=(Pp.body).getD .skip
noncomputable def My:Code:=(sq (sq (sq (sq DR).2).2).2).2
abbrev pA(Pb po n cap:Nat):Value:=.slice (ae ⟨Pb,po,af⟩) n cap
section
variable (Pb po n cap b4 b5 Wg:Nat) (c:aC) (cs:List aC) (x:Nat->au) (j:Int)
noncomputable def Uy:Goroutine:=aw {bG aj 73 #[pA Pb po n cap] .normal with tmps:= #[pA Pb po n cap,x 1,x 2,x 3,ptr b4,ptr b5,ptr Wg,x 7,x 8,x 9,x 10,x 11,x 12,x 13,x 14,x 15,x 16,x 17,x 18,x 19,x 20,x 21,x 22,x 23,x 24,x 25,x 26,x 27,x 28,x 29,x 30,x 31,x 32,x 33,x 34,x 35,x 36,x 37,x 38,x 39,x 40,x 41,x 42,x 43,x 44,x 45,x 46,x 47,x 48,x 49],todo:=[.code My]} (c::cs)
noncomputable def Em:Goroutine:=aw {(nxtN aj aq 11 (Uy Pb po n cap b4 b5 Wg c cs x)).frame with tmps:= #[pA Pb po n cap,x 1,.pointer af,.int .i64 0,ptr b4,ptr b5,ptr Wg,x 7,x 8,x 9,x 10,x 11,x 12,x 13,x 14,x 15,x 16,pA Pb po n cap,.int .i64 n,.int .i64 j,x 20,x 21,x 22,x 23,x 24,x 25,x 26,x 27,x 28,x 29,x 30,x 31,x 32,x 33,x 34,x 35,x 36,x 37,aN,aN,aN,aN,x 42,x 43,x 44,x 45,x 46,x 47,x 48,x 49]} (c::cs)
def xF(a:aC)(i:Nat):Value:=(a.tmps[i]?).getD aN
noncomputable def JF:Goroutine:=nxtN aj aq 9 (dL (nxtN aj aq 1 (Em Pb po n cap b4 b5 Wg c cs x j)) 20 (.bool aq))
theorem Qa:AtR (JF Pb po n cap b4 b5 Wg c cs x j) 1:=bI
variable (k:Nat)
noncomputable def JG:Goroutine:=bz (JF Pb po n cap b4 b5 Wg c cs x j) (.pointer (ae ⟨Pb,k,af⟩))
theorem Qb:AtR (JG Pb po n cap b4 b5 Wg c cs x j k) 2:=bI
variable (v:au) (b7 b8:Nat)
noncomputable def Uo:Goroutine:=bz (JG Pb po n cap b4 b5 Wg c cs x j k) v
noncomputable def JH:Goroutine:=bz (Uo Pb po n cap b4 b5 Wg c cs x j k v) (ptr b7)
noncomputable def Eh:Goroutine:=bz (JH Pb po n cap b4 b5 Wg c cs x j k v b7) (ptr b8)
theorem Qc:AtR (Eh Pb po n cap b4 b5 Wg c cs x j k v b7 b8) 5:=bI
noncomputable def JI:Goroutine:=bz (Eh Pb po n cap b4 b5 Wg c cs x j k v b7 b8) aN
theorem Qd:AtR (JI Pb po n cap b4 b5 Wg c cs x j k v b7 b8) 6:=bI
noncomputable def Up:Goroutine:=bz (JI Pb po n cap b4 b5 Wg c cs x j k v b7 b8) aN
noncomputable def fB:Frame:=dZ (nxtN aj aq 4 (Up Pb po n cap b4 b5 Wg c cs x j k v b7 b8)).callers
end
structure Fk where
 Pb:Nat
 po:Nat
 n:Nat
 cap:Nat
 b4:Nat
 b5:Nat
 T:Nat
 E:Nat
 vs:List au
 pss:List (List PP)
def Fk.Res(k:Fk)(m x:Nat)(v:au)(M:Nat->Prop)(w:ak):Prop:=
 ∃vP ps,k.vs[x-m]?=ae vP/\k.pss[x-m]?=ae ps/\qR (j7 vP) ps v (.int .i64 (pe ps)) M w/\w.cell? ⟨k.E,x-m,af⟩=ae (.int .i64 (pe ps))
noncomputable def Fk.C(k:Fk)(Wg m:Nat)(O:Nat->Prop):FC:={P:=aj,ty:=135,Wg:=Wg,T:=k.T,E:=k.E,n:=k.n,m:=m,O:=O,Res:=k.Res m}
theorem Fk.N0(k:Fk)(Wg m:Nat)(O:Nat->Prop):(k.C Wg m O).dy:=by
 rintro x v M w w' j h ⟨vP,ps,a,b,c,f⟩;exact⟨vP,ps,a,b,c.bK _ _ _ _ _ j,h.trans f⟩
structure Fk.F(k:Fk)(L:Nat->Prop)(w:ak):Prop where
 pb:L k.Pb
 cell:∀(i:Nat) v,k.vs[i]?=ae v->w.cell? ⟨k.Pb,k.po+i,af⟩=ae v
 l4:L k.b4
 c4:w.cell? ⟨k.b4,0,af⟩=ae (dO k.T k.n)
 l5:L k.b5
 c5:w.cell? ⟨k.b5,0,af⟩=ae (dO k.E k.n)
 parts:∀(i:Nat) v ps,k.vs[i]?=ae v->k.pss[i]?=ae ps->jL L w v ps
 kR:aj.globals.size<=w.heap.size
structure Fk.Ok(k:Fk):Prop where
 len:k.vs.length=k.n/\k.pss.length=k.n/\k.n<=16
 keys:∀ps∈k.pss,ps.length<=9223372036854775807/\∀q∈ps,q.1.size<=9223372036854775807
 ne:k.T≠k.E
section
variable {k:Fk} {L L' S:Nat->Prop} {w r:ak}
theorem jL.mono{v:au}{ps:List PP}(h:jL H w v ps)(l:∀b,H b->a7 b):jL a7 w v ps:=by
 rcases h with h|⟨k,o,cap,c,e,f,a,j⟩;·exact .inl h
 ·exact .inr ⟨k,o,cap,c,e,f,l k a,j⟩
theorem jL.iS{p':Nat->Prop}{ps:List PP}(h:jL H w f ps):jL (λb=>j7 f b\/p' b) w f ps:=by
 rcases h with h|⟨k,o,cap,c,e,j,p,a,l⟩;·exact .inl h
 ·exact .inr ⟨k,o,cap,c,e,j,.inl ⟨o,ps.length,cap,a⟩,a,l⟩
theorem jL.Lq{ps:List PP}(h:jL H w f ps)(r:j7 f b):H b:=by
 obtain⟨o,l,c,a⟩:=r;rcases h with⟨_,h⟩|⟨k,v,cap,s,e,t,j,p,u⟩;·rw[h]at a;cases a
 ·rw[p]at a;cases a;exact j
theorem jL.one{ps:List PP}(h:jL H w f ps):f.oneCell'=true:=by
 rcases h with⟨_,h⟩|⟨k,o,cap,b,e,c,j,a,l⟩;·rw[h];rfl
 ·rw[a];rfl
theorem Fk.F.bK(h:k.F L w)(l:w.heap.size<=r.heap.size)(a:∀b,L b->iA w r b):k.F L r:=⟨h.pb,λi v j=>mu (a _ h.pb) (h.cell i v j),h.l4,mu (a _ h.l4) h.c4,h.l5,mu (a _ h.l5) h.c5,λi v ps c f=>(h.parts i v ps c f).bK a,bT h.kR l⟩
theorem Fk.F.rl(h:k.F L w)(a:Rl S L w r):k.F L r:=h.bK a.size a.same
theorem Fk.F.mono(h:k.F L w)(a:∀b,L b->L' b):k.F L' w:=⟨a _ h.pb,h.cell,a _ h.l4,h.c4,a _ h.l5,h.c5,λi v ps c f=>(h.parts i v ps c f).mono a,h.kR⟩
def Fk.Rd(k:Fk)(L0:Nat->Prop)(b:Nat):Prop:=(∃v∈k.vs,j7 v b)\/b=k.b4\/b=k.b5\/¬L0 b
theorem at2{Wg m i:Nat}{O ro:Nat->Prop}{B1 B2 b8 b7:Nat}{ps:List PP}(B:k.Ok)(hJ:b+1=m+i)(s:k.vs[i]?=ae f)(t:k.pss[i]?=ae ps)(j:∀a,ro a↔j7 f a\/a=b8\/a=k.b4\/a=b7\/a=k.b5)(a6:∀a,ro a->L a)(Z:∀a,L a->a≠k.T/\a≠k.E)(hF:k.F L w)(a7:(k.C Wg m O).Wf w)(v:B1≠k.T/\B1≠k.E/\B2≠k.T/\B2≠k.E)(N:w.cell? ⟨b8,0,af⟩=ae f)(H:w.cell? ⟨b7,0,af⟩=ae (.int .i64 i))(U:w.cell? ⟨B1,0,af⟩=ae (jR Wg))(R:w.cell? ⟨B2,0,af⟩=ae (nW b8 k.b4 b7 k.b5)):cW aj {T:=k.T,E:=k.E,i:=b+1-m,part:=λa=>ro a\/a=B1\/a=B2} ((k.C Wg m O).pr (b+1)) (λ_=>False) (uf B1 B2) w:=by
 have x:b+1-m=i:=ag;have ai:=B.len;have ad:i<k.n:=by have:=(cu.1 s).1;omega
 obtain⟨aa,ab⟩:=B.keys ps (cG t);let p:Wp:={z:={T:=k.T,E:=k.E,i:=b+1-m,part:=λa=>ro a\/a=B1\/a=B2},n:=k.n,Wg:=Wg,vP:=f,ps:=ps,B1:=B1,B2:=B2,b8:=b8,b4:=k.b4,b7:=b7,b5:=k.b5};have l:∀{a:Nat} {u:au},w.cell? ⟨a,0,af⟩=ae u->a<w.heap.size:=λ{a u} h=>cC _ _ h;have a2:p.Ok:=by
  refine⟨⟨.inl ((j _).2 (.inr (.inl rfl))),.inl ((j _).2 (.inr (.inr (.inl rfl)))),.inl ((j _).2 (.inr (.inr (.inr (.inl rfl))))),.inl ((j _).2 (.inr (.inr (.inr (.inr rfl))))),.inr (.inl rfl),.inr (.inr rfl)⟩,⟨?_,?_⟩,B.ne,by show b+1-m<k.n;omega⟩
  ·rintro(h|h|h);·exact(Z _ (a6 _ h)).1 rfl
   ·exact v.1 h.symm
   ·exact v.2.2.1 h.symm
  ·rintro(h|h|h);·exact(Z _ (a6 _ h)).2 rfl
   ·exact v.2.1 h.symm
   ·exact v.2.2.2 h.symm
 have a8:p.F w:=by
  obtain⟨tc,t1,t2⟩:=a7.T;obtain⟨ec,ee,ef,W,e2,e3⟩:=a7.E;subst e3;refine⟨N,hF.c4,by show w.cell? ⟨b7,0,af⟩=ae (.int .i64 ((b+1-m:Nat):Int));rw[x];exact H,hF.c5,U,R,⟨tc,_,t1,t2⟩,⟨ec,ee,W,e2⟩,?_,?_,hF.kR⟩
  ·rintro a (h|h|h|h|h);·rw[h];exact(cq.1 t1).1
   ·rw[h];exact(cq.1 W).1
   ·rcases(j a).1 h with h|h|h|h|h
    ·have:=(hF.parts i f ps s t);rcases this with⟨_,y⟩|⟨k',o,cap,c',e',f',h1,y,h3,h4,_⟩;·obtain⟨o,ac,c,r⟩:=h;rw[y]at r;cases r
     ·obtain⟨o,ac,c,r⟩:=h;rw[y]at r;cases r;exact(cq.1 h4).1
    ·rw[h];exact l N
    ·rw[h];exact l hF.c4
    ·rw[h];exact l H
    ·rw[h];exact l hF.c5
   ·rw[h];exact l U
   ·rw[h];exact l R
  ·have:=(hF.parts i f ps s t).iS (p':=λ_=>False);exact this.mono λa hb=>.inl ((j a).2 (.inl (hb.elim id aK4)))
 refine at1 (p:=p) (Rs:=qR (j7 f) ps) (C:=k.C Wg m O) (x:=b+1) rfl rfl a2 ⟨rfl,rfl,rfl⟩ rfl a8 qR.bK (call87 a2 ab aa) λvt ve M w a1 hE=> ?_;obtain rfl:=a1.1;refine⟨f,ps,?_,?_,a1,hE⟩;·rw[show b+1-m=i from x];exact s
 ·rw[show b+1-m=i from x];exact t
end
theorem PV(b o k:Nat):(⟨b,o,af⟩:aH).add ((k:Int).toNat*1)=⟨b,o+k,af⟩:=by
 simp only[vf,H4,tj];split;·rename_i h;rw[h];simp
 ·simp
theorem AJ{u:au}(h:l.cell? ⟨b,0,af⟩=ae u):(l.setCell ⟨b,0,af⟩ f).cell? ⟨b,0,af⟩=ae f:=by
 unfold bL at h;split at h
 ·rename_i c e k a;have o:b<l.heap.size:=(cq.1 a).1;simp at h;obtain⟨j,_⟩:=cq.1 h;simp[bL,eK,fV,a,j]
 ·cases h
theorem QD{u:Option au}(j:b≠h)(a:l.cell? ⟨b,U,af⟩=u):(l.setCell ⟨h,0,af⟩ f).cell? ⟨b,U,af⟩=u:=by
 have c:(l.setCell ⟨h,0,af⟩ f).heap[b]?=l.heap[b]?:=(mG l ⟨h,0,af⟩ f).block b j;unfold bL at a⊢;rw[c];exact a
theorem Mz(j:∀a,a7 a->a≠b):Rl H a7 l (l.setCell ⟨b,0,af⟩ f):=by
 have h:=mG l ⟨b,0,af⟩ f;exact⟨by rw[h.size];exact aL _,λa c=>.of_eq (h.block a (j a c)),λa c _=>h.block a (j a c),h.os,h.output⟩
theorem zg{L':Nat->Prop}{r:ak}(h:Rl H L' l r)(c:∀b,a7 b->L' b):Rl H a7 l r:=⟨h.size,λb a=>h.same b (c b a),λb a=>h.exact b (c b a),h.os,h.output⟩
theorem ym(a:l.heap[b]?=ae (.cells a6 Z (0,0))):l.frozen? ⟨b,h,af⟩=false:=by simp[gu,a]
section
variable {k:Fk} {Wg m:Nat} {O:Nat->Prop} {Post:au->ak->Prop} {c:aC} {cs:List aC} {L0:Nat->Prop} {w00:ak}
noncomputable abbrev Fk.gH(k:Fk)(Wg:Nat)(c:aC)(cs:List aC)(x:Nat->au)(j:Int):Goroutine:=Em k.Pb k.po k.n k.cap k.b4 k.b5 Wg c cs x j
noncomputable def Fk.tP(k:Fk)(Wg:Nat)(c:aC)(cs:List aC)(x:Nat->au):Frame:=dZ (nxtN aj aq 7 (dL (nxtN aj aq 1 (k.gH Wg c cs x k.n)) 20 (.bool ax))).callers
theorem YI(Z:k.Ok)(hm:1<=m)(be:∀b,L0 b->b≠k.T/\b≠k.E)(b9:∀(L S:Nat->Prop)(x:Nat->au) (w:ak),(∀b,L0 b->L b)->(∀b,S b->k.Rd L0 b)->Rl S L0 w00 w->k.F L w->oD (k.C Wg m O) L (m-1+k.n) w->ay aj Post O (aw ((k.tP Wg c cs x).finish (.tuple #[])) (c::cs)) w):∀(a1 j:Nat),a1+j=k.n->∀(L S:Nat->Prop)(x:Nat->au)(p:ak) (s:Nat),(∀b,L0 b->L b)->(∀b,S b->L b)->(∀b,S b->k.Rd L0 b)->(∀b,L b->b≠k.T/\b≠k.E)->k.F L p->Rl S L0 w00 p->bO (k.C Wg m O) Post S L (m-1+j) (en (k.C Wg m O) (m-1+j) 0 s) 0 (k.gH Wg c cs x j) p:=by
 have f:=k.N0 Wg m O;have bj:=Z.len.2.2;have R:(k.C Wg m O).m=m:=rfl;intro a1;induction a1 with
 |zero=>
  intro j hj L S x p s o U a6 ap hF ac;obtain rfl:j=k.n:=ag;have W:m-1+k.n+1-(k.C Wg m O).m<2147483600:=by rw[R];omega
  have l:=gD (C:=k.C Wg m O) (J:=m-1+k.n) (p:=0) (vb:=s) f W ag;refine .cL f l (n:=1) db ?_;refine .val (i:=20) (v:=.bool (aM ((k.n:Int)<(k.n:Int)))) (v':=.bool ax) ah az ?_;refine .cL f l (n:=7) db ?_;refine .eqv (g':=gW (k.C Wg m O).Wg (k.tP Wg c cs x) (c::cs)) ah (YL rfl rfl f W λw u h2=> ?_);exact b9 L S x w o a6 (ac.trans ⟨u.size,λb a=>u.same b (o b a),λb a=>u.exact b (o b a),u.os,u.output⟩) (hF.rl u) h2
 |succ a1 ih=>
  intro j hj L S x p s o U a6 ap hF ac;have aQ:j<k.n:=ag;have W:m-1+j+1-(k.C Wg m O).m<2147483600:=by rw[R];omega
  have l:=gD (C:=k.C Wg m O) (J:=m-1+j) (p:=0) (vb:=s) f W ag;obtain⟨v,H⟩:∃v,k.vs[j]?=ae v:=⟨k.vs[j]'(by rw[Z.len.1];exact aQ),bf _⟩;obtain⟨ps,ab⟩:∃ps,k.pss[j]?=ae ps:=⟨k.pss[j]'(by rw[Z.len.2.1];exact aQ),bf _⟩;have ba:=(hF.parts j v ps H ab).one;have b2:cZ.wrap ((j:Int)+1)=((j+1:Nat):Int):=by rw[ft];omega
  refine .cL f l (n:=1) db ?_;refine .val (i:=20) (v:=.bool (aM ((j:Int)<(k.n:Int)))) (v':=.bool aq) ah (by rw[decide_eq_true ag]) ?_;refine .cL f l (n:=9) db ?_;refine .ix f l ah (Qa k.Pb k.po k.n k.cap k.b4 k.b5 Wg c cs x j) (t:=101) (x:=.tmp 17) (y:=.tmp 19) (e:=102) (n:=1) (a:=⟨k.Pb,k.po,af⟩) (l:=k.n) (c:=k.cap) (k:=(j:Int)) ah ah ah ⟨ag,ag⟩ Tryz.runUnderlying101 aC8 ?_;rw[PV];refine .ld f l ah (Qb k.Pb k.po k.n k.cap k.b4 k.b5 Wg c cs x j (k.po+j)) (t:=102) (x:=.tmp 22) (a:=⟨k.Pb,k.po+j,af⟩) (v:=v) ah ah aD6 hF.pb (hF.cell j v H) ?_;refine .new f l ah (.cells #[.int .i64 0] 3) (λb7=>JH k.Pb k.po k.n k.cap k.b4 k.b5 Wg c cs x j (k.po+j) v b7) (λw=>ah) λr bb aa an=> ?_;generalize a7:r.heap.size=b7;refine .new f l ah (.cells #[.slice af 0 0] 102) (λb8=>Eh k.Pb k.po k.n k.cap k.b4 k.b5 Wg c cs x j (k.po+j) v b7 b8) (λw=>ah) λt aU bi ao=> ?_;generalize a8:t.heap.size=b8;have B:∀b,L b->b<b7:=λb a=>by rw[<-a7];exact(an b a).1
  have b3:b7<b8:=by rw[<-a8];exact(ao b7 (.inr rfl)).1
  have aJ:¬S b7:=λh=>by have:=B b7 (U b7 h);omega
  have aP:¬S b8:=λh=>by have:=B b8 (U b8 h);omega
  have bg:k.T<b7/\k.E<b7/\Wg<b7:=by
   obtain⟨_,t1,_⟩:=aa.T;obtain⟨_,_,_,e1,_⟩:=aa.E;obtain⟨_,_,g1⟩:=aa.wg;rw[<-a7];exact⟨(cq.1 t1).1,(cq.1 e1).1,(cq.1 g1).1⟩
  have q7:t.heap[b7]?=ae (.cells #[.int .i64 0] 3):=(aU.exact b7 (.inr rfl) aJ).trans (by rw[<-a7];exact rz r _);have p7:(dg t (.cells #[.slice af 0 0] 102)).heap[b7]?=ae (.cells #[.int .i64 0] 3):=(ky _ _ (by rw[a8];exact b3)).trans q7;have p8:(dg t (.cells #[.slice af 0 0] 102)).heap[b8]?=ae (.cells #[.slice af 0 0] 102):=by rw[<-a8];exact rz t _
  have av:Rl S L p (dg t (.cells #[.slice af 0 0] 102)):=(bb.trans (G1 (λb a=>(an b a).1) _)).trans ((zg aU λb=>.inl).trans (G1 (λb a=>(ao b (.inl a)).1) _));generalize dg t (.cells #[.slice af 0 0] 102)=w3 at p7 p8 av;refine .st f l ah (Qc k.Pb k.po k.n k.cap k.b4 k.b5 Wg c cs x j (k.po+j) v b7 b8) (t:=3) (x:=.tmp 7) (y:=.tmp 21) (a:=⟨b7,0,af⟩) (v:=.int .i64 j) (u:=.int .i64 0) ah ah ah rfl ON (.inl (.inr rfl)) aJ (by show b7≠Wg;omega) (by simp[bL,p7]) (ym p7) λN ad=> ?_;have q8:(N.setCell ⟨b7,0,af⟩ (.int .i64 j)).heap[b8]?=ae (.cells #[.slice af 0 0] 102):=((mG N ⟨b7,0,af⟩ _).block b8 (by show b8≠b7;omega)).trans ((ad.exact b8 (.inr rfl) aP).trans p8);have b1:(N.setCell ⟨b7,0,af⟩ (.int .i64 j)).cell? ⟨b7,0,af⟩=ae (.int .i64 j):=AJ (u:=.int .i64 0) (ad.cell (.inl (.inr rfl)) (by simp[bL,p7]));have aF:Rl S L p (N.setCell ⟨b7,0,af⟩ (.int .i64 j)):=av.trans ((zg ad λb a=>.inl (.inl a)).trans (Mz λb a=>by have:=B b a;omega));generalize N.setCell ⟨b7,0,af⟩ (.int .i64 j)=bk at q8 b1 aF;refine .st f l ah (Qd k.Pb k.po k.n k.cap k.b4 k.b5 Wg c cs x j (k.po+j) v b7 b8) (t:=102) (x:=.tmp 8) (y:=.tmp 23) (a:=⟨b8,0,af⟩) (v:=v) (u:=.slice af 0 0) ah ah ah ba aC8 (.inr rfl) aP (by show b8≠Wg;omega) (by simp[bL,q8]) (ym q8) λw5 ai=> ?_;have c8:(w5.setCell ⟨b8,0,af⟩ v).cell? ⟨b8,0,af⟩=ae v:=AJ (u:=.slice af 0 0) (ai.cell (.inr rfl) (by simp[bL,q8]));have c7:(w5.setCell ⟨b8,0,af⟩ v).cell? ⟨b7,0,af⟩=ae (.int .i64 j):=QD ag (ai.cell (.inl (.inr rfl)) b1);have a2:Rl S L p (w5.setCell ⟨b8,0,af⟩ v):=aF.trans ((zg ai λb a=>.inl (.inl a)).trans (Mz λb a=>by have:=B b a;omega));generalize w5.setCell ⟨b8,0,af⟩ v=w6 at c8 c7 a2;have am:k.F (lj (lj L b7) b8) w6:=(hF.rl a2).mono λb a=>.inl (.inl a);have ar:∀b,lj (lj L b7) b8 b->b≠k.T/\b≠k.E:=by
   rintro b ((a|rfl)|rfl);·exact ap b a
   ·omega
   ·omega
  have b6:m-1+j+2-(k.C Wg m O).m<2147483600:=by rw[R];omega
  have al:∀b,(j7 v b\/b=b8\/b=k.b4\/b=b7\/b=k.b5)->lj (lj L b7) b8 b:=by
   rintro b (h|rfl|rfl|rfl|rfl);·exact .inl (.inl ((hF.parts j v ps H ab).Lq h))
   ·exact .inr rfl
   ·exact .inl (.inl hF.l4)
   ·exact .inl (.inr rfl)
   ·exact .inl (.inl hF.l5)
  refine .cL f l (n:=4) db ?_;refine .eqv (g':=gG (k.C Wg m O).Wg b8 k.b4 b7 k.b5 (fB k.Pb k.po k.n k.cap k.b4 k.b5 Wg c cs x j (k.po+j) v b7 b8) (c::cs)) ah (YH (ro:=λb=>j7 v b\/b=b8\/b=k.b4\/b=b7\/b=k.b5) rfl rfl f b6 al (λB1 B2 w hr bd n1 n2 y cg cf=> ?_) λB1 B2 cS aT n1 n2 y=> ?_);·exact at2 (i:=j) Z ag H ab (λb=>xR) al ar (am.rl hr) bd y (hr.cell (.inr rfl) c8) (hr.cell (.inl (.inr rfl)) c7) cg cf
  ·have aR:=gD (C:=k.C Wg m O) (J:=m-1+j+1) (p:=0) (vb:=s+1) f (by rw[R];omega) ag;refine .cL f aR (n:=4) db ?_;refine .val (i:=26) (v:=.int .i64 (cZ.wrap ((j:Int)+1))) (v':=.int .i64 ((j+1:Nat):Int)) ah (by rw[b2]) ?_;refine .cL f aR (n:=5) db ?_;have b0:∀b,L0 b->b<b7:=λb a=>B b (o b a)
   have:=ih (j+1) ag (lj (lj (lj (lj L b7) b8) B1) B2) (λb=>S b\/((j7 v b\/b=b8\/b=k.b4\/b=b7\/b=k.b5)\/b=B1\/b=B2))
    (xF (nxtN aj aq 5 (dL (nxtN aj aq 4 (aw ((fB k.Pb k.po k.n k.cap k.b4 k.b5 Wg c cs x j (k.po+j) v b7 b8).finish (.tuple #[])) (c::cs))) 26 (.int .i64 ((j+1:Nat):Int)))).frame) cS (s+1)
    (λb a=>.inl (.inl (.inl (.inl (o b a))))) ?_ ?_ ?_ ((am.rl aT).mono λb a=>.inl (.inl a)) ?_
   ·rw[<-CU]at this;exact .eqv ah this
   ·rintro b (h|h|rfl|rfl);·exact .inl (.inl (.inl (.inl (U b h))))
    ·exact .inl (.inl (al b h))
    ·exact .inl (.inr rfl)
    ·exact .inr rfl
   ·rintro b (h|(h|rfl|rfl|rfl|rfl)|rfl|rfl);·exact a6 b h
    ·exact .inl ⟨v,cG H,h⟩
    ·exact .inr (.inr (.inr λh=>by have:=b0 _ h;omega))
    ·exact .inr (.inl rfl)
    ·exact .inr (.inr (.inr λh=>by have:=b0 _ h;omega))
    ·exact .inr (.inr (.inl rfl))
    ·exact .inr (.inr (.inr λh=>n1 (.inl (.inl (o _ h)))))
    ·exact .inr (.inr (.inr λh=>n2 (.inl (.inl (o _ h)))))
   ·rintro b ((h|rfl)|rfl);·exact ar b h
    ·exact⟨y.1,y.2.1⟩
    ·exact⟨y.2.2.1,y.2.2.2⟩
   ·exact((ac.trans (zg a2 o)).trans (zg aT λb a=>.inl (.inl (o b a)))).mono λb a=>.inl a
end
section
variable {P:aV} {g:aX} {i:Nat} {w w':ak} {ac:Bool} {ev:bC->au} {o:bR} {t e:aK} {x y:bC} {a:aH} {v u:au}
theorem Tl{z:au}{n:Nat}(b:o.op=.makeSlice t x x)(h:ev x=.int .i64 n)(f:P.underlying t=ae (.slice e))(a:P.info? e=ae s)(j:s.zero=ae z)(y:s.bytes<=16)(c:s.size=1)(H:n<=16):(bp ev o).run P w=.ok (.value (.slice (ae ⟨w.heap.size,0,af⟩) n n)) (dg w (.cells (kg z.cells (n*s.size)) e))/\(bp ev o).events P w #[]= #[]:=by
 have N:s.bytes*n<=16*16:=Nat.mul_le_mul y H
 have B:(s.bytes:Int)*(n:Int)<=281474976710656:=by
  have:((s.bytes*n:Nat):Int)<=256:=ag;rw[aC7]at this;omega
 have k:=run_makeSlice (P:=P) (w:=w) t e s z f a j .i64 .i64 n n ag (aK7 _) (by rw[c];simp;omega) B ag;simp only[H4]at k;constructor
 ·simp[bp,b,h,go_sem,k];rfl
 ·have v:cZ.wrap (n:Int)=(n:Int):=by rw[ft];omega
  have p:¬(n:Int)<0:=ag;have r:¬(281474976710656<(s.bytes:Int)*(n:Int)):=ag;have u:¬(I0<n*s.bytes):=by rw[aH2 n];unfold I0;omega
  by_cases l:n=0
  ·simp[bp,b,h,go_sem,zR,ta f,Ai,tx,vg,a,ed,Ac,j,c,v,p,r,rZ,xS,u,l,te];intro _ _ _;have:cZ.wrap 0=0:=bc;rw[this];simp
  ·simp[bp,b,h,go_sem,zR,ta f,Ai,tx,vg,a,ed,Ac,j,c,v,p,r,rZ,xS,u,l,te]
theorem N2{z:au}{n:Nat}(h:AtR g i)(l:(oG g).op=.makeSlice t x x)(p:(aG g).eval x=.int .i64 n)(o:P.underlying t=ae (.slice e))(j:P.info? e=ae s)(r:s.zero=ae z)(f:s.bytes<=16)(b:s.size=1)(k:n<=16):aZ P ac g w=.go (bz g (.slice (ae ⟨w.heap.size,0,af⟩) n n)) (dg w (.cells (kg z.cells n) e)) #[]:=by
 obtain⟨a,c⟩:=Tl (P:=P) (w:=w) l p o j r f b k;rw[b,tj]at a;rw[zo h a];unfold ic;rw[c,seen_none]
end
section
variable {P:aV} {Post:au->ak->Prop} {O:Nat->Prop} {g:aX} {w:ak}
theorem ay.new(f:g.status=.running)(o:dV)(a:Nat->aX)(h:∀w,aZ P aq g w=.go (a w.heap.size) (dg w o) #[])(c:ay P Post O (a w.heap.size) (dg w o)):ay P Post O g w:=
 .step f λj d=>⟨_,_, #[],h _,by simp[dg,Sim.re],λe b=>by simp at b,c.re (tp:=j) (d:=d)⟩
theorem qX{a:aH}{wr:Bool}(j:¬O a.block)(h:a.block<b):nQ O b ⟨.cell a,wr,ax⟩:=by
 refine⟨⟨λx c l=> ?_,az,az,h⟩,az,az,az⟩;simp only[fD,mF,iY]at c;subst c;obtain⟨o,f,k⟩:=l;cases f;exact absurd k j
theorem ay.st{i:Nat}{t:aK}{x y:bC}{a:aH}{v u:au}(r:g.status=.running)(h:AtR g i)(p:(oG g).op=.store t x y)(H:(aG g).eval x=.pointer (ae a))(N:(aG g).eval y=v)(B:v.oneCell'=aq)(s:∀w,(ed t).run P w=.ok 1 w)(j:¬O a.block)(f:w.cell? a=ae u)(R:w.frozen? a=ax)(o:ay P Post O (bz g aN) (w.setCell a v)):ay P Post O g w:=by
 have c:=mG w a v;have l:a.block<w.heap.size:=cC _ _ f;refine .step r λb d=>⟨_,_,_,Gi h p H N B (s _) (show(Sim.re w b d).cell? a=ae u from f) (show(Sim.re w b d).frozen? a=ax from R),?_,λe k=> ?_,o.re (tp:=b) (d:=d)⟩
 ·show w.heap.size<=(w.setCell a v).heap.size;rw[c.size];exact aL _
 ·have:=qw _ _ _ e k;subst this;refine qX j ?_;show a.block<(w.setCell a v).heap.size;rw[c.size];exact l
theorem ay.gS{i:Nat}{t:aK}{x:bC}{a:aH}{v:au}(r:g.status=.running)(h:AtR g i)(p:(oG g).op=.load t x)(s:(aG g).eval x=.pointer (ae a))(k:∀w,(mL t).run P w=.ok ax w)(f:¬O a.block)(b:w.cell? a=ae v)(o:ay P Post O (bz g v) w):ay P Post O g w:=by
 have l:a.block<w.heap.size:=cC _ _ b;refine .step r λc d=>⟨_,_,_,Gg h p s (k _) (show(Sim.re w c d).cell? a=ae v from b),aL _,λe j=> ?_,o.re (tp:=c) (d:=d)⟩;have:=qw _ _ _ e j;subst this;exact qX f l
end
