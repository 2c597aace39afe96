/- Own texts: FwE, FwF, FwG, FwH, FwI. -/
import Derived.Test.YtcgjppacnhmjlaaGreatMJ
import Derived.Conc.MarkLaws
import Derived.Conc.EventLaws
import Derived.Conc.WgGenN2
set_option linter.all false
set_option maxRecDepth 100000
open Array renaming getElem?_eq_some_iff->cq,getElem?_push->xk,size_push->zS
open Bool renaming true->aq,false->ax
open Classical renaming byContradiction->pC
open Decidable renaming decide->aM
open Go renaming World->ak,Value->au,Frame->aC,Goroutine->aX,TypeId->aK,Program->aV,Addr->aH,undef->aN,Operand->bC,execOp->bp,stepG->aZ,FuncId->bW,Event->bX,underlying->iZ,deafBehind->jl,sizeOf->ed,Oper->bR,storeCells->xM,storeVar->vh,isAgg->mL,seen->jo,asIntOf->tx,Obj->dV,run_store->Di,Act->gx,loadVar->Ae,bits->tC
open Go.Conc renaming aside_setCell->mG,listed->ic,crowd->kI,Goes->ie,Leavers->vk,QuitsD->vo,goes_go->Dn,deafBehind_still->aK3
open Go.ConcN renaming sumTo->nJ,WgLive->vn,AtR0->vy
open Go.ConcN.Gen renaming addNegN->aM3
open Go.ConcR renaming Payload->qK,stA->dB,DC0->nL
open Go.Frame renaming enter->bG
open Go.Instr renaming sureAddr->uY,storeAt->zW,loadAt->zY,indexAt->Hb
open Go.IntKind renaming i32->Hl,u64->OM,wrap_u64->ay4,wrap_i32->ay5
open Go.Proofs.Tryz renaming prog->aj,isAgg140->OI
open Go.Result renaming andThen->rP,evThen->te
open Go.World renaming cell?->bL,frozen?->gu
open Inhabited renaming default->fM
open Int renaming fdiv_eq_ediv_of_nonneg->av9
open List renaming range->dn
open Nat renaming le_refl->aL,eq_zero_or_pos->pD,strongRecOn->rN
open Ne renaming symm->jm
open Option renaming some->ae,none->af
open Option.some renaming inj->er
namespace Go.Proofs.YtcgjppacnhmjlaaGreat
open Go Go.Conc Go.ConcN Go.Conc.Lib Go.ConcR.Gen
open Go.ConcR (KK wgBlock WgAt stA smA rd wr mk Payload DC0)
namespace Sim
variable {U:aC} {W:List aC} {f j:Int} {k a7:Nat} {a6:aK} {a2:aH} {N:ak} {Z:au}
section
variable {P:aV} {Post:au->ak->Prop} {O:Nat->Prop} {g g':aX} {w:ak}
def ay(P:aV)(Post:au->ak->Prop)(O:Nat->Prop)(g:aX)(w:ak):Prop:=
 ∀c d a b t q,a[0]?=ae g->vk P t a q->PQ O w.heap.size a.size t->Fin P Post (kI a (re w c d) b) t
theorem ay.zr(h:ay P Post O (aw U W) w):ig P Post O U W w:=h
theorem ig.Gt(h:ig P Post O U W w):ay P Post O (aw U W) w:=h
theorem ay.eqv(h:g=g')(a:ay P Post O g' w):ay P Post O g w:=h▸a
theorem ay.step(o:g.status=.running)(h:∀c d,∃g' B j,aZ P aq g (re w c d)=.go g' B j/\w.heap.size<=B.heap.size/\(∀e∈j,nQ O B.heap.size e)/\ay P Post O g' B):ay P Post O g w:=by
 intro c d x sl t q a l y;generalize a2:nJ x.size q=R;induction R using rN generalizing d x sl t q with
 |_ R ih=>
  refine Fin.pick (DO l a o) ⟨0,_,a,o⟩ λi g f b H hg=>.inl ?_;rw[AD];rcases pD i with rfl|a1
  ·obtain rfl:=er (a.symm.trans H);obtain⟨g',B,j,U,W,Z,h4⟩:=h c f;obtain⟨k,p,r,s,u,v,N⟩:=GM (sl:=b) l y W a U Z;refine⟨_,_,r,?_⟩;have:=h4 B.tape B.drawn k b (t++p) q s u v;rwa[uE]at this
  ·obtain⟨k,p,q',r,s,u,v,N,r6⟩:=EI (w:=re w c f) (sl:=b) l y a1 H hg a o;exact⟨_,_,r,ih _ (by rw[<-a2];exact N) f k b (t++p) q' s u v rfl⟩
theorem ay.re{tp:Tape}{d:Nat}(h:ay P Post O g w):ay P Post O g (Sim.re w tp d):=λa b c l t q f j k=>h a b c l t q f j k
theorem ay.cL:∀{n:Nat} {g:aX},Idle P aq n g->ay P Post O (nxtN P aq n g) w->ay P Post O g w
 |0,_,_,h=>by unfold nxtN at h;exact h
 |n+1,g,a,h=>by
  unfold nxtN at h;exact .step a.1 λc d=>⟨_,_, #[],a.2.1 _,aL _,λe b=>by simp at b,(ay.cL a.2.2 h).re⟩
theorem ay.K(n:Nat){g:aX}(b:ay P Post O (nxtN P aq n g) w)(a:Idle P aq n g:=by((repeat (refine⟨by kernel_rfl,λ_=>by kernel_rfl,?_⟩));exact True.intro)):ay P Post O g w:=.cL a b
end
section
variable {C:FC} {S K:Nat->Prop} {J h r:Nat} {p:(Nat->Gh)->Int->Int->Prop} {Post:au->ak->Prop} {b:ak} {c:aC} {cs:List aC}
noncomputable abbrev gW(Wg:Nat)(c:aC)(cs:List aC):Goroutine:=aw (bG aj 91 #[jR Wg] .normal) (c::cs)
noncomputable def JX(Wg:Nat)(c:aC)(cs:List aC):Goroutine:=nxtN aj aq 10 (nxt aj aq (nxtN aj aq 3 (gW Wg c cs)))
noncomputable def fW(Wg:Nat)(c:aC)(cs:List aC)(x:Nat->au):Frame:={dZ (JX Wg c cs).callers with tmps:=(jR Wg::(dn 83).map λi=>x (i+1)).toArray}
def Ny(a:aC)(i:Nat):Value:=(a.tmps[i]?).getD aN
noncomputable def gZ(Wg:Nat)(c:aC)(cs:List aC)(x:Nat->au):Goroutine:=nxtN aj aq 3 (nxt aj aq (nxtN aj aq 27 (aw ((fW Wg c cs x).finish (.int .u64 0)) (c::cs))))
theorem au6(Wg:Nat)(x:Nat->au):AtR (gZ Wg c cs x) 1:=bI
theorem YQ(a:C.P=aj)(u:C.ty=135)(f:C.dy)(l:J+1-C.m<2147483600)(x:Nat->au)(s:∀w,Rl S K b w->oD C K J w->ay C.P Post C.O (aw (c.finish (.tuple #[])) cs) w):bO C Post S K J (en C J 0 0) 1 (aw ((fW C.Wg c cs x).finish (.int .u64 0)) (c::cs)) b:=by
 have j:=gD (C:=C) (J:=J) (p:=0) (vb:=0) f l ag;refine .cL f j (n:=27) (by rw[a];exact db) ?_;rw[a];refine .sH (e:=mk .enable) f j ah (λw=>by rw[a];kernel_rfl) (.inr (.inr (.inr (.inl (.inr (.inl rfl)))))) (d1:=0) rfl ?_;rw[a];refine .cL f j (n:=3) (by rw[a];exact db) ?_;rw[a];refine .idle f j ah λw r=> ?_;obtain⟨v,t⟩:=WgLive.c0 r.wg;refine⟨_,by rw[a];exact zn (au6 (c:=c) (cs:=cs) C.Wg x) (s:=140) (d:=60) (t:=135) (x:=.tmp 21) ah ah jg.underlying_tWgP jg.underlying_tUP jg.room_tWg t,?_⟩;change bO C Post S K J (en C J 0 0) 0 (bz (gZ C.Wg c cs x) (.pointer (ae ⟨C.Wg,0,af⟩))) b;generalize h:bz (gZ C.Wg c cs x) (.pointer (ae ⟨C.Wg,0,af⟩))=k;refine .uO (by rw[<-h];kernel_rfl) (eV.acq (fr':=(nxt aj aq k).frame) (cs':=(nxt aj aq k).callers) f l (λw _ _=> ?_) λw o p=>ay.zr ?_);·rw[<-h,a];kernel_rfl
 ·refine .cL (n:=20) (by rw[<-h,a];exact db) (.eqv (g':=aw (c.finish (.tuple #[])) cs) (by rw[<-h,a];kernel_rfl) (s w o p))
section
variable (Wg:Nat) (c:aC) (cs:List aC) (x:Nat->au) (s V:Int)
noncomputable def Ut:Goroutine:=dL (nxtN aj aq 6 (aw ((fW Wg c cs x).finish (.int .u64 s)) (c::cs))) 13 (.int .u64 V)
noncomputable def Uu:Goroutine:=dL (nxtN aj aq 1 (Ut Wg c cs x s V)) 14 (.int .i32 V)
noncomputable def Uv:Goroutine:=dL (nxtN aj aq 6 (Uu Wg c cs x s V)) 16 (.int .u64 0)
noncomputable def Uw:Goroutine:=dL (nxtN aj aq 8 (Uv Wg c cs x s V)) 19 (.bool ax)
noncomputable def Ux:Goroutine:=dL (nxtN aj aq 11 (Uw Wg c cs x s V)) 47 (.int .u64 (s+1))
noncomputable def fC:Frame:=dZ (nxtN aj aq 1 (Ux Wg c cs x s V)).callers
noncomputable def JQ:Goroutine:=nxtN aj aq 15 (aw ((fC Wg c cs x s V).finish (.bool aq)) (c::cs))
noncomputable def Uq:Goroutine:=dL (nxtN aj aq 10 (nxt aj aq (bz (JQ Wg c cs x s V) (.pointer (ae ⟨Wg,1,af⟩))))) 59 (.int .u64 0)
noncomputable def ku:Goroutine:=nxtN aj aq 13 (Uq Wg c cs x s V)
noncomputable def fS:Frame:=dZ (nxtN aj aq 7 (bz (ku Wg c cs x s V) (.tuple #[]))).callers
noncomputable def gY:Goroutine:=nxtN aj aq 3 (nxt aj aq (nxtN aj aq 7 (aw ((fS Wg c cs x s V).finish (.int .u64 0)) (c::cs))))
theorem UD:AtR (JQ Wg c cs x s V) 3:=bI
theorem au1:AtR (gY Wg c cs x s V) 1:=bI
theorem MN:nN aj (ku Wg c cs x s V) 4 106 (match (oG (ku Wg c cs x s V)).op with| .call c=>c.args|_=> #[]) (match (oG (ku Wg c cs x s V)).op with| .call c=>c.argTypes|_=> #[]) (semacquireFn link):=⟨ah,ah,ah,ah,ah,jg.f_semacquire,x_semacquire_n link,x_semacquire_b link,ah⟩
end
theorem YP(a:C.P=aj)(B:C.ty=135)(h:C.dy)(o:J+1-C.m<2147483600)(x:Nat->au)(y:∀w,Rl S K b w->oD C K J w->ay C.P Post C.O (aw (c.finish (.tuple #[])) cs) w):bO C Post S K J (en C J 0 0) 1 (bz (ku C.Wg c cs x f j) (.tuple #[])) b:=by
 have k:=gD (C:=C) (J:=J) (p:=0) (vb:=0) h o ag;refine .cL h k (n:=7) (by rw[a];exact db) ?_;rw[a];refine .eqv (g':=nX C.Wg (fS C.Wg c cs x f j) (c::cs)) ah (Lp a h o λv r _=> ?_);obtain rfl:v=0:=ag;have e:((0:Nat):Int)*KK=0:=bc;rw[e];refine .cL h k (n:=7) (by rw[a];exact db) ?_;rw[a];refine .sH (e:=mk .enable) h k ah (λw=>by rw[a];kernel_rfl) (.inr (.inr (.inr (.inl (.inr (.inl rfl)))))) (d1:=0) rfl ?_;rw[a];refine .cL h k (n:=3) (by rw[a];exact db) ?_;rw[a];refine .idle h k ah λw u=> ?_;obtain⟨v,r⟩:=WgLive.c0 u.wg;refine⟨_,by rw[a];exact zn (au1 C.Wg c cs x f j) (s:=140) (d:=60) (t:=135) (x:=.tmp 79) ah ah jg.underlying_tWgP jg.underlying_tUP jg.room_tWg r,?_⟩;change bO C Post S K J (en C J 0 0) 0 (bz (gY C.Wg c cs x f j) (.pointer (ae ⟨C.Wg,0,af⟩))) b;generalize l:bz (gY C.Wg c cs x f j) (.pointer (ae ⟨C.Wg,0,af⟩))=p;refine .uO (by rw[<-l];kernel_rfl) (eV.acq (fr':=(nxt aj aq p).frame) (cs':=(nxt aj aq p).callers) h o (λw _ _=> ?_) λw s t=>ay.zr ?_);·rw[<-l,a];kernel_rfl
 ·refine .cL (n:=10) (by rw[<-l,a];exact db) (.eqv (g':=aw (c.finish (.tuple #[])) cs) (by rw[<-l,a];kernel_rfl) (y w s t))
theorem YO(h:C.P=aj)(y:C.ty=135)(k:C.dy)(p:J+1-C.m<2147483600)(x:Nat->au)(s:tC .and .u64 f 2147483648=0)(u:∀w,Rl S K b w->oD C K J w->ay C.P Post C.O (aw (c.finish (.tuple #[])) cs) w):bO C Post S K J (oF C J) 1 (aw ((fC C.Wg c cs x f j).finish (.bool aq)) (c::cs)) b:=by
 have l:=EG (C:=C) (J:=J) k p;refine .cL k l (n:=15) (by rw[h];exact db) ?_;rw[h];refine .idle k l ah λw t=> ?_;obtain⟨v,B⟩:=WgLive.c1 t.wg;refine⟨_,by rw[h];exact zn (UD C.Wg c cs x f j) (s:=147) (d:=60) (t:=133) (x:=.tmp 55) ah ah jg.underlying_tPU32 jg.underlying_tUP jg.room_tU32 B,?_⟩;refine .sH (e:=mk (.write ⟨C.Wg,1,af⟩)) k l ah (λw=>by rw[h];kernel_rfl) (.inr (.inr (.inr (.inr ⟨_,rfl,.inr (.inl rfl)⟩)))) (d1:=1) rfl ?_;rw[h];refine .cL k l (n:=10) (by rw[h];exact db) ?_;rw[h];refine .val (i:=59) (v:=.int .u64 (tC .and .u64 f 2147483648)) (v':=.int .u64 0) ah (by rw[s]) ?_;refine .cL k l (n:=13) (by rw[h];exact db) ?_;rw[h];change bO C Post S K J (oF C J) 1 (ku C.Wg c cs x f j) b;have r:aw (ku C.Wg c cs x f j).frame (ku C.Wg c cs x f j).callers=ku C.Wg c cs x f j:=ah;refine .uO ah (eV.uH (fr':=(bz (ku C.Wg c cs x f j) (.tuple #[])).frame) (cs':=(bz (ku C.Wg c cs x f j) (.tuple #[])).callers) k p (λw _ ⟨st,o⟩=> ?_) (λw _ o=> ?_) (bO.put (YP h y k p x u)))
 ·have a:=MN C.Wg c cs x f j;unfold blk;rw[r,h,show aZ aj aq (ku C.Wg c cs x f j) w=aZ aj aq (oN (ku C.Wg c cs x f j) 4) w by rw[<-a.eq]];rw[show({ku C.Wg c cs x f j with status:=.blocked}:aX)={oN (ku C.Wg c cs x f j) 4 with status:=.blocked} by rw[<-a.eq]];exact stepG_semacquire_wait a.op a.wanted a.call a.func a.name a.body a.nx (x_semacquire_f link) (ad:=smA C.Wg) ah o.cellSm
 ·have a:=MN C.Wg c cs x f j;rw[r,h,yq,show aZ aj aq (ku C.Wg c cs x f j) w=aZ aj aq (oN (ku C.Wg c cs x f j) 4) w by rw[<-a.eq]];exact stepG_semacquire a.op a.wanted a.ne a.call a.func a.name a.body a.nx (x_semacquire_f link) (ad:=smA C.Wg) (n:=1) ah o.cellSm bc (o.thaw 1)
end
section
variable {C:FC} {S K:Nat->Prop} {J h r:Nat} {p:(Nat->Gh)->Int->Int->Prop} {Post:au->ak->Prop} {b:ak} {c:aC} {cs:List aC}
theorem YN(a:C.P=aj)(B:C.ty=135)(f:C.dy)(j:J+1-C.m<2147483600)(x:Nat->au)(R:k<2147483600)(H:1<=k)(y:∀w,Rl S K b w->oD C K J w->ay C.P Post C.O (aw (c.finish (.tuple #[])) cs) w)(u:∀x,bO C Post S K J (en C J 0 (k-1)) 1 (nX C.Wg (fW C.Wg c cs x) (c::cs)) b):bO C Post S K J (en C J 0 k) 1 (aw ((fW C.Wg c cs x).finish (.int .u64 ((k:Int)*KK))) (c::cs)) b:=by
 obtain⟨V,l⟩:∃V:Int,V=(k:Int):=⟨_,rfl⟩;have o:=λ(v:aC)=>YK (C:=C) (S:=S) (K:=K) (J:=J) (d0:=1) (Post:=Post) (w0:=b) (c:=v) (cs:=c::cs) (vs:=k) a f j H;rw[<-l]at o⊢;have p:(V*KK).fdiv 4294967296=V:=by rw[show KK=4294967296 from rfl];rw[av9 _ ag];omega
 have r:tC .and .u64 (V*KK) 2147483648=0:=by rw[l];have:=st_flag k 0 ag ag;simpa[KK]using this
 have t:tC .and .u64 (V*KK) 2147483647=0:=by rw[l];have:=st_waiters k 0 ag ag;simpa[KK]using this
 have c1:Hl.wrap V=V:=by rw[ay5];omega
 have c2:OM.wrap (V*KK+1)=V*KK+1:=by rw[ay4];simp only[KK];omega
 have N:aM (V=0)=false:=decide_eq_false ag;have h:=gD (C:=C) (J:=J) (p:=0) (vb:=k) f j ag;generalize V*KK=s at p r t c2 o⊢;refine .cL f h (n:=6) (by rw[a];exact db) ?_;rw[a];refine .val (i:=13) (v:=.int .u64 (s.fdiv 4294967296)) (v':=.int .u64 V) ah (by rw[p]) ?_;refine .cL f h (n:=1) (by rw[a];exact db) ?_;rw[a];refine .val (i:=14) (v:=.int .i32 (Hl.wrap V)) (v':=.int .i32 V) ah (by rw[c1]) ?_;refine .cL f h (n:=6) (by rw[a];exact db) ?_;rw[a];refine .val (i:=16) (v:=.int .u64 (tC .and .u64 s 2147483647)) (v':=.int .u64 0) ah (by rw[t]) ?_;refine .cL f h (n:=8) (by rw[a];exact db) ?_;rw[a];refine .val (i:=19) (v:=.bool (aM (V=0))) (v':=.bool ax) ah (by rw[N]) ?_;refine .cL f h (n:=11) (by rw[a];exact db) ?_;rw[a];refine .val (i:=47) (v:=.int .u64 (OM.wrap (s+1))) (v':=.int .u64 (s+1)) ah (by rw[c2]) ?_;refine .cL f h (n:=1) (by rw[a];exact db) ?_;rw[a];refine .eqv (g':=kQ C.Wg s (s+1) (fC C.Wg c cs x s V) (c::cs)) ah (o _ (YO a B f j x r y) ?_);refine .cL f (gD f j ag) (n:=12) (by rw[a];exact db) ?_;rw[a];exact .eqv ah (u (Ny (dZ (nxtN aj aq 12 (aw ((fC C.Wg c cs x s V).finish (.bool ax)) (c::cs))).callers)))
theorem YM(a:C.P=aj)(l:C.ty=135)(f:C.dy)(j:J+1-C.m<2147483600)(k:∀w,Rl S K b w->oD C K J w->ay C.P Post C.O (aw (c.finish (.tuple #[])) cs) w):∀h x,bO C Post S K J (en C J 0 h) 1 (nX C.Wg (fW C.Wg c cs x) (c::cs)) b:=by
 intro h;induction h using rN with
 |_ h r=>
  intro x;refine Lp a f j λv s p=> ?_;rcases pD v with rfl|o
  ·have e:((0:Nat):Int)*KK=0:=bc;rw[e];exact YQ a l f j x k
  ·exact YN a l f j x p o k (r (v-1) ag)
theorem YL(a:C.P=aj)(o:C.ty=135)(f:C.dy)(k:J+1-C.m<2147483600)(l:∀w,Rl S K b w->oD C K J w->ay C.P Post C.O (aw (c.finish (.tuple #[])) cs) w):bO C Post S K J (en C J 0 h) 0 (gW C.Wg c cs) b:=by
 have j:=gD (C:=C) (J:=J) (p:=0) (vb:=h) f k ag;refine .cL f j (n:=3) (by rw[a];exact db) ?_;rw[a];refine .sH (e:=mk .disable) f j ah (λw=>by rw[a];kernel_rfl) (.inr (.inr (.inr (.inl (.inl rfl))))) (d1:=1) rfl ?_;rw[a];refine .cL f j (n:=10) (by rw[a];exact db) ?_;rw[a];exact .eqv ah (YM a o f k l h (Ny (dZ (JX C.Wg c cs).callers)))
end
section
variable {P:aV} {g:aX} {i:Nat} {w B:ak} {main:Bool} {H:bC->au} {o:bR} {t:aK} {x y:bC} {a:aH} {v u:au}
theorem E2(f:o.op=.load t x)(h:H x=.pointer (ae a))(c:(mL t).run P w=.ok ax w)(b:w.cell? a=ae v):(bp H o).run P w=.ok (.value v) w/\(bp H o).events P w #[]= #[⟨.cell a,ax,ax⟩]:=by
 constructor;·simp[bp,f,h,go_sem,zY,Ae,c,b]
 ·simp[bp,f,h,go_sem,zY,Ae,c,b,te]
theorem Jk(p:o.op=.store t x y)(s:H x=.pointer (ae a))(B:H y=v)(f:v.oneCell'=aq)(r:(ed t).run P w=.ok 1 w)(c:w.cell? a=ae u)(N:w.frozen? a=ax):(bp H o).run P w=.ok .skip (w.setCell a v)/\(bp H o).events P w #[]= #[⟨.cell a,aq,ax⟩]:=by
 have l:v.cells= #[v]:=by cases v<;>first|rfl|cases f
 have j:a.add 0=a:=by
  obtain⟨b,k,W⟩:=a;cases W with
  |none=>rfl
  |some q=>
   simp only[bL]at c;split at c<;>simp at c
 have R:(vh t a v).run P w=.ok () (w.setCell a v):=by
  unfold vh;rw[l];simp[r,xM,j,c,N,Di P w a v .plain f,rP]
 have U:∀h,(vh t a v).events P w h=h.push ⟨.cell a,aq,ax⟩:=by
  intro h;unfold vh;rw[l];simp[r,xM,j,c,N,Di P w a v .plain f,events_store P w _ a v .plain f,te];rfl
 constructor;·simp[bp,p,s,B,zW,uY,R,rP]
 ·simp[bp,p,s,B,zW,uY,U,te]
theorem E1{n:Nat}(c:o.op=.indexAddr t x y)(l:H x=.slice (ae a) k a7)(p:H y=.int .i64 f)(b:0<=f/\f<k)(j:(iZ t).run P w=.ok (.slice a6) w)(h:(ed a6).run P w=.ok n w):(bp H o).run P w=.ok (.value (.pointer (ae (a.add (f.toNat*n))))) w/\(bp H o).events P w #[]= #[]:=by
 constructor;·simp[bp,c,l,p,go_sem,Hb,tx,j,h,b]
 ·simp[bp,c,l,p,go_sem,Hb,tx,j,h,b,te]
theorem qw(P:aV)(fn:bW)(e:bX):∀a∈jo P fn #[e],a=e:=λa b=>by
 have:=qx b;simpa using this
theorem Gg(h:AtR g i)(k:(oG g).op=.load t x)(l:(aG g).eval x=.pointer (ae a))(j:(mL t).run P w=.ok ax w)(f:w.cell? a=ae v):aZ P main g w=.go (bz g v) w (jo P g.frame.fn #[⟨.cell a,ax,ax⟩]):=by
 obtain⟨b,c⟩:=E2 (P:=P) (w:=w) k l j f;rw[zo h b];unfold ic;rw[c]
theorem Gi(h:AtR g i)(j:(oG g).op=.store t x y)(o:(aG g).eval x=.pointer (ae a))(p:(aG g).eval y=v)(l:v.oneCell'=aq)(k:(ed t).run P w=.ok 1 w)(f:w.cell? a=ae u)(r:w.frozen? a=ax):aZ P main g w=.go (bz g aN) (w.setCell a v) (jo P g.frame.fn #[⟨.cell a,aq,ax⟩]):=by
 obtain⟨b,c⟩:=Jk (P:=P) (w:=w) j o p l k f r;rw[N3 h b];unfold ic;rw[c]
theorem C9{e:aK}{n:Nat}(h:AtR g i)(l:(oG g).op=.indexAddr t x y)(r:(aG g).eval x=.slice (ae a) k a7)(s:(aG g).eval y=.int .i64 f)(j:0<=f/\f<k)(p:(iZ t).run P w=.ok (.slice e) w)(o:(ed e).run P w=.ok n w):aZ P main g w=.go (bz g (.pointer (ae (a.add (f.toNat*n))))) w #[]:=by
 obtain⟨b,c⟩:=E1 (P:=P) (w:=w) l r s j p o;rw[zo h b];unfold ic;rw[c,seen_none]
end
section
variable {C:FC} {S L:Nat->Prop} {J h r:Nat} {p:(Nat->Gh)->Int->Int->Prop} {Post:au->ak->Prop} {b w B:ak} {g:aX} {i:Nat} {t:aK} {x y:bC} {a:aH} {v u:au}
def lj(L:Nat->Prop)(n:Nat):Nat->Prop:=λb=>L b\/b=n
def dg(w:ak)(o:dV):World:={w with heap:=w.heap.push o}
theorem UA(L:Nat->Prop)(w:ak)(o:dV):grow L w (dg w o)=lj L w.heap.size:=by
 funext b;simp only[grow,lj,dg,zS,eq_iff_iff];constructor
 ·rintro(h|⟨a,c⟩);·exact .inl h
  ·exact .inr ag
 ·rintro(h|h);·exact .inl h
  ·exact .inr ag
theorem ky(w:ak)(o:dV)(h:k<w.heap.size):(dg w o).heap[k]?=w.heap[k]?:=by
 simp only[dg];rw[xk,if_neg ag]
theorem rz(w:ak)(o:dV):(dg w o).heap[w.heap.size]?=ae o:=by simp only[dg];rw[xk,if_pos rfl]
theorem Rl.cell(h:Rl S L w B){a:aH}{v:au}(k:L a.block)(b:w.cell? a=ae v):B.cell? a=ae v:=by
 unfold bL at b⊢;split at b
 ·rename_i c e f l;obtain⟨o,j⟩:=h.same _ k c e f l;rw[j];exact b
 ·cases b
theorem J7{P:aV}{fn:bW}{wr:Bool}(d:Nat):jl d (jo P fn #[⟨.cell a2,wr,ax⟩])=d:=
 aK3 (λe a=>by
  have:=qw P fn _ e a;subst this;simp) d
theorem bO.new(k:C.dy)(t:Kp C J p)(x:g.status=.running)(o:dV)(c:Nat->aX)(h:∀w,aZ C.P aq g w=.go (c w.heap.size) (dg w o) #[])(u:∀w,Rl S L b w->C.Wf w->(∀a,L a->a<w.heap.size/\¬C.O a)->bO C Post S (lj L w.heap.size) J p r (c w.heap.size) (dg w o)):bO C Post S L J p r g b:=by
 refine .step k t x λw v f j=>⟨_,_, #[],h w,⟨by simp[dg],λa l _ _=>ky w o l⟩,?_,λe s=>by simp at s,?_⟩
 ·obtain⟨st,B,y⟩:=f.wg;exact ky w o (cq.1 y).1
 ·rw[UA];exact u w v f j
theorem bO.ld(f:C.dy)(o:Kp C J p)(B:g.status=.running)(h:AtR g i)(u:(oG g).op=.load t x)(H:(aG g).eval x=.pointer (ae a))(l:∀w,(mL t).run C.P w=.ok ax w)(c:L a.block)(j:b.cell? a=ae v)(s:bO C Post S L J p r (bz g v) b):bO C Post S L J p r g b:=by
 refine .look f o B (λw y N=>⟨_,Gg h u H (l w) (y.cell c j),λe k=> ?_,J7 _⟩) s;have:=qw _ _ _ e k;subst this;exact .inl ⟨a,rfl,c,λh=>by cases h⟩
theorem bO.st(H:C.dy)(W:Kp C J p)(a6:g.status=.running)(h:AtR g i)(a1:(oG g).op=.store t x y)(hx:(aG g).eval x=.pointer (ae a))(hy:(aG g).eval y=v)(hv:v.oneCell'=aq)(hs:∀w,(ed t).run C.P w=.ok 1 w)(c:L a.block)(f:¬S a.block)(N:a.block≠C.Wg)(l:b.cell? a=ae u)(s:b.frozen? a=ax)(Z:∀w,Rl S L b w->bO C Post S L J p r (bz g aN) (w.setCell a v)):bO C Post S L J p r g b:=by
 refine .step H W a6 λw o hf a8=> ?_;have k:=o.exact _ c f;have R:w.cell? a=ae u:=by unfold bL at l⊢;rw[k];exact l
 have a7:w.frozen? a=false:=by unfold gu at s⊢;rw[k];exact s
 have j:=mG w a v;refine⟨_,_,_,Gi h a1 hx hy hv (hs w) R a7,⟨by rw[j.size];exact aL _,λB k a2 aa=>j.block B λe=> ?_⟩,j.block _ (jm N),λe U=> ?_,?_⟩
 ·subst e;rcases a2 with h|h;·exact h c
  ·exact f h
 ·have:=qw _ _ _ e U;subst this;rw[vO];exact .inl ⟨a,rfl,c,λ_=>f⟩
 ·rw[vO,J7];exact Z w o
theorem bO.ix{e:aK}{l c n:Nat}{k:Int}(f:C.dy)(j:Kp C J p)(v:g.status=.running)(h:AtR g i)(u:(oG g).op=.indexAddr t x y)(N:(aG g).eval x=.slice (ae a) l c)(R:(aG g).eval y=.int .i64 k)(o:0<=k/\k<l)(H:∀w,(iZ t).run C.P w=.ok (.slice e) w)(B:∀w,(ed e).run C.P w=.ok n w)(s:bO C Post S L J p r (bz g (.pointer (ae (a.add (k.toNat*n))))) b):bO C Post S L J p r g b:=
 .idle f j v λw U=>⟨_,C9 h u N R o (H w) (B w),s⟩
end
abbrev ptr(b:Nat):Value:=.pointer (ae ⟨b,0,af⟩)
abbrev nW(b8 b4 b7 b5:Nat):Value:=.func (.func 89) #[] #[ptr b8,ptr b4,ptr b7,ptr b5]
noncomputable def Gc(P:aV)(g:aX):aX×Goroutine:=match aZ P aq g fM with| .spawn a c _ _=>(a,c)|_=>(g,g)
section
variable (Wg b8 b4 b7 b5:Nat) (c:aC) (cs:List aC) (B1 B2:Nat)
noncomputable abbrev gG:Goroutine:=aw (bG aj 88 #[jR Wg,nW b8 b4 b7 b5] .normal) (c::cs)
noncomputable def JN:Goroutine:=bz (nxtN aj aq 2 (gG Wg b8 b4 b7 b5 c cs)) (ptr B1)
noncomputable def JO:Goroutine:=bz (JN Wg b8 b4 b7 b5 c cs B1) (ptr B2)
noncomputable def JP:Goroutine:=nxtN aj aq 3 (JO Wg b8 b4 b7 b5 c cs B1 B2)
noncomputable def fG:Frame:=dZ (nxtN aj aq 1 (bz (JP Wg b8 b4 b7 b5 c cs B1 B2) (jR Wg))).callers
noncomputable def El:Goroutine:=nxtN aj aq 3 (aw ((fG Wg b8 b4 b7 b5 c cs B1 B2).finish (.tuple #[])) (c::cs))
theorem Um:AtR (JP Wg b8 b4 b7 b5 c cs B1 B2) 0:=bI
end
noncomputable def uf(B1 B2:Nat):Goroutine:=(Gc aj (El 0 0 0 0 0 (bG aj 0 #[] .normal) [] B1 B2)).2
section
variable {C:FC} {S L:Nat->Prop} {J h r:Nat} {p:(Nat->Gh)->Int->Int->Prop} {Post:au->ak->Prop} {b w B:ak} {c:aC} {cs:List aC}
theorem G1(c:∀b,L b->b<w.heap.size)(o:dV):Rl S L w (dg w o):=⟨by simp[dg],λb a=>.of_eq (ky w o (c b a)),λb a _=>ky w o (c b a),rfl,rfl⟩
theorem IT:(dg N (.cells #[Z] a6)).cell? ⟨N.heap.size,0,af⟩=ae Z:=by
 simp[bL,rz]
theorem IU{w:ak}{o:dV}(h:w.cell? a2=ae Z):(dg w o).cell? a2=ae Z:=by
 have b:a2.block<w.heap.size:=by
  unfold bL at h;split at h;·rename_i a;exact(cq.1 a).1
  ·cases h
 unfold bL at h⊢;rw[ky w o b];exact h
theorem YH{b8 b4 b7 b5:Nat}{ro:Nat->Prop}(f:C.P=aj)(ad:C.ty=135)(j:C.dy)(an:J+2-C.m<2147483600)(bY:∀a,ro a->L a)(ai:∀B1 B2 w,Rl S L b w->C.Wf w->¬L B1->¬L B2->(B1≠C.T/\B1≠C.E/\B2≠C.T/\B2≠C.E)->w.cell? ⟨B1,0,af⟩=ae (jR C.Wg)->w.cell? ⟨B2,0,af⟩=ae (nW b8 b4 b7 b5)->cW C.P {T:=C.T,E:=C.E,i:=J+1-C.m,part:=λa=>ro a\/a=B1\/a=B2} (C.pr (J+1)) (λ_=>False) (uf B1 B2) w)(aa:∀B1 B2 t,Rl S L b t->¬L B1->¬L B2->(B1≠C.T/\B1≠C.E/\B2≠C.T/\B2≠C.E)->bO C Post (λa=>S a\/(ro a\/a=B1\/a=B2)) (lj (lj L B1) B2) (J+1) (en C (J+1) 0 (h+1)) 0 (aw (c.finish (.tuple #[])) cs) t):bO C Post S L J (en C J 0 h) 0 (gG C.Wg b8 b4 b7 b5 c cs) b:=by
 have x:J+1-C.m<2147483600:=ag;have r:=gD (C:=C) (J:=J) (p:=0) (vb:=h) j x ag;have a7:=gD (C:=C) (J:=J) (p:=1) (vb:=h) j x ag;refine .cL j r (n:=2) (by rw[f];exact db) ?_;rw[f];refine .new j r ah (.cells #[jR C.Wg] 140) (λn=>JN C.Wg b8 b4 b7 b5 c cs n) (λw=>by rw[f];kernel_rfl) λt v U B=> ?_;generalize a2:t.heap.size=B1;refine .new j r ah (.cells #[nW b8 b4 b7 b5] 1) (λn=>JO C.Wg b8 b4 b7 b5 c cs B1 n) (λw=>by rw[f];kernel_rfl) λp s al H=> ?_;generalize a6:p.heap.size=B2;have c1:p.cell? ⟨B1,0,af⟩=ae (jR C.Wg):=s.cell (.inr rfl) (by rw[<-a2];exact IT);have am:B1<B2:=by have:=(H B1 (.inr rfl)).1;omega
 have ab:Rl S L b p:=⟨by have:=v.size;have:=s.size;simp only[dg,zS]at this;omega,λa k=>((v.same a k).trans (.of_eq (ky t _ (B a k).1))).trans (s.same a (.inl k)),λa k W=>(s.exact a (.inl k) W).trans ((ky t _ (B a k).1).trans (v.exact a k W)),s.os.trans v.os,s.output.trans v.output⟩;have ac:∀o,Rl S L b (dg p o):=λo=>ab.trans (G1 (λa k=>(H a (.inl k)).1) o);have y:(dg p (.cells #[nW b8 b4 b7 b5] 1)).cell? ⟨B1,0,af⟩=ae (jR C.Wg):=IU c1;have R:(dg p (.cells #[nW b8 b4 b7 b5] 1)).cell? ⟨B2,0,af⟩=ae (nW b8 b4 b7 b5):=by rw[<-a6];exact IT
 have N:=ac (.cells #[nW b8 b4 b7 b5] 1);have Z:¬L B1:=λu=>by have:=(B B1 u).1;omega
 have n2:¬L B2:=λu=>by have:=(H B2 (.inl u)).1;omega
 have a1:B1≠C.T/\B1≠C.E/\B2≠C.T/\B2≠C.E:=by
  obtain⟨_,t1,_⟩:=U.T;obtain⟨_,_,_,e1,_⟩:=U.E;have:=(cq.1 t1).1;have:=(cq.1 e1).1;omega
 generalize dg p (.cells #[nW b8 b4 b7 b5] 1)=w3 at y R N;refine .cL j r (n:=3) (by rw[f];exact db) ?_;rw[f];refine .ld j r ah (Um C.Wg b8 b4 b7 b5 c cs B1 B2) (t:=140) (x:=.tmp 2) (a:=⟨B1,0,af⟩) (v:=jR C.Wg) ah ah (by rw[f];exact OI) (.inl (.inr rfl)) y ?_;refine .cL j r (n:=1) (by rw[f];exact db) ?_;rw[f];refine .eqv (g':=gA C.Wg (fG C.Wg b8 b4 b7 b5 c cs B1 B2) (c::cs)) ah (YE f ad j x ?_);refine .cL j a7 (n:=3) (by rw[f];exact db) ?_;rw[f];refine .uO ah (eV.spawn (fr':=(Gc aj (El C.Wg b8 b4 b7 b5 c cs B1 B2)).1.frame) (cs':=(Gc aj (El C.Wg b8 b4 b7 b5 c cs B1 B2)).1.callers) (ro:=λa=>ro a\/a=B1\/a=B2) j x (λw l hf=>⟨uf B1 B2,?_,?_⟩) ?_ (bO.zr ?_));·rw[f];kernel_rfl
 ·exact ai B1 B2 w (N.trans ⟨l.size,λa k=>l.same a (.inl (.inl k)),λa k=>l.exact a (.inl (.inl k)),l.os,l.output⟩) hf Z n2 a1 (l.cell (.inl (.inr rfl)) y) (l.cell (.inr rfl) R)
 ·rintro a (u|rfl|rfl);·exact .inl (.inl (bY a u))
  ·exact .inl (.inr rfl)
  ·exact .inr rfl
 ·have a8:=gD (C:=C) (J:=J+1) (p:=0) (vb:=h+1) j ag ag;refine .cL j a8 (n:=3) (by rw[f];exact db) ?_;exact .eqv (by rw[f];kernel_rfl) (aa B1 B2 w3 N Z n2 a1)
end
section
variable {P:aV} {R:ak->ak->Prop} {D:ak->ak->Array bX->Prop} {l:aX->ak->Prop}
theorem yp{n:Nat}{g g':aX}{a:ak}{es:Array bX}(b:R N a)(c:¬l g a)(h:ie P ax R D l n g N)(f:aZ P ax g a=.go g' a es):∃j,D a a es/\ie P ax R D l j g' a:=by
 cases n with
 |zero=>exact absurd (h a b) c
 |succ n=>
  rcases h with h|⟨_,h⟩;·exact absurd (h a b) c
  ·have:=h a b;rw[f,Dn]at this;exact⟨n,this⟩
theorem JZ(s:∀w,R w w)(r:∀g w,l g w->∃g' e,aZ P ax g w=.go g' w #[e]):∀{m:Nat} {g:aX} {n k:Nat} {w:ak},Idle P ax m g->ie P ax R D l n g w->(∀t f,(R w f)->ie P ax R D l t (nxtN P ax m g) f->ie P ax R nL l k (nxtN P ax m g) f)->(∀a b c,R a b->R b c->R a c)->ie P ax R nL l (k+m) g w
 |0,g,n,k,w,_,h,p,_=>by
  have:=p n w (s w);unfold nxtN at this;exact this h
 |m+1,g,n,k,w,o,h,p,u=>by
  have B:∀f,¬l g f:=λf H=>by
   obtain⟨g',e,j⟩:=r g f H;rw[o.2.1 f]at j;cases j
  refine .inr ⟨o.1,λf j=> ?_⟩;rw[o.2.1 f,Dn];obtain⟨t,_,v⟩:=yp j (B f) h (o.2.1 f);refine⟨⟨rfl,rfl⟩,JZ s r (m:=m) o.2.2 v (λN U x y=> ?_) u⟩;have:=p N U (u _ _ _ j x);unfold nxtN at this;exact this y
theorem JY(f:∀w,R w w)(c:∀g w,l g w->∃g' e,aZ P ax g w=.go g' w #[e]):∀{m:Nat} {g:aX} {n:Nat} {w:ak},Idle P ax m g->ie P ax R D l n g w->∃j,ie P ax R D l j (nxtN P ax m g) w
 |0,g,n,w,_,h=>⟨n,by unfold nxtN;exact h⟩
 |m+1,g,n,w,a,h=>by
  have p:¬l g w:=λr=>by
   obtain⟨g',e,b⟩:=c g w r;rw[a.2.1 w]at b;cases b
  obtain⟨j,_,k⟩:=yp (f w) p h (a.2.1 w);obtain⟨s,o⟩:=JY f c a.2.2 k;exact⟨s,by unfold nxtN;exact o⟩
end
section
variable (Wg B1 B2 b8 b4 b7 b5:Nat)
noncomputable def Ur:Goroutine:=nxtN aj ax 7 (uf B1 B2)
noncomputable def oR:Goroutine:=nxtN aj ax 1 (bz (Ur B1 B2) (nW b8 b4 b7 b5))
noncomputable def cK:Frame:=dZ (oR B1 B2 b8 b4 b7 b5).callers
noncomputable def vF:List Frame:=Cd (oR B1 B2 b8 b4 b7 b5).callers
noncomputable def Us:Goroutine:=nxtN aj ax 17 (aw ((cK B1 B2 b8 b4 b7 b5).finish (.tuple #[])) (vF B1 B2 b8 b4 b7 b5))
noncomputable def r7:Goroutine:=nxtN aj ax 4 (bz (Us B1 B2 b8 b4 b7 b5) (jR Wg))
noncomputable def cN:Frame:=dZ (r7 Wg B1 B2 b8 b4 b7 b5).callers
noncomputable def AM:List Frame:=Cd (r7 Wg B1 B2 b8 b4 b7 b5).callers
noncomputable def yn:Goroutine:=nxtN aj ax 11 (r7 Wg B1 B2 b8 b4 b7 b5)
noncomputable def B0:Goroutine:=bz (yn Wg B1 B2 b8 b4 b7 b5) (jR Wg)
theorem Vn:AtR (yn Wg B1 B2 b8 b4 b7 b5) 1:=bI
theorem Vr:vo aj 8 0 (aw ((cN Wg B1 B2 b8 b4 b7 b5).finish (.tuple #[])) (AM Wg B1 B2 b8 b4 b7 b5)):=by
 have:=M4 (P:=aj) (n:=8) (q:=0) (d:=0) (g:=aw ((cN Wg B1 B2 b8 b4 b7 b5).finish (.tuple #[])) (AM Wg B1 B2 b8 b4 b7 b5)) db ⟨ah,rfl⟩;exact this
def yT(c:aC):Array Oper:=match c.todo with| .inRegion a _::_=>a|_=> #[]
def iF(c:aC):Nat:=match c.todo with| .inRegion _ (i::_)::_=>i|_=>0
def G0(c:aC):List Nat:=match c.todo with| .inRegion _ (_::r)::_=>r|_=>[]
def kF(c:aC):List Item:=match c.todo with|_::k=>k|_=>[]
theorem Vq[qK]{T n k:Nat}{val:au}(w:ak)(f:vn 135 Wg w/\Has T (k-1) val w):ie aj ax (RW 135 Wg T n 0 (k-1)) (DWs Wg (λ_ _=>False) (λ_ _=>False) T n k) (vy aj 135 Wg T n 0 k val) 20 (r7 Wg B1 B2 b8 b4 b7 b5) w:=by
 have key:∀g,g=r7 Wg B1 B2 b8 b4 b7 b5->ie aj ax (RW 135 Wg T n 0 (k-1)) (DWs Wg (λ_ _=>False) (λ_ _=>False) T n k) (vy aj 135 Wg T n 0 k val) 20 g w->ie aj ax (RW 135 Wg T n 0 (k-1)) (DWs Wg (λ_ _=>False) (λ_ _=>False) T n k) (vy aj 135 Wg T n 0 k val) 20 (r7 Wg B1 B2 b8 b4 b7 b5) w:=λg e h=>e▸h;generalize a:cN Wg B1 B2 b8 b4 b7 b5=c;generalize b:AM Wg B1 B2 b8 b4 b7 b5=cs;have l:=Vr Wg B1 B2 b8 b4 b7 b5;have j:vo aj 8 0 (G (c.at ((⟨c.tmps,c.defers⟩:gx).put (((yT c)[iF c]?).bind (·.dst)) (.tuple #[])) (.inRegion (yT c) (G0 c)::kF c)) cs):=by
  have e:G (c.at ((⟨c.tmps,c.defers⟩:gx).put (((yT c)[iF c]?).bind (·.dst)) (.tuple #[])) (.inRegion (yT c) (G0 c)::kF c)) cs=aw ((cN Wg B1 B2 b8 b4 b7 b5).finish (.tuple #[])) (AM Wg B1 B2 b8 b4 b7 b5):=by
   rw[<-a,<-b];kernel_rfl
  rw[e];exact l
 have:=aM3 (L:=link) (P:=aj) jg (Own:=λ_ _=>False) (Rd:=λ_ _=>False) (Wg:=Wg) (C:=T) (n:=n) (Low:=0) (k:=k) (val:=val) (b₀:=c) (a₀:=⟨c.tmps,c.defers⟩) (ops₀:=yT c) (i₀:=iF c) (rest₀:=G0 c) (k₀:=kF c) (cs:=cs) j w f;refine key _ ?_ this;rw[<-a,<-b];kernel_rfl
end
section
variable {C:FC} {x:Nat} {v:au} {w:ak} {B1 B2 b8 b4 b7 b5:Nat}
theorem FN{P:aV}{ty:aK}{Wg T n:Nat}{val:au}{g:aX}(h:vy P ty Wg T n k a7 val g N):∃g',aZ P ax g N=.go g' N #[mk (.releaseMerge (dB Wg))]:=let ⟨_,_,g',a,_⟩:=h;⟨g',a⟩
theorem Zp(Z:C.P=aj)(t:C.ty=135)(hf:C.Wf w)(hv:Has C.T (x-C.m) v w):∃a6,C.pre x v a6 (r7 C.Wg B1 B2 b8 b4 b7 b5) w:=by
 have j:=hf.wg;rw[t]at j;have N:=Vq C.Wg B1 B2 b8 b4 b7 b5 (T:=C.T) (n:=C.n) (k:=x-C.m+1) (val:=v) w ⟨j,hv⟩;have k:∀w,RW 135 C.Wg C.T C.n 0 (x-C.m+1-1) w w:=λw=>RW.jU ..;have a2:∀a b c,RW 135 C.Wg C.T C.n 0 (x-C.m+1-1) a b->RW 135 C.Wg C.T C.n 0 (x-C.m+1-1) b c->RW 135 C.Wg C.T C.n 0 (x-C.m+1-1) a c:=λ_ _ _=>RW.trans';have r:∀g w,vy aj 135 C.Wg C.T C.n 0 (x-C.m+1) v g w->∃g' e,aZ aj ax g w=.go g' w #[e]:=λg w h=>let ⟨g',f⟩:=FN h;⟨g',_,f⟩
 have goal:ie aj ax (RW 135 C.Wg C.T C.n 0 (x-C.m+1-1)) nL (vy aj 135 C.Wg C.T C.n 0 (x-C.m+1) v) (1+11) (r7 C.Wg B1 B2 b8 b4 b7 b5) w:=by
  refine JZ k r (m:=11) db N (λn1 B r1 f=> ?_) a2;change ie aj ax _ nL _ 1 (yn C.Wg B1 B2 b8 b4 b7 b5) B;change ie aj ax _ _ _ n1 (yn C.Wg B1 B2 b8 b4 b7 b5) B at f;refine .inr ⟨ah,λH y=> ?_⟩;obtain⟨u,hu⟩:=WgLive.c0 (y.live (r1.live j));have o:aZ aj ax (yn C.Wg B1 B2 b8 b4 b7 b5) H=.go (B0 C.Wg B1 B2 b8 b4 b7 b5) H #[]:=zn (Vn C.Wg B1 B2 b8 b4 b7 b5) (s:=140) (d:=60) (t:=135) (x:=.tmp 11) ah ah jg.underlying_tWgP jg.underlying_tUP jg.room_tWg hu;rw[o,Dn];refine⟨⟨rfl,rfl⟩,?_⟩;obtain⟨n2,_,R⟩:=yp y (λl=>by obtain⟨g',e⟩:=FN l;rw[o]at e;cases e) f o;intro p r3;apply pC;intro a1;obtain⟨n3,_,U⟩:=yp (es:= #[mk (.releaseMerge (dB C.Wg))]) (g':=nxt aj ax (B0 C.Wg B1 B2 b8 b4 b7 b5)) r3 a1 R ah;obtain⟨n4,W⟩:=JY k r (m:=3) db U;have s:aZ aj ax (nxtN aj ax 3 (nxt aj ax (B0 C.Wg B1 B2 b8 b4 b7 b5))) p=.go (nxt aj ax (nxtN aj ax 3 (nxt aj ax (B0 C.Wg B1 B2 b8 b4 b7 b5)))) p #[mk .disable]:=ah;obtain⟨n5,hd,_⟩:=yp (k p) (λl=>by obtain⟨g',e⟩:=FN l;rw[s]at e;cases e) W s;exact(hd.2 (mk .disable) az).2.1 rfl
 refine⟨1+11,?_⟩;unfold FC.pre FC.lh;rw[Z,t];exact goal
end
