/- Own texts: Index, IndexB, UniB. -/
import Derived.Test.YtcgjppacnhmjlaaGreatMP
import Derived.Shelf.LaysM
import Derived.Shelf.Strconv.Clone
import Derived.Test.YtcgjppacnhmjlaaGreatMO
set_option linter.all false
set_option maxRecDepth 100000
set_option maxHeartbeats 1000000
open Array renaming getElem?_eq_some_iff->cq,getElem?_modify->fV,getElem?_eq_getElem->jV
open Bool renaming true->aq,false->ax
open Go renaming World->ak,Value->au,cell_later->aS,Calls->aE,TypeId->aK,heap_alloc_new->cY,Program->aV,Addr->aH,Operand->bC,execOp->bp,maxLen->cE,wp_loop_rounds->mE,Oper->bR,yielded->fN,results->ga,rounds_succ->mH,bodyPost_ret->oi,resolve->mI,TypeInfo->qI,invoke->pL,Obj->dV,run_append_room_src->Od,Act->gx,builtin->Af,Exit->s8
open Go.Builtin renaming append->H8
open Go.Callee renaming builtin->H9
open Go.Op renaming call->I7
open Go.Oper renaming wp->xQ
open Go.Proofs.LaysM renaming n316->aL3
open Go.Proofs.Tryz renaming prog->aj,isAgg3->ib,isAgg9->lL,ntmps31->Hi,underlying9->Oi,underlying3->Oj,func31->Ht,sizeOf3->ON,underlying4->aA7,underlying0->aA8,zeroValue9->aB8,zeroValue4->aB9,zeroValue3->aC0,zeroValue0->aC1,sizeOf9->aE0,sizeOf4->aE1,sizeOf0->aE2,ntmps55->aF3,isAgg4->aH6,isAgg0->aH7,func55->aI5,func12->aK1,func10->aK2
open Go.Region renaming wanted->iJ
open Go.Result renaming andThen->rP
open Go.RowKit renaming Below->aA,Hid->aB
open Go.RowKit.Below renaming refl->cD,heap_setCell->hH
open Go.Src renaming ofSlice->aK8
open Go.World renaming block_lt_of_cell?->cC,cell?->bL,cell?_of_block->gV,setCell->eK,frozen?->gu,cell?_setCells_out->GQ,cell?_setCells_in->aw1
open List renaming getElem?_eq_some_iff->cu,length_eq_zero_iff->kY,getElem?_append->ax3
open List.Pairwise renaming nil->nA
open Nat renaming le_refl->aL,le_trans->bT,lt_of_lt_of_le->dG,zero_le->fL,zero_add->ia,mul_one->tj
open Option renaming some->ae,none->af,map_some->hZ,isSome_iff_exists->sO
namespace Go.Proofs.YtcgjppacnhmjlaaGreat
open Go.RowKit Go.Shelf
variable {o:Nat->Prop} {f N:ak} {s a1:Option aH} {l:List KV} {k:ByteArray} {p:Int} {j u:Nat} {r:List Nat} {a2:Array bR} {v:bR} {y:gx} {a6:s8->gx->ak->Prop}
section
attribute [local go_sem↓] Go.wp_at_zero Go.wp_at_succ
def QM:Go.Shelf.Ren:=⟨fun|316=>64|n=>n,fun|9=>9|3=>3|4=>4|37=>114|0=>0|127=>115|5=>5|n=>n,fun|n=>n⟩
theorem QK:aL3 aj QM:={
 mixed:=ah
 f316:=Tryz.func64.trans (congrArg ae ah)
 t0:=aA8
 a0:=aH7
 z0:=aE2
 v0:=aC1
 t3:=Oj
 a3:=ib
 z3:=ON
 v3:=aC0
 t4:=aA7
 a4:=aH6
 z4:=aE1
 v4:=aB9
 t9:=Oi
 a9:=lL
 z9:=aE0
 v9:=aB8
 t37:=Tryz.underlying114
 a37:=Tryz.isAgg114
 z37:=Tryz.sizeOf114
 v37:=Tryz.zeroValue114
 t127:=Tryz.underlying115
 a127:=Tryz.isAgg115
 z127:=Tryz.sizeOf115
 v127:=Tryz.zeroValue115
 t5:=Tryz.underlying5
 a5:=Tryz.isAgg5
 z5:=Tryz.sizeOf5
 v5:=Tryz.zeroValue5
 i0:=ah
 i3:=ah
 i4:=ah
 i5:=ah
 i9:=ah
 i37:=ah
 i127:=by kernel_rfl}
theorem VL(s:ByteArray)(w:ak)(a:s.size<=281474976710656):aE aj 64 #[.string s] w λe h=>e=.returned (.string s)/\aA w.heap.size w h:=Any.stringslite_Clone QK s w a
theorem AK(s:ByteArray)(w:ak)(a:s.size<=281474976710656):aE aj 48 #[.string s] w λe h=>e=.returned (.string s)/\aA w.heap.size w h:=by
 go_enter Tryz.func48,Tryz.ntmps48
 go_wp2_with (go_at_call 64;refine(VL _ _ a).mono ?_;rintro e h ⟨rfl,b⟩)
 go_ret
 exact⟨rfl,b⟩
structure cF(x:Nat)(w h:ak):Prop where
 os:h.os=w.os
 tape:h.tape=w.tape
 output:h.output=w.output
 size:w.heap.size<=h.heap.size
 block:∀k,k<w.heap.size->k≠x->h.heap[k]?=w.heap[k]?
structure bB(S:Nat->Prop)(w:ak)(x:Nat)(l:List KV):Prop where
 tree:∃n tp,w.heap[x]?=ae (.cells #[.pointer tp] 64 (0,0))/\bD S n w tp l
 out:¬S x
 cI:l.length<=3000
theorem Fe(w:ak):aE aj 10 #[] w λe h=>e=.returned (.pointer (ae ⟨w.heap.size,0,af⟩))/\h=w.alloc (.cells #[.pointer af] 64):=by
 go_enter aK2,Tryz.ntmps10
 go_wp2
 go_ret
 exact⟨rfl,rfl⟩
theorem uK{n:Nat}(a:bD o n f s l):aE aj 24 #[.pointer s] f λe h=>e=.returned (.int .i64 l.length)/\h=f:=by
 rcases a with⟨rfl,rfl⟩|⟨t,rfl,a⟩;·exact am1 f
 ·exact am2 t _ f a.size
theorem GH{w:ak}{n:Nat}(f:Open o w)(v:bD o n w s l)(x:k.size<=64)(R:l.length+1<=1000000):aE aj 50 #[.pointer s,.string k,.int .i64 p] w λe h=>∃a u,e=.returned (.pointer u)/\bD o a h u (ins k.data.toList p l)/\aA w.heap.size w h:=by
 have c:=cH w (.cells #[.int .i64 p] 3);have y:aE aj 66 #[.pointer s,.string k,.pointer (ae ⟨w.heap.size,0,af⟩)] (w.alloc (.cells #[.int .i64 p] 3)) (λe h=>∃a b,e=.returned (.pointer (ae ⟨b,0,af⟩))/\aY o a h b (ins k.data.toList p l)/\aA w.heap.size w h):=by
  have fin:∀a e h,oy o a (ins k.data.toList p l) (w.alloc (.cells #[.int .i64 p] 3)) e h->∃a b,e=.returned (.pointer (ae ⟨b,0,af⟩))/\aY o a h b (ins k.data.toList p l)/\aA w.heap.size w h:=by
   rintro a e h ⟨b,j,r,H⟩;exact⟨a,b,j,r,c.trans (H.mono c.size)⟩
  rcases v with⟨rfl,rfl⟩|⟨t,rfl,N⟩;·exact(ar8 (f.later c) x (f _ (aL _)) az).mono (fin _)
  ·exact(Nv n (f.later c) (N.on c) x (f _ (aL _)) az R).mono (fin _)
 have B:aB (aE aj 66 #[.pointer s,.string k,.pointer (ae ⟨w.heap.size,0,af⟩)] (w.alloc (.cells #[.int .i64 p] 3)) (λe h=>∃a b,e=.returned (.pointer (ae ⟨b,0,af⟩))/\aY o a h b (ins k.data.toList p l)/\aA w.heap.size w h)):=y;clear y v
 go_enter Tryz.func50,Tryz.ntmps50
 go_wp2_with (go_at_call 66;refine B.out.mono ?_;rintro e h ⟨a,b,rfl,j,r⟩)
 go_ret
 exact⟨a,_,rfl,.inr ⟨b,rfl,j⟩,r⟩
theorem jc(h:f.heap[j]?=ae (.cells #[.pointer s] 64 (0,0))):f.cell? ⟨j,0,af⟩=ae (.pointer s):=by simp[bL,h]
theorem vS(h:f.heap[j]?=ae (.cells #[.pointer s] 64 (0,0))):f.frozen? ⟨j,0,af⟩=false:=by simp[gu,h]
theorem cJ{w:ak}{a:dV}(h:w.heap[j]?=ae a):j<w.heap.size:=(cq.mp h).1
theorem Kc(b:bB o f j l)(v:k.size<=9223372036854775807):aE aj 17 #[.pointer (ae ⟨j,0,af⟩),.string k] f λe h=>e=.returned (.tuple #[.int .i64 (gm (lk k.data.toList l)),.bool (lk k.data.toList l).isSome])/\aA f.heap.size f h:=by
 obtain⟨n,p,c,a⟩:=b.tree;have t:aB (aE aj 23 #[.pointer (ae ⟨j,0,af⟩)] f λe h=>e=.returned (.pointer p)/\h=f):=n9 (jc c) a.ptr;have s:aB (aE aj 34 #[.pointer p,.string k] f λe h=>e=.returned (.tuple #[.int .i64 (gm (lk k.data.toList l)),.bool (lk k.data.toList l).isSome])/\aA f.heap.size f h):=vN a v;clear c a b;generalize lk k.data.toList l=r at*
 go_enter Tryz.func17,Tryz.ntmps17
 go_wp2_with (first|(go_at_call 23;refine t.out.mono ?_;rintro e h ⟨rfl,rfl⟩)|(go_at_call 34;refine s.out.mono ?_;rintro e h ⟨rfl,u⟩))
 go_ret2
 exact⟨rfl,u⟩
theorem Kd(b:bB o f j l):aE aj 12 #[.pointer (ae ⟨j,0,af⟩)] f λe h=>e=.returned (.int .i64 l.length)/\h=f:=by
 obtain⟨n,k,c,a⟩:=b.tree;have r:aB (aE aj 23 #[.pointer (ae ⟨j,0,af⟩)] f λe h=>e=.returned (.pointer k)/\h=f):=n9 (jc c) a.ptr;have p:aB (aE aj 24 #[.pointer k] f λe h=>e=.returned (.int .i64 l.length)/\h=f):=uK a;clear c a b
 go_enter aK1,Tryz.ntmps12
 go_wp2_with (first|(go_at_call 23;refine r.out.mono ?_;rintro e h ⟨rfl,rfl⟩)|(go_at_call 24;refine p.out.mono ?_;rintro e h ⟨rfl,rfl⟩))
 go_ret
 exact⟨rfl,rfl⟩
theorem cF.jQ(h:aA f.heap.size f N):cF j f N:=⟨h.os,h.tape,h.output,h.size,λk a _=>h.block k a⟩
theorem cF.trans{x:Nat}{a b c:ak}(h:cF x a b)(k:cF x b c):cF x a c:=⟨k.os.trans h.os,k.tape.trans h.tape,k.output.trans h.output,bT h.size k.size,λi f j=>(k.block i (dG f h.size) j).trans (h.block i f j)⟩
theorem cF.set(x:Nat)(w:ak)(v:au):cF x w (w.setCell ⟨x,0,af⟩ v):=⟨rfl,rfl,rfl,by simp[eK],λk _ a=>hH _ _ _ _ a⟩
theorem MP(h:f.heap[j]?=ae (.cells #[.pointer s] 64 (0,0))):(f.setCell ⟨j,0,af⟩ (.pointer a1)).heap[j]?=ae (.cells #[.pointer a1] 64 (0,0)):=by
 simp only[eK,fV,if_true,h,hZ];simp
theorem bD.bK{n:Nat}(h:bD o n f s l)(c:Kept o f N):bD o n N s l:=by
 rcases h with h|⟨t,a,b⟩;·exact .inl h
 ·exact .inr ⟨t,a,b.frame c⟩
theorem bB.swap{n:Nat}(p:f.heap[j]?=ae (.cells #[.pointer s] 64 (0,0)))(a:¬o j)(b:bD o n f a1 l)(c:l.length<=3000):bB o (f.setCell ⟨j,0,af⟩ (.pointer a1)) j l:=⟨⟨n,a1,MP p,b.bK λk h=>hH _ _ _ _ (λ(e:k=j)=>a (e▸h))⟩,a,c⟩
theorem Eu(a:bB o f j l):∃c g,tJ l c g/\aE aj 18 #[.pointer (ae ⟨j,0,af⟩)] f λe h=>e=.returned (dz c g)/\aA f.heap.size f h:=by
 obtain⟨n,t,s,b⟩:=a.tree;have k:=cH f (cP (λ_=>0) 0);have N:=cJ s;have u:(f.alloc (cP (λ_=>0) 0)).heap[j]?=ae (.cells #[.pointer t] 64 (0,0)):=(k.block j N).trans s;obtain⟨c,g,w,v⟩:=al0 (b.on k) (by have:=a.cI;omega);refine⟨c,g,w,?_⟩;have H:aB (aE aj 23 #[.pointer (ae ⟨j,0,af⟩)] (f.alloc (cP (λ_=>0) 0)) λe h=>e=.returned (.pointer t)/\h=f.alloc (cP (λ_=>0) 0)):=n9 (jc u) (b.on k).ptr;have B:aB (aE aj 35 #[.pointer t] (f.alloc (cP (λ_=>0) 0)) λe h=>e=.returned (dz c g)/\aA (f.alloc (cP (λ_=>0) 0)).heap.size (f.alloc (cP (λ_=>0) 0)) h):=v;clear s b a v w u
 go_enter Tryz.func18,Tryz.ntmps18
 go_wp2_with (first|(go_at_call 23;refine H.out.mono ?_;rintro e h ⟨rfl,rfl⟩)|(go_at_call 35;refine B.out.mono ?_;rintro e x ⟨rfl,p⟩;have r:x.heap[f.heap.size]?=ae (cP (λ_=>0) 0):=(p.block _ az).trans (cY f _);obtain⟨R,U,W,Z,r4,r5⟩:=kW r;have fr:=iW r;have y:aB (aA f.heap.size f x):=(cH f _).trans (p.mono (cH f _).size);clear p r;unfold dz))
 refine oi (v:=dz c g) (by simp[ga,Tryz.results18,go_sem,dz,R,U,W,Z,r4,r5]) rfl ⟨rfl,?_⟩;exact(((((y.out.setCell az _).setCell az _).setCell az _).setCell az _).setCell az _).setCell az _
theorem Zx(a:64<k.size)(b:k.size<=9223372036854775807):aE aj 31 #[.pointer (ae ⟨j,0,af⟩),.string k,.int .i64 p] f λe h=>e=.returned (.tuple #[.int .i64 0,.bool ax,.int .i64 1])/\h=f:=by
 go_enter Ht,Hi
 go_wp2
 go_ret3
 exact⟨rfl,rfl⟩
theorem Zw(r:bB o f j l)(Z:k.size<=64)(x:lk k.data.toList l=af)(U:3000<=l.length):aE aj 31 #[.pointer (ae ⟨j,0,af⟩),.string k,.int .i64 p] f λe h=>e=.returned (.tuple #[.int .i64 0,.bool ax,.int .i64 2])/\aA f.heap.size f h:=by
 obtain⟨n,u,t,c⟩:=r.tree;have R:=cJ t;have y:aB (aE aj 48 #[.string k] f λe h=>e=.returned (.string k)/\aA f.heap.size f h):=AK k f ag;have H:aB (∀a,aA f.heap.size f a->aE aj 23 #[.pointer (ae ⟨j,0,af⟩)] a λe h=>e=.returned (.pointer u)/\h=a):=λa b=>n9 (jc ((b.block j R).trans t)) (c.on b).ptr;have B:aB (∀a,aA f.heap.size f a->aE aj 34 #[.pointer u,.string k] a λe h=>e=.returned (.tuple #[.int .i64 0,.bool ax])/\aA f.heap.size f h):=λa b=>(vN (c.on b) ag).mono λe h s=>by
  rw[x]at s;exact⟨s.1,b.trans (s.2.mono b.size)⟩
 have N:aB (∀a,aA f.heap.size f a->aE aj 24 #[.pointer u] a λe h=>e=.returned (.int .i64 l.length)/\h=a):=λa b=>uK (c.on b);have W:=r.cI;clear t c r x
 go_enter Ht,Hi
 go_wp2_with (go_at_call 48;refine y.out.mono ?_;rintro e a ⟨rfl,v⟩)
 refine mE 1 ?_;rw[mH]
 go_wp2_with (first|(go_at_call 23;refine(H.out _ v).mono ?_;rintro e h ⟨rfl,rfl⟩)|(go_at_call 34;refine(B.out _ v).mono ?_;rintro e w2 ⟨rfl,w⟩)|(go_at_call 24;refine(N.out _ w).mono ?_;rintro e h ⟨rfl,rfl⟩))
 go_ret3
 exact⟨rfl,w⟩
theorem wX{n:Nat}(h:bD o n f s l):bh l:=by
 rcases h with⟨_,rfl⟩|⟨t,_,h⟩;·exact nA
 ·exact h.ck
theorem VK{V:Type}{k:List UInt8}{v u:V}{l:List (List UInt8×V)}(b:bh l)(f:lk k l=ae u):(ins k v l).length=l.length:=by
 have j:=EJ b f;have a:del k (ins k v l)=del k l:=by
  refine del_eq b (C6 (iw b)) λe=> ?_;rw[sA,iT];constructor
  ·rintro⟨h|h,a⟩;·exact absurd (by rw[h]) a
   ·exact h
  ·rintro⟨h,a⟩;exact⟨.inr ⟨h,a⟩,a⟩
 have c:=EJ (k:=k) (l:=ins k v l) (v:=v) (iw (v:=v) b) (vY (iw b) (iT.mpr (.inl rfl)));rw[a]at c;omega
theorem Zy(hS:Open o f)(w:bB o f j l)(hk:k.size<=64)(Z:lk k.data.toList l=af)(hf:l.length<3000):aE aj 31 #[.pointer (ae ⟨j,0,af⟩),.string k,.int .i64 p] f λe h=>e=.returned (.tuple #[.int .i64 (gm (lk k.data.toList l)),.bool (lk k.data.toList l).isSome,.int .i64 0])/\bB o h j (ins k.data.toList p l)/\cF j f h:=by
 obtain⟨n,v,t,s⟩:=w.tree;have y:=cJ t;have a8:(ins k.data.toList p l).length<=3000:=by have:=oZ k.data.toList p l (wX s);omega
 have a2:aB (aE aj 48 #[.string k] f λe h=>e=.returned (.string k)/\aA f.heap.size f h):=AK k f ag;have HL:aB (∀a,aA f.heap.size f a->aE aj 23 #[.pointer (ae ⟨j,0,af⟩)] a λe h=>e=.returned (.pointer v)/\h=a):=λa b=>n9 (jc ((b.block j y).trans t)) (s.on b).ptr;have HZ:aB (∀a,aA f.heap.size f a->aE aj 24 #[.pointer v] a λe h=>e=.returned (.int .i64 l.length)/\h=a):=λa b=>uK (s.on b)
 have a7:aB (∀a,aA f.heap.size f a->aE aj 50 #[.pointer v,.string k,.int .i64 p] a λe h=>∃c u,e=.returned (.pointer u)/\bD o c h u (ins k.data.toList p l)/\aA f.heap.size f h):=λa b=>(GH (hS.later b) (s.on b) hk (by have:=w.cI;omega)).mono λe h x=>by
  obtain⟨c,u,h1,h2,h3⟩:=x;exact⟨c,u,h1,h2,b.trans (h3.mono b.size)⟩
 have a1:aB (∀a c r L,aA f.heap.size f a->bD o c a r L->aE aj 49 #[.pointer (ae ⟨j,0,af⟩),.pointer v,.pointer r] a λe h=>e=.returned (.bool aq)/\h=a.setCell ⟨j,0,af⟩ (.pointer r)):=λa c r L b H=>yh (jc ((b.block j y).trans t)) (vS ((b.block j y).trans t)) (s.on b).ptr H.ptr;have a6:aB (∀a c r,aA f.heap.size f a->bD o c a r (ins k.data.toList p l)->bB o (a.setCell ⟨j,0,af⟩ (.pointer r)) j (ins k.data.toList p l)/\cF j f (a.setCell ⟨j,0,af⟩ (.pointer r))):=λa c r b H=>⟨bB.swap ((b.block j y).trans t) w.out H a8,(cF.jQ b).trans (cF.set j a _)⟩;have B:=λa (b:aA f.heap.size f a)=>(vN (key:=k) (s.on b) ag).mono λe h x=>(⟨x.1,b.trans (x.2.mono b.size)⟩:e=.returned (.tuple #[.int .i64 (gm (lk k.data.toList l)),.bool (lk k.data.toList l).isSome])/\aA f.heap.size f h);rw[Z]at B⊢;have HG:aB (∀a,aA f.heap.size f a->aE aj 34 #[.pointer v,.string k] a λe h=>e=.returned (.tuple #[.int .i64 (gm af),.bool ax])/\aA f.heap.size f h):=B;have aa:¬(3000:Int)<=(l.length:Int):=ag;clear B Z;clear t s w
 go_enter Ht,Hi
 go_wp2_with (go_at_call 48;refine a2.out.mono ?_;rintro e a ⟨rfl,R⟩)
 refine mE 1 ?_;rw[mH]
 go_wp2_with (first|(go_at_call 23;refine(HL.out _ R).mono ?_;rintro e h ⟨rfl,rfl⟩)|(go_at_call 34;refine(HG.out _ R).mono ?_;rintro e w2 ⟨rfl,U⟩)|(go_at_call 24;refine(HZ.out _ U).mono ?_;rintro e h ⟨rfl,rfl⟩))
 go_region_held3 (λ_=>True) (trivial) (first
  |(go_at_call 50;refine(a7.out _ U.drew).mono ?_;rintro e w3 ⟨c,u,rfl,N,W⟩)
  |(go_at_call 49;refine(a1.out _ _ _ _ W N).mono ?_;rintro e w4 ⟨rfl,rfl⟩))
 go_wp2
 go_ret3
 exact⟨rfl,a6.out _ _ _ W N⟩
theorem Zz(hS:Open o f)(w:bB o f j l)(hk:k.size<=64){u:Int}(R:lk k.data.toList l=ae u):aE aj 31 #[.pointer (ae ⟨j,0,af⟩),.string k,.int .i64 p] f λe h=>e=.returned (.tuple #[.int .i64 (gm (lk k.data.toList l)),.bool (lk k.data.toList l).isSome,.int .i64 0])/\bB o h j (ins k.data.toList p l)/\cF j f h:=by
 obtain⟨n,x,t,s⟩:=w.tree;have B:=cJ t;have aa:(ins k.data.toList p l).length<=3000:=by rw[VK (wX s) R];exact w.cI
 have a2:aB (aE aj 48 #[.string k] f λe h=>e=.returned (.string k)/\aA f.heap.size f h):=AK k f ag;have HL:aB (∀a,aA f.heap.size f a->aE aj 23 #[.pointer (ae ⟨j,0,af⟩)] a λe h=>e=.returned (.pointer x)/\h=a):=λa b=>n9 (jc ((b.block j B).trans t)) (s.on b).ptr;have HZ:aB (∀a,aA f.heap.size f a->aE aj 24 #[.pointer x] a λe h=>e=.returned (.int .i64 l.length)/\h=a):=λa b=>uK (s.on b)
 have a7:aB (∀a,aA f.heap.size f a->aE aj 50 #[.pointer x,.string k,.int .i64 p] a λe h=>∃c v,e=.returned (.pointer v)/\bD o c h v (ins k.data.toList p l)/\aA f.heap.size f h):=λa b=>(GH (hS.later b) (s.on b) hk (by have:=w.cI;omega)).mono λe h y=>by
  obtain⟨c,v,h1,h2,h3⟩:=y;exact⟨c,v,h1,h2,b.trans (h3.mono b.size)⟩
 have a1:aB (∀a c r L,aA f.heap.size f a->bD o c a r L->aE aj 49 #[.pointer (ae ⟨j,0,af⟩),.pointer x,.pointer r] a λe h=>e=.returned (.bool aq)/\h=a.setCell ⟨j,0,af⟩ (.pointer r)):=λa c r L b N=>yh (jc ((b.block j B).trans t)) (vS ((b.block j B).trans t)) (s.on b).ptr N.ptr;have a6:aB (∀a c r,aA f.heap.size f a->bD o c a r (ins k.data.toList p l)->bB o (a.setCell ⟨j,0,af⟩ (.pointer r)) j (ins k.data.toList p l)/\cF j f (a.setCell ⟨j,0,af⟩ (.pointer r))):=λa c r b N=>⟨bB.swap ((b.block j B).trans t) w.out N aa,(cF.jQ b).trans (cF.set j a _)⟩;have H:=λa (b:aA f.heap.size f a)=>(vN (key:=k) (s.on b) ag).mono λe h y=>(⟨y.1,b.trans (y.2.mono b.size)⟩:e=.returned (.tuple #[.int .i64 (gm (lk k.data.toList l)),.bool (lk k.data.toList l).isSome])/\aA f.heap.size f h);rw[R]at H⊢;have HG:aB (∀a,aA f.heap.size f a->aE aj 34 #[.pointer x,.string k] a λe h=>e=.returned (.tuple #[.int .i64 (gm (ae u)),.bool aq])/\aA f.heap.size f h):=H;clear H R;clear t s w
 go_enter Ht,Hi
 go_wp2_with (go_at_call 48;refine a2.out.mono ?_;rintro e a ⟨rfl,W⟩)
 refine mE 1 ?_;rw[mH]
 go_wp2_with (first|(go_at_call 23;refine(HL.out _ W).mono ?_;rintro e h ⟨rfl,rfl⟩)|(go_at_call 34;refine(HG.out _ W).mono ?_;rintro e w2 ⟨rfl,a8⟩))
 go_region_held3 (λ_=>True) (trivial) (first
  |(go_at_call 50;refine(a7.out _ a8.drew).mono ?_;rintro e w3 ⟨c,v,rfl,U,Z⟩)
  |(go_at_call 49;refine(a1.out _ _ _ _ Z U).mono ?_;rintro e w4 ⟨rfl,rfl⟩))
 go_wp2
 go_ret3
 exact⟨rfl,a6.out _ _ _ Z U⟩
theorem as2{n:Nat}(p:Open o f)(r:bD o n f s l)(u:k.size<=9223372036854775807)(v:l.length<=1000000):aE aj 69 #[.pointer s,.string k] f λe h=>∃w a,e=.returned (.pointer a)/\bD o w h a (del k.data.toList l)/\aA f.heap.size f h:=by
 rcases r with⟨rfl,rfl⟩|⟨t,rfl,j⟩
 ·refine(as6 k f).mono ?_;rintro e h ⟨rfl,rfl⟩;exact⟨0,af,rfl,.inl ⟨rfl,rfl⟩,cD _ _⟩
 ·refine(Nw n p j u v).mono ?_;rintro e h ⟨s,rfl,b,_,c⟩;exact⟨n,s,rfl,b,c⟩
theorem Ri(c:bB o f j l)(w:k.size<=9223372036854775807)(p:lk k.data.toList l=af):aE aj 55 #[.pointer (ae ⟨j,0,af⟩),.string k] f λe h=>e=.returned (.tuple #[.int .i64 (gm af),.bool ax])/\aA f.heap.size f h:=by
 obtain⟨n,s,r,a⟩:=c.tree;have u:aB (aE aj 23 #[.pointer (ae ⟨j,0,af⟩)] f λe h=>e=.returned (.pointer s)/\h=f):=n9 (jc r) a.ptr;have b:=vN (key:=k) a w;rw[p]at b;have t:aB (aE aj 34 #[.pointer s,.string k] f λe h=>e=.returned (.tuple #[.int .i64 (gm af),.bool ax])/\aA f.heap.size f h):=b;clear r a c b p
 go_enter aI5,aF3
 go_wp2
 refine mE 1 ?_;rw[mH]
 go_wp2_with (first|(go_at_call 23;refine u.out.mono ?_;rintro e h ⟨rfl,rfl⟩)|(go_at_call 34;refine t.out.mono ?_;rintro e x ⟨rfl,v⟩))
 go_quiet (fail)
 go_wp2
 go_ret2
 exact⟨rfl,kr v _⟩
theorem Rj(hS:Open o f)(u:bB o f j l)(W:k.size<=9223372036854775807)(Z:lk k.data.toList l=ae p):aE aj 55 #[.pointer (ae ⟨j,0,af⟩),.string k] f λe h=>e=.returned (.tuple #[.int .i64 (gm (ae p)),.bool aq])/\bB o h j (del k.data.toList l)/\cF j f h:=by
 obtain⟨n,y,s,v⟩:=u.tree;have x:=cJ s;have a8:(del k.data.toList l).length<=3000:=bT (KA _ _) u.cI;have HL:aB (∀a,aA f.heap.size f a->aE aj 23 #[.pointer (ae ⟨j,0,af⟩)] a λe h=>e=.returned (.pointer y)/\h=a):=λa b=>n9 (jc ((b.block j x).trans s)) (v.on b).ptr
 have a6:aB (∀a,aA f.heap.size f a->aE aj 69 #[.pointer y,.string k] a λe h=>∃c t,e=.returned (.pointer t)/\bD o c h t (del k.data.toList l)/\aA f.heap.size f h):=λa b=>(as2 (hS.later b) (v.on b) W (by have:=u.cI;omega)).mono λe h w=>by
  obtain⟨c,t,h1,h2,h3⟩:=w;exact⟨c,t,h1,h2,b.trans (h3.mono b.size)⟩
 have a1:aB (∀a c r L,aA f.heap.size f a->bD o c a r L->aE aj 49 #[.pointer (ae ⟨j,0,af⟩),.pointer y,.pointer r] a λe h=>e=.returned (.bool aq)/\h=a.setCell ⟨j,0,af⟩ (.pointer r)):=λa c r L b H=>yh (jc ((b.block j x).trans s)) (vS ((b.block j x).trans s)) (v.on b).ptr H.ptr;have a2:aB (∀a c r,aA f.heap.size f a->bD o c a r (del k.data.toList l)->bB o (a.setCell ⟨j,0,af⟩ (.pointer r)) j (del k.data.toList l)/\cF j f (a.setCell ⟨j,0,af⟩ (.pointer r))):=λa c r b H=>⟨bB.swap ((b.block j x).trans s) u.out H a8,(cF.jQ b).trans (cF.set j a _)⟩;have B:=λa (b:aA f.heap.size f a)=>(vN (key:=k) (v.on b) W).mono λe h w=>(⟨w.1,b.trans (w.2.mono b.size)⟩:e=.returned (.tuple #[.int .i64 (gm (lk k.data.toList l)),.bool (lk k.data.toList l).isSome])/\aA f.heap.size f h);rw[Z]at B;have HG:aB (∀a,aA f.heap.size f a->aE aj 34 #[.pointer y,.string k] a λe h=>e=.returned (.tuple #[.int .i64 (gm (ae p)),.bool aq])/\aA f.heap.size f h):=B;have N:aB (aA f.heap.size f f):=cD _ _;clear B Z s v u
 go_enter aI5,aF3
 go_wp2
 refine mE 1 ?_;rw[mH]
 go_wp2_with (first|(go_at_call 23;refine(HL.out _ N.out).mono ?_;rintro e h ⟨rfl,rfl⟩)|(go_at_call 34;refine(HG.out _ N.out).mono ?_;rintro e w2 ⟨rfl,a7⟩))
 go_region_held3 (λ_=>True) (trivial) (first
  |(go_at_call 69;refine(a6.out _ a7.drew).mono ?_;rintro e w3 ⟨c,t,rfl,R,U⟩)
  |(go_at_call 49;refine(a1.out _ _ _ _ U R).mono ?_;rintro e w4 ⟨rfl,rfl⟩))
 go_wp2
 go_ret2
 exact⟨rfl,a2.out _ _ _ U R⟩
theorem AH(g:Nat):∀(vs:List au)(o:Nat) (w:ak),cF g w (w.setCells g o vs)
 |[],_,w=>⟨rfl,rfl,rfl,aL _,λ_ _ _=>rfl⟩
 |v::r,o,w=>by
  have a:cF g w (w.setCell ⟨g,o,af⟩ v):=⟨rfl,rfl,rfl,by simp[eK],λk _ b=>hH _ _ _ _ b⟩;exact a.trans (AH g r (o+1) _)
structure oz(w:ak)(g C:Nat)(x:List Nat):Prop where
 br:eH w g 0 x
 room:∀j,j<C->(w.cell? ⟨g,j,af⟩).isSome=aq/\w.frozen? ⟨g,j,af⟩=ax
 cap:x.length<=C
theorem oz.of{g:Nat}(h:f.ownsRow j 56 1 (.slice (ae ⟨g,0,af⟩) 0 u) 0 []):oz f g u []:=by
 rcases h.2 with⟨b,_⟩|⟨o,cap,l,k,p,a,r,s,t,v⟩;·cases b
 ·cases k;refine⟨λi c h=>by simp at h,λx w=>⟨?_,by simp[gu,a]⟩,fL _⟩;simp only[bL,a];rw[jV ag];rfl
theorem oz.on{w:ak}{g:Nat}(h:oz w g j r)(a:aA w.heap.size w f):oz f g j r:=by
 refine⟨h.br.later a,λs o=> ?_,h.cap⟩;obtain⟨c,k⟩:=h.room s o;obtain⟨u,b⟩:=sO.1 c;have p:=cC _ _ b;have l:=a.block g p;exact⟨by rw[aS a b];rfl,by rw[<-k];simp[gu,l]⟩
theorem oz.put{g:Nat}(h:oz f g j r)(l:List Nat)(t:r.length+l.length<=j):oz (f.setCells g r.length (l.map ptr)) g j (r++l):=by
 refine⟨λi c b=> ?_,λa k=>⟨?_,?_⟩,by simp;omega⟩
 ·rw[ia];rw[ax3]at b;by_cases o:i<r.length
  ·rw[if_pos o]at b;rw[GQ g _ _ _ _ (λ_ _=>.inl o)];have:=h.br i c b;rwa[ia]at this
  ·rw[if_neg o]at b;have s:=(cu.mp b).1;have:=aw1 g (l.map ptr) r.length f (λa k=>(h.room _ (by simp at k;omega)).1) (i-r.length) (by simpa using s);rw[show r.length+(i-r.length)=i by omega]at this;rw[this];have p:=(cu.mp b).2;simp[ptr,p]
 ·by_cases o:a<r.length\/r.length+l.length<=a
  ·rw[GQ g _ _ _ _ (λ_ _=>by simpa using o)];exact(h.room a k).1
  ·have:=aw1 g (l.map ptr) r.length f (λa k=>(h.room _ (by simp at k;omega)).1) (a-r.length) (by simp;omega);rw[show r.length+(a-r.length)=a by omega]at this;rw[this];rfl
 ·rw[World.frozen?_setCells];exact(h.room a k).2
theorem step_append_room{P:aV}{K:gx->ak->Prop}{E:Prop}(H:v.guard=af)(s x:bC)(t:aK)(U:v.op=I7 {callee:=H9 H8,args:= #[s,x],argTypes:= #[t,t]})(e:aK)(i:qI)(k:P.underlying t=ae (.slice e))(r:P.info? e=ae i)(h:i.size=1)(g n C:Nat)(Z:y.eval s=.slice (ae ⟨g,0,af⟩) n C)(b:aH)(m c:Nat)(a:List au)(hx:y.eval x=.slice (ae b) m c)(R:a.length=m)(B:∀j u,a[j]?=ae u->f.cell? (b.add j)=ae u)(p:∀u∈a,u.oneCell'=aq)(W:n+m<=C)(l:∀j,j<C->(f.cell? ⟨g,j,af⟩).isSome=aq/\f.frozen? ⟨g,j,af⟩=ax)(w:K (y.put v.dst (.slice (ae ⟨g,0,af⟩) (n+m) C)) (f.setCells g n a)):if iJ v (fN a2 y.tmps)=aq then xQ P v y f K a6 else E:=by
 have hw:iJ v (fN a2 y.tmps)=true:=by simp[iJ,H]
 rw[if_pos hw];have o:=Od (P:=P) f t t v.type e i k r g 0 n C (.slice (ae b) m c) m a (aK8 f k b m c a (by rw[R,h,tj]) B p) W (λj N=>by rw[h];exact(l _ ag).1) (λj N=>by rw[h];exact(l _ ag).2);rw[h,ia,tj]at o;unfold xQ;simp[bp,U,mI,pL,Af,Z,hx,o,rP];exact w
theorem Cp{P:aV}{rest:List bR}(N:v.guard=af)(s x:bC)(t:aK)(W:v.op=I7 {callee:=H9 H8,args:= #[s,x],argTypes:= #[t,t]})(e:aK)(i:qI)(k:P.underlying t=ae (.slice e))(r:P.info? e=ae i)(h:i.size=1)(g n C:Nat)(hs:y.eval s=.slice (ae ⟨g,0,af⟩) n C)(b:aH)(m c:Nat)(a:List au)(hx:y.eval x=.slice (ae b) m c)(U:a.length=m)(H:∀j u,a[j]?=ae u->f.cell? (b.add j)=ae u)(p:∀u∈a,u.oneCell'=aq)(Z:n+m<=C)(l:∀j,j<C->(f.cell? ⟨g,j,af⟩).isSome=aq/\f.frozen? ⟨g,j,af⟩=ax)(w:wpList P a2 a6 rest (y.put v.dst (.slice (ae ⟨g,0,af⟩) (n+m) C)) (f.setCells g n a)):wpList P a2 a6 (v::rest) y f:=
 wpList_plain N λ_ B=>by
  have o:=Od (P:=P) f t t v.type e i k r g 0 n C (.slice (ae b) m c) m a (aK8 f k b m c a (by rw[U,h,tj]) H p) Z (λj R=>by rw[h];exact(l _ ag).1) (λj R=>by rw[h];exact(l _ ag).2);rw[h,ia,tj]at o;unfold xQ;simp[bp,W,mI,pL,Af,hs,hx,o,rP];exact B _ _ w
structure mQ(g:Nat)(w:ak)(k o cap:Nat)(t:List Nat):Prop where
 fits:t.length<=cap
 bZ:cap<=cE
 br:eH w k o t
 ne:k≠g
theorem mQ.on{g:Nat}{w:ak}{cap:Nat}(h:mQ g w j u cap r)(a:aA w.heap.size w f):mQ g f j u cap r:=⟨h.fits,h.bZ,h.br.later a,h.ne⟩
theorem eH.but{g:Nat}(h:eH f j u r)(b:cF g f N)(k:j≠g):eH N j u r:=λi c a=>by
 have:=h i c a;exact(gV (w:=f) (a:=⟨j,u+i,af⟩) (b.block j (cC _ _ this) k)).trans this
theorem mQ.but{g:Nat}{w h:ak}{k o cap:Nat}{t:List Nat}(a:mQ g w k o cap t)(b:cF g w h):mQ g h k o cap t:=⟨a.fits,a.bZ,a.br.but b a.ne,a.ne⟩
theorem mQ.tail{g:Nat}{cap c:Nat}(h:mQ g f j u cap (c::r)):mQ g f j (if cap=1 then u else u+1) (cap-1) r:=by
 have b:=h.fits;have k:=h.bZ;simp at b;refine⟨ag,ag,λi d a=> ?_,h.ne⟩;have:=h.br (i+1) d a;by_cases e:cap=1
 ·exfalso;have:r.length=0:=ag;rw[kY.mp this]at a;simp at a
 ·rw[if_neg e,show u+1+i=u+(i+1) by omega];exact this
structure MS(S:Nat->Prop)(w:ak)(g C B W K:Nat)(c:List UInt8)(A:List (dq Int))(t H x:List Nat)(a b d:List (dq Int))(R Z p0 U o1 p1:Nat)(wr:ak):Prop where
 l0:mQ g wr R Z p0 t
 l1:mQ g wr U o1 p1 H
 q0:Kids (λk=>S k/\k≠g) B wr t a
 q1:Kids (λk=>S k/\k≠g) W wr H b
 qd:Kids (λk=>S k/\k≠g) K wr x d
 bo:oz wr g C x
 cap:x.length+t.length+H.length<=C
 eq:d++mg a b=A
 g0:GP c a
 g1:GP c b
 sm:(eW a).length+(eW b).length<=1000000
 cv:aA w.heap.size w wr
 hg:w.heap.size<=g/\g<wr.heap.size
section
variable {S:Nat->Prop} {w wr h:ak} {g C B W K:Nat} {c:List UInt8} {A:List (dq Int)} {t H x:List Nat} {a b d:List (dq Int)} {R Z p0 U o1 p1:Nat}
theorem MS.on(f:MS S w g C B W K c A t H x a b d R Z p0 U o1 p1 wr)(j:aA wr.heap.size wr h):MS S w g C B W K c A t H x a b d R Z p0 U o1 p1 h:=⟨f.l0.on j,f.l1.on j,f.q0.on j,f.q1.on j,f.qd.on j,f.bo.on j,f.cap,f.eq,f.g0,f.g1,f.sm,f.cv.trans (j.mono f.cv.size),f.hg.1,dG f.hg.2 j.size⟩
theorem MS.kept(b:cF g wr h):Kept (λk=>(S k/\k≠g)/\k<wr.heap.size) wr h:=λk a=>b.block k a.2 a.1.2
theorem Kids.but(c:Kids (λk=>S k/\k≠g) B wr t a)(j:cF g wr h):Kids (λk=>S k/\k≠g) B h t a:=by
 have b:Kids (λk=>(S k/\k≠g)/\k<wr.heap.size) B wr t a:=c.weaken λk b f=>⟨b,f⟩;exact(b.frame (MS.kept j)).weaken λk b _=>b.1
theorem MS.AG(j:MS S w g C B W K c A t H x a b d R Z p0 U o1 p1 wr)(f:cF g wr h):aA w.heap.size w h:=
 j.cv.trans ⟨f.os,f.tape,f.output,f.size,λk l=>f.block k (dG l j.cv.size) (by have:=j.hg.1;omega)⟩
end
end
