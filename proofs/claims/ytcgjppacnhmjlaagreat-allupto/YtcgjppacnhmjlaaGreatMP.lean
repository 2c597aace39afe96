/- Own texts: WithoutB, WithoutC, Shape, Atom. -/
import Derived.Test.YtcgjppacnhmjlaaGreatMO
import Derived.LaidEqlPtr
import Derived.Test.YtcgjppacnhmjlaaGreatMN
import Derived.Laws.LoneSync
import Derived.Lib.Builder
set_option linter.all false
set_option maxRecDepth 100000
set_option maxHeartbeats 1000000
open Array renaming getElem?_modify->fV
open Bool renaming true->aq,false->ax
open Go renaming World->ak,Value->au,cell_later->aS,Calls->aE,heap_alloc_new->cY,Addr->aH,maxLen->cE,results->ga,bodyPost_ret->oi,info_parts->nF,run_underlying->ta,stuck->iO,unsupported->va,convert->oo,binOp->kh,Ending->nH,liesAt->pK,callFunc->vi,Obj->dV,samePointer->Dg,run_callFunc_extern->Oc,run_store->Di,asAddr->vm,store->tz,sameAddr->I5,run_eql_ptr_other->aD8,run_eql_ptr_same->aH4
open Go.Addr renaming block->aL1
open Go.Conv renaming unsafePointer->uW
open Go.Extern.Atomic renaming casT->sR,touchesFrozen->Ct,read->xj,loadT->zH
open Go.Extern.Atomic.T renaming ptr->aL4
open Go.Lib renaming size_eq->fY,hasPrefix->iK
open Go.Op renaming equal->nG,equalIn->xL,maxDepth->A8
open Go.Proofs.Tryz renaming prog->aj,underlying56->xt,underlying60->CF,ntmps69->xB,func69->xE,ntmps68->Hg,func68->Hs,ntmps53->OR,func53->P0,results35->aC9,ntmps35->aF8,func35->aJ1,func23->aJ6
open Go.Result renaming andThen->rP
open Go.RowKit renaming Below->aA,Hid->aB
open Go.RowKit.Below renaming refl->cD,heap_setCell->hH,heap_alloc->rL
open Go.Sem renaming run->fu
open Go.World renaming cell?->bL,cell?_of_block->gV,setCell->eK,frozen?->gu
open Int renaming natCast_nonneg->qC
open List renaming getElem?_eq_getElem->bf,getElem?_eq_some_iff->cu,mem_of_getElem?->cG,take_of_length_le->fU,length_append->gJ,drop_eq_getElem_cons->lG,take_append_drop->jW,length_eq_zero_iff->kY,length_pos_iff->kE,length_filter_le->mB,take_add_one->mC,getElem?_take->nv,length->jk,sublist_flatten_of_mem->xd,isPrefixOf_iff_prefix->xf,mem_iff_getElem?->uT,map_cons->qG,prefix_iff_eq_take->zB,mem_of_mem_take->zJ,map_append->zT,sum_append->On,sum_cons->OF
open Nat renaming le_refl->aL,zero_le->fL,zero_add->ia,max_def->Db
open Option renaming some->ae,none->af,map_some->hZ
open Pure renaming pure->bN
namespace Go.Proofs.YtcgjppacnhmjlaaGreat
open Go.RowKit
variable {c f k r o:Nat} {b w:ak} {a h:ByteArray} {t:nH->ak->Prop} {p:Option aH} {u:Nat->Prop} {j:List Nat} {v:Type} {l:Nat->Nat} {s:aH}
section
attribute [local go_sem↓] Go.wp_at_zero Go.wp_at_succ
theorem Bb:(aj.info? 71).map (λi=>(i.zero,i.size,i.bytes))=ae (ae (.agg #[.string ⟨#[]⟩,.pointer af,.slice af 0 0,.int .i64 0]),4,56):=ah
theorem Jg(c:Nat)(w:ak):(kh .eql 56 (.pointer (ae ⟨c,0,af⟩)) (.pointer (ae ⟨c,0,af⟩))).run aj w=.ok (.bool aq) w:=by
 obtain⟨i0,a,_⟩:=nF Bb;exact aH4 w _ xt a
theorem Jf{d:Nat}(p:¬c=d){a f:Array au}(k:b.heap[c]?=ae (.cells a 71 (0,0)))(l:b.heap[d]?=ae (.cells f 71 (0,0))):(kh .eql 56 (.pointer (ae ⟨c,0,af⟩)) (.pointer (ae ⟨d,0,af⟩))).run aj b=.ok (.bool ax) b:=by
 obtain⟨i0,o,_,j,_⟩:=nF Bb;exact aD8 b xt o (by rw[j];decide) (λh=>p (congrArg aL1 h)) k l
theorem Tf(c:Nat)(w:ak):(kh .eql 56 (.pointer af) (.pointer (ae ⟨c,0,af⟩))).run aj w=.ok (.bool ax) w:=by
 have h:∀d:Nat,(xL (d+1) 56 (.pointer af) (.pointer (ae ⟨c,0,af⟩))).run aj w=.ok ax w:=λd=>by
  simp[xL,ta xt]
 simp only[kh];simp[nG,A8,h 9999]
theorem as6(key:ByteArray)(w:ak):aE aj 69 #[.pointer af,.string key] w λe a=>e=.returned (.pointer af)/\a=w:=by
 go_enter xE,xB
 go_wp2
 go_ret
 exact⟨rfl,rfl⟩
theorem as3(r:b.cell? ⟨c,0,af⟩=ae (.string h))(p:a.size<=9223372036854775807)(s:h.size<=64)(l:iK a.data.toList h.data.toList=ax):aE aj 69 #[.pointer (ae ⟨c,0,af⟩),.string a] b λe f=>e=.returned (.pointer (ae ⟨c,0,af⟩))/\f=b:=by
 have o:aB (∀j,aE aj 45 #[.string a,.string h] j λe f=>e=.returned (.bool ax)/\f=j):=λj=>(qf a h j p (by unfold cE;omega)).mono λe f k=>⟨by rw[k.1,l],k.2⟩;clear l
 go_enter xE,xB
 go_wp2_with (go_at_call 45;refine(o.out _).mono ?_;rintro e f ⟨rfl,rfl⟩)
 go_ret
 exact⟨rfl,rfl⟩
theorem as8(w:b.cell? ⟨c,0,af⟩=ae (.string h))(s:a.size<=9223372036854775807)(x:h.size<=64)(o:iK a.data.toList h.data.toList=aq)(r:a.size=h.size)(j:aE aj 83 #[.pointer (ae ⟨c,0,af⟩)] b λe f=>∃k,e=.returned (.pointer k)/\t e f):aE aj 69 #[.pointer (ae ⟨c,0,af⟩),.string a] b t:=by
 have p:aB (∀l,aE aj 45 #[.string a,.string h] l λe f=>e=.returned (.bool aq)/\f=l):=λl=>(qf a h l s (by unfold cE;omega)).mono λe f j=>⟨by rw[j.1,o],j.2⟩;have H:aB (aE aj 83 #[.pointer (ae ⟨c,0,af⟩)] b λe f=>∃k,e=.returned (.pointer k)/\t e f):=j;have v:(a.size:Int)=(h.size:Int):=ag;clear o j r
 go_enter xE,xB
 go_wp2_with (first|(go_at_call 45;refine(p.out _).mono ?_;rintro e f ⟨rfl,rfl⟩)|(go_at_call 83;refine H.out.mono ?_;rintro e f ⟨k,rfl,u⟩))
 exact u
theorem as7{pos:Nat}(w:b.cell? ⟨c,0,af⟩=ae (.string h))(u:a.size<=9223372036854775807)(x:h.size<=64)(o:iK a.data.toList h.data.toList=aq)(t:¬a.size=h.size)(l:∀f,aA b.heap.size b f->aE aj 67 #[.pointer (ae ⟨c,0,af⟩),.string a] f λe j=>e=.returned (.tuple #[.int .i64 pos,.bool ax])/\aA b.heap.size b j):aE aj 69 #[.pointer (ae ⟨c,0,af⟩),.string a] b λe j=>e=.returned (.pointer (ae ⟨c,0,af⟩))/\aA b.heap.size b j:=by
 have p:aB (∀f,aE aj 45 #[.string a,.string h] f λe j=>e=.returned (.bool aq)/\j=f):=λf=>(qf a h f u (by unfold cE;omega)).mono λe j k=>⟨by rw[k.1,o],k.2⟩;have r:aB (∀f,aA b.heap.size b f->aE aj 67 #[.pointer (ae ⟨c,0,af⟩),.string a] f λe j=>e=.returned (.tuple #[.int .i64 pos,.bool ax])/\aA b.heap.size b j):=l;have v:¬(a.size:Int)=(h.size:Int):=ag;clear o l t
 go_enter xE,xB
 go_wp2_with (first|(go_at_call 45;refine(p.out _).mono ?_;rintro e j ⟨rfl,rfl⟩)|(go_at_call 67;refine(r.out _ (cD _ _)).mono ?_;rintro e y ⟨rfl,s⟩))
 go_ret
 exact⟨rfl,s⟩
theorem as9{pos cap:Nat}(a1:b.cell? ⟨c,0,af⟩=ae (.string h))(Z:a.size<=9223372036854775807)(ai:h.size<=64)(a2:b.cell? ⟨c,1,af⟩=ae (.pointer p))(N:b.cell? ⟨c,2,af⟩=ae (.slice (ae ⟨f,k,af⟩) o cap))(U:b.cell? ⟨f,k+pos,af⟩=ae (.pointer (ae ⟨r,0,af⟩)))(ad:pos<o)(aa:o<=256)(x:iK a.data.toList h.data.toList=aq)(W:¬a.size=h.size)(v:∀j,aA b.heap.size b j->aE aj 67 #[.pointer (ae ⟨c,0,af⟩),.string a] j λe l=>e=.returned (.tuple #[.int .i64 pos,.bool aq])/\aA b.heap.size b l)(w:∀j,aA b.heap.size b j->aE aj 69 #[.pointer (ae ⟨r,0,af⟩),.string a] j λe l=>e=.returned (.pointer (ae ⟨r,0,af⟩))/\aA b.heap.size b l):aE aj 69 #[.pointer (ae ⟨c,0,af⟩),.string a] b λe l=>e=.returned (.pointer (ae ⟨c,0,af⟩))/\aA b.heap.size b l:=by
 have y:aB (∀j,aE aj 45 #[.string a,.string h] j λe l=>e=.returned (.bool aq)/\l=j):=λj=>(qf a h j Z (by unfold cE;omega)).mono λe l u=>⟨by rw[u.1,x],u.2⟩;have B:aB (∀j,aA b.heap.size b j->aE aj 67 #[.pointer (ae ⟨c,0,af⟩),.string a] j λe l=>e=.returned (.tuple #[.int .i64 pos,.bool aq])/\aA b.heap.size b l):=v;have H:aB (∀j,aA b.heap.size b j->aE aj 69 #[.pointer (ae ⟨r,0,af⟩),.string a] j λe l=>e=.returned (.pointer (ae ⟨r,0,af⟩))/\aA b.heap.size b l):=w;have t:aB (b.cell? ⟨c,0,af⟩=ae (.string h)/\b.cell? ⟨c,1,af⟩=ae (.pointer p)/\b.cell? ⟨c,2,af⟩=ae (.slice (ae ⟨f,k,af⟩) o cap)/\b.cell? ⟨f,k+pos,af⟩=ae (.pointer (ae ⟨r,0,af⟩))):=⟨a1,a2,N,U⟩;have a8:¬(a.size:Int)=(h.size:Int):=ag;have ab:(0:Int)<=(pos:Int):=qC _;have ac:(pos:Int)<(o:Int):=ag;have heq:=λb=>Jg r b;clear x v W w
 go_enter xE,xB
 go_wp2_with (first|(go_at_call 45;refine(y.out _).mono ?_;rintro e l ⟨rfl,rfl⟩)|(go_at_call 67;refine(B.out _ (cD _ _)).mono ?_;rintro e w2 ⟨rfl,s⟩;have a6:=aS s t.out.2.2.1;have a7:=aS s t.out.2.2.2)|(go_at_call 69;refine(H.out _ s).mono ?_;rintro e w3 ⟨rfl,R⟩))
 go_ret
 exact⟨rfl,R⟩
theorem as4{pos cap:Nat}{L1:ak->Prop}{L2:ak->au->Prop}(ad:b.cell? ⟨c,0,af⟩=ae (.string h))(hk:a.size<=9223372036854775807)(aQ:h.size<=64)(al:b.cell? ⟨c,1,af⟩=ae (.pointer p))(a8:b.cell? ⟨c,2,af⟩=ae (.slice (ae ⟨f,k,af⟩) o cap))(aa:b.cell? ⟨f,k+pos,af⟩=ae (.pointer (ae ⟨r,0,af⟩)))(aP:pos<o)(ar:o<=256)(hp:iK a.data.toList h.data.toList=aq)(he:¬a.size=h.size)(R:∀j,aA b.heap.size b j->aE aj 67 #[.pointer (ae ⟨c,0,af⟩),.string a] j λe l=>e=.returned (.tuple #[.int .i64 pos,.bool aq])/\aA b.heap.size b l)(Z:∀j,aA b.heap.size b j->aE aj 69 #[.pointer (ae ⟨r,0,af⟩),.string a] j λe l=>(e=.returned (.pointer af)/\L1 l)/\aA b.heap.size b l)(N:∀j,L1 j->L1 j.drew)(U:∀j,L1 j->aA b.heap.size b j->aE aj 85 #[.slice (ae ⟨f,k,af⟩) o cap,.int .i64 pos] j λe l=>∃s,e=.returned s/\L2 l s/\aA b.heap.size b l)(W:∀j s,L2 j s->aA b.heap.size b j->aE aj 84 #[.string h,.pointer p,s] j λe l=>∃x,e=.returned (.pointer x)/\aA b.heap.size b l/\t e l):aE aj 69 #[.pointer (ae ⟨c,0,af⟩),.string a] b t:=by
 have HP:aB (∀j,aE aj 45 #[.string a,.string h] j λe l=>e=.returned (.bool aq)/\l=j):=λj=>(qf a h j hk (by unfold cE;omega)).mono λe l H=>⟨by rw[H.1,hp],H.2⟩;have a2:aB (∀j,aA b.heap.size b j->aE aj 67 #[.pointer (ae ⟨c,0,af⟩),.string a] j λe l=>e=.returned (.tuple #[.int .i64 pos,.bool aq])/\aA b.heap.size b l):=R;have HW:aB (∀j,aA b.heap.size b j->aE aj 69 #[.pointer (ae ⟨r,0,af⟩),.string a] j λe l=>(e=.returned (.pointer af)/\L1 l)/\aA b.heap.size b l):=Z;have a6:aB (∀j,L1 j->aA b.heap.size b j->aE aj 85 #[.slice (ae ⟨f,k,af⟩) o cap,.int .i64 pos] j λe l=>∃s,e=.returned s/\L2 l s/\aA b.heap.size b l):=U;have a7:aB (∀j s,L2 j s->aA b.heap.size b j->aE aj 84 #[.string h,.pointer p,s] j λe l=>∃x,e=.returned (.pointer x)/\aA b.heap.size b l/\t e l):=W;have u:aB (b.cell? ⟨c,0,af⟩=ae (.string h)/\b.cell? ⟨c,1,af⟩=ae (.pointer p)/\b.cell? ⟨c,2,af⟩=ae (.slice (ae ⟨f,k,af⟩) o cap)/\b.cell? ⟨f,k+pos,af⟩=ae (.pointer (ae ⟨r,0,af⟩))):=⟨ad,al,a8,aa⟩;have a1:aB (∀j,L1 j->L1 j.drew):=N;have ap:¬(a.size:Int)=(h.size:Int):=ag;have av:(0:Int)<=(pos:Int):=qC _;have aF:(pos:Int)<(o:Int):=ag;have heq:=λb=>Tf r b;clear hp R he Z U W N
 go_enter xE,xB
 go_wp2_with (first|(go_at_call 45;refine(HP.out _).mono ?_;rintro e l ⟨rfl,rfl⟩)|(go_at_call 67;refine(a2.out _ (cD _ _)).mono ?_;rintro e w2 ⟨rfl,y⟩;have am:=aS y u.out.2.2.1;have ao:=aS y u.out.2.2.2)|(go_at_call 69;refine(HW.out _ y).mono ?_;rintro e w3 ⟨⟨rfl,ab⟩,v⟩;have aJ:=aS v u.out.1;have aR:=aS v u.out.2.1;have an:=aS v u.out.2.2.1))
 go_region_held3 (λl=>l.cell? ⟨c,0,af⟩=ae (.string h)/\l.cell? ⟨c,1,af⟩=ae (.pointer p)/\l.cell? ⟨c,2,af⟩=ae (.slice (ae ⟨f,k,af⟩) o cap))
  (first|exact⟨aS B u.out.1,aS B u.out.2.1,aS B u.out.2.2.1⟩|exact⟨aS w u.out.1,aS w u.out.2.1,aS w u.out.2.2.1⟩|go_keep)
  (first
   |(go_at_call 85;refine(a6.out _ (a1.out _ ab) v.drew).mono ?_;rintro e w4 ⟨s,rfl,ac,w⟩)
   |(go_at_call 84;refine(a7.out _ _ ac w).mono ?_;rintro e w5 ⟨x,rfl,B,ai⟩))
 go_wp2
 exact ai
theorem as5{pos cap:Nat}{L1:ak->Nat->Prop}{L2:ak->au->Prop}(al:b.cell? ⟨c,0,af⟩=ae (.string h))(hk:a.size<=9223372036854775807)(aT:h.size<=64)(an:b.cell? ⟨c,1,af⟩=ae (.pointer p))(ac:b.cell? ⟨c,2,af⟩=ae (.slice (ae ⟨f,k,af⟩) o cap))(ad:b.cell? ⟨f,k+pos,af⟩=ae (.pointer (ae ⟨r,0,af⟩)))(aR:pos<o)(aF:o<=256)(hp:iK a.data.toList h.data.toList=aq)(he:¬a.size=h.size)(a1:∀j,aA b.heap.size b j->aE aj 67 #[.pointer (ae ⟨c,0,af⟩),.string a] j λe l=>e=.returned (.tuple #[.int .i64 pos,.bool aq])/\aA b.heap.size b l)(hW:∀j,aA b.heap.size b j->aE aj 69 #[.pointer (ae ⟨r,0,af⟩),.string a] j λe l=>(∃s,e=.returned (.pointer (ae ⟨s,0,af⟩))/\L1 l s)/\aA b.heap.size b l)(Z:∀j s,L1 j s->L1 j.drew s)(W:∀j s,L1 j s->aA b.heap.size b j->(¬s=r)/\(∃cells,j.heap[r]?=ae (.cells cells 71 (0,0)))/\∃cells,j.heap[s]?=ae (.cells cells 71 (0,0)))(a2:∀j s,L1 j s->aA b.heap.size b j->aE aj 79 #[.slice (ae ⟨f,k,af⟩) o cap,.int .i64 pos,.pointer (ae ⟨s,0,af⟩)] j λe l=>∃u,e=.returned u/\L2 l u/\aA b.heap.size b l)(a6:∀j u,L2 j u->aA b.heap.size b j->aE aj 84 #[.string h,.pointer p,u] j λe l=>∃B,e=.returned (.pointer B)/\aA b.heap.size b l/\t e l):aE aj 69 #[.pointer (ae ⟨c,0,af⟩),.string a] b t:=by
 have HP:aB (∀j,aE aj 45 #[.string a,.string h] j λe l=>e=.returned (.bool aq)/\l=j):=λj=>(qf a h j hk (by unfold cE;omega)).mono λe l U=>⟨by rw[U.1,hp],U.2⟩;have a8:aB (∀j,aA b.heap.size b j->aE aj 67 #[.pointer (ae ⟨c,0,af⟩),.string a] j λe l=>e=.returned (.tuple #[.int .i64 pos,.bool aq])/\aA b.heap.size b l):=a1;have HW:aB (∀j,aA b.heap.size b j->aE aj 69 #[.pointer (ae ⟨r,0,af⟩),.string a] j λe l=>(∃s,e=.returned (.pointer (ae ⟨s,0,af⟩))/\L1 l s)/\aA b.heap.size b l):=hW;have aa:aB (∀j s,L1 j s->aA b.heap.size b j->aE aj 79 #[.slice (ae ⟨f,k,af⟩) o cap,.int .i64 pos,.pointer (ae ⟨s,0,af⟩)] j λe l=>∃u,e=.returned u/\L2 l u/\aA b.heap.size b l):=a2;have ab:aB (∀j u,L2 j u->aA b.heap.size b j->aE aj 84 #[.string h,.pointer p,u] j λe l=>∃B,e=.returned (.pointer B)/\aA b.heap.size b l/\t e l):=a6;have v:aB (b.cell? ⟨c,0,af⟩=ae (.string h)/\b.cell? ⟨c,1,af⟩=ae (.pointer p)/\b.cell? ⟨c,2,af⟩=ae (.slice (ae ⟨f,k,af⟩) o cap)/\b.cell? ⟨f,k+pos,af⟩=ae (.pointer (ae ⟨r,0,af⟩))):=⟨al,an,ac,ad⟩;have a7:aB (∀j s,L1 j s->L1 j.drew s):=Z;have H:aB (∀j s,L1 j s->aA b.heap.size b j->(¬s=r)/\(∃cells,j.heap[r]?=ae (.cells cells 71 (0,0)))/\∃cells,j.heap[s]?=ae (.cells cells 71 (0,0))):=W;clear W;have av:¬(a.size:Int)=(h.size:Int):=ag;have aJ:(0:Int)<=(pos:Int):=qC _;have aP:(pos:Int)<(o:Int):=ag;clear hp a1 he hW a2 a6 Z
 go_enter xE,xB
 go_wp2_with (first|(go_at_call 45;refine(HP.out _).mono ?_;rintro e l ⟨rfl,rfl⟩)|(go_at_call 67;refine(a8.out _ (cD _ _)).mono ?_;rintro e w2 ⟨rfl,N⟩;have ao:=aS N v.out.2.2.1;have ar:=aS N v.out.2.2.2)|(go_at_call 69;refine(HW.out _ N).mono ?_;rintro e w3 ⟨⟨s,rfl,y⟩,w⟩;have aQ:=aS w v.out.1;have aU:=aS w v.out.2.1;have ap:=aS w v.out.2.2.1;have heq:=Jf (H.out _ _ y w).1 (H.out _ _ y w).2.2.choose_spec (H.out _ _ y w).2.1.choose_spec))
 go_region_held3 (λl=>l.cell? ⟨c,0,af⟩=ae (.string h)/\l.cell? ⟨c,1,af⟩=ae (.pointer p)/\l.cell? ⟨c,2,af⟩=ae (.slice (ae ⟨f,k,af⟩) o cap))
  (first|exact⟨aS R v.out.1,aS R v.out.2.1,aS R v.out.2.2.1⟩|exact⟨aS x v.out.1,aS x v.out.2.1,aS x v.out.2.2.1⟩|go_keep)
  (first
   |(go_at_call 79;refine(aa.out _ _ (a7.out _ _ y) w.drew).mono ?_;rintro e w4 ⟨u,rfl,ai,x⟩)
   |(go_at_call 84;refine(ab.out _ _ ai x).mono ?_;rintro e w5 ⟨B,rfl,R,am⟩))
 go_wp2
 exact am
end
theorem ae9{cap:Nat}{pos:Nat}(s:Open u b)(t:eH b c f j)(v:j.length<=cap)(x:cap<=cE)(o:pos<j.length)(w:j.length<=256):aE aj 85 #[.slice (ae ⟨c,f,af⟩) j.length cap,.int .i64 pos] b λe a=>∃k,e=.returned k/\eF u a k (j.take pos++j.drop (pos+1))/\aA b.heap.size b a:=by
 have l:=Bl j pos o;by_cases r:j.length=1
 ·rw[r];refine(ae8 _ cap pos b).mono ?_;rintro e a ⟨rfl,rfl⟩;exact⟨_,rfl,.inl ⟨kY.mp ag,rfl⟩,cD _ _⟩
 ·refine(af0 c f cap pos j b t v w o ag x).mono ?_;rintro e a ⟨g,y,rfl,h⟩;exact⟨_,rfl,h.row s (λp=>by rw[p]at l;simp at l;omega),h.below⟩
theorem Vx{n pos:Nat}{f:List (List KV)}(o:j.length=f.length)(l:pos<j.length)(k:∀(i c:Nat) g,j[i]?=ae c->f[i]?=ae g->aY u n b c g):∀(i c:Nat) g,(j.take pos++j.drop (pos+1))[i]?=ae c->(f.take pos++f.drop (pos+1))[i]?=ae g->aY u n b c g:=by
 intro i c g h a;rw[vM _ _ _ l]at h;rw[vM _ _ _ (o▸l)]at a;split at h;·rw[if_pos ‹_›]at a;exact k _ c g h a
 ·rw[if_neg ‹_›]at a;exact k _ c g h a
theorem KA(k:List UInt8)(l:List (List UInt8×v)):(del k l).length<=l.length:=mB _ _
theorem Nw:∀(n:Nat){S:Nat->Prop} {w:ak} {a1:Nat} {l:List KV} {key:ByteArray},Open S w->aY S n w a1 l->key.size<=9223372036854775807->l.length<=1000000->aE aj 69 #[.pointer (ae ⟨a1,0,af⟩),.string key] w λe c=>∃r,e=.returned (.pointer r)/\bD S n c r (del key.data.toList l)/\(lk key.data.toList l=af->r=ae ⟨a1,0,af⟩)/\aA w.heap.size w c
 |0,_,_,_,_,_,_,h,_,_=>h.elim
 |n+1,S,w,a1,l,key,hS,hT,H,hm=>by
  have ar:=hT;obtain⟨pre,vp,bv,ov,x,t,gs,b,hO,hR,hl,hC,p⟩:=hT;have a6:x.length<=256:=by have:=qu p.aT.pw;have:=p.aT.len;omega
  have aR:=KA key.data.toList l;have same:∀{c},aA w.heap.size w c->lk key.data.toList l=af->bD S (n+1) c (ae ⟨a1,0,af⟩) (del key.data.toList l):=λo u=>by
   rw[DW u];exact .inr ⟨a1,rfl,ar.on o⟩
  by_cases R:iK key.data.toList pre.data.toList=aq
  ·have am:pre.data.toList<+:key.data.toList:=xf.mp R;have aU:pre.size<=key.size:=by have:=am.length_le;rwa[<-fY,<-fY]at this
   by_cases he:key.size=pre.size
   ·have hK:key.data.toList=pre.data.toList:=by
     have:=zB.mp am;rw[this,<-fY,<-he,fU az]
    refine as8 b.c0 H b.short R he ?_;cases ov with
    |none=>
     obtain rfl:vp=none:=hO;refine(as0 b.c1).mono ?_;rintro e c ⟨rfl,rfl⟩;exact⟨_,rfl,_,rfl,same (cD _ _) (by rw[hK];exact p.EP),λ_=>rfl,cD _ _⟩
    |some aQ=>
     obtain⟨vb,N,rfl,U⟩:=hO;refine as1 b.c0 b.c1 b.c2 ?_;intro m;have a8:=tK w m;have Z:del key.data.toList l=c9 pre.data.toList af++gs.flatten:=by rw[hK,p.Rg];rfl
     refine(G8 (S:=S) (n:=n) (hS.later a8) b.short (ov:=af) rfl (hR.later a8) hl (λi a2 g N U=>(hC i a2 g N U).on a8) p.aT (by rw[<-Z];omega)).mono ?_;rintro e c ⟨r,rfl,W,h4⟩;rw[<-Z]at W;have o:=a8.trans h4;exact⟨r,rfl,o,r,rfl,r,rfl,W,(λu=>by rw[hK,p.EP]at u;cases u),o⟩
   ·have al:pre.size<key.size:=ag;have a7:=vU key pre.size al;have hP:pre.data.toList=key.data.toList.take pre.size:=by rw[fY];exact(zB.mp am)
    rw[<-hP]at a7;have hB:mO w pre.size x t:=by rw[fY];exact BW hl hC p.aT
    by_cases hf:t[posOf key[pre.size] t]?=ae key[pre.size]
    ·obtain⟨g,hg⟩:=p.aT.vQ hf;have v:posOf key[pre.size] t<x.length:=by rw[hl];exact(cu.mp hg).1
     have ab:x[posOf key[pre.size] t]?=ae x[posOf key[pre.size] t]:=bf v;have av:g.length<=1000000:=by
      have U:g.length<=gs.flatten.length:=(xd (cG hg)).length_le;have W:l.length=(c9 pre.data.toList ov).length+gs.flatten.length:=by rw[p.eq,gJ]
      omega
     have ao:=p.KL a7 hf hg;have aa:=hC _ _ _ ab hg;rcases hR with⟨rfl,_⟩|⟨aJ,aP,cap,N,rfl,W,h4,h5,h6⟩;·simp at v
     have ad:∀f,aA w.heap.size w f->aE aj 67 #[.pointer (ae ⟨a1,0,af⟩),.string key] f λe c=>e=.returned (.tuple #[.int .i64 (posOf key[pre.size] t:Nat),.bool aq])/\aA w.heap.size w c:=by
      intro f a;refine(wL (S:=S) (n:=n) (aS a b.c0) (aS a b.c2) (.inr ⟨aJ,aP,cap,N,rfl,W,h4,h5.later a,h6⟩) (hB.later a) p.aT.pw H al).mono ?_;rintro e c ⟨rfl,h⟩;exact⟨by rw[hf];simp,a.trans (h.mono a.size)⟩
     have hW:=λf (a:aA w.heap.size w f)=>Nw n (key:=key) (hS.later a) (aa.on a) H av;cases ac:lk key.data.toList g with
     |none=>
      refine(as9 b.c0 H b.short b.c1 b.c2 (h5 _ _ ab) v a6 R he ad ?_).mono ?_
      ·intro f a;refine(hW f a).mono ?_;rintro e c ⟨r,rfl,_,B,k⟩;rw[B ac];exact⟨rfl,a.trans (k.mono a.size)⟩
      ·rintro e c ⟨rfl,o⟩;exact⟨_,rfl,same o (ao.trans ac),λ_=>rfl,o⟩
     |some aQ=>
      have ap:∀{P:Prop},lk key.data.toList l=af->P:=λu=>by rw[ao,ac]at u;cases u
      by_cases Z:del key.data.toList g=[]
      ·obtain⟨hG,an⟩:=p.Rb a7 hf hg Z
       refine as4 (L1:=λ_=>True) (L2:=λc y=>eF S c y (x.take (posOf key[pre.size] t)++x.drop (posOf key[pre.size] t+1)))
        b.c0 H b.short b.c1 b.c2 (h5 _ _ ab) v a6 R he ad ?_ (λ_ h=>h) ?_ ?_
       ·intro f a;refine(hW f a).mono ?_;rintro e c ⟨r,rfl,j,_,k⟩;rcases j with⟨rfl,_⟩|⟨s,rfl,j⟩;·exact⟨⟨rfl,trivial⟩,a.trans (k.mono a.size)⟩
        ·exact absurd Z j.ne
       ·intro f _ a;refine(ae9 (hS.later a) (h5.later a) W h4 v a6).mono ?_;rintro e c ⟨y,rfl,B,k⟩;exact⟨y,rfl,B,a.trans (k.mono a.size)⟩
       ·intro f y B a;refine(G8 (S:=S) (n:=n) (hS.later a) b.short (hO.later a) B ?_ (Vx hl v (λi a2 g N U=>(hC i a2 g N U).on a)) hG (by rw[<-an];omega)).mono ?_;·have:=Bl x _ v;have:=Bl gs _ (hl▸v);omega
        rintro e c ⟨r,rfl,k,dI⟩;rw[<-an]at k;have o:=a.trans (dI.mono a.size);exact⟨r,rfl,o,r,rfl,k,λu=>ap u,o⟩
      ·have ai:=p.Rf a7 hf hg Z;have b0:=EJ aa.ck ac
       refine as5 (L1:=λc s=>aY S n c s (del key.data.toList g)) (L2:=λc y=>∃s,aY S n c s (del key.data.toList g)/\eF S c y (x.take (posOf key[pre.size] t)++s::x.drop (posOf key[pre.size] t+1)))
        b.c0 H b.short b.c1 b.c2 (h5 _ _ ab) v a6 R he ad ?_ (λf s h=>h.on (cD _ _).drew) ?_ ?_ ?_
       ·intro f a;refine(hW f a).mono ?_;rintro e c ⟨r,rfl,j,_,k⟩;rcases j with⟨_,j⟩|⟨s,rfl,j⟩;·exact absurd j Z
        ·exact⟨⟨s,rfl,j⟩,a.trans (k.mono a.size)⟩
       ·intro f s j a;refine⟨?_,(aa.on a).blk,j.blk⟩;rintro rfl;have e1:=(aa.on a).size;rw[j.size]at e1;have:((del key.data.toList g).length:Int)=(g.length:Int):=by simpa using e1
        omega
       ·intro f s j a;refine(Mw (hS.later a) (h5.later a) W h4 v a6).mono ?_;rintro e c ⟨y,rfl,B,k⟩;exact⟨y,rfl,⟨s,j.on k,B⟩,a.trans (k.mono a.size)⟩
       ·rintro f y ⟨s,j,B⟩ a;refine(G8 (S:=S) (n:=n) (hS.later a) b.short (hO.later a) B ?_ (Ko hl v (λi a2 g N U=>(hC i a2 g N U).on a) j) ai.aT (by rw[<-ai.eq];omega)).mono ?_;·simp;omega
        rintro e c ⟨r,rfl,k,dI⟩;rw[<-ai.eq]at k;have o:=a.trans (dI.mono a.size);exact⟨r,rfl,o,r,rfl,k,λu=>ap u,o⟩
    ·refine(as7 b.c0 H b.short R he (pos:=posOf key[pre.size] t) ?_).mono ?_
     ·intro f a;refine(wL (S:=S) (n:=n) (aS a b.c0) (aS a b.c2) (hR.later a) (hB.later a) p.aT.pw H al).mono ?_;rintro e c ⟨rfl,h⟩;exact⟨by rw[decide_eq_false hf],a.trans (h.mono a.size)⟩
     ·rintro e c ⟨rfl,o⟩;exact⟨_,rfl,same o (p.KH a7 hf),λ_=>rfl,o⟩
  ·have aF:iK key.data.toList pre.data.toList=false:=by simpa using R
   refine(as3 b.c0 H b.short aF).mono ?_;rintro e c ⟨rfl,rfl⟩;exact⟨_,rfl,same (cD _ _) (p.KJ λh=>R (xf.mpr h)),λ_=>rfl,cD _ _⟩
def cP(a:Nat->Nat)(h:Nat):Obj:=.cells #[.int .i64 (a 0),.int .i64 (a 1),.int .i64 (a 2),.int .i64 (a 3),.int .i64 (a 4),.int .i64 h] 54
structure fQ(sb:Nat)(a:Nat->Nat)(h:Nat)(w w':ak):Prop where
 os:w'.os=w.os
 tape:w'.tape=w.tape
 output:w'.output=w.output
 size:w'.heap.size=w.heap.size
 same:∀k,k≠sb->w'.heap[k]?=w.heap[k]?
 blk:w'.heap[sb]?=ae (cP a h)
theorem fQ.trans{c:Nat}{a b:Nat->Nat}{h g:Nat}{w w1 j:ak}(x:fQ c a h w w1)(y:fQ c b g w1 j):fQ c b g w j:=⟨y.os.trans x.os,y.tape.trans x.tape,y.output.trans x.output,y.size.trans x.size,λk f=>(y.same k f).trans (x.same k f),y.blk⟩
theorem kW(a:b.heap[c]?=ae (cP l f)):b.cell? ⟨c,0,af⟩=ae (.int .i64 (l 0))/\b.cell? ⟨c,1,af⟩=ae (.int .i64 (l 1))/\b.cell? ⟨c,2,af⟩=ae (.int .i64 (l 2))/\b.cell? ⟨c,3,af⟩=ae (.int .i64 (l 3))/\b.cell? ⟨c,4,af⟩=ae (.int .i64 (l 4))/\b.cell? ⟨c,5,af⟩=ae (.int .i64 f):=by
 simp[bL,a,cP]
theorem iW(a:b.heap[c]?=ae (cP l f))(o:Nat):b.frozen? ⟨c,o,af⟩=false:=by
 simp[gu,a,cP]
def qV(a:Nat->Nat)(i:Nat):Nat->Nat:=λj=>a j+one i j
theorem zz(a:b.heap[c]?=ae (cP l f))(i:Nat)(j:i<5):fQ c (qV l i) f b (b.setCell ⟨c,i,af⟩ (.int .i64 ((l i:Int)+1))):=by
 refine⟨rfl,rfl,rfl,by simp[eK],λk h=>hH _ _ _ _ h,?_⟩;simp only[eK,fV,if_true,a,hZ];have:i=0\/i=1\/i=2\/i=3\/i=4:=ag;rcases this with rfl|rfl|rfl|rfl|rfl<;>simp[cP,qV,one]
theorem QV{n:Nat}(h:b.heap[c]?=ae (cP l f))(H:n<=256)(k:∀j,l j<=1000000000):aE aj 68 #[.pointer (ae ⟨c,0,af⟩),.int .i64 n] b λe t=>e=.returned (.tuple #[])/\fQ c (qV l (e7 n)) f b t:=by
 obtain⟨c0,c1,c2,c3,c4,_⟩:=kW h;have w:=iW h 1;have x:=iW h 2;have y:=iW h 3;have B:=iW h 4;have u:=k 1;have v:=k 2;have a3:=k 3;have a4:=k 4;have o:aB (b.heap[c]?=ae (cP l f)):=h;clear h k;by_cases p:n<=4
 ·have a:e7 n=1:=by simp[e7,p]
  rw[a];clear a
  go_enter Hs,Hg
  go_wp2
  go_end0
  exact⟨rfl,zz o.out 1 bc⟩
 ·by_cases r:n<=16
  ·have a:e7 n=2:=by simp[e7,p,r]
   rw[a];clear a
   go_enter Hs,Hg
   go_wp2
   go_end0
   exact⟨rfl,zz o.out 2 bc⟩
  ·by_cases s:n<=48
   ·have a:e7 n=3:=by simp[e7,p,r,s]
    rw[a];clear a
    go_enter Hs,Hg
    go_wp2
    go_end0
    exact⟨rfl,zz o.out 3 bc⟩
   ·have a:e7 n=4:=by simp[e7,p,r,s]
    rw[a];clear a
    go_enter Hs,Hg
    go_wp2
    go_end0
    exact⟨rfl,zz o.out 4 bc⟩
theorem ao0(a:Nat)(w:ak):aE aj 53 #[.pointer af,.pointer (ae ⟨a,0,af⟩)] w λe b=>e=.returned (.int .i64 0)/\b=w:=by
 go_enter P0,OR
 go_wp2
 go_ret
 exact⟨rfl,rfl⟩
theorem an9(r:b.cell? ⟨c,2,af⟩=ae (.slice af 0 0))(a:b.heap[f]?=ae (cP l k))(p:l 0<=1000000000):aE aj 53 #[.pointer (ae ⟨c,0,af⟩),.pointer (ae ⟨f,0,af⟩)] b λe j=>e=.returned (.int .i64 1)/\fQ f (qV l 0) k b j:=by
 obtain⟨c0,_⟩:=kW a;have o:=iW a 0;have h:aB (b.heap[f]?=ae (cP l k)):=a;clear a
 go_enter P0,OR
 go_wp2
 go_ret
 exact⟨rfl,zz h.out 0 bc⟩
def dE(a:Nat->Nat)(b:List (Nat->Nat))(i:Nat):Nat->Nat:=λj=>a j+eZ (b.take i) j
theorem Cc(L:List v)(i:Nat)(x:v)(h:L[i]?=ae x):L.take (i+1)=L.take i++[x]:=by rw[mC,h];rfl
theorem Gy(a:Nat->Nat)(b:List (Nat->Nat))(i:Nat)(c:Nat->Nat)(h:b[i]?=ae c):dE a b (i+1)=λj=>dE a b i j+c j:=by
 funext j;unfold dE;rw[Cc b i c h,an6];omega
theorem Gz(a:Nat->Nat)(b:List (Nat->Nat)):dE a b 0=a:=by funext j;simp[dE,eZ]
theorem F0(a:List Nat)(i x:Nat)(h:a[i]?=ae x):dD (a.take (i+1))=max (dD (a.take i)) x:=by rw[Cc a i x h,XZ]
theorem fQ.refl(a:b.heap[c]?=ae (cP l f)):fQ c l f b b:=⟨rfl,rfl,rfl,rfl,λ_ _=>rfl,a⟩
theorem fQ.cell{a:Nat->Nat}(x:fQ c a f b w){v:au}(h:k≠c)(j:b.cell? ⟨k,r,af⟩=ae v):w.cell? ⟨k,r,af⟩=ae v:=
 (gV (w:=b) (a:=⟨k,r,af⟩) (x.same k h)).trans j
theorem ao1{cap:Nat}{cl:List (Nat->Nat)}{hl:List Nat}(hv:b.cell? ⟨c,2,af⟩=ae (.slice (ae ⟨k,r,af⟩) j.length cap))(W:eH b k r j)(ac:c≠f)(a8:k≠f)(a2:j≠[])(aa:j.length<=256)(al:cl.length=j.length)(am:hl.length=j.length)(hb:b.heap[f]?=ae (cP l o))(a1:∀x∈hl,x<=100000000)(ha:∀i a,dE l cl i a<=1000000000)(Z:∀(i h:Nat) t s,j[i]?=ae h->cl[i]?=ae t->hl[i]?=ae s->∀u,(∀k,k≠f->u.heap[k]?=b.heap[k]?)->u.heap[f]?=ae (cP (dE l cl i) o)->aE aj 53 #[.pointer (ae ⟨h,0,af⟩),.pointer (ae ⟨f,0,af⟩)] u λe p=>e=.returned (.int .i64 s)/\fQ f (λa=>dE l cl i a+t a) o u p):aE aj 53 #[.pointer (ae ⟨c,0,af⟩),.pointer (ae ⟨f,0,af⟩)] b λe p=>e=.returned (.int .i64 ((dD hl+1:Nat):Int))/\fQ f (qV (dE l cl j.length) (e7 j.length)) o b p:=by
 have HC:aB (∀(i h:Nat) t s,j[i]?=ae h->cl[i]?=ae t->hl[i]?=ae s->∀u,(∀k,k≠f->u.heap[k]?=b.heap[k]?)->u.heap[f]?=ae (cP (dE l cl i) o)->aE aj 53 #[.pointer (ae ⟨h,0,af⟩),.pointer (ae ⟨f,0,af⟩)] u λe p=>e=.returned (.int .i64 s)/\fQ f (λa=>dE l cl i a+t a) o u p):=Z;have a6:aB (eH b k r j):=W;have HB:aB (b.heap[f]?=ae (cP l o)):=hb;have HV:aB (b.cell? ⟨c,2,af⟩=ae (.slice (ae ⟨k,r,af⟩) j.length cap)):=hv;have HA:aB (∀i a,dE l cl i a<=1000000000):=ha;have B:aB (∀x∈hl,x<=100000000):=a1;have an:0<j.length:=kE.mpr a2;have hz:((j.length:Int)==0)=false:=by simp;omega
 clear Z W hb ha a1 a2
 go_enter P0,OR
 go_wp2
 go_loopg [5,28] j.length (λgk s5 ad wr=>∃a:Nat,a<=j.length/\gk+a=j.length/\s5=.int .i64 (dD (hl.take a):Nat)/\ad=.int .i64 a/\aB (fQ f (dE l cl a) o b wr))
 case atStart=>exact⟨0,fL _,ag,rfl,rfl,by rw[Gz];exact fQ.refl HB.out⟩
 case round=>
  obtain⟨a,hj,hg,rfl,rfl,v⟩:=hrel;by_cases ab:a<j.length
  ·obtain⟨h,N⟩:∃h,j[a]?=ae h:=⟨j[a],bf ab⟩;obtain⟨t,R⟩:∃h,cl[a]?=ae h:=⟨cl[a]'(ag),bf _⟩;obtain⟨s,y⟩:∃h,hl[a]?=ae h:=⟨hl[a]'(ag),bf _⟩;have ai:=v.out.cell a8 (a6.out a h N);have a7:aB (aE aj 53 #[.pointer (ae ⟨h,0,af⟩),.pointer (ae ⟨f,0,af⟩)] wr λe p=>e=.returned (.int .i64 s)/\fQ f (λx=>dE l cl a x+t x) o wr p):=HC.out a h t s N R y wr v.out.same v.out.blk;have h1:s<=100000000:=B.out s (cG y);have h2:dD (hl.take a)<=100000000:=yH λx U=>B.out x (zJ U);have HS:aB (dD (hl.take (a+1))=max (dD (hl.take a)) s):=F0 hl a s y;have HU:aB (dE l cl (a+1)=λx=>dE l cl a x+t x):=Gy l cl a t R;clear N R y;generalize dD (hl.take a)=m0 at*
   go_wp2_with (go_at_call 53;refine a7.out.mono ?_;rintro e p ⟨rfl,w⟩;have H:aB (fQ f (λx=>dE l cl a x+t x) o b p):=v.out.trans w;clear w)
   all_goals
    go_roundg (gk-1)
    case measure=>omega
    case rel=>exact⟨a+1,ag,ag,by rw[HS.out];exact congrArg _ (by rw[Db];split<;>omega),by go_num,by rw[HU.out];exact H.out⟩
  ·have ej:a=j.length:=ag;subst ej;have ao:=v.out.cell ac HV.out;have HN:aB (aE aj 68 #[.pointer (ae ⟨f,0,af⟩),.int .i64 j.length] wr λe p=>e=.returned (.tuple #[])/\fQ f (qV (dE l cl j.length) (e7 j.length)) o wr p):=QV v.out.blk aa (λx=>HA.out _ x);have HE:aB (hl.take j.length=hl):=by show _=_;rw[fU ag]
   have h2:dD (hl.take j.length)<=100000000:=yH λx U=>B.out x (zJ U)
   go_wp2_with (go_at_call 68;refine HN.out.mono ?_;rintro e p ⟨rfl,w⟩;have H:aB (fQ f (qV (dE l cl j.length) (e7 j.length)) o b p):=v.out.trans w;clear w)
   go_ret
   exact⟨BY (by rw[HE.out];simp),H.out⟩
theorem Zi{gs:List (List KV)}{P:Nat->List KV->(Nat->Nat)->Nat->Prop}(u:j.length=gs.length)(h:∀(i c:Nat) g,j[i]?=ae c->gs[i]?=ae g->∃s t,P c g s t):∃(l:List (Nat->Nat)) (o:List Nat),l.length=gs.length/\o.length=gs.length/\∀(i c:Nat) g f k,j[i]?=ae c->gs[i]?=ae g->l[i]?=ae f->o[i]?=ae k->P c g f k:=by
 induction j generalizing gs with
 |nil=>
  have:gs=[]:=kY.mp (by rw[<-u];rfl);subst this;exact⟨[],[],rfl,rfl,λi c g f k y=>by simp at y⟩
 |cons c j H=>
  cases gs with
  |nil=>simp at u
  |cons g gs=>
   obtain⟨s,t,x⟩:=h 0 c g rfl rfl;obtain⟨l,o,N,R,B⟩:=H (gs:=gs) (by simpa using u) (λi f v a b=>h (i+1) f v (by simpa using a) (by simpa using b));refine⟨s::l,t::o,by simp[N],by simp[R],λi c1 w f k p r a3 a4=> ?_⟩;cases i with
   |zero=>simp at p r a3 a4;subst p;subst r;subst a3;subst a4;exact x
   |succ i=>exact B i c1 w f k (by simpa using p) (by simpa using r) (by simpa using a3) (by simpa using a4)
theorem Gr:∀(n:Nat){S:Nat->Prop} {w:ak} {a2 sb:Nat} {l:List KV} {a:Nat->Nat} {h:Nat},aY S n w a2 l->¬S sb->w.heap[sb]?=ae (cP a h)->(∀j,a j+2*l.length<=100000000)->∃c g,kq n l c g/\aE aj 53 #[.pointer (ae ⟨a2,0,af⟩),.pointer (ae ⟨sb,0,af⟩)] w λe N=>e=.returned (.int .i64 (g:Nat))/\fQ sb (λj=>a j+c j) h w N
 |0,_,_,_,_,_,_,_,ad,_,_,_=>ad.elim
 |n+1,S,w,a2,sb,l,a,h,⟨pre,vp,bv,ov,v,xs,b,hN,hO,hR,hl,hC,H⟩,R,hb,U=>by
  have b0:=H.len;have an:v.length<=256:=by have:=qu H.aT.pw;have:=H.aT.len;omega
  have aP:a2≠sb:=λe=>R (e▸hN.iS);rcases hR with⟨rfl,rfl⟩|⟨k,b1,cap,h1,rfl,h3,h4,h5,h6⟩
  ·have f:b=[]:=kY.mp (by rw[<-hl];rfl);refine⟨one 0,1,⟨_,ov,xs,b,H,.inl ⟨f,rfl,rfl⟩⟩,?_⟩;exact an9 hN.c2 hb (by have:=U 0;omega)
  ·have av:k≠sb:=λe=>R (e▸h1);have ao:b≠[]:=λe=>h6 (kY.mp (by rw[hl,e];rfl));have aa:∀(i:Nat) g,b[i]?=ae g->g.length<=l.length:=by
    intro i g f;have h2:g.length<=b.flatten.length:=(xd (cG f)).length_le;have h3:l.length=(c9 pre.data.toList ov).length+b.flatten.length:=by rw[H.eq,gJ]
    omega
   have uf:∀(i c:Nat) g,v[i]?=ae c->b[i]?=ae g->∃B Z,kq n g B Z/\∀o t,(∀k,k≠sb->o.heap[k]?=w.heap[k]?)->o.heap[sb]?=ae (cP t h)->(∀j,t j+2*g.length<=100000000)->
     aE aj 53 #[.pointer (ae ⟨c,0,af⟩),.pointer (ae ⟨sb,0,af⟩)] o λe N=>e=.returned (.int .i64 (Z:Nat))/\fQ sb (λj=>t j+B j) h o N:=by
    intro i c g hc f;have hr:=hC i c g hc f;have aU:=aa i g f;obtain⟨B,Z,ab,_⟩:=Gr n hr R hb (λj=>by have:=U j;omega);refine⟨B,Z,ab,λo t a8 a6 ai=> ?_⟩;have aF:aY S n o c g:=hr.frame (λk W=>a8 k (λe=>R (e▸W)));obtain⟨c2,g2,aJ,al⟩:=Gr n aF R a6 ai;obtain⟨rfl,rfl⟩:=ab.uniq aJ;exact al
   obtain⟨r,u,l1,l2,W⟩:∃(r:List (Nat->Nat)) (u:List Nat),r.length=b.length/\u.length=b.length/\∀(i c:Nat) g p s,v[i]?=ae c->b[i]?=ae g->r[i]?=ae p->u[i]?=ae s->kq n g p s/\∀o t,(∀k,k≠sb->o.heap[k]?=w.heap[k]?)->o.heap[sb]?=ae (cP t h)->(∀j,t j+2*g.length<=100000000)->
     aE aj 53 #[.pointer (ae ⟨c,0,af⟩),.pointer (ae ⟨sb,0,af⟩)] o λe N=>e=.returned (.int .i64 (s:Nat))/\fQ sb (λj=>t j+p j) h o N:=by
    exact Zi hl uf
   have ac:kq (n+1) l (λj=>eZ r j+one (e7 b.length) j) (dD u+1):=by
    refine⟨_,ov,xs,b,H,.inr ⟨ao,r,u,l1,l2,?_,rfl,rfl⟩⟩;intro i g p s f x a7;have y:=(cu.mp f).1;exact(W i (v[i]'(ag)) g p s (bf _) f x a7).1
   have aR:=ac.bounds;have bd:∀(i:Nat) g p s,b[i]?=ae g->r[i]?=ae p->u[i]?=ae s->(∀j,p j+1<=2*g.length)/\s<=g.length:=by
    intro i g p s f x a7;have y:=(cu.mp f).1;have:=(W i (v[i]'(ag)) g p s (bf _) f x a7).1.bounds;exact⟨this.1,this.2.1⟩
   have up:∀i j,dE a r i j+2*((b.drop i).map jk).sum<=a j+2*l.length:=by
    intro i j
    have h7:=Cb (cl:=r.take i) (gs:=b.take i) (by simp;omega) (λi' g p f x j=>by
     rw[nv]at f x;split at f
     ·rw[if_pos ‹_›]at x;have y:=(cu.mp f).1;exact(bd i' g p (u[i' ]'(ag)) f x (bf _)).1 j
     ·cases f) j
    have h8:(b.map jk).sum=((b.take i).map jk).sum+((b.drop i).map jk).sum:=by
     rw[<-On,<-zT,jW]
    unfold dE;omega
   refine⟨_,_,ac,?_⟩;refine(ao1 (cl:=r) (hl:=u) hN.c2 h5 aP av h6 an ag ag hb ?_ ?_ ?_).mono ?_
   ·intro aQ hx;obtain⟨i,y⟩:=uT.mp hx;have ar:=(cu.mp y).1;have:=(bd i (b[i]'(ag)) (r[i]'(ag)) aQ (bf _) (bf _) y).2;have:=aa i _ (bf ag);have:=U 0;omega
   ·intro i j;have:=up i j;have:=U j;omega
   ·intro i c B y hc am ap o a8 a6;have ar:=(cu.mp hc).1;have f:b[i]?=ae (b[i]'(ag)):=bf _;refine(W i c _ B y hc f am ap).2 o _ a8 a6 (λj=> ?_);have h9:((b.drop i).map jk).sum=(b[i]'(ag)).length+((b.drop (i+1)).map jk).sum:=by rw[lG (l:=b) (i:=i) ag,qG,OF]
    have:=up i j;have:=U j;omega
   ·rintro e N ⟨rfl,hw⟩;refine⟨rfl,?_⟩;have:qV (dE a r v.length) (e7 v.length)=λj=>a j+(eZ r j+one (e7 b.length) j):=by
     funext j;unfold qV dE;rw[fU ag,hl];omega
    rw[<-this];exact hw
theorem fQ.below(x:fQ c l f b w)(h:k<=c):aA k b w:=⟨x.os,x.tape,x.output,by rw[x.size];exact aL _,λa j=>x.same a ag⟩
theorem yS(w:ak)(o p:dV):((w.alloc o).alloc p).heap[w.heap.size]?=ae o:=by
 rw[rL _ _ _ az];exact cY w o
def dz(c:Nat->Nat)(h:Nat):Value:=.agg #[.int .i64 (c 0),.int .i64 (c 1),.int .i64 (c 2),.int .i64 (c 3),.int .i64 (c 4),.int .i64 h]
def tJ(l:List KV)(c:Nat->Nat)(h:Nat):Prop:=(l=[]/\c=(λ_=>0)/\h=0)\/∃n,kq n l c h
theorem tJ.uniq{l:List KV}{c b:Nat->Nat}{h f:Nat}(x:tJ l c h)(y:tJ l b f):c=b/\h=f:=by
 rcases x with⟨a,rfl,rfl⟩|⟨n,x⟩
 ·rcases y with⟨_,rfl,rfl⟩|⟨m,y⟩;·exact⟨rfl,rfl⟩
  ·have:=y.bounds.2.2.1;rw[a]at this;simp at this
 ·rcases y with⟨a,rfl,rfl⟩|⟨m,y⟩;·have:=x.bounds.2.2.1;rw[a]at this;simp at this
  ·exact x.uniq y
theorem al0{n:Nat}{l:List KV}(hT:bD u n b p l)(hm:l.length<=1000000):∃c h,tJ l c h/\aE aj 35 #[.pointer p] b λe f=>e=.returned (dz c h)/\aA b.heap.size b f:=by
 rcases hT with⟨rfl,rfl⟩|⟨t,rfl,w⟩
 ·refine⟨λ_=>0,0,.inl ⟨rfl,rfl,rfl⟩,?_⟩
  go_enter aJ1,aF8
  go_wp2_with (go_at_call 53;refine(ao0 _ _).mono ?_;rintro e f ⟨rfl,rfl⟩)
  exact oi (v:=dz (λ_=>0) 0) (by simp[ga,aC9,go_sem,dz]) rfl ⟨rfl,((cD _ _).alloc (aL _) _).alloc az _⟩
 ·have o:aA b.heap.size b ((b.alloc (cP (λ_=>0) 0)).alloc (cP (λ_=>0) 0)):=((cD _ _).alloc (aL _) _).alloc az _;have x:aY (λk=>u k/\k<b.heap.size) n ((b.alloc (cP (λ_=>0) 0)).alloc (cP (λ_=>0) 0)) t l:=w.later o (λk h1 h2=>⟨h1,h2⟩) (aL _);obtain⟨c,g,s,y⟩:=Gr n (sb:=b.heap.size+1) x (λh=>by have:=h.2;omega) (a:=λ_=>0) (h:=0) (by have:=cY (b.alloc (cP (λ_=>0) 0)) (cP (λ_=>0) 0);simpa using this) (λj=>ag);refine⟨c,g,.inr ⟨n,s⟩,?_⟩;have a2:=s.bounds;have hg:g<=1000000:=ag;have H:aB (aE aj 53 #[.pointer (ae ⟨t,0,af⟩),.pointer (ae ⟨b.heap.size+1,0,af⟩)] ((b.alloc (cP (λ_=>0) 0)).alloc (cP (λ_=>0) 0)) λe f=>e=.returned (.int .i64 (g:Nat))/\fQ (b.heap.size+1) (λj=>0+c j) 0 ((b.alloc (cP (λ_=>0) 0)).alloc (cP (λ_=>0) 0)) f):=y;have B:aB (aA b.heap.size b ((b.alloc (cP (λ_=>0) 0)).alloc (cP (λ_=>0) 0))):=o;clear y s x w o a2
  go_enter aJ1,aF8
  go_wp2_with (go_at_call 53;refine H.out.mono ?_;rintro e v ⟨rfl,a⟩;obtain⟨R,U,W,Z,d4,d5⟩:=kW a.blk;have fd:=iW a.blk;have r:v.heap[b.heap.size]?=ae (cP (λ_=>0) 0):=(a.same b.heap.size ag).trans (yS b _ _);obtain⟨r0,r1,r2,r3,r4,r5⟩:=kW r;have fr:=iW r;have N:aB (fQ (b.heap.size+1) (λj=>0+c j) 0 ((b.alloc (cP (λ_=>0) 0)).alloc (cP (λ_=>0) 0)) v):=a;clear a r;simp only[ia]at R U W Z d4 d5)
  have a1:aA b.heap.size b v:=B.out.trans (N.out.below ag);refine oi (v:=dz c g) (by simp[ga,aC9,go_sem,dz,r0,r1,r2,r3,r4,r5]) rfl ⟨rfl,?_⟩;exact((((((a1.setCell az _).setCell az _).setCell az _).setCell az _).setCell az _).setCell az _).setCell az _
theorem ai8(a:b.cell? s=ae (.pointer p)):(vi 40 #[.pointer (ae s)]).run aj b=.ok (.value (.pointer p)) b:=by
 rw[Oc (e:=zH .ptr) Tryz.func40 ah ah ah ah];change (fu aj (do xj .ptr (<-vm (.pointer (ae s)))) b).andThen _=_;simp[xj,vm,a,rP]
theorem aj4(p:Option aH)(w:ak):(Dg p p).run aj w=.ok aq w:=by
 cases p with
 |none=>rfl
 |some a=>simp[Dg,I5]
theorem QA(x y z:au):∃b c:String,sR .ptr #[x,y,z]=(do
  let a<-vm x
  if<-Ct a then va (.unsafePointer b)
  let eq<-match aL4,<-xj .ptr a,y with
   |_,.int _ x,.int _ y=>bN (x==y)
   | .ptr,.pointer x,.pointer y=>Dg x y
   | .int _,.pointer (ae _),.int _ 0| .int _,.int _ 0,.pointer (ae _)=>bN ax
   | .int _,.pointer (ae _),_| .int _,_,.pointer (ae _)=>va .addressObserved
   |_,_,_=>iO c
  if eq then tz a z .atomic
  bN (Value.bool eq)):=⟨_,_,rfl⟩
theorem ai5{q:Option aH}(a:b.cell? s=ae (.pointer p))(c:b.frozen? s=ax):(vi 65 #[.pointer (ae s),.pointer p,.pointer q]).run aj b=.ok (.value (.bool aq)) (b.setCell s (.pointer q)):=by
 rw[Oc (e:=sR .ptr) Tryz.func65 ah ah ah ah];obtain⟨f,j,h⟩:=QA (.pointer (ae s)) (.pointer p) (.pointer q);rw[h];simp[Ct,xj,vm,viewAt,World.shape?_isSome_of_cell? a,a,c,Di aj b s (.pointer q) .atomic rfl,rP,aj4]
def lg(w:ak)(p:Option aH):Prop:=p=af\/∃t,p=ae ⟨t,0,af⟩/\w.shape? t=ae (71,4)
theorem bD.ptr{S:Nat->Prop}{n:Nat}{w:ak}{a:Option aH}{l:List KV}(h:bD S n w a l):lg w a:=by
 rcases h with h|⟨t,b,c⟩;·exact .inl h.1
 ·exact .inr ⟨t,b,c.shape⟩
theorem EN:pK aj aj.depth 71 (4/aj.cellsOf 71) 0 71 1=true:=ah
theorem QU(h:lg b p):(oo 60 56 (.pointer p)).run aj b=.ok (.pointer p) b:=by
 obtain⟨i0,a,_⟩:=nF Bb;rcases h with rfl|⟨t,rfl,h⟩;·simp[oo,ta CF,ta xt,uW]
 ·exact Lib.run_from_unsafe b _ CF xt a h EN
theorem DV(h:lg b p):(oo 56 60 (.pointer p)).run aj b=.ok (.pointer p) b:=by
 obtain⟨i0,c,_,a,_⟩:=nF Bb;rcases h with rfl|⟨t,rfl,h⟩;·simp[oo,ta CF,ta xt,uW]
 ·exact Lib.run_to_unsafe b _ xt CF c (by rw[a];decide) h (by show 0<4;decide)
theorem n9{w:ak}(b:w.cell? ⟨c,0,af⟩=ae (.pointer p))(a:lg w p):aE aj 23 #[.pointer (ae ⟨c,0,af⟩)] w λe f=>e=.returned (.pointer p)/\f=w:=by
 have j:=ai8 b;have h:=QU a;clear a
 go_enter aJ6,Tryz.ntmps23
 go_wp2
 go_ret
 exact⟨rfl,rfl⟩
theorem yh{q:Option aH}(a:b.cell? ⟨c,0,af⟩=ae (.pointer p))(j:b.frozen? ⟨c,0,af⟩=ax)(f:lg b p)(h:lg b q):aE aj 49 #[.pointer (ae ⟨c,0,af⟩),.pointer p,.pointer q] b λe k=>e=.returned (.bool aq)/\k=b.setCell ⟨c,0,af⟩ (.pointer q):=by
 have r:=ai5 (q:=q) a j;have o:=DV f;have l:=DV h;clear f h a j
 go_enter Tryz.func49,Tryz.ntmps49
 go_wp2
 go_ret
 exact⟨rfl,rfl⟩
