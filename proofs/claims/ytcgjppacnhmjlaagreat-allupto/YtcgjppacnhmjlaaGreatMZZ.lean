/- All: for every script handed in that holds at most 1048576 values and letters, the call returns true and leaves what it was given as it was. (Names and spaces in these texts were shortened by a program, since a claim may hold 1,500,000 bytes.) -/
import Derived.Test.YtcgjppacnhmjlaaGreatMAQ
import Derived.Conc.LeavingOf
import Derived.ProofKit
import Derived.JoinedCond
set_option linter.all false
set_option maxRecDepth 100000
namespace Go.Proofs.YtcgjppacnhmjlaaGreat
open Go Go.Conc Go.ConcN Go.Conc.Lib Go.ConcR.Gen Go.RowKit Go.ChangeShapes Go.WideShapes Go.ChangeAt Go.Deep
namespace Sim
variable {c:Value->World->Prop} {b:World}
theorem ay.fin{P:Program}{O:Nat->Prop}{g:Goroutine}(u:g.status=.running)(h:∀a d,∃v,stepG P true g (Sim.re b a d)=.ended (.done v) (Sim.re b a d) #[]/\c v (Sim.re b a d)):ay P c O g b:=by
 intro a d w y t q j p r;exact beside_ends (D:=λ_ _ _=>False) (Shun:=vC O) (B:=b.heap.size) (n:=0) (λ_ _ _ x=>x.elim) j p r.qt (λB k=>by
  obtain⟨f,rfl⟩:=k;rw[AD];obtain⟨v,l,o⟩:=h a f;exact⟨u,v, #[],l,λe s=>by simp at s,o⟩)
theorem ay.first{P:Program}{g:Goroutine}(h:ay P c (λ_=>False) g b):Fin P c (crowd #[g] b none) #[]:=by
 have:=h b.tape b.drawn #[g] none #[] (λ_=>0) rfl (leavers_one P g) ⟨⟨past_nil.clean,λi a f=>by simp[touchAt,Trace.act?]at f,past_nil.over,rfl,az⟩,λi op x j=>by simp at j,az,az⟩;rwa[uE]at this
theorem VA(h:Tryz.prog.globals.size<=b.heap.size):aI Xm (λ_=>False) (λ_ _=>False) b:=⟨λa c h=>h.elim,⟨⟨λa c j h=>h.elim,λa f c h=>h.elim,λa c h=>h.elim⟩,⟨h,h⟩,λa i h=>h.elim,λa c h=>h.elim⟩,λa h=>h.elim,λa h=>h.elim⟩
noncomputable def TH(a:Value):Frame:=dZ (nxtN Tryz.prog true 1 (nxtN Tryz.prog true 7 (aw (Frame.enter Tryz.prog 6 #[a] .normal) []))).callers
theorem Q1{Post:Value->World->Prop}{W:World}{pa:Option Addr}{pc:Nat}{os:List OpV}(c:Tryz.prog.globals.size<=W.heap.size)(b:ScriptIn W pa os)(a:os.length<=9223372036854775807)(f:∀w,aO W w->Post (.bool true) w):Fin Tryz.prog Post (crowd #[aw (Frame.enter Tryz.prog 6 #[.slice pa os.length pc] .normal) []] W none) #[]:=by
 refine ay.first ?_;refine .K 7 ?_;refine .K 1 ?_;refine .eqv (g':=aw (Frame.enter Tryz.prog 7 #[.slice pa os.length pc,.int .i64 11] .normal) (TH (.slice pa os.length pc)::[])) ah (Yf (VA c) b a _ _ λv l o p j=> ?_);obtain⟨rfl,r,t,s,h⟩:=j;refine .K 3 ?_;exact .fin ah λk d=>⟨.bool true,ah,f _ (h.cv.re k d)⟩
end Sim
section
variable {H:Type} {a:TypeId×Value->H}
theorem QT{u:Assume}{C:Checked}{p:Os}{f:FuncId}{fn:Func}{s:OpenSpec}{k:(H:Type)->List (DataW H)->Bool}(hk:s.cond=some k){F:Stop.Interp}{l:List PathCond}{apart fresh y x:Bool}(own:ownKnob C.prog.godebug=none)(ai:p.Started)(Z:C.prog.funcs[f]?=some fn)(a8:C.prog.globals.size<(begin C.prog (λ_ _=>0) default).world.heap.size)(al:∃(w:World)(tape:Tape) (i:Input),w.os=p/\(w.forCall tape i).Shaped C.prog/\i.vars=[]/\Input.okWide C.prog (w.forCall tape i) .any w.heap.size f i/\s.pre6 a C.prog fn l apart (w.forCall tape i).memory i.args/\u.holds C.prog (lone (Frame.enter C.prog f i.args .normal) [] (w.forCall tape i)))(ad:∀(W:World)(base:Nat)(args:Array Value) (b c:List (DataW H)) (h:List MemPlace),C.prog.globals.size<=W.heap.size->(∀(j:Nat) t v,fn.params[j]?=some t->args[j]?=some v->Value.okWide C.prog W .any base t v)->DataW.Whole a C.prog fn.params.toList s.vars apart W args.toList b c h->k H (b++c)=true->∃M last o r B,runNT C.prog (M+1) (solo (G (Frame.enter C.prog f args .normal) []) W) #[]=(.ended o r,B)/\runN C.prog M (solo (G (Frame.enter C.prog f args .normal) []) W)=.next last/\step C.prog last=.ended o r/\Conc.Good C.prog (λv N=>(s.at F).post a C.prog fn apart fresh y x W.blind args v N.blind) last o r B):ReturnsInLeavingWide u C p f .any (s.pre6 a C.prog fn l apart) ((s.at F).post a C.prog fn apart fresh y x):=by
 refine returnsInLeavingWide_of_good own ai al ?_;intro w tape i _ aa _ a6 a7 _;obtain⟨_,_,_,R,a1,_,_,_,_,ac⟩:=a6;have e:R=fn:=Option.some.inj (a1.symm.trans Z);subst e;obtain⟨b,c,h,hw,_,a2⟩:=(OpenSpec.pre_some hk l apart _ _).1 a7.1;have ab:C.prog.globals.size<=(w.forCall tape i).heap.size:=by
  obtain⟨o,_,U,_⟩:=aa.2 C.prog.globals.size (Nat.le_refl _) a8;exact Nat.le_of_lt (Array.getElem?_eq_some_iff.1 U).1
 exact ad (w.forCall tape i) w.heap.size i.args b c h ab ac (DataW.Whole.of_heap (w':=w.forCall tape i) (by rfl) hw) a2
end
theorem PZ{H:Type}{d:DataW H}(a:Rows.uptoSmall H [d]=true):Rows.uptoBulk d<=1048576:=by
 have h:Rows.uptoBulkAll [d]<=1048576:=of_decide_eq_true a;simp only[Rows.uptoBulkAll]at h;omega
theorem Q2(l:Os)(ad:l.Started)(H:Type)(a:TypeId×Value->H)(F:Stop.Interp):ReturnsInLeavingWide {} Tryz.checked l 6 .any ((Rows.OpenSpec.upto Rows.allSpec).pre6 a Tryz.prog Tryz.f6 Rows.allUptoRow.domain false) (((Rows.OpenSpec.upto Rows.allSpec).at F).post a Tryz.prog Tryz.f6 false true false false):=by
 refine QT (C:=Tryz.checked) (f:=6) (fn:=Tryz.f6) (s:=Rows.OpenSpec.upto Rows.allSpec) (k:=Rows.uptoSmall) rfl Z6 ad Tryz.func6 (of_decide_eq_true ah) (OpenSpec.witness (enc:=a) (C:=Tryz.checked) (os:=l) (f:=6) (fn:=Tryz.f6) (s:=Rows.OpenSpec.upto Rows.allSpec) (k:=Rows.uptoSmall) rfl false ⟨#[], #[.slice none 0 0],[]⟩ 8 ah ah ah (x:=([.nil],[],[])) ah ah ah) ?_;intro W base args ds gs ai ac R u a8;have N:∀(j:Nat) t v,Tryz.f6.params[j]?=some t->args[j]?=some v->Value.okWide Tryz.prog W .any base t v:=R;have f:=u;obtain⟨p,q,s,hV,rfl,al,am⟩:=u;have r:DataW.TrodAll a Tryz.prog W 0 (λ_=>true) true Tryz.f6.params.toList args.toList ds p:=s;rw[Tryz.params6]at r N;obtain⟨v0,Z,rfl,rfl,o⟩:=trodAll_one r;obtain⟨rfl,rfl⟩:=trodVars_none hV;obtain⟨a0,len,cap,rfl⟩:=okWide_slice Tryz.underlying22 (N 0 22 v0 rfl rfl);have a6:=PZ (H:=H) (d:=Z) a8;have a1:=o;obtain⟨fuel,B⟩:=a1;obtain⟨pa,k,pc,e,hS,a2⟩:=aj6 (n:=fuel) (v:=.slice a0 len cap) B a6;cases e;clear s R B;simp only[List.append_nil]at f;have aa:∀x∈p,x.block<W.heap.size:=λx hx=>f.lt x (by simp[hx]);refine Sim.Q1 (W:=W) (os:=k) (pa:=a0) (pc:=cap) (Post:=λv U=>((Rows.OpenSpec.upto Rows.allSpec).at F).post a Tryz.prog Tryz.f6 false true false false W.blind #[.slice a0 k.length cap] v U.blind) ac hS a2 λw c=> ?_;have y:Below W.heap.size W (Sim.re w W.tape w.drawn):=⟨c.os,rfl,c.output,c.size,λb h=>c.block b h⟩;have ab:((Rows.OpenSpec.upto Rows.allSpec).at F).post a Tryz.prog Tryz.f6 false true false false W #[.slice a0 k.length cap] (.bool true) (Sim.re w W.tape w.drawn):=⟨_,_,_,[],_,[],f,trodAll_mk1 (shut_bool Tryz.underlying4 true),trodAll_mk1 (Below.trod laidOut ah (of_decide_eq_true ah) o y aa),rfl,y.frame _,λh=>by cases h⟩;have a7:=ChangeSpec.post_blind ab;exact a7
theorem allUpto_holds:Rows.AllUptoSaid:=by
 have p:Tryz.f6.params.all (λt=>Tryz.prog.readableRec t)=true:=ah;have r:Tryz.f6.resultTypes.all (λt=>Tryz.prog.readableRec t&&decide (t<Tryz.prog.types.size))=true:=ah;have l:Tryz.prog.stopKnobs=[]:=ah;have c:Tryz.prog.mayEnter=true:=ah;refine⟨ah,rfl,rfl,rfl,ah,ah,c,⟨rfl,rfl,rfl,rfl,rfl,rfl,rfl⟩,6,Tryz.f6,ah,Tryz.func6,⟨λt b=> ?_,λt b=> ?_⟩,λh=>(by cases h),ah,of_decide_eq_true ah,?_,ah,I9,ah,ah,ah,ah,ah,I9,Py,bI,bI,rfl,λn o=>(by cases o),⟨_,WideRow.started_initial,λk j=> ?_⟩,[],rfl,λs st _ H a _=> ?_⟩;·exact Array.all_eq_true_iff_forall_mem.1 p t b
 ·have:=Array.all_eq_true_iff_forall_mem.1 r t b;rw[Bool.and_eq_true,decide_eq_true_eq]at this;exact this
 ·unfold Func.isWrapper
  first
   |(rw[if_pos (by decide+kernel)];kernel_rfl)
   |(rw[if_neg (by decide+kernel)];exact⟨rfl,rfl⟩)
 ·have f:k∈Tryz.prog.stopKnobs:=j;rw[l]at f;cases f
 ·rw[OpenClaim.post_not_still rfl];intro F;rw[OpenClaim.pre_of_none' rfl];exact Q2 s st H a F c
