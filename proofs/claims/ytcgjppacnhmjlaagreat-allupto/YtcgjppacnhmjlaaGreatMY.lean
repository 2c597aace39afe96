/- Own texts: FyY, FzA, FzB. -/
import Derived.Test.YtcgjppacnhmjlaaGreatMX
set_option linter.all false
set_option maxRecDepth 100000
open Bool renaming true->aq,false->ax
open Classical renaming byContradiction->pC
open Go renaming World->ak,Value->au,Frame->aC,Goroutine->aX,TypeId->aK,heap_alloc_new->cY,Addr->aH,undef->aN,Operand->bC,execOp->bp,FuncId->bW,heap_alloc_old->xu,Obj->dV,newRow->rZ
open Go.Conc renaming listed->ic
open Go.Frame renaming enter->bG
open Go.Instr renaming box->Hx
open Go.Lib renaming size_eq->fY
open Go.Op renaming bytesLess->dt
open Go.Proofs.Tryz renaming prog->aj,isAgg3->ib,isAgg9->lL,isAgg69->Hj,isAgg31->Hk,isAgg68->OT,f42->Pr,func23->aJ6
open Go.Result renaming evThen->te
open Go.World renaming size_alloc->dh,putObj->aD4
open List renaming length->jk,range'->jZ,length_eq_one_iff->NF,map_eq_nil_iff->NT
open Nat renaming le_refl->aL,le_trans->bT,lt_of_lt_of_le->dG,lt_or_eq_of_le->xp
open Ne renaming symm->jm
open Option renaming some->ae,none->af
namespace Go.Proofs.YtcgjppacnhmjlaaGreat
open Go Go.Conc Go.ConcN Go.Conc.Lib Go.ConcR.Gen Go.RowKit
namespace Sim
variable {s:Nat->au} {a8:au->(Nat->Prop)->BR->ak->Prop} {v:au} {f:Nat} {k:Int} {B:BR} {ad al:List UInt8} {ai:Option Int} {aa:List (List KV)} {y:List KV} {ab:Nat->Prop} {ac:ak} {Z:ByteArray} {a6:aC} {a7:List aC}
def Ax{u:Type}(Post:au->ak->Prop)(J x:List u->(Nat->Prop)->BR->ak->Prop)(val:u->KV)(a:au)(N:Nat):Prop:=
 ∀(O:Nat->Prop)(R:BR)(W:ak)(pre:List u)(y:u)(key:ByteArray)(v:Int)(g:aX)(i:Nat)(k h j:bC) (l:Array aK),J pre O R W->pre.length<N->val y=(key.data.toList,v)->g.status=.running->g.frame.kind=.normal->dW g i-> (oG g).op=.call {callee:=.value k,args:= #[h,j],argTypes:=l}->(aG g).eval k=a->(aG g).eval h=.string key->(aG g).eval j=.int .i64 v-> (∀b f c,J (pre++[y]) b f c->ay aj Post b (bt g (.bool aq)) c)->(∀b f c,x (pre++[y]) b f c->ay aj Post b (bt g (.bool ax)) c)->ay aj Post O g W
noncomputable def nO:Code:=(Tryz.f43.body).getD .skip
def de(t:Nat)(b to:ByteArray)(a:au)(x:Nat->au):Array Value:= #[ptr t,.string b,.string to,a,x 4,x 5,x 6,x 7,x 8,x 9,x 10,x 11,x 12,x 13,x 14,x 15,x 16,x 17,x 18,x 19,x 20,x 21,x 22,x 23,x 24,x 25,x 26,x 27,x 28,x 29,x 30,x 31,x 32,x 33,x 34,x 35,x 36,x 37,x 38,x 39,x 40,x 41,x 42,x 43,x 44,x 45,x 46,x 47,x 48,x 49,x 50,x 51,x 52,x 53,x 54,x 55,x 56,x 57,x 58,x 59]
noncomputable def dR:Frame:={fn:=43,tmps:= #[],todo:=[],defers:=[],mode:=.run,kind:=.normal}
noncomputable def dT:Array Oper:=match cd [1,1,1,1,0,0] nO with
 | .region _ a _=>a
 |_=> #[]
noncomputable def dS:List Item:=[.code (cd [1,1,1,1,0,1] nO),.code (cd [1,1,1,1,1] nO)]
theorem Gl(a:ByteArray):(!(a.toList==(⟨#[]⟩:ByteArray).toList))= ! a.data.toList.isEmpty:=by
 obtain⟨⟨l⟩⟩:=a;cases l<;>simp
section
variable {u:Type} {Post:au->ak->Prop} {S:Nat->Prop} {U:ak} {J x:List u->(Nat->Prop)->BR->ak->Prop} {val:u->KV} {b to:ByteArray} {a:au} {N n:Nat} {O:Nat->Prop} {W:ak} {t:Nat} {p:ByteArray} {c:aC} {h:List aC}
theorem Xa(f:¬O t)(j:W.cell? ⟨t,0,af⟩=ae (.string p))(o:to.data.toList.isEmpty=ax)(l:dt p.data.toList to.data.toList=ax)(k:ay aj Post O (aw (c.finish (.bool ax)) h) W):ay aj Post O (aw (bG aj 43 #[ptr t,.string b,.string to,a] .normal) (c::h)) W:=by
 refine .K 17 ?_;refine .val (i:=12) (v:=.bool (!(to.toList==(⟨#[]⟩:ByteArray).toList))) (v':=.bool aq) ah (by rw[Gl,o];rfl) ?_;refine .K 4 ?_;refine .gS (i:=6) ah bI (t:=9) (x:=.tmp 16) (a:=⟨t,0,af⟩) (v:=.string p) ah ah lL f j ?_;refine .K 2 ?_;refine .val (i:=19) (v:=.bool (!(dt p.toList to.toList))) (v':=.bool aq) ah (by rw[Bm,l];rfl) ?_;refine .K 9 ?_;exact .eqv (g':=aw (c.finish (.bool ax)) h) ah k
theorem X7(o:¬O t)(r:W.cell? ⟨t,0,af⟩=ae (.string p))(f:to.data.toList.isEmpty=aq\/dt p.data.toList to.data.toList=aq)(l:∀x,ay aj Post O (GF 43 (c::h) (de t b to a x) [.code (cd [1,1,1] nO)]) W):ay aj Post O (aw (bG aj 43 #[ptr t,.string b,.string to,a] .normal) (c::h)) W:=by
 by_cases k:to.data.toList.isEmpty=aq
 ·clear f;have f:=k;refine .K 17 ?_;refine .val (i:=12) (v:=.bool (!(to.toList==(⟨#[]⟩:ByteArray).toList))) (v':=.bool ax) ah (by rw[Gl,f];rfl) ?_;refine .K 11 ?_;exact .lit (tm:=de t b to a) ah l
 ·have s:dt p.data.toList to.data.toList=true:=by rcases f with j|j;exact absurd j k;exact j
  have f:to.data.toList.isEmpty=false:=by simpa using k
  refine .K 17 ?_;refine .val (i:=12) (v:=.bool (!(to.toList==(⟨#[]⟩:ByteArray).toList))) (v':=.bool aq) ah (by rw[Gl,f];rfl) ?_;refine .K 4 ?_;refine .gS (i:=6) ah bI (t:=9) (x:=.tmp 16) (a:=⟨t,0,af⟩) (v:=.string p) ah ah lL o r ?_;refine .K 2 ?_;refine .val (i:=19) (v:=.bool (!(dt p.toList to.toList))) (v':=.bool ax) ah (by rw[Bm,s];rfl) ?_;refine .K 4 ?_;exact .lit (tm:=de t b to a) ah l
noncomputable def TC(t:Nat)(p b to:ByteArray)(a:au)(x:Nat->au)(c:aC)(h:List aC):Frame:=dZ (nxtN aj aq 1 (nxtN aj aq 8 (dL (nxtN aj aq 2 (bz (nxtN aj aq 6 (GF 43 (c::h) (de t b to a x) [.code (cd [1,1,1] nO)])) (.string p))) 26 (.bool aq)))).callers
theorem KP(r:¬O t)(u:W.cell? ⟨t,0,af⟩=ae (.string p))(w:dt p.data.toList b.data.toList=aq)(l:MC Post 61 #[ptr t,.string b,.string to,a] O W a8)(o:∀v f k j,a8 v f k j->ay aj Post f (aw (c.finish v) h) j):ay aj Post O (GF 43 (c::h) (de t b to a s) [.code (cd [1,1,1] nO)]) W:=by
 refine .K 6 ?_;refine .gS (i:=3) ah bI (t:=9) (x:=.tmp 23) (a:=⟨t,0,af⟩) (v:=.string p) ah ah lL r u ?_;refine .K 2 ?_;refine .val (i:=26) (v:=.bool (dt p.toList b.toList)) (v':=.bool aq) ah (by rw[Bm,w]) ?_;refine .K 8 ?_;refine .K 1 ?_;refine .eqv (g':=aw (bG aj 61 #[ptr t,.string b,.string to,a] .normal) (TC t p b to a s c h::c::h)) ah (l _ _ λv f k j x=> ?_);refine .K 4 ?_;exact .eqv (g':=aw (c.finish v) h) ah (o v f k j x)
theorem X8(f:¬O t)(j:W.cell? ⟨t,0,af⟩=ae (.string p))(k:dt p.data.toList b.data.toList=ax)(l:∀s,ay aj Post O (aw (dR.at ⟨de t b to a s,[]⟩ (.code (.region 7 dT aq)::dS)) (c::h)) W):ay aj Post O (GF 43 (c::h) (de t b to a s) [.code (cd [1,1,1] nO)]) W:=by
 refine .K 6 ?_;refine .gS (i:=3) ah bI (t:=9) (x:=.tmp 23) (a:=⟨t,0,af⟩) (v:=.string p) ah ah lL f j ?_;refine .K 2 ?_;refine .val (i:=26) (v:=.bool (dt p.toList b.toList)) (v':=.bool ax) ah (by rw[Bm,k]) ?_;refine .K 5 ?_;exact .eqv (g':=aw (dR.at ⟨de t b to a (xF (nxtN aj aq 5 (dL (nxtN aj aq 2 (bz (nxtN aj aq 6 (GF 43 (c::h) (de t b to a s) [.code (cd [1,1,1] nO)])) (.string p))) 26 (.bool ax))).frame),[]⟩ (.code (.region 7 dT aq)::dS)) (c::h)) ah (l _)
noncomputable def TD(t:Nat)(f:au)(b to:ByteArray)(a:au)(x:Nat->au)(c:aC)(h:List aC):Frame:=dZ (nxtN aj aq 1 (nxtN aj aq 3 (bz (nxtN aj aq 5 (GF 43 (c::h) (de t b to a x) [.code (cd [1,1,1,1,1] nO)])) f))).callers
theorem KQ(r:¬O t)(u:W.cell? ⟨t,2,af⟩=ae v)(o:MC Post 62 #[v,.string b,.string to,a] O W a8)(p:∀f j l k,a8 f j l k->ay aj Post j (aw (c.finish f) h) k):ay aj Post O (GF 43 (c::h) (de t b to a s) [.code (cd [1,1,1,1,1] nO)]) W:=by
 refine .K 5 ?_;refine .gS (i:=3) ah bI (t:=69) (x:=.tmp 54) (a:=⟨t,2,af⟩) (v:=v) ah ah Hj r u ?_;refine .K 3 ?_;refine .K 1 ?_;refine .eqv (g':=aw (bG aj 62 #[v,.string b,.string to,a] .normal) (TD t v b to a s c h::c::h)) ah (o _ _ λf j l k w=> ?_);refine .K 4 ?_;exact .eqv (g':=aw (c.finish f) h) ah (p f j l k w)
def jM(t b:Nat)(p:ByteArray)(v:Int)(a:au):Nat->au
 |0=>ptr t
 |1=>ptr t
 |2=>.pointer (ae ⟨t,1,af⟩)
 |3=>.pointer (ae ⟨b,0,af⟩)
 |4=>.bool aq
 |5=>.bool aq
 |6=>a
 |7=>ptr t
 |8=>ptr t
 |9=>.pointer (ae ⟨t,0,af⟩)
 |10=>.string p
 |11=>ptr t
 |12=>ptr t
 |13=>.pointer (ae ⟨t,1,af⟩)
 |14=>.pointer (ae ⟨b,0,af⟩)
 |15=>.pointer (ae ⟨b,0,af⟩)
 |16=>.int .i64 v
 |_=>aN
def ja(t:Nat):Nat->au
 |0=>ptr t
 |1=>ptr t
 |2=>.pointer (ae ⟨t,1,af⟩)
 |3=>.pointer af
 |4=>.bool ax
 |5=>.bool ax
 |6=>aN
 |7=>aN
 |8=>aN
 |9=>aN
 |10=>aN
 |11=>aN
 |12=>aN
 |13=>aN
 |14=>aN
 |15=>aN
 |16=>aN
 |17=>aN
 |18=>aN
 |_=>aN
theorem SN(o:¬O t)(r:¬O f)(s:W.cell? ⟨t,0,af⟩=ae (.string p))(u:W.cell? ⟨t,1,af⟩=ae (.pointer (ae ⟨f,0,af⟩)))(v:W.cell? ⟨f,0,af⟩=ae (.int .i64 k)):bF Post O dR dS (c::h) dT (de t b to a) (32+·) (jM t f p k a) W W 0:=λl x rest w j=>by
 refine .K 1 ?_;exact .eqv ah j
theorem SO(r:¬O t)(s:¬O f)(u:W.cell? ⟨t,0,af⟩=ae (.string p))(v:W.cell? ⟨t,1,af⟩=ae (.pointer (ae ⟨f,0,af⟩)))(w:W.cell? ⟨f,0,af⟩=ae (.int .i64 k)):bF Post O dR dS (c::h) dT (de t b to a) (32+·) (jM t f p k a) W W 1:=λl x rest j o=>by
 refine .val (i:=32) (v:=x 32) (v':=ptr t) ah (j 0 ah).2 ?_;refine .K 1 ?_;refine .val (i:=32) (v:=ptr t) (v':=x 32) ah (j 0 ah).2.symm ?_;exact .eqv ah o
theorem SX(r:¬O t)(s:¬O f)(u:W.cell? ⟨t,0,af⟩=ae (.string p))(v:W.cell? ⟨t,1,af⟩=ae (.pointer (ae ⟨f,0,af⟩)))(w:W.cell? ⟨f,0,af⟩=ae (.int .i64 k)):bF Post O dR dS (c::h) dT (de t b to a) (32+·) (jM t f p k a) W W 2:=λl x rest j o=>by
 refine .val (i:=33) (v:=x 33) (v':=ptr t) ah (j 1 ah).2 ?_;refine .K 1 ?_;refine .val (i:=33) (v:=ptr t) (v':=x 33) ah (j 1 ah).2.symm ?_;exact .eqv ah o
theorem SY(o:¬O t)(u:¬O f)(v:W.cell? ⟨t,0,af⟩=ae (.string p))(r:W.cell? ⟨t,1,af⟩=ae (.pointer (ae ⟨f,0,af⟩)))(w:W.cell? ⟨f,0,af⟩=ae (.int .i64 k)):bF Post O dR dS (c::h) dT (de t b to a) (32+·) (jM t f p k a) W W 3:=λl x rest j s=>by
 refine .val (i:=34) (v:=x 34) (v':=.pointer (ae ⟨t,1,af⟩)) ah (j 2 ah).2 ?_;refine .gS (i:=3) ah bI (t:=68) (x:=.tmp 34) (a:=⟨t,1,af⟩) (v:=.pointer (ae ⟨f,0,af⟩)) ah ah OT o r ?_;refine .val (i:=34) (v:=.pointer (ae ⟨t,1,af⟩)) (v':=x 34) ah (j 2 ah).2.symm ?_;exact .eqv ah s
theorem SZ(r:¬O t)(s:¬O f)(u:W.cell? ⟨t,0,af⟩=ae (.string p))(v:W.cell? ⟨t,1,af⟩=ae (.pointer (ae ⟨f,0,af⟩)))(w:W.cell? ⟨f,0,af⟩=ae (.int .i64 k)):bF Post O dR dS (c::h) dT (de t b to a) (32+·) (jM t f p k a) W W 4:=λl x rest j o=>by
 refine .val (i:=35) (v:=x 35) (v':=.pointer (ae ⟨f,0,af⟩)) ah (j 3 ah).2 ?_;refine .K 1 ?_;refine .val (i:=35) (v:=.pointer (ae ⟨f,0,af⟩)) (v':=x 35) ah (j 3 ah).2.symm ?_;exact .eqv ah o
theorem T3(r:¬O t)(s:¬O f)(u:W.cell? ⟨t,0,af⟩=ae (.string p))(v:W.cell? ⟨t,1,af⟩=ae (.pointer (ae ⟨f,0,af⟩)))(w:W.cell? ⟨f,0,af⟩=ae (.int .i64 k)):bF Post O dR dS (c::h) dT (de t b to a) (32+·) (jM t f p k a) W W 5:=λl x rest j o=>by
 refine .val (i:=36) (v:=x 36) (v':=.bool aq) ah (j 4 ah).2 ?_;refine .K 1 ?_;refine .val (i:=36) (v:=.bool aq) (v':=x 36) ah (j 4 ah).2.symm ?_;exact .eqv ah o
theorem T4(r:¬O t)(s:¬O f)(u:W.cell? ⟨t,0,af⟩=ae (.string p))(v:W.cell? ⟨t,1,af⟩=ae (.pointer (ae ⟨f,0,af⟩)))(w:W.cell? ⟨f,0,af⟩=ae (.int .i64 k)):bF Post O dR dS (c::h) dT (de t b to a) (32+·) (jM t f p k a) W W 6:=λl x rest j o=>by
 refine .val (i:=37) (v:=x 37) (v':=.bool aq) ah (j 5 ah).2 ?_;refine .K 1 ?_;refine .val (i:=37) (v:=.bool aq) (v':=x 37) ah (j 5 ah).2.symm ?_;exact .eqv ah o
theorem T5(r:¬O t)(s:¬O f)(u:W.cell? ⟨t,0,af⟩=ae (.string p))(v:W.cell? ⟨t,1,af⟩=ae (.pointer (ae ⟨f,0,af⟩)))(w:W.cell? ⟨f,0,af⟩=ae (.int .i64 k)):bF Post O dR dS (c::h) dT (de t b to a) (32+·) (jM t f p k a) W W 7:=λl x rest j o=>by
 refine .val (i:=37) (v:=x 37) (v':=.bool aq) ah (j 5 ah).2 ?_;refine .K 1 ?_;refine .val (i:=37) (v:=.bool aq) (v':=x 37) ah (j 5 ah).2.symm ?_;exact .eqv ah o
theorem T8(r:¬O t)(s:¬O f)(u:W.cell? ⟨t,0,af⟩=ae (.string p))(v:W.cell? ⟨t,1,af⟩=ae (.pointer (ae ⟨f,0,af⟩)))(w:W.cell? ⟨f,0,af⟩=ae (.int .i64 k)):bF Post O dR dS (c::h) dT (de t b to a) (32+·) (jM t f p k a) W W 8:=λl x rest j o=>by
 refine .val (i:=37) (v:=x 37) (v':=.bool aq) ah (j 5 ah).2 ?_;refine .val (i:=39) (v:=x 39) (v':=ptr t) ah (j 7 ah).2 ?_;refine .K 1 ?_;refine .val (i:=37) (v:=.bool aq) (v':=x 37) ah (j 5 ah).2.symm ?_;refine .val (i:=39) (v:=ptr t) (v':=x 39) ah (j 7 ah).2.symm ?_;exact .eqv ah o
theorem T9(r:¬O t)(s:¬O f)(u:W.cell? ⟨t,0,af⟩=ae (.string p))(v:W.cell? ⟨t,1,af⟩=ae (.pointer (ae ⟨f,0,af⟩)))(w:W.cell? ⟨f,0,af⟩=ae (.int .i64 k)):bF Post O dR dS (c::h) dT (de t b to a) (32+·) (jM t f p k a) W W 9:=λl x rest j o=>by
 refine .val (i:=37) (v:=x 37) (v':=.bool aq) ah (j 5 ah).2 ?_;refine .val (i:=40) (v:=x 40) (v':=ptr t) ah (j 8 ah).2 ?_;refine .K 1 ?_;refine .val (i:=37) (v:=.bool aq) (v':=x 37) ah (j 5 ah).2.symm ?_;refine .val (i:=40) (v:=ptr t) (v':=x 40) ah (j 8 ah).2.symm ?_;exact .eqv ah o
theorem SP(o:¬O t)(u:¬O f)(r:W.cell? ⟨t,0,af⟩=ae (.string p))(v:W.cell? ⟨t,1,af⟩=ae (.pointer (ae ⟨f,0,af⟩)))(w:W.cell? ⟨f,0,af⟩=ae (.int .i64 k)):bF Post O dR dS (c::h) dT (de t b to a) (32+·) (jM t f p k a) W W 10:=λl x rest j s=>by
 refine .val (i:=37) (v:=x 37) (v':=.bool aq) ah (j 5 ah).2 ?_;refine .val (i:=41) (v:=x 41) (v':=.pointer (ae ⟨t,0,af⟩)) ah (j 9 ah).2 ?_;refine .gS (i:=10) ah bI (t:=9) (x:=.tmp 41) (a:=⟨t,0,af⟩) (v:=.string p) ah ah lL o r ?_;refine .val (i:=37) (v:=.bool aq) (v':=x 37) ah (j 5 ah).2.symm ?_;refine .val (i:=41) (v:=.pointer (ae ⟨t,0,af⟩)) (v':=x 41) ah (j 9 ah).2.symm ?_;exact .eqv ah s
theorem SQ(r:¬O t)(s:¬O f)(u:W.cell? ⟨t,0,af⟩=ae (.string p))(v:W.cell? ⟨t,1,af⟩=ae (.pointer (ae ⟨f,0,af⟩)))(w:W.cell? ⟨f,0,af⟩=ae (.int .i64 k)):bF Post O dR dS (c::h) dT (de t b to a) (32+·) (jM t f p k a) W W 11:=λl x rest j o=>by
 refine .val (i:=37) (v:=x 37) (v':=.bool aq) ah (j 5 ah).2 ?_;refine .K 1 ?_;refine .val (i:=37) (v:=.bool aq) (v':=x 37) ah (j 5 ah).2.symm ?_;exact .eqv ah o
theorem SR(r:¬O t)(s:¬O f)(u:W.cell? ⟨t,0,af⟩=ae (.string p))(v:W.cell? ⟨t,1,af⟩=ae (.pointer (ae ⟨f,0,af⟩)))(w:W.cell? ⟨f,0,af⟩=ae (.int .i64 k)):bF Post O dR dS (c::h) dT (de t b to a) (32+·) (jM t f p k a) W W 12:=λl x rest j o=>by
 refine .val (i:=37) (v:=x 37) (v':=.bool aq) ah (j 5 ah).2 ?_;refine .val (i:=43) (v:=x 43) (v':=ptr t) ah (j 11 ah).2 ?_;refine .K 1 ?_;refine .val (i:=37) (v:=.bool aq) (v':=x 37) ah (j 5 ah).2.symm ?_;refine .val (i:=43) (v:=ptr t) (v':=x 43) ah (j 11 ah).2.symm ?_;exact .eqv ah o
theorem SS(r:¬O t)(s:¬O f)(u:W.cell? ⟨t,0,af⟩=ae (.string p))(v:W.cell? ⟨t,1,af⟩=ae (.pointer (ae ⟨f,0,af⟩)))(w:W.cell? ⟨f,0,af⟩=ae (.int .i64 k)):bF Post O dR dS (c::h) dT (de t b to a) (32+·) (jM t f p k a) W W 13:=λl x rest j o=>by
 refine .val (i:=37) (v:=x 37) (v':=.bool aq) ah (j 5 ah).2 ?_;refine .val (i:=44) (v:=x 44) (v':=ptr t) ah (j 12 ah).2 ?_;refine .K 1 ?_;refine .val (i:=37) (v:=.bool aq) (v':=x 37) ah (j 5 ah).2.symm ?_;refine .val (i:=44) (v:=ptr t) (v':=x 44) ah (j 12 ah).2.symm ?_;exact .eqv ah o
theorem SU(o:¬O t)(u:¬O f)(v:W.cell? ⟨t,0,af⟩=ae (.string p))(r:W.cell? ⟨t,1,af⟩=ae (.pointer (ae ⟨f,0,af⟩)))(w:W.cell? ⟨f,0,af⟩=ae (.int .i64 k)):bF Post O dR dS (c::h) dT (de t b to a) (32+·) (jM t f p k a) W W 14:=λl x rest j s=>by
 refine .val (i:=37) (v:=x 37) (v':=.bool aq) ah (j 5 ah).2 ?_;refine .val (i:=45) (v:=x 45) (v':=.pointer (ae ⟨t,1,af⟩)) ah (j 13 ah).2 ?_;refine .gS (i:=14) ah bI (t:=68) (x:=.tmp 45) (a:=⟨t,1,af⟩) (v:=.pointer (ae ⟨f,0,af⟩)) ah ah OT o r ?_;refine .val (i:=37) (v:=.bool aq) (v':=x 37) ah (j 5 ah).2.symm ?_;refine .val (i:=45) (v:=.pointer (ae ⟨t,1,af⟩)) (v':=x 45) ah (j 13 ah).2.symm ?_;exact .eqv ah s
theorem SV(r:¬O t)(s:¬O f)(u:W.cell? ⟨t,0,af⟩=ae (.string p))(v:W.cell? ⟨t,1,af⟩=ae (.pointer (ae ⟨f,0,af⟩)))(w:W.cell? ⟨f,0,af⟩=ae (.int .i64 k)):bF Post O dR dS (c::h) dT (de t b to a) (32+·) (jM t f p k a) W W 15:=λl x rest j o=>by
 refine .val (i:=37) (v:=x 37) (v':=.bool aq) ah (j 5 ah).2 ?_;refine .val (i:=46) (v:=x 46) (v':=.pointer (ae ⟨f,0,af⟩)) ah (j 14 ah).2 ?_;refine .K 1 ?_;refine .val (i:=37) (v:=.bool aq) (v':=x 37) ah (j 5 ah).2.symm ?_;refine .val (i:=46) (v:=.pointer (ae ⟨f,0,af⟩)) (v':=x 46) ah (j 14 ah).2.symm ?_;exact .eqv ah o
theorem SW(u:¬O t)(o:¬O f)(v:W.cell? ⟨t,0,af⟩=ae (.string p))(w:W.cell? ⟨t,1,af⟩=ae (.pointer (ae ⟨f,0,af⟩)))(r:W.cell? ⟨f,0,af⟩=ae (.int .i64 k)):bF Post O dR dS (c::h) dT (de t b to a) (32+·) (jM t f p k a) W W 16:=λl x rest j s=>by
 refine .val (i:=37) (v:=x 37) (v':=.bool aq) ah (j 5 ah).2 ?_;refine .val (i:=47) (v:=x 47) (v':=.pointer (ae ⟨f,0,af⟩)) ah (j 15 ah).2 ?_;refine .gS (i:=16) ah bI (t:=3) (x:=.tmp 47) (a:=⟨f,0,af⟩) (v:=.int .i64 k) ah ah ib o r ?_;refine .val (i:=37) (v:=.bool aq) (v':=x 37) ah (j 5 ah).2.symm ?_;refine .val (i:=47) (v:=.pointer (ae ⟨f,0,af⟩)) (v':=x 47) ah (j 15 ah).2.symm ?_;exact .eqv ah s
theorem Su(j:¬O t)(k:W.cell? ⟨t,1,af⟩=ae (.pointer af)):bF Post O dR dS (c::h) dT (de t b to a) (32+·) (ja t) W W 0:=λl x rest o f=>by
 refine .K 1 ?_;exact .eqv ah f
theorem Sv(k:¬O t)(o:W.cell? ⟨t,1,af⟩=ae (.pointer af)):bF Post O dR dS (c::h) dT (de t b to a) (32+·) (ja t) W W 1:=λl x rest f j=>by
 refine .val (i:=32) (v:=x 32) (v':=ptr t) ah (f 0 ah).2 ?_;refine .K 1 ?_;refine .val (i:=32) (v:=ptr t) (v':=x 32) ah (f 0 ah).2.symm ?_;exact .eqv ah j
theorem SF(k:¬O t)(o:W.cell? ⟨t,1,af⟩=ae (.pointer af)):bF Post O dR dS (c::h) dT (de t b to a) (32+·) (ja t) W W 2:=λl x rest f j=>by
 refine .val (i:=33) (v:=x 33) (v':=ptr t) ah (f 1 ah).2 ?_;refine .K 1 ?_;refine .val (i:=33) (v:=ptr t) (v':=x 33) ah (f 1 ah).2.symm ?_;exact .eqv ah j
theorem SG(j:¬O t)(k:W.cell? ⟨t,1,af⟩=ae (.pointer af)):bF Post O dR dS (c::h) dT (de t b to a) (32+·) (ja t) W W 3:=λl x rest f o=>by
 refine .val (i:=34) (v:=x 34) (v':=.pointer (ae ⟨t,1,af⟩)) ah (f 2 ah).2 ?_;refine .gS (i:=3) ah bI (t:=68) (x:=.tmp 34) (a:=⟨t,1,af⟩) (v:=.pointer af) ah ah OT j k ?_;refine .val (i:=34) (v:=.pointer (ae ⟨t,1,af⟩)) (v':=x 34) ah (f 2 ah).2.symm ?_;exact .eqv ah o
theorem SH(k:¬O t)(o:W.cell? ⟨t,1,af⟩=ae (.pointer af)):bF Post O dR dS (c::h) dT (de t b to a) (32+·) (ja t) W W 4:=λl x rest f j=>by
 refine .val (i:=35) (v:=x 35) (v':=.pointer af) ah (f 3 ah).2 ?_;refine .K 1 ?_;refine .val (i:=35) (v:=.pointer af) (v':=x 35) ah (f 3 ah).2.symm ?_;exact .eqv ah j
theorem SI(k:¬O t)(o:W.cell? ⟨t,1,af⟩=ae (.pointer af)):bF Post O dR dS (c::h) dT (de t b to a) (32+·) (ja t) W W 5:=λl x rest f j=>by
 refine .val (i:=36) (v:=x 36) (v':=.bool ax) ah (f 4 ah).2 ?_;refine .K 1 ?_;refine .val (i:=36) (v:=.bool ax) (v':=x 36) ah (f 4 ah).2.symm ?_;exact .eqv ah j
theorem SJ(k:¬O t)(o:W.cell? ⟨t,1,af⟩=ae (.pointer af)):bF Post O dR dS (c::h) dT (de t b to a) (32+·) (ja t) W W 6:=λl x rest f j=>by
 refine .val (i:=37) (v:=x 37) (v':=.bool ax) ah (f 5 ah).2 ?_;refine .K 1 ?_;refine .val (i:=37) (v:=.bool ax) (v':=x 37) ah (f 5 ah).2.symm ?_;exact .eqv ah j
theorem SK(k:¬O t)(o:W.cell? ⟨t,1,af⟩=ae (.pointer af)):bF Post O dR dS (c::h) dT (de t b to a) (32+·) (ja t) W W 7:=λl x rest f j=>by
 refine .val (i:=37) (v:=x 37) (v':=.bool ax) ah (f 5 ah).2 ?_;refine .K 1 ?_;refine .val (i:=37) (v:=.bool ax) (v':=x 37) ah (f 5 ah).2.symm ?_;exact .eqv ah j
theorem SL(k:¬O t)(o:W.cell? ⟨t,1,af⟩=ae (.pointer af)):bF Post O dR dS (c::h) dT (de t b to a) (32+·) (ja t) W W 8:=λl x rest f j=>by
 refine .val (i:=37) (v:=x 37) (v':=.bool ax) ah (f 5 ah).2 ?_;refine .K 1 ?_;refine .val (i:=37) (v:=.bool ax) (v':=x 37) ah (f 5 ah).2.symm ?_;exact .eqv ah j
theorem SM(k:¬O t)(o:W.cell? ⟨t,1,af⟩=ae (.pointer af)):bF Post O dR dS (c::h) dT (de t b to a) (32+·) (ja t) W W 9:=λl x rest f j=>by
 refine .val (i:=37) (v:=x 37) (v':=.bool ax) ah (f 5 ah).2 ?_;refine .K 1 ?_;refine .val (i:=37) (v:=.bool ax) (v':=x 37) ah (f 5 ah).2.symm ?_;exact .eqv ah j
theorem Sw(k:¬O t)(o:W.cell? ⟨t,1,af⟩=ae (.pointer af)):bF Post O dR dS (c::h) dT (de t b to a) (32+·) (ja t) W W 10:=λl x rest f j=>by
 refine .val (i:=37) (v:=x 37) (v':=.bool ax) ah (f 5 ah).2 ?_;refine .K 1 ?_;refine .val (i:=37) (v:=.bool ax) (v':=x 37) ah (f 5 ah).2.symm ?_;exact .eqv ah j
theorem Sx(k:¬O t)(o:W.cell? ⟨t,1,af⟩=ae (.pointer af)):bF Post O dR dS (c::h) dT (de t b to a) (32+·) (ja t) W W 11:=λl x rest f j=>by
 refine .val (i:=37) (v:=x 37) (v':=.bool ax) ah (f 5 ah).2 ?_;refine .K 1 ?_;refine .val (i:=37) (v:=.bool ax) (v':=x 37) ah (f 5 ah).2.symm ?_;exact .eqv ah j
theorem Sy(k:¬O t)(o:W.cell? ⟨t,1,af⟩=ae (.pointer af)):bF Post O dR dS (c::h) dT (de t b to a) (32+·) (ja t) W W 12:=λl x rest f j=>by
 refine .val (i:=37) (v:=x 37) (v':=.bool ax) ah (f 5 ah).2 ?_;refine .K 1 ?_;refine .val (i:=37) (v:=.bool ax) (v':=x 37) ah (f 5 ah).2.symm ?_;exact .eqv ah j
theorem Sz(k:¬O t)(o:W.cell? ⟨t,1,af⟩=ae (.pointer af)):bF Post O dR dS (c::h) dT (de t b to a) (32+·) (ja t) W W 13:=λl x rest f j=>by
 refine .val (i:=37) (v:=x 37) (v':=.bool ax) ah (f 5 ah).2 ?_;refine .K 1 ?_;refine .val (i:=37) (v:=.bool ax) (v':=x 37) ah (f 5 ah).2.symm ?_;exact .eqv ah j
theorem SA(k:¬O t)(o:W.cell? ⟨t,1,af⟩=ae (.pointer af)):bF Post O dR dS (c::h) dT (de t b to a) (32+·) (ja t) W W 14:=λl x rest f j=>by
 refine .val (i:=37) (v:=x 37) (v':=.bool ax) ah (f 5 ah).2 ?_;refine .K 1 ?_;refine .val (i:=37) (v:=.bool ax) (v':=x 37) ah (f 5 ah).2.symm ?_;exact .eqv ah j
theorem SB(k:¬O t)(o:W.cell? ⟨t,1,af⟩=ae (.pointer af)):bF Post O dR dS (c::h) dT (de t b to a) (32+·) (ja t) W W 15:=λl x rest f j=>by
 refine .val (i:=37) (v:=x 37) (v':=.bool ax) ah (f 5 ah).2 ?_;refine .K 1 ?_;refine .val (i:=37) (v:=.bool ax) (v':=x 37) ah (f 5 ah).2.symm ?_;exact .eqv ah j
theorem SC(k:¬O t)(o:W.cell? ⟨t,1,af⟩=ae (.pointer af)):bF Post O dR dS (c::h) dT (de t b to a) (32+·) (ja t) W W 16:=λl x rest f j=>by
 refine .val (i:=37) (v:=x 37) (v':=.bool ax) ah (f 5 ah).2 ?_;refine .K 1 ?_;refine .val (i:=37) (v:=.bool ax) (v':=x 37) ah (f 5 ah).2.symm ?_;exact .eqv ah j
theorem SD(k:¬O t)(o:W.cell? ⟨t,1,af⟩=ae (.pointer af)):bF Post O dR dS (c::h) dT (de t b to a) (32+·) (ja t) W W 17:=λl x rest f j=>by
 refine .val (i:=37) (v:=x 37) (v':=.bool ax) ah (f 5 ah).2 ?_;refine .K 1 ?_;refine .val (i:=37) (v:=.bool ax) (v':=x 37) ah (f 5 ah).2.symm ?_;exact .eqv ah j
theorem SE(k:¬O t)(o:W.cell? ⟨t,1,af⟩=ae (.pointer af)):bF Post O dR dS (c::h) dT (de t b to a) (32+·) (ja t) W W 18:=λl x rest f j=>by
 refine .val (i:=37) (v:=x 37) (v':=.bool ax) ah (f 5 ah).2 ?_;refine .K 1 ?_;refine .val (i:=37) (v:=.bool ax) (v':=x 37) ah (f 5 ah).2.symm ?_;exact .eqv ah j
theorem X9(j:¬O t)(l:¬O f)(o:W.cell? ⟨t,0,af⟩=ae (.string p))(r:W.cell? ⟨t,1,af⟩=ae (.pointer (ae ⟨f,0,af⟩)))(v:W.cell? ⟨f,0,af⟩=ae (.int .i64 k))(hY:Ax Post J x val a N){pre:List u}{a1:u}(hJ:J pre O B W)(hN:pre.length<N)(hy:val a1=(p.data.toList,k))(hT:∀H U R,J (pre++[a1]) H U R->∀s,ay aj Post H (GF 43 (c::h) (de t b to a s) [.code (cd [1,1,1,1,1] nO)]) R)(hF:∀H U R,x (pre++[a1]) H U R->ay aj Post H (aw (c.finish (.bool ax)) h) R):ay aj Post O (aw (dR.at ⟨de t b to a s,[]⟩ (.code (.region 7 dT aq)::dS)) (c::h)) W:=by
 refine ay.wW (n:=20) (c:=17) (W:=λ_=>W) (D:=(32+·)) (V:=jM t f p k a) ah ah (λi a8 _ _ a6=>ag) (λi hi a7 s rest hl w y=> ?_) λs a7 _ Z=> ?_
 ·match i,hi with
  |0,_=>exact SN j l o r v _ _ _ w y
  |1,_=>exact SO j l o r v _ _ _ w y
  |2,_=>exact SX j l o r v _ _ _ w y
  |3,_=>exact SY j l o r v _ _ _ w y
  |4,_=>exact SZ j l o r v _ _ _ w y
  |5,_=>exact T3 j l o r v _ _ _ w y
  |6,_=>exact T4 j l o r v _ _ _ w y
  |7,_=>exact T5 j l o r v _ _ _ w y
  |8,_=>exact T8 j l o r v _ _ _ w y
  |9,_=>exact T9 j l o r v _ _ _ w y
  |10,_=>exact SP j l o r v _ _ _ w y
  |11,_=>exact SQ j l o r v _ _ _ w y
  |12,_=>exact SR j l o r v _ _ _ w y
  |13,_=>exact SS j l o r v _ _ _ w y
  |14,_=>exact SU j l o r v _ _ _ w y
  |15,_=>exact SV j l o r v _ _ _ w y
  |16,_=>exact SW j l o r v _ _ _ w y
  |_+17,a6=>exact absurd a6 ag
 ·skip
  refine .val (i:=37) (v:=s 37) (v':=.bool aq) ah (Z 5 ag) ?_;refine .val (i:=38) (v:=s 38) (v':=a) ah (Z 6 ag) ?_;refine .val (i:=42) (v:=s 42) (v':=.string p) ah (Z 10 ag) ?_;refine .val (i:=48) (v:=s 48) (v':=.int .i64 k) ah (Z 16 ag) ?_;refine hY O B W pre a1 p k _ 17 (.tmp 38) (.tmp 42) (.tmp 48) #[9,3] hJ hN hy ah ah bJ ah ah ah ah (λH U R a2=> ?_) λH U R a2=> ?_;refine .K 5 ?_;exact .lit (tm:=de t b to a) ah (hT H U R a2);refine .K 10 ?_;exact .eqv (g':=aw (c.finish (.bool ax)) h) ah (hF H U R a2)
theorem X6(f:¬O t)(k:W.cell? ⟨t,1,af⟩=ae (.pointer af))(v:∀s,ay aj Post O (GF 43 (c::h) (de t b to a s) [.code (cd [1,1,1,1,1] nO)]) W):ay aj Post O (aw (dR.at ⟨de t b to a s,[]⟩ (.code (.region 7 dT aq)::dS)) (c::h)) W:=by
 refine ay.wW (n:=20) (c:=19) (W:=λ_=>W) (D:=(32+·)) (V:=ja t) ah ah (λi j _ _ r=>ag) (λi w l s rest x o p=> ?_) λs l _ u=> ?_
 ·match i,w with
  |0,_=>exact Su f k _ _ _ o p
  |1,_=>exact Sv f k _ _ _ o p
  |2,_=>exact SF f k _ _ _ o p
  |3,_=>exact SG f k _ _ _ o p
  |4,_=>exact SH f k _ _ _ o p
  |5,_=>exact SI f k _ _ _ o p
  |6,_=>exact SJ f k _ _ _ o p
  |7,_=>exact SK f k _ _ _ o p
  |8,_=>exact SL f k _ _ _ o p
  |9,_=>exact SM f k _ _ _ o p
  |10,_=>exact Sw f k _ _ _ o p
  |11,_=>exact Sx f k _ _ _ o p
  |12,_=>exact Sy f k _ _ _ o p
  |13,_=>exact Sz f k _ _ _ o p
  |14,_=>exact SA f k _ _ _ o p
  |15,_=>exact SB f k _ _ _ o p
  |16,_=>exact SC f k _ _ _ o p
  |17,_=>exact SD f k _ _ _ o p
  |18,_=>exact SE f k _ _ _ o p
  |_+19,r=>exact absurd r ag
 ·skip
  refine .val (i:=37) (v:=s 37) (v':=.bool ax) ah (u 5 ag) ?_;refine .val (i:=50) (v:=s 50) (v':=aN) ah (u 18 ag) ?_;refine .K 4 ?_;exact .lit (tm:=de t b to a) ah v
theorem mU.own(s:Shaped ad ai al aa y){pre j:List u}{f:u}(h:mU J x to.data.toList aa.flatten (pre++[f]) j v ab B ac):mU J x to.data.toList y pre (f::j) v ab B ac:=by
 rcases h with⟨b,a,c,l⟩|⟨a,q,c,k⟩;·exact .inl ⟨b,a,by simpa using c,λo=>by rw[s.eq];exact(l o).AB⟩
 ·exact .inr ⟨a,f::q,by obtain⟨r,p⟩:=c;exact⟨r,by rw[<-p];rfl⟩,by simpa using k⟩
theorem mU.bare(l:Shaped ad ai al aa y){pre a:List u}(h:mU J x to.data.toList aa.flatten pre a v ab B ac):mU J x to.data.toList y pre a v ab B ac:=by
 rcases h with⟨b,c,f,j⟩|h;·exact .inl ⟨b,c,f,λk=>by rw[l.eq];exact(j k).AB⟩
 ·exact .inr h
theorem KO(k:oB S U J)(hY:Ax Post J x val a N)(hf:b.size<=9223372036854775807):∀n,Aw Post S U J x val b to a N n
 |0=>λO R W t av pre ys f _ _ _=>f.elim
 |n+1=>λO R W t av pre ys f o hN v=>by
  have ih:=KO k hY hf n;have aR:=f.ne;obtain⟨p,vp,bv,ov,ab,xs,gs,j,hO,hR,hl,hC,r⟩:=f;have u:¬O t:=k.out o j.iS;have a1:=k.cell o j.iS j.c0;have am:=k.cell o j.iS j.c1;have b6:ab.length<=256:=by have:=qu r.aT.pw;have:=r.aT.len;omega
  have an:(ab=[]/\∃ao cap,bv=.slice ao 0 cap)\/∃a8 ac cap,S a8/\bv=.slice (ae ⟨a8,ac,af⟩) ab.length cap/\eH U a8 ac ab:=by
   rcases hR with⟨l,w⟩|⟨a8,ac,cap,l,w,s,h4,h5,h6⟩;·exact .inl ⟨l,af,0,w⟩
   ·exact .inr ⟨a8,ac,cap,l,w,h5⟩
  intro c h hK;by_cases a6:to.data.toList≠[]/\¬bV p.data.toList to.data.toList
  ·obtain⟨l,w⟩:=r.ag5 aR (fr:=b.data.toList) a6.1 a6.2;rw[l]at v;have ai:ys=[]:=NT.mp v;subst ai;exact Xa u a1 (by cases s:to.data.toList with|nil=>exact absurd s a6.1|cons=>rfl) (by cases s:dt p.data.toList to.data.toList with|false=>rfl|true=>exact absurd s a6.2) (hK _ O R W (.inl ⟨ax,rfl,by simpa using o,λ_=>w⟩))
  ·have ap:to.data.toList.isEmpty=aq\/dt p.data.toList to.data.toList=true:=by
    cases s:to.data.toList with
    |nil=>exact .inl rfl
    |cons b3 b9=>
     right;apply pC;intro h4;exact a6 ⟨by rw[s];simp,by rw[s];exact h4⟩
   have aU:to.data.toList=[]\/bV p.data.toList to.data.toList:=ap.imp (λf=>List.isEmpty_iff.mp f) (λf=>f);refine X7 u a1 ap λal=> ?_;by_cases y:bV p.data.toList b.data.toList
   ·by_cases a7:p.data.toList<+:b.data.toList
    ·have aP:p.size<b.size:=by
      rw[fY,fY];rcases xp a7.length_le with l|l;·exact l
      ·have:=a7.eq_of_length l;rw[this]at y;exact absurd y (kx _)
     exact KP u a1 y (XC k ih j hR hl hC r hf aP a7 o hN v) hK
    ·rw[r.ag0 y a7]at v;have ai:ys=[]:=NT.mp v;subst ai;exact KP u a1 y (XB (l:=av) k j.iS j.c0 j.short hf a7 o) hK
   ·have aJ:dt p.data.toList b.data.toList=false:=by cases s:dt p.data.toList b.data.toList with|false=>rfl|true=>exact absurd s y
    rw[r.MA,ag3 y aU]at v;refine X8 u a1 aJ λal=> ?_;cases ov with
    |none=>
     have b1:vp=none:=hO;subst b1;have b2:ys.map val=cO b.data.toList to.data.toList gs.flatten:=by simpa[c9]using v
     exact X6 u am λal=>KQ u (k.cell o j.iS j.c2) (EY k ih an hl ag hC r.aT.C5 o hN b2) λaa B H Z f=>hK aa B H Z (f.bare r)
    |some aa=>
     obtain⟨vb,ar,rfl,b0⟩:=hO;obtain⟨y1,y2,rfl,l,w⟩:=KX v;obtain⟨a2,rfl,hx⟩:∃a2,y1=[a2]/\val a2=(p.data.toList,aa):=by
      have aQ:y1.length=1:=by have:=congrArg jk l;simpa[c9]using this
      obtain⟨a2,rfl⟩:=NF.mp aQ;exact⟨a2,rfl,by simpa[c9]using l⟩
     have aF:pre.length<N:=by simp at hN;omega
     exact X9 u (k.out o ar) a1 am (k.cell o ar b0) hY o aF hx (λB H Z ad al=>KQ (k.out ad j.iS) (k.cell ad j.iS j.c2) (EY k ih an hl ag hC r.aT.C5 ad (by simp at hN⊢;omega) w) λaa B H Z f=>hK aa B H Z (f.own r)) λB H Z f=>hK _ B H Z (.inr ⟨rfl,[a2],⟨y2,rfl⟩,f⟩)
theorem Xb(p:oB S U J)(v:Ax Post J x val a N)(w:b.size<=9223372036854775807){R:BR}{l:Option aH}{pre ys:List u}(f:bD S n U l y)(j:J pre O R W)(s:pre.length+ys.length<=N)(k:ys.map val=cO b.data.toList to.data.toList y):MC Post 43 #[.pointer l,.string b,.string to,a] O W (mU J x to.data.toList y pre ys):=by
 rcases f with⟨rfl,rfl⟩|⟨t,rfl,f⟩
 ·have B:ys=[]:=by simpa[cO]using k
  subst B;intro c h r;refine .K 17 ?_;exact .eqv (g':=aw (c.finish (.bool aq)) h) ah (r _ O R W (.inl ⟨aq,rfl,by simpa using j,λo=>by cases o⟩))
 ·exact KO p v w n O R W t y pre ys f j s k
end
def qS(o r b3:Nat)(a:au)(x:Nat->au):Array Value:= #[a,ptr o,ptr r,ptr b3,x 4,x 5,x 6,x 7,x 8,x 9,x 10,x 11,x 12]
noncomputable def qZ:Frame:={fn:=42,tmps:= #[],todo:=[],defers:=[],mode:=.run,kind:=.normal}
noncomputable def rB:Array Oper:=match (Pr.body).getD .skip with
 | .region _ a _=>a
 |_=> #[]
theorem Ec:fO 23 Tryz.f23 ((Tryz.f23.body).getD .skip):=⟨aJ6,ah,ah⟩
theorem UJ:Xm.G 23:=show fj.contains 23=aq from bc
theorem Q9{G:bW->Prop}(a:VR G B v v):bq G B #[v] #[v]:=iP (l:=[v]) ⟨a,trivial⟩
def si(j:Nat)(l:Option aH)(b to:ByteArray)(a:au):Nat->au
 |0=>ptr j
 |1=>ptr j
 |2=>ptr j
 |3=>.pointer l
 |4=>.string b
 |5=>.string to
 |6=>a
 |_=>aN
section
variable {u:Type} {Post:au->ak->Prop} {S:Nat->Prop} {U:ak} {J x:List u->(Nat->Prop)->BR->ak->Prop} {val:u->KV} {b to:ByteArray} {a:au} {N n:Nat} {O:Nat->Prop} {R:BR} {W:ak} {o r b3 j:Nat} {l:Option aH} {c:aC} {h:List aC}
theorem Sj(k:¬O o)(v:¬O r)(w:¬O b3)(f:W.cell? ⟨o,0,af⟩=ae (ptr j))(s:W.cell? ⟨r,0,af⟩=ae (.string b))(t:W.cell? ⟨b3,0,af⟩=ae (.string to))(N:W.cell? ⟨j,0,af⟩=ae (.pointer l))(u:aI Xm O R W)(B:R j j)(y:lg W l):bF Post O qZ [] (c::h) rB (qS o r b3 a) (5+·) (si j l b to a) W W 0:=λU x rest H p=>by
 refine .gS (i:=0) ah bI (t:=31) (x:=.tmp 1) (a:=⟨o,0,af⟩) (v:=ptr j) ah ah Hk k f ?_;exact .eqv ah p
theorem Sk(v:¬O o)(w:¬O r)(y:¬O b3)(p:W.cell? ⟨o,0,af⟩=ae (ptr j))(s:W.cell? ⟨r,0,af⟩=ae (.string b))(t:W.cell? ⟨b3,0,af⟩=ae (.string to))(N:W.cell? ⟨j,0,af⟩=ae (.pointer l))(u:aI Xm O R W)(H:R j j)(B:lg W l):bF Post O qZ [] (c::h) rB (qS o r b3 a) (5+·) (si j l b to a) W W 1:=λU x rest f k=>by
 refine .val (i:=5) (v:=x 5) (v':=ptr j) ah (f 0 ah).2 ?_;refine .K 1 ?_;refine .val (i:=5) (v:=ptr j) (v':=x 5) ah (f 0 ah).2.symm ?_;exact .eqv ah k
theorem Sm(v:¬O o)(w:¬O r)(y:¬O b3)(p:W.cell? ⟨o,0,af⟩=ae (ptr j))(s:W.cell? ⟨r,0,af⟩=ae (.string b))(t:W.cell? ⟨b3,0,af⟩=ae (.string to))(N:W.cell? ⟨j,0,af⟩=ae (.pointer l))(u:aI Xm O R W)(H:R j j)(B:lg W l):bF Post O qZ [] (c::h) rB (qS o r b3 a) (5+·) (si j l b to a) W W 2:=λU x rest f k=>by
 refine .val (i:=6) (v:=x 6) (v':=ptr j) ah (f 1 ah).2 ?_;refine .K 1 ?_;refine .val (i:=6) (v:=ptr j) (v':=x 6) ah (f 1 ah).2.symm ?_;exact .eqv ah k
theorem Sn(a1:¬O o)(a2:¬O r)(a6:¬O b3)(k:W.cell? ⟨o,0,af⟩=ae (ptr j))(p:W.cell? ⟨r,0,af⟩=ae (.string b))(h3:W.cell? ⟨b3,0,af⟩=ae (.string to))(U:W.cell? ⟨j,0,af⟩=ae (.pointer l))(u:aI Xm O R W)(y:R j j)(w:lg W l):bF Post O qZ [] (c::h) rB (qS o r b3 a) (5+·) (si j l b to a) W W 3:=λa7 x rest s B=>by
 refine .val (i:=7) (v:=x 7) (v':=ptr j) ah (s 2 ah).2 ?_;refine .call (i:=3) bI ah (f:=23) (args:= #[.tmp 7]) (ats:= #[62]) ah Ec.1 Ec.2.1 Ec.2.2 UJ (vals:= #[ptr j]) ah u (Q9 (.ptr ⟨y,rfl,rfl⟩)) (Post1:=λv H=>v=.pointer l/\∃f d,H=Sim.re W f d) (λv H f d ⟨k,p⟩=>⟨k,by obtain⟨aQ,d',rfl⟩:=p;exact⟨f,d,rfl⟩⟩) (λf=>(n9 (w:=Sim.re W f 0) U w).mono λe H t=>⟨_,t.1,rfl,f,0,t.2⟩) λv W1 Z N _ _ _ _=> ?_;obtain⟨rfl,f,d,rfl⟩:=N;refine .re ?_;refine .val (i:=7) (v:=ptr j) (v':=x 7) ah (s 2 ah).2.symm ?_;exact .eqv ah B
theorem So(v:¬O o)(k:¬O r)(w:¬O b3)(s:W.cell? ⟨o,0,af⟩=ae (ptr j))(f:W.cell? ⟨r,0,af⟩=ae (.string b))(t:W.cell? ⟨b3,0,af⟩=ae (.string to))(N:W.cell? ⟨j,0,af⟩=ae (.pointer l))(u:aI Xm O R W)(B:R j j)(y:lg W l):bF Post O qZ [] (c::h) rB (qS o r b3 a) (5+·) (si j l b to a) W W 4:=λU x rest H p=>by
 refine .gS (i:=4) ah bI (t:=9) (x:=.tmp 2) (a:=⟨r,0,af⟩) (v:=.string b) ah ah lL k f ?_;exact .eqv ah p
theorem Sq(v:¬O o)(w:¬O r)(k:¬O b3)(s:W.cell? ⟨o,0,af⟩=ae (ptr j))(t:W.cell? ⟨r,0,af⟩=ae (.string b))(f:W.cell? ⟨b3,0,af⟩=ae (.string to))(N:W.cell? ⟨j,0,af⟩=ae (.pointer l))(u:aI Xm O R W)(B:R j j)(y:lg W l):bF Post O qZ [] (c::h) rB (qS o r b3 a) (5+·) (si j l b to a) W W 5:=λU x rest H p=>by
 refine .gS (i:=5) ah bI (t:=9) (x:=.tmp 3) (a:=⟨b3,0,af⟩) (v:=.string to) ah ah lL k f ?_;exact .eqv ah p
theorem Ss(u:¬O o)(v:¬O r)(w:¬O b3)(k:W.cell? ⟨o,0,af⟩=ae (ptr j))(p:W.cell? ⟨r,0,af⟩=ae (.string b))(s:W.cell? ⟨b3,0,af⟩=ae (.string to))(N:W.cell? ⟨j,0,af⟩=ae (.pointer l))(t:aI Xm O R W)(B:R j j)(y:lg W l):bF Post O qZ [] (c::h) rB (qS o r b3 a) (5+·) (si j l b to a) W W 6:=λU x rest H f=>by
 refine .K 1 ?_;exact .eqv ah f
noncomputable def TB(o r b3:Nat)(l:Option aH)(b to:ByteArray)(a:au)(x:Nat->au)(c:aC)(h:List aC):Frame:=dZ (nxtN aj aq 1 (dL (dL (dL (dL (aw (qZ.at ⟨qS o r b3 a x,[]⟩ (.inRegion rB (jZ 7 (8-7))::[])) (c::h)) 8 (.pointer l)) 9 (.string b)) 10 (.string to)) 11 a)).callers
theorem X5(t:¬O o)(u:¬O r)(v:¬O b3)(f:W.cell? ⟨o,0,af⟩=ae (ptr j))(k:W.cell? ⟨r,0,af⟩=ae (.string b))(p:W.cell? ⟨b3,0,af⟩=ae (.string to))(N:W.cell? ⟨j,0,af⟩=ae (.pointer l))(s:aI Xm O R W)(y:R j j)(w:lg W l)(hB:MC Post 43 #[.pointer l,.string b,.string to,a] O W a8):MC Post 42 #[a,ptr o,ptr r,ptr b3] O W (λa1 Z R' W'=>a1=.tuple #[]/\∃v0,a8 v0 Z R' W'):=by
 intro c h a6;refine .eqv (g':=aw (qZ.at ⟨qS o r b3 a (xF (bG aj 42 #[a,ptr o,ptr r,ptr b3] .normal)),[]⟩ (.code (.region 0 rB aq)::[])) (c::h)) ah ?_;refine ay.wW (n:=8) (c:=7) (W:=λ_=>W) (D:=(5+·)) (V:=si j l b to a) ah ah (λi ab _ _ a2=>ag) (λi hi aa x rest hl B H=> ?_) λx aa _ U=> ?_
 ·match i,hi with
  |0,_=>exact Sj t u v f k p N s y w _ _ _ B H
  |1,_=>exact Sk t u v f k p N s y w _ _ _ B H
  |2,_=>exact Sm t u v f k p N s y w _ _ _ B H
  |3,_=>exact Sn t u v f k p N s y w _ _ _ B H
  |4,_=>exact So t u v f k p N s y w _ _ _ B H
  |5,_=>exact Sq t u v f k p N s y w _ _ _ B H
  |6,_=>exact Ss t u v f k p N s y w _ _ _ B H
  |_+7,a2=>exact absurd a2 ag
 ·skip
  refine .val (i:=8) (v:=x 8) (v':=.pointer l) ah (U 3 ag) ?_;refine .val (i:=9) (v:=x 9) (v':=.string b) ah (U 4 ag) ?_;refine .val (i:=10) (v:=x 10) (v':=.string to) ah (U 5 ag) ?_;refine .val (i:=11) (v:=x 11) (v':=a) ah (U 6 ag) ?_;refine .K 1 ?_;refine .eqv (g':=aw (bG aj 43 #[.pointer l,.string b,.string to,a] .normal) (TB o r b3 l b to a x c h::c::h)) ah (hB _ _ λa1 Z R' W' a7=> ?_);refine .K 3 ?_;exact .eqv (g':=aw (c.finish (.tuple #[])) h) ah (a6 _ Z R' W' ⟨rfl,a1,a7⟩)
end
section
variable {Post:au->ak->Prop} {O:Nat->Prop} {g:aX} {w H:ak} {R:BR} {i:Nat}
theorem ay.uk{ob:dV}(k:g.status=.running)(h:dW g i)(j:∀w,(bp (aG g).eval (oG g)).run aj w=.ok (.value (ptr w.heap.size)) (w.alloc ob))(c:∀w,(bp (aG g).eval (oG g)).events aj w #[]= #[])(f:ay aj Post O (bt g (ptr w.heap.size)) (w.alloc ob)):ay aj Post O g w:=by
 refine .step k λb d=>⟨_,_,_,pz h (j (Sim.re w b d)),?_,λe a=> ?_,f.re (tp:=b) (d:=d)⟩
 ·show w.heap.size<=(w.alloc ob).heap.size;rw[dh];omega
 ·unfold ic at a;rw[c,seen_none]at a;simp at a
theorem ay.bx{t:aK}{s:Nat}{v:au}(f:g.status=.running)(h:dW g i)(a:(oG g).op=.box t (.tmp s))(b:(aG g).eval (.tmp s)=v)(c:ay aj Post O (bt g (ptr w.heap.size)) (w.alloc (.cells v.cells t))):ay aj Post O g w:=by
 refine .uk f h (λw=> ?_) (λw=> ?_) c
 ·unfold bp;simp only[a,b,Hx,newVar,rZ];simp[go_sem]
 ·unfold bp;simp only[a,b,Hx,newVar,rZ];simp[go_sem,te]
theorem aI.grow(c:aI Xm O R w)(j:∀b,R b b->H.heap[b]?=w.heap[b]?)(f:w.heap.size<=H.heap.size):aI Xm O R H:=by
 refine⟨c.diag,⟨c.wr.dC,⟨bT c.wr.low.1 f,bT c.wr.low.2 f⟩,λa i h=>h.elim,λa b h=> ?_⟩,c.apart,λa h=>dG (c.low a h) f⟩;have e:=c.diag a b h;subst e;obtain⟨k,l,o,p,r⟩:=c.wr.blk a a h;exact⟨k,l,(j a h).trans o,(j a h).trans p,r⟩
theorem aI.grown(a:aI Xm O R w)(o:dV):aI Xm O R (w.alloc o):=a.grow (λb h=>xu w o (a.wr.lt h).1) (by rw[dh];omega)
theorem aI.pn(a:aI Xm O R w)(c:¬R f f)(o:dV):aI Xm O R (w.putObj f o):=a.grow (λb h=>by
 have:b≠f:=λe=>c (e▸h);simp[aD4,jm this]) (by rw[World.oe];exact aL _)
theorem aI.boxed(a:aI Xm O R w){v:au}(c:VR Xm.G R v v)(t:aK):aI Xm O (R.add w.heap.size w.heap.size) (w.alloc (.cells v.cells t)):=
 a.add (o:=.cells v.cells t) (λb h=>xu w _ h) (cY w _) ((a.wr.Bt c.cells t).mono (BR.gF _ _ _)) (by rw[dh];omega)
def im(w:ak)(j:Nat)(b to:ByteArray):World:=((w.alloc (.cells #[ptr j] 31)).alloc (.cells #[.string b] 9)).alloc (.cells #[.string to] 9)
def pY(w:ak)(j:Nat)(b:ByteArray):World:=(w.alloc (.cells #[ptr j] 31)).alloc (.cells #[.string b] 9)
theorem KN{to:ByteArray}(a:ay aj Post O (aw (a6.finish (.func (.func 42) #[] #[ptr w.heap.size,ptr (w.heap.size+1),ptr (w.heap.size+2)])) a7) (im w f Z to)):ay aj Post O (aw (bG aj 27 #[ptr f,.string Z,.string to] .normal) (a6::a7)) w:=by
 refine .K 2 ?_;refine .bx (i:=0) ah bJ (t:=31) (s:=0) (v:=ptr f) ah ah ?_;refine .bx (i:=1) ah bJ (t:=9) (s:=1) (v:=.string Z) ah ah ?_;refine .bx (i:=2) ah bJ (t:=9) (s:=2) (v:=.string to) ah ah ?_;refine .K 9 ?_;unfold im at a;simp only[dh];exact .eqv (g':=aw (a6.finish (.func (.func 42) #[] #[ptr w.heap.size,ptr (w.heap.size+1),ptr (w.heap.size+2)])) a7) ah a
theorem WM(a:ay aj Post O (aw (a6.finish (.func (.func 44) #[] #[ptr w.heap.size,ptr (w.heap.size+1)])) a7) (pY w f Z)):ay aj Post O (aw (bG aj 28 #[ptr f,.string Z] .normal) (a6::a7)) w:=by
 refine .K 2 ?_;refine .bx (i:=0) ah bJ (t:=31) (s:=0) (v:=ptr f) ah ah ?_;refine .bx (i:=1) ah bJ (t:=9) (s:=1) (v:=.string Z) ah ah ?_;refine .K 9 ?_;unfold pY at a;simp only[dh];exact .eqv (g':=aw (a6.finish (.func (.func 44) #[] #[ptr w.heap.size,ptr (w.heap.size+1)])) a7) ah a
end
