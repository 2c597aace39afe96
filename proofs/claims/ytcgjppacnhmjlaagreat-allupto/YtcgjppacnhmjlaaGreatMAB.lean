/- Own texts: FzM, FzN, FzO, FzP, FzQ, FzR, FzS. -/
import Derived.Test.YtcgjppacnhmjlaaGreatMAA
set_option linter.all false
set_option maxRecDepth 100000
open Bool renaming true->aq,false->ax
open Decidable renaming decide->aM
open Go renaming World->ak,Value->au,Frame->aC,Calls->aE,Addr->aH,FuncId->bW,sizeOf->ed,Code->du,Func->pO
open Go.Addr renaming add_lit->jF
open Go.Frame renaming enter->bG
open Go.IntKind renaming i64->cZ,wrap_i64->ft
open Go.Proofs.Tryz renaming prog->aj,isAgg3->ib,isAgg9->lL,runUnderlying22->NO,isAgg31->Hk,sizeOf39->OH,isAgg33->aG5
open Go.Value renaming int->tk,agg->Ph
open Go.World renaming block_lt_of_cell?->cC,size_alloc->dh
open Option renaming some->ae,none->af
namespace Go.Proofs.YtcgjppacnhmjlaaGreat
open Go Go.Conc Go.ConcN Go.Conc.Lib Go.ConcR.Gen Go.RowKit
namespace Sim
variable {u:Nat->au} {v:Int}
structure lQ(O:Nat->Prop)(b f nb h rb:Nat)(kd on t:Int)(key p:ByteArray)(l:Int)(o r s:au)(lv:Int)(W:ak):Prop where
 iC:¬O b
 fA:¬O f
 jO:¬O nb
 n0:W.cell? ⟨nb,0,af⟩=ae (ptr h)
 n1:W.cell? ⟨nb,1,af⟩=ae (ptr rb)
 o0:W.cell? ⟨f,0,af⟩=ae (.int .i64 kd)
 o1:W.cell? ⟨f,1,af⟩=ae (.int .i64 on)
 o2:W.cell? ⟨f,2,af⟩=ae (.int .i64 t)
 o3:W.cell? ⟨f,3,af⟩=ae (.string key)
 o4:W.cell? ⟨f,4,af⟩=ae (.string p)
 o5:W.cell? ⟨f,5,af⟩=ae (.int .i64 l)
 o6:W.cell? ⟨f,6,af⟩=ae o
 o7:W.cell? ⟨f,7,af⟩=ae r
 o8:W.cell? ⟨f,8,af⟩=ae s
 w1:W.cell? ⟨b,1,af⟩=ae (.int .i64 lv)
section
variable {k:au->ak->Prop} {O:Nat->Prop} {W:ak} {b f nb h rb:Nat} {on t:Int} {key p:ByteArray} {l:Int} {o r s:au} {j:au} {c:aC} {a:List aC} {K:au->(Nat->Prop)->BR->ak->Prop}
noncomputable def Tx(b f nb h rb:Nat)(on t:Int)(key p:ByteArray)(l:Int)(o r s j:au)(x:Nat->au)(c:aC)(a:List aC):Frame:=dZ (nxtN aj aq 1 (bt (nxtN aj aq 1 (bt (nxtN aj aq 1 (bt (nxtN aj aq 10 (bt (nxtN aj aq 4 (dL (aw (ey.at ⟨eu b f j (.bool ax) x,[]⟩ ez) (c::a)) 5 (ptr nb))) (.int .i64 1))) (.agg #[ptr h,ptr rb]))) (.string key))) (.int .i64 l))).callers
theorem WJ(hx:u 5=ptr nb)(w:lQ O b f nb h rb 1 on t key p l o r s 11 W)(R:MC k 16 #[.agg #[ptr h,ptr rb],.string key,.int .i64 l] O W K)(U:∀v y H B,K v y H B->ay aj k y (aw (c.finish v) a) B):ay aj k O (aw (ey.at ⟨eu b f j (.bool ax) u,[]⟩ ez) (c::a)) W:=by
 refine .val (i:=5) (v:=u 5) (v':=ptr nb) ah hx ?_;refine .K 4 ?_;refine .ep (i:=1) ah bJ (t:=3) (x:=.tmp 20) (a:=⟨f,0,af⟩) (v:=.int .i64 1) ah ah ib w.fA w.o0 ?_;refine .K 10 ?_;refine .jd (i:=0) ah bJ (t:=42) (x:=.tmp 5) (a:=⟨nb,0,af⟩) (vs:=[ptr h,ptr rb]) ah ah (λa1=>ah) (λa1=>ah) w.jO (cC _ _ w.n0) (λN a2 x=> ?_) ?_
 ·match N,x with
  |0,x=>cases x;exact w.n0
  |1,x=>cases x;exact w.n1
  |N+2,x=>simp at x
 refine .K 1 ?_;refine .ep (i:=2) ah bJ (t:=9) (x:=.tmp 25) (a:=⟨f,3,af⟩) (v:=.string key) ah ah lL w.fA w.o3 ?_;refine .K 1 ?_;refine .ep (i:=4) ah bJ (t:=3) (x:=.tmp 27) (a:=⟨f,5,af⟩) (v:=.int .i64 l) ah ah ib w.fA w.o5 ?_;refine .K 1 ?_;refine .eqv (g':=aw (bG aj 16 #[.agg #[ptr h,ptr rb],.string key,.int .i64 l] .normal) (Tx b f nb h rb on t key p l o r s j u c a::c::a)) ah (R _ _ λv y H B Z=> ?_);refine .K 4 ?_;exact .eqv (g':=aw (c.finish v) a) ah (U v y H B Z)
noncomputable def Tu(b f nb h rb:Nat)(on t:Int)(key p:ByteArray)(l:Int)(o r s j:au)(x:Nat->au)(c:aC)(a:List aC):Frame:=dZ (nxtN aj aq 1 (bt (nxtN aj aq 1 (bt (nxtN aj aq 16 (bt (nxtN aj aq 4 (dL (aw (ey.at ⟨eu b f j (.bool ax) x,[]⟩ ez) (c::a)) 5 (ptr nb))) (.int .i64 2))) (.agg #[ptr h,ptr rb]))) (.string key))).callers
theorem WC(hx:u 5=ptr nb)(w:lQ O b f nb h rb 2 on t key p l o r s 11 W)(R:MC k 13 #[.agg #[ptr h,ptr rb],.string key] O W K)(U:∀v y H B,K v y H B->ay aj k y (aw (c.finish v) a) B):ay aj k O (aw (ey.at ⟨eu b f j (.bool ax) u,[]⟩ ez) (c::a)) W:=by
 refine .val (i:=5) (v:=u 5) (v':=ptr nb) ah hx ?_;refine .K 4 ?_;refine .ep (i:=1) ah bJ (t:=3) (x:=.tmp 20) (a:=⟨f,0,af⟩) (v:=.int .i64 2) ah ah ib w.fA w.o0 ?_;refine .K 16 ?_;refine .jd (i:=0) ah bJ (t:=42) (x:=.tmp 5) (a:=⟨nb,0,af⟩) (vs:=[ptr h,ptr rb]) ah ah (λa1=>ah) (λa1=>ah) w.jO (cC _ _ w.n0) (λN a2 x=> ?_) ?_
 ·match N,x with
  |0,x=>cases x;exact w.n0
  |1,x=>cases x;exact w.n1
  |N+2,x=>simp at x
 refine .K 1 ?_;refine .ep (i:=2) ah bJ (t:=9) (x:=.tmp 33) (a:=⟨f,3,af⟩) (v:=.string key) ah ah lL w.fA w.o3 ?_;refine .K 1 ?_;refine .eqv (g':=aw (bG aj 13 #[.agg #[ptr h,ptr rb],.string key] .normal) (Tu b f nb h rb on t key p l o r s j u c a::c::a)) ah (R _ _ λv y H B Z=> ?_);refine .K 4 ?_;exact .eqv (g':=aw (c.finish v) a) ah (U v y H B Z)
noncomputable def Tv(b f nb h rb:Nat)(on t:Int)(key p:ByteArray)(l:Int)(o r s j:au)(x:Nat->au)(c:aC)(a:List aC):Frame:=dZ (nxtN aj aq 1 (bt (nxtN aj aq 1 (bt (nxtN aj aq 22 (bt (nxtN aj aq 4 (dL (aw (ey.at ⟨eu b f j (.bool ax) x,[]⟩ ez) (c::a)) 5 (ptr nb))) (.int .i64 3))) (.agg #[ptr h,ptr rb]))) (.string key))).callers
theorem WE(hx:u 5=ptr nb)(w:lQ O b f nb h rb 3 on t key p l o r s 11 W)(R:MC k 37 #[.agg #[ptr h,ptr rb],.string key] O W K)(U:∀v y H B,K v y H B->ay aj k y (aw (c.finish v) a) B):ay aj k O (aw (ey.at ⟨eu b f j (.bool ax) u,[]⟩ ez) (c::a)) W:=by
 refine .val (i:=5) (v:=u 5) (v':=ptr nb) ah hx ?_;refine .K 4 ?_;refine .ep (i:=1) ah bJ (t:=3) (x:=.tmp 20) (a:=⟨f,0,af⟩) (v:=.int .i64 3) ah ah ib w.fA w.o0 ?_;refine .K 22 ?_;refine .jd (i:=0) ah bJ (t:=42) (x:=.tmp 5) (a:=⟨nb,0,af⟩) (vs:=[ptr h,ptr rb]) ah ah (λa1=>ah) (λa1=>ah) w.jO (cC _ _ w.n0) (λN a2 x=> ?_) ?_
 ·match N,x with
  |0,x=>cases x;exact w.n0
  |1,x=>cases x;exact w.n1
  |N+2,x=>simp at x
 refine .K 1 ?_;refine .ep (i:=2) ah bJ (t:=9) (x:=.tmp 39) (a:=⟨f,3,af⟩) (v:=.string key) ah ah lL w.fA w.o3 ?_;refine .K 1 ?_;refine .eqv (g':=aw (bG aj 37 #[.agg #[ptr h,ptr rb],.string key] .normal) (Tv b f nb h rb on t key p l o r s j u c a::c::a)) ah (R _ _ λv y H B Z=> ?_);refine .K 4 ?_;exact .eqv (g':=aw (c.finish v) a) ah (U v y H B Z)
noncomputable def Ty(b f nb h rb:Nat)(on t:Int)(key p:ByteArray)(l:Int)(o r s j:au)(x:Nat->au)(c:aC)(a:List aC):Frame:=dZ (nxtN aj aq 1 (bt (nxtN aj aq 31 (bt (nxtN aj aq 4 (dL (aw (ey.at ⟨eu b f j (.bool ax) x,[]⟩ ez) (c::a)) 5 (ptr nb))) (.int .i64 4))) (.agg #[ptr h,ptr rb]))).callers
theorem WK(hx:u 5=ptr nb)(x:lQ O b f nb h rb 4 on t key p l o r s 11 W)(R:MC k 14 #[.agg #[ptr h,ptr rb]] O W K)(U:∀v y H B,K v y H B->ay aj k y (aw (c.finish v) a) B):ay aj k O (aw (ey.at ⟨eu b f j (.bool ax) u,[]⟩ ez) (c::a)) W:=by
 refine .val (i:=5) (v:=u 5) (v':=ptr nb) ah hx ?_;refine .K 4 ?_;refine .ep (i:=1) ah bJ (t:=3) (x:=.tmp 20) (a:=⟨f,0,af⟩) (v:=.int .i64 4) ah ah ib x.fA x.o0 ?_;refine .K 31 ?_;refine .jd (i:=0) ah bJ (t:=42) (x:=.tmp 5) (a:=⟨nb,0,af⟩) (vs:=[ptr h,ptr rb]) ah ah (λa1=>ah) (λa1=>ah) x.jO (cC _ _ x.n0) (λN a2 w=> ?_) ?_
 ·match N,w with
  |0,w=>cases w;exact x.n0
  |1,w=>cases w;exact x.n1
  |N+2,w=>simp at w
 refine .K 1 ?_;refine .eqv (g':=aw (bG aj 14 #[.agg #[ptr h,ptr rb]] .normal) (Ty b f nb h rb on t key p l o r s j u c a::c::a)) ah (R _ _ λv y H B Z=> ?_);refine .K 4 ?_;exact .eqv (g':=aw (c.finish v) a) ah (U v y H B Z)
noncomputable def Tw(b f nb h rb:Nat)(on t:Int)(key p:ByteArray)(l:Int)(o r s j:au)(x:Nat->au)(c:aC)(a:List aC):Frame:=dZ (nxtN aj aq 1 (bt (bt (nxtN aj aq 6 (bt (nxtN aj aq 43 (bt (nxtN aj aq 4 (dL (aw (ey.at ⟨eu b f j (.bool ax) x,[]⟩ ez) (c::a)) 5 (ptr nb))) (.int .i64 10))) (.int .i64 11))) (.agg #[ptr h,ptr rb])) (.agg #[.int .i64 10,.int .i64 on,.int .i64 t,.string key,.string p,.int .i64 l,o,r,s]))).callers
theorem WH(hx:u 5=ptr nb)(y:lQ O b f nb h rb 10 on t key p l o r s 11 W)(U:MC k 38 #[ptr b,.agg #[ptr h,ptr rb],.agg #[.int .i64 10,.int .i64 on,.int .i64 t,.string key,.string p,.int .i64 l,o,r,s]] O W K)(Z:∀v H R N,K v H R N->ay aj k H (aw (c.finish v) a) N):ay aj k O (aw (ey.at ⟨eu b f j (.bool ax) u,[]⟩ ez) (c::a)) W:=by
 refine .val (i:=5) (v:=u 5) (v':=ptr nb) ah hx ?_;refine .K 4 ?_;refine .ep (i:=1) ah bJ (t:=3) (x:=.tmp 20) (a:=⟨f,0,af⟩) (v:=.int .i64 10) ah ah ib y.fA y.o0 ?_;refine .K 43 ?_;refine .ep (i:=3) ah bJ (t:=3) (x:=.tmp 51) (a:=⟨b,1,af⟩) (v:=.int .i64 11) ah ah ib y.iC y.w1 ?_;refine .K 6 ?_;refine .jd (i:=1) ah bJ (t:=42) (x:=.tmp 5) (a:=⟨nb,0,af⟩) (vs:=[ptr h,ptr rb]) ah ah (λw=>ah) (λw=>ah) y.jO (cC _ _ y.n0) (λB a2 x=> ?_) ?_
 ·match B,x with
  |0,x=>cases x;exact y.n0
  |1,x=>cases x;exact y.n1
  |B+2,x=>simp at x
 refine .jd (i:=2) ah bJ (t:=39) (x:=.tmp 3) (a:=⟨f,0,af⟩) (vs:=[.int .i64 10,.int .i64 on,.int .i64 t,.string key,.string p,.int .i64 l,o,r,s]) ah ah (λw=>ah) (λw=>ah) y.fA (cC _ _ y.o0) (λB a2 x=> ?_) ?_
 ·match B,x with
  |0,x=>cases x;exact y.o0
  |1,x=>cases x;exact y.o1
  |2,x=>cases x;exact y.o2
  |3,x=>cases x;exact y.o3
  |4,x=>cases x;exact y.o4
  |5,x=>cases x;exact y.o5
  |6,x=>cases x;exact y.o6
  |7,x=>cases x;exact y.o7
  |8,x=>cases x;exact y.o8
  |B+9,x=>simp at x
 refine .K 1 ?_;refine .eqv (g':=aw (bG aj 38 #[ptr b,.agg #[ptr h,ptr rb],.agg #[.int .i64 10,.int .i64 on,.int .i64 t,.string key,.string p,.int .i64 l,o,r,s]] .normal) (Tw b f nb h rb on t key p l o r s j u c a::c::a)) ah (U _ _ λv H R N a1=> ?_);refine .K 4 ?_;exact .eqv (g':=aw (c.finish v) a) ah (Z v H R N a1)
noncomputable def Tt(b f nb h rb:Nat)(on t:Int)(key p:ByteArray)(l:Int)(o r s j:au)(x:Nat->au)(c:aC)(a:List aC):Frame:=dZ (nxtN aj aq 1 (bt (nxtN aj aq 1 (bt (nxtN aj aq 5 (bt (nxtN aj aq 49 (bt (nxtN aj aq 4 (dL (aw (ey.at ⟨eu b f j (.bool ax) x,[]⟩ ez) (c::a)) 5 (ptr nb))) (.int .i64 11))) (.int .i64 11))) (.agg #[ptr h,ptr rb]))) o)).callers
theorem WB(hx:u 5=ptr nb)(w:lQ O b f nb h rb 11 on t key p l o r s 11 W)(R:MC k 39 #[.agg #[ptr h,ptr rb],o] O W K)(U:∀v y H B,K v y H B->ay aj k y (aw (c.finish v) a) B):ay aj k O (aw (ey.at ⟨eu b f j (.bool ax) u,[]⟩ ez) (c::a)) W:=by
 refine .val (i:=5) (v:=u 5) (v':=ptr nb) ah hx ?_;refine .K 4 ?_;refine .ep (i:=1) ah bJ (t:=3) (x:=.tmp 20) (a:=⟨f,0,af⟩) (v:=.int .i64 11) ah ah ib w.fA w.o0 ?_;refine .K 49 ?_;refine .ep (i:=3) ah bJ (t:=3) (x:=.tmp 62) (a:=⟨b,1,af⟩) (v:=.int .i64 11) ah ah ib w.iC w.w1 ?_;refine .K 5 ?_;refine .jd (i:=0) ah bJ (t:=42) (x:=.tmp 5) (a:=⟨nb,0,af⟩) (vs:=[ptr h,ptr rb]) ah ah (λa1=>ah) (λa1=>ah) w.jO (cC _ _ w.n0) (λN a2 x=> ?_) ?_
 ·match N,x with
  |0,x=>cases x;exact w.n0
  |1,x=>cases x;exact w.n1
  |N+2,x=>simp at x
 refine .K 1 ?_;refine .ep (i:=2) ah bJ (t:=37) (x:=.tmp 66) (a:=⟨f,6,af⟩) (v:=o) ah ah Tryz.isAgg37 w.fA w.o6 ?_;refine .K 1 ?_;refine .eqv (g':=aw (bG aj 39 #[.agg #[ptr h,ptr rb],o] .normal) (Tt b f nb h rb on t key p l o r s j u c a::c::a)) ah (R _ _ λv y H B Z=> ?_);refine .K 4 ?_;exact .eqv (g':=aw (c.finish v) a) ah (U v y H B Z)
noncomputable def Tz(b f nb h rb:Nat)(on t:Int)(key p:ByteArray)(l:Int)(o r s j:au)(x:Nat->au)(c:aC)(a:List aC):Frame:=dZ (nxtN aj aq 1 (bt (nxtN aj aq 34 (bt (nxtN aj aq 4 (dL (aw (ey.at ⟨eu b f j (.bool ax) x,[]⟩ ez) (c::a)) 5 (ptr nb))) (.int .i64 5))) (.agg #[ptr h,ptr rb]))).callers
theorem WL(hx:u 5=ptr nb)(x:lQ O b f nb h rb 5 on t key p l o r s 11 W)(R:MC k 14 #[.agg #[ptr h,ptr rb]] O W K)(U:∀v y H B,K v y H B->ay aj k y (aw (c.finish v) a) B):ay aj k O (aw (ey.at ⟨eu b f j (.bool ax) u,[]⟩ ez) (c::a)) W:=by
 refine .val (i:=5) (v:=u 5) (v':=ptr nb) ah hx ?_;refine .K 4 ?_;refine .ep (i:=1) ah bJ (t:=3) (x:=.tmp 20) (a:=⟨f,0,af⟩) (v:=.int .i64 5) ah ah ib x.fA x.o0 ?_;refine .K 34 ?_;refine .jd (i:=0) ah bJ (t:=42) (x:=.tmp 5) (a:=⟨nb,0,af⟩) (vs:=[ptr h,ptr rb]) ah ah (λa1=>ah) (λa1=>ah) x.jO (cC _ _ x.n0) (λN a2 w=> ?_) ?_
 ·match N,w with
  |0,w=>cases w;exact x.n0
  |1,w=>cases w;exact x.n1
  |N+2,w=>simp at w
 refine .K 1 ?_;refine .eqv (g':=aw (bG aj 14 #[.agg #[ptr h,ptr rb]] .normal) (Tz b f nb h rb on t key p l o r s j u c a::c::a)) ah (R _ _ λv y H B Z=> ?_);refine .K 4 ?_;exact .eqv (g':=aw (c.finish v) a) ah (U v y H B Z)
theorem WI(w:lQ O b f nb h rb v on t key p l o r s 11 W)(y:v≠1/\v≠2/\v≠3/\v≠4/\v≠5/\v≠10/\v≠11)(x:ay aj k O (aw (c.finish (.bool aq)) a) W):ay aj k O (aw (ey.at ⟨eu b f j (.bool ax) u,[]⟩ ez) (c::a)) W:=by
 refine .K 4 ?_;refine .ep (i:=1) ah bJ (t:=3) (x:=.tmp 20) (a:=⟨f,0,af⟩) (v:=.int .i64 v) ah ah ib w.fA w.o0 ?_;refine .K 5 ?_;refine .val (i:=23) (v:=.bool (aM (v=1))) (v':=.bool ax) ah (by rw[decide_eq_false ag]) ?_;refine .K 6 ?_;refine .val (i:=31) (v:=.bool (aM (v=2))) (v':=.bool ax) ah (by rw[decide_eq_false ag]) ?_;refine .K 6 ?_;refine .val (i:=37) (v:=.bool (aM (v=3))) (v':=.bool ax) ah (by rw[decide_eq_false ag]) ?_;refine .K 7 ?_;refine .val (i:=43) (v:=.bool (aM (v=4))) (v':=.bool ax) ah (by rw[decide_eq_false ag]) ?_;refine .K 5 ?_;refine .val (i:=44) (v:=.bool (aM (v=5))) (v':=.bool ax) ah (by rw[decide_eq_false ag]) ?_;refine .K 6 ?_;refine .val (i:=48) (v:=.bool (aM (v=10))) (v':=.bool ax) ah (by rw[decide_eq_false ag]) ?_;refine .K 6 ?_;refine .val (i:=59) (v:=.bool (aM (v=11))) (v':=.bool ax) ah (by rw[decide_eq_false ag]) ?_;refine .K 11 ?_;exact .eqv (g':=aw (c.finish (.bool aq)) a) ah x
end
section
variable {k:au->ak->Prop} {O:Nat->Prop} {W:ak} {b f nb h rb:Nat} {on t:Int} {key p:ByteArray} {l:Int} {o r s:au} {j:au} {c:aC} {a:List aC} {K:au->(Nat->Prop)->BR->ak->Prop}
noncomputable def Ts(b f nb h rb:Nat)(on t:Int)(key p:ByteArray)(l:Int)(o r s j:au)(kd:Int)(x:Nat->au)(c:aC)(a:List aC):Frame:=dZ (nxtN aj aq 1 (bt (bt (nxtN aj aq 14 (bt (nxtN aj aq 4 (dL (aw (fh.at ⟨fg b f j (.bool ax) x,[]⟩ fi) (c::a)) 5 (ptr nb))) (.int .i64 6))) (.agg #[ptr h,ptr rb])) (.agg #[.int .i64 6,.int .i64 on,.int .i64 t,.string key,.string p,.int .i64 l,o,r,s]))).callers
theorem W4(hx:u 5=ptr nb)(y:lQ O b f nb h rb 6 on t key p l o r s 11 W)(U:MC k 15 #[ptr b,.agg #[ptr h,ptr rb],.agg #[.int .i64 6,.int .i64 on,.int .i64 t,.string key,.string p,.int .i64 l,o,r,s]] O W K)(Z:∀v H R N,K v H R N->ay aj k H (aw (c.finish v) a) N):ay aj k O (aw (fh.at ⟨fg b f j (.bool ax) u,[]⟩ fi) (c::a)) W:=by
 refine .val (i:=5) (v:=u 5) (v':=ptr nb) ah hx ?_;refine .K 4 ?_;refine .ep (i:=1) ah bJ (t:=3) (x:=.tmp 20) (a:=⟨f,0,af⟩) (v:=.int .i64 6) ah ah ib y.fA y.o0 ?_;refine .K 14 ?_;refine .jd (i:=1) ah bJ (t:=42) (x:=.tmp 5) (a:=⟨nb,0,af⟩) (vs:=[ptr h,ptr rb]) ah ah (λw=>ah) (λw=>ah) y.jO (cC _ _ y.n0) (λB a2 x=> ?_) ?_
 ·match B,x with
  |0,x=>cases x;exact y.n0
  |1,x=>cases x;exact y.n1
  |B+2,x=>simp at x
 refine .jd (i:=2) ah bJ (t:=39) (x:=.tmp 3) (a:=⟨f,0,af⟩) (vs:=[.int .i64 6,.int .i64 on,.int .i64 t,.string key,.string p,.int .i64 l,o,r,s]) ah ah (λw=>ah) (λw=>ah) y.fA (cC _ _ y.o0) (λB a2 x=> ?_) ?_
 ·match B,x with
  |0,x=>cases x;exact y.o0
  |1,x=>cases x;exact y.o1
  |2,x=>cases x;exact y.o2
  |3,x=>cases x;exact y.o3
  |4,x=>cases x;exact y.o4
  |5,x=>cases x;exact y.o5
  |6,x=>cases x;exact y.o6
  |7,x=>cases x;exact y.o7
  |8,x=>cases x;exact y.o8
  |B+9,x=>simp at x
 refine .K 1 ?_;refine .eqv (g':=aw (bG aj 15 #[ptr b,.agg #[ptr h,ptr rb],.agg #[.int .i64 6,.int .i64 on,.int .i64 t,.string key,.string p,.int .i64 l,o,r,s]] .normal) (Ts b f nb h rb on t key p l o r s j 0 u c a::c::a)) ah (U _ _ λv H R N a1=> ?_);refine .K 4 ?_;exact .eqv (g':=aw (c.finish v) a) ah (Z v H R N a1)
noncomputable def Tq(b f nb h rb:Nat)(on t:Int)(key p:ByteArray)(l:Int)(o r s j:au)(kd:Int)(x:Nat->au)(c:aC)(a:List aC):Frame:=dZ (nxtN aj aq 1 (bt (bt (nxtN aj aq 17 (bt (nxtN aj aq 4 (dL (aw (fh.at ⟨fg b f j (.bool ax) x,[]⟩ fi) (c::a)) 5 (ptr nb))) (.int .i64 7))) (.agg #[ptr h,ptr rb])) (.agg #[.int .i64 7,.int .i64 on,.int .i64 t,.string key,.string p,.int .i64 l,o,r,s]))).callers
theorem VY(hx:u 5=ptr nb)(y:lQ O b f nb h rb 7 on t key p l o r s 11 W)(U:MC k 15 #[ptr b,.agg #[ptr h,ptr rb],.agg #[.int .i64 7,.int .i64 on,.int .i64 t,.string key,.string p,.int .i64 l,o,r,s]] O W K)(Z:∀v H R N,K v H R N->ay aj k H (aw (c.finish v) a) N):ay aj k O (aw (fh.at ⟨fg b f j (.bool ax) u,[]⟩ fi) (c::a)) W:=by
 refine .val (i:=5) (v:=u 5) (v':=ptr nb) ah hx ?_;refine .K 4 ?_;refine .ep (i:=1) ah bJ (t:=3) (x:=.tmp 20) (a:=⟨f,0,af⟩) (v:=.int .i64 7) ah ah ib y.fA y.o0 ?_;refine .K 17 ?_;refine .jd (i:=1) ah bJ (t:=42) (x:=.tmp 5) (a:=⟨nb,0,af⟩) (vs:=[ptr h,ptr rb]) ah ah (λw=>ah) (λw=>ah) y.jO (cC _ _ y.n0) (λB a2 x=> ?_) ?_
 ·match B,x with
  |0,x=>cases x;exact y.n0
  |1,x=>cases x;exact y.n1
  |B+2,x=>simp at x
 refine .jd (i:=2) ah bJ (t:=39) (x:=.tmp 3) (a:=⟨f,0,af⟩) (vs:=[.int .i64 7,.int .i64 on,.int .i64 t,.string key,.string p,.int .i64 l,o,r,s]) ah ah (λw=>ah) (λw=>ah) y.fA (cC _ _ y.o0) (λB a2 x=> ?_) ?_
 ·match B,x with
  |0,x=>cases x;exact y.o0
  |1,x=>cases x;exact y.o1
  |2,x=>cases x;exact y.o2
  |3,x=>cases x;exact y.o3
  |4,x=>cases x;exact y.o4
  |5,x=>cases x;exact y.o5
  |6,x=>cases x;exact y.o6
  |7,x=>cases x;exact y.o7
  |8,x=>cases x;exact y.o8
  |B+9,x=>simp at x
 refine .K 1 ?_;refine .eqv (g':=aw (bG aj 15 #[ptr b,.agg #[ptr h,ptr rb],.agg #[.int .i64 7,.int .i64 on,.int .i64 t,.string key,.string p,.int .i64 l,o,r,s]] .normal) (Tq b f nb h rb on t key p l o r s j 0 u c a::c::a)) ah (U _ _ λv H R N a1=> ?_);refine .K 4 ?_;exact .eqv (g':=aw (c.finish v) a) ah (Z v H R N a1)
noncomputable def Tr(b f nb h rb:Nat)(on t:Int)(key p:ByteArray)(l:Int)(o r s j:au)(kd:Int)(x:Nat->au)(c:aC)(a:List aC):Frame:=dZ (nxtN aj aq 1 (bt (nxtN aj aq 8 (dL (nxtN aj aq 6 (dL (nxtN aj aq 6 (dL (nxtN aj aq 5 (dL (nxtN aj aq 6 (bt (nxtN aj aq 4 (dL (aw (fh.at ⟨fg b f j (.bool ax) x,[]⟩ fi) (c::a)) 5 (ptr nb))) (.int .i64 kd))) 23 (.bool ax))) 24 (.bool ax))) 30 (.bool ax))) 37 (.bool ax))) (.agg #[.int .i64 kd,.int .i64 on,.int .i64 t,.string key,.string p,.int .i64 l,o,r,s]))).callers
theorem VZ(hx:u 5=ptr nb)(x:lQ O b f nb h rb v on t key p l o r s 11 W)(hk:v≠6/\v≠7/\v≠8/\v≠9)(U:MC k 22 #[ptr b,.agg #[.int .i64 v,.int .i64 on,.int .i64 t,.string key,.string p,.int .i64 l,o,r,s]] O W K)(Z:∀y B N H,K y B N H->ay aj k B (aw (c.finish y) a) H):ay aj k O (aw (fh.at ⟨fg b f j (.bool ax) u,[]⟩ fi) (c::a)) W:=by
 refine .val (i:=5) (v:=u 5) (v':=ptr nb) ah hx ?_;refine .K 4 ?_;refine .ep (i:=1) ah bJ (t:=3) (x:=.tmp 20) (a:=⟨f,0,af⟩) (v:=.int .i64 v) ah ah ib x.fA x.o0 ?_;refine .K 6 ?_;refine .val (i:=23) (v:=.bool (aM (v=6))) (v':=.bool ax) ah (by rw[decide_eq_false ag]) ?_;refine .K 5 ?_;refine .val (i:=24) (v:=.bool (aM (v=7))) (v':=.bool ax) ah (by rw[decide_eq_false ag]) ?_;refine .K 6 ?_;refine .val (i:=30) (v:=.bool (aM (v=8))) (v':=.bool ax) ah (by rw[decide_eq_false ag]) ?_;refine .K 6 ?_;refine .val (i:=37) (v:=.bool (aM (v=9))) (v':=.bool ax) ah (by rw[decide_eq_false ag]) ?_;refine .K 8 ?_;refine .jd (i:=1) ah bJ (t:=39) (x:=.tmp 3) (a:=⟨f,0,af⟩) (vs:=[.int .i64 v,.int .i64 on,.int .i64 t,.string key,.string p,.int .i64 l,o,r,s]) ah ah (λa2=>ah) (λa2=>ah) x.fA (cC _ _ x.o0) (λR a6 w=> ?_) ?_
 ·match R,w with
  |0,w=>cases w;exact x.o0
  |1,w=>cases w;exact x.o1
  |2,w=>cases w;exact x.o2
  |3,w=>cases w;exact x.o3
  |4,w=>cases w;exact x.o4
  |5,w=>cases w;exact x.o5
  |6,w=>cases w;exact x.o6
  |7,w=>cases w;exact x.o7
  |8,w=>cases w;exact x.o8
  |R+9,w=>simp at w
 refine .K 1 ?_;refine .eqv (g':=aw (bG aj 22 #[ptr b,.agg #[.int .i64 v,.int .i64 on,.int .i64 t,.string key,.string p,.int .i64 l,o,r,s]] .normal) (Tr b f nb h rb on t key p l o r s j v u c a::c::a)) ah (U _ _ λy B N H a1=> ?_);refine .K 4 ?_;exact .eqv (g':=aw (c.finish y) a) ah (Z y B N H a1)
end
section
variable {k:au->ak->Prop} {O:Nat->Prop} {R:BR} {W:ak} {b f nb h rb:Nat} {on t:Int} {key p:ByteArray} {l:Int} {o r s:au} {j:au} {c:aC} {a:List aC} {K K1:au->(Nat->Prop)->BR->ak->Prop}
theorem kT{f:bW}{fn:pO}{s:du}{Post1:au->ak->Prop}{j:Array au}(Z:fO f fn s)(hg:Xm.G f)(H:aI Xm O R W)(N:bq Xm.G R j j)(hp:∀v w o d,Post1 v w->Post1 v (Sim.re w o d))(U:∀o,aE aj f j (Sim.re W o 0) λe p=>∃v,e=.returned v/\Post1 v p):MC k f j O W λv r b l=>r=O/\Post1 v l/\aI Xm O b l/\VR Xm.G b v v/\BR.Sub R b/\W.heap.size<=l.heap.size:=λc a h=>.lone Z hg H N hp U λv p b t u x y B=>h v O b p ⟨rfl,t,u,x,y,B⟩
noncomputable def Jo(b f nb:Nat)(j:au)(x:Nat->au)(c:aC)(a:List aC):Frame:=dZ (nxtN aj aq 1 (nxtN aj aq 23 (bt (nxtN aj aq 4 (dL (aw (fh.at ⟨fg b f j (.bool ax) x,[]⟩ fi) (c::a)) 5 (ptr nb))) (.int .i64 8)))).callers
noncomputable def Tp(b f nb h:Nat)(j u1:au)(x:Nat->au)(c:aC)(a:List aC):Frame:=dZ (nxtN aj aq 1 (bt (nxtN aj aq 1 (aw ((Jo b f nb j x c a).finish u1) (c::a))) (ptr h))).callers
theorem VW(hx:u 5=ptr nb)(U:lQ O b f nb h rb 8 on t key p l o r s 11 W)(hB:MC k 10 #[] O W K1)(a2:∀u1 y R w,K1 u1 y R w->MC k 9 #[ptr b,u1,ptr w.heap.size] y (w.alloc (.cells #[.slice af 0 0] 36)) K)(hK:∀v x N B,K v x N B->ay aj k x (aw (c.finish v) a) B):ay aj k O (aw (fh.at ⟨fg b f j (.bool ax) u,[]⟩ fi) (c::a)) W:=by
 refine .val (i:=5) (v:=u 5) (v':=ptr nb) ah hx ?_;refine .K 4 ?_;refine .ep (i:=1) ah bJ (t:=3) (x:=.tmp 20) (a:=⟨f,0,af⟩) (v:=.int .i64 8) ah ah ib U.fA U.o0 ?_;refine .K 23 ?_;refine .K 1 ?_;refine .eqv (g':=aw (bG aj 10 #[] .normal) (Jo b f nb j u c a::c::a)) ah (hB _ _ λu1 y R w h1=> ?_);obtain⟨H,a1⟩:∃H,w.heap.size=H:=⟨_,rfl⟩;have Z:=a2 u1 y R w h1;rw[a1]at Z;refine .K 1 ?_;refine .bx (i:=3) ah bJ (t:=36) (s:=33) (v:=.agg #[.slice af 0 0]) ah ah ?_;rw[a1];refine .K 1 ?_;refine .eqv (g':=aw (bG aj 9 #[ptr b,u1,ptr H] .normal) (Tp b f nb H j u1 u c a::c::a)) ah (Z _ _ λv x N B a6=> ?_);refine .K 4 ?_;exact .eqv (g':=aw (c.finish v) a) ah (hK v x N B a6)
end
noncomputable def Jp(b f y nb:Nat)(j H:au)(x:Nat->au)(B h:Nat)(c:aC)(a:List aC):Frame:=dZ (nxtN aj aq 1 (bt (nxtN aj aq 1 (bt (nxtN aj aq 3 (dL (aw (iq.at ⟨ij b f j H (ptr y) (.bool ax) x,[]⟩ ir) (c::a)) 7 (ptr nb))) (ptr B))) (ptr h))).callers
noncomputable def Jq(b f y nb:Nat)(j H:au)(x:Nat->au)(B h ra rb:Nat)(u1:au)(c:aC)(a:List aC):Frame:=dZ (nxtN aj aq 1 (bt (nxtN aj aq 1 (bt (nxtN aj aq 5 (aw ((Jp b f y nb j H x B h c a).finish u1) (c::a))) (ptr ra))) (ptr rb))).callers
noncomputable def TA(b f y nb:Nat)(j H:au)(x:Nat->au)(B h ra rb:Nat)(u1:au)(k:Int)(c:aC)(a:List aC):Frame:=dZ (nxtN aj aq 1 (nxtN aj aq 5 (aw ((Jq b f y nb j H x B h ra rb u1 c a).finish (.int .i64 k)) (c::a)))).callers
section
variable {k:au->ak->Prop} {O:Nat->Prop} {W:ak} {b f y nb B ra h rb:Nat} {j H:au} {c:aC} {a:List aC}
theorem WO{K1:au->(Nat->Prop)->BR->ak->Prop}{K2:au->au->(Nat->Prop)->BR->ak->Prop}{K3:Int->au->(Nat->Prop)->BR->ak->Prop}(hx:u 7=ptr nb)(a8:¬O y)(jO:¬O nb)(t0:W.cell? ⟨y,0,af⟩=ae (ptr B))(n0:W.cell? ⟨nb,0,af⟩=ae (ptr h))(a1:MC k 57 #[ptr B,ptr h] O W K1)(U:∀u1 o x p,K1 u1 o x p->¬o y/\¬o nb/\p.cell? ⟨y,1,af⟩=ae (ptr ra)/\p.cell? ⟨nb,1,af⟩=ae (ptr rb)/\MC k 58 #[ptr ra,ptr rb] o p (K2 u1))(Z:∀u1 u2 r N t,K2 u1 u2 r N t->∃l,u2=.int .i64 l/\MC k 33 #[u1] r t (K3 l))(h4:∀l u3 s R v,K3 l u3 s R v->∃w,u3=.int .i64 w/\ay aj k s (aw (c.finish (.bool (aM (w=l)))) a) v):ay aj k O (aw (iq.at ⟨ij b f j H (ptr y) (.bool ax) u,[]⟩ ir) (c::a)) W:=by
 refine .val (i:=7) (v:=u 7) (v':=ptr nb) ah hx ?_;refine .K 3 ?_;refine .ep (i:=1) ah bJ (t:=31) (x:=.tmp 24) (a:=⟨y,0,af⟩) (v:=ptr B) ah ah Hk a8 t0 ?_;refine .K 1 ?_;refine .ep (i:=3) ah bJ (t:=31) (x:=.tmp 26) (a:=⟨nb,0,af⟩) (v:=ptr h) ah ah Hk jO n0 ?_;refine .K 1 ?_;refine .eqv (g':=aw (bG aj 57 #[ptr B,ptr h] .normal) (Jp b f y nb j H u B h c a::c::a)) ah (a1 _ _ λu1 o x p ab=> ?_);obtain⟨aa,a7,t1,n1,a2⟩:=U u1 o x p ab;refine .K 5 ?_;refine .ep (i:=1) ah bJ (t:=33) (x:=.tmp 29) (a:=⟨y,1,af⟩) (v:=ptr ra) ah ah aG5 aa t1 ?_;refine .K 1 ?_;refine .ep (i:=3) ah bJ (t:=33) (x:=.tmp 31) (a:=⟨nb,1,af⟩) (v:=ptr rb) ah ah aG5 a7 n1 ?_;refine .K 1 ?_;refine .eqv (g':=aw (bG aj 58 #[ptr ra,ptr rb] .normal) (Jq b f y nb j H u B h ra rb u1 c a::c::a)) ah (a2 _ _ λu2 r N t ac=> ?_);obtain⟨l,rfl,a6⟩:=Z u1 u2 r N t ac;refine .K 5 ?_;refine .K 1 ?_;refine .eqv (g':=aw (bG aj 33 #[u1] .normal) (TA b f y nb j H u B h ra rb u1 l c a::c::a)) ah (a6 _ _ λu3 s R v ad=> ?_);obtain⟨w,rfl,hn⟩:=h4 l u3 s R v ad;refine .K 6 ?_;exact .eqv (g':=aw (c.finish (.bool (aM (w=l)))) a) ah hn
end
section
variable {k:au->ak->Prop} {O:Nat->Prop} {R:BR} {W:ak} {b f y w po m U nb h rb:Nat} {on:Int} {tw ov:Array au} {c:aC} {a:List aC}
theorem WN(l:W.heap.size=y)(o:y+1=f)(t:f+1=nb)(r:cT O b f 2 w po m U on h rb ((W.alloc (.cells tw 42)).alloc (.cells ov 39)))(p:aI Xm O R W)(B:R h h)(v:R rb rb)(s:∀x j,x 7=ptr nb->aI Xm O j (((W.alloc (.cells tw 42)).alloc (.cells ov 39)).alloc (.cells #[ptr h,ptr rb] 42))->j nb nb->BR.Sub R j->ay aj k O (aw (iq.at ⟨ij b f (.agg tw) (.agg ov) (ptr y) (.bool ax) x,[]⟩ ir) (c::a)) (((W.alloc (.cells tw 42)).alloc (.cells ov 39)).alloc (.cells #[ptr h,ptr rb] 42))):ay aj k O (aw (bG aj 38 #[ptr b,.agg tw,.agg ov] .normal) (c::a)) W:=by
 have u:(W.alloc (.cells (Ph tw).cells 42)).heap.size=f:=by rw[dh,l,o]
 refine .K 2 ?_;refine .bx (i:=0) ah bJ (t:=42) (s:=1) (v:=.agg tw) ah ah ?_;rw[l];refine .bx (i:=1) ah bJ (t:=39) (s:=2) (v:=.agg ov) ah ah ?_;rw[u];refine .K 3 ?_;exact .eqv (g':=aw (iq.at ⟨ij b f (.agg tw) (.agg ov) (ptr y) (.bool ax) (xF (nxtN aj aq 3 (bt (bt (nxtN aj aq 2 (aw (bG aj 38 #[ptr b,.agg tw,.agg ov] .normal) (c::a))) (ptr y)) (ptr f))).frame),[]⟩ (.code (.region 1 jA aq)::ir)) (c::a)) ah (XS r ((p.grown _).grown _) (by rw[dh,dh,l,o,t]) B v s)
end
noncomputable def B7:Code:=(Tryz.f7.body).getD .skip
def oL(N:au)(b:Nat)(a:Bool)(i:Nat)(x:Nat->au):Array Value:= #[N,.int .i64 11,x 2,x 3,x 4,ptr b,.bool a,.int .i64 (i:Int),x 8,x 9,x 10,x 11,x 12,x 13,x 14,x 15,x 16,x 17,x 18,x 19,x 20,x 21,x 22,x 23,x 24,x 25,x 26,x 27,x 28,x 29,x 30,x 31,x 32,x 33,x 34,x 35,x 36,x 37,x 38,x 39,x 40,x 41,x 42,x 43,x 44,x 45,x 46,x 47,x 48,x 49,x 50,x 51,x 52,x 53,x 54,x 55,x 56,x 57,x 58,x 59,x 60,x 61,x 62,x 63,x 64,x 65,x 66,x 67,x 68,x 69,x 70,x 71,x 72,x 73,x 74,x 75,x 76,x 77,x 78,x 79,x 80,x 81,x 82,x 83,x 84,x 85,x 86,x 87,x 88,x 89,x 90,x 91,x 92,x 93,x 94,x 95,x 96,x 97,x 98,x 99,x 100,x 101,x 102,x 103,x 104,x 105,x 106,x 107,x 108,x 109,x 110,x 111,x 112,x 113,x 114,x 115,x 116,x 117]
noncomputable def i7:List Item:=[.code (cd [1,1,1,1,1,0,1,2,2] B7),.inLoop (cd [1,1,1,1,1,0,1,2,2] B7),.inBlock 0,.code (cd [1,1,1,1,1,1] B7)]
noncomputable def TI(N:au)(b:Nat)(c:aC)(a:List aC):Frame:=dZ (nxtN aj aq 1 (nxtN aj aq 6 (bt (nxtN aj aq 8 (aw (bG aj 7 #[N,.int .i64 11] .normal) (c::a))) (ptr b)))).callers
section
variable {k:au->ak->Prop} {O:Nat->Prop} {W:ak} {b:Nat} {N:au} {c:aC} {a:List aC} {K K1:au->(Nat->Prop)->BR->ak->Prop}
theorem XG(r:W.heap.size=b)(o:MC k 8 #[ptr b,.int .i64 11] O (W.alloc (.cells #[.slice af 0 0,.int .i64 11] 28)) K1)(l:∀u f j h,K1 u f j h->u=.bool aq/\∀x,ay aj k f (GF 7 (c::a) (oL N b aq 0 x) i7) h):ay aj k O (aw (bG aj 7 #[N,.int .i64 11] .normal) (c::a)) W:=by
 refine .K 8 ?_;refine .bx (i:=2) ah bJ (t:=28) (s:=12) (v:=.agg #[.slice af 0 0,.int .i64 11]) ah ah ?_;rw[r];refine .K 6 ?_;refine .K 1 ?_;refine .eqv (g':=aw (bG aj 8 #[ptr b,.int .i64 11] .normal) (TI N b c a::c::a)) ah (o _ _ λu f j h p=> ?_);obtain⟨rfl,l⟩:=l u f j h p;refine .K 25 ?_;exact .lit (tm:=oL N b aq 0) ah l
end
theorem DL(b o k:Nat):(⟨b,o,af⟩:aH).add ((k:Int).toNat*9)=⟨b,o+k*9,af⟩:=by
 rw[jF];simp
def Fu(kd:Int)(ov:List au):Value:=.agg (List.toArray (tk .i64 kd::ov))
theorem Gn{n:Nat}(h:n=9)(w:ak):(ed 39).runT aj w #[]=(.ok n w, #[]):=by subst h;kernel_rfl
noncomputable def TJ(b w po n cap i:Nat)(kd:Int)(ov:List au)(x:Nat->au)(c:aC)(a:List aC):Frame:=dZ (nxtN aj aq 1 (bt (bz (nxtN aj aq 6 (dL (nxtN aj aq 2 (bt (nxtN aj aq 1 (bz (nxtN aj aq 12 (dL (nxtN aj aq 7 (GF 7 (c::a) (oL (.slice (ae ⟨w,po,af⟩) n cap) b aq i x) i7)) 29 (.bool aq))) (.pointer (ae ⟨w,po+i*9,af⟩)))) (.int .i64 kd))) 41 (.bool aq))) (.pointer (ae ⟨w,po+i*9,af⟩))) (Fu kd ov))).callers
section
variable {k:au->ak->Prop} {O:Nat->Prop} {W:ak} {b w po n cap i:Nat} {kd:Int} {ov:List au} {c:aC} {a:List aC} {K:au->(Nat->Prop)->BR->ak->Prop} {x:Nat->au}
theorem XM(U:i<n)(a1:n<=9223372036854775807)(r:¬O w)(s:W.cell? ⟨w,po+i*9,af⟩=ae (.int .i64 kd))(N:(tk .i64 kd::ov).length=9)(H:∀(j:Nat) u,(tk .i64 kd::ov)[j]?=ae u->W.cell? ((⟨w,po+i*9,af⟩:aH).add j)=ae u)(Z:kd<=11)(B:MC k 11 #[ptr b,Fu kd ov] O W K)(p:∀v f o h,K v f o h->∃l,v=.bool l/\∀x,ay aj k f (GF 7 (c::a) (oL (.slice (ae ⟨w,po,af⟩) n cap) b l (i+1) x) i7) h):ay aj k O (GF 7 (c::a) (oL (.slice (ae ⟨w,po,af⟩) n cap) b aq i x) i7) W:=by
 have y:cZ.wrap ((i:Int)+1)=((i+1:Nat):Int):=by rw[ft];omega
 refine .K 7 ?_;refine .val (i:=29) (v:=.bool (aM ((i:Int)<(n:Int)))) (v':=.bool aq) ah (by rw[decide_eq_true ag]) ?_;refine .K 12 ?_;refine .ri (i:=2) ah bI (t:=22) (x:=.tmp 35) (y:=.tmp 36) (e:=39) (n:=9) (a:=⟨w,po,af⟩) (l:=n) (c:=cap) (k:=(i:Int)) ah ah ah ⟨ag,ag⟩ NO OH ?_;rw[DL];refine .K 1 ?_;refine .ep (i:=4) ah bJ (t:=3) (x:=.tmp 38) (a:=⟨w,po+i*9,af⟩) (v:=.int .i64 kd) ah ah ib r s ?_;refine .K 2 ?_;refine .val (i:=41) (v:=.bool (aM (kd<=11))) (v':=.bool aq) ah (by rw[decide_eq_true ag]) ?_;refine .K 6 ?_;refine .ri (i:=3) ah bI (t:=22) (x:=.tmp 43) (y:=.tmp 44) (e:=39) (n:=9) (a:=⟨w,po,af⟩) (l:=n) (c:=cap) (k:=(i:Int)) ah ah ah ⟨ag,ag⟩ NO OH ?_;rw[DL];refine .jd (i:=4) ah bJ (t:=39) (x:=.tmp 45) (a:=⟨w,po+i*9,af⟩) (vs:=tk .i64 kd::ov) ah ah (λt=>ah) (λt=>Gn N t) r (cC _ _ s) H ?_;refine .K 1 ?_;refine .eqv (g':=aw (bG aj 11 #[ptr b,Fu kd ov] .normal) (TJ b w po n cap i kd ov x c a::c::a)) ah (B _ _ λv f o h R=> ?_);obtain⟨l,rfl,p⟩:=p v f o h R;refine .K 6 ?_;refine .val (i:=34) (v:=.int .i64 (cZ.wrap ((i:Int)+1))) (v':=.int .i64 ((i+1:Nat):Int)) ah (by rw[y]) ?_;refine .K 3 ?_;exact .lit (tm:=oL (.slice (ae ⟨w,po,af⟩) n cap) b l (i+1)) ah p
theorem XK(o:i<n)(r:n<=9223372036854775807)(f:¬O w)(j:W.cell? ⟨w,po+i*9,af⟩=ae (.int .i64 kd))(p:¬kd<=11)(l:∀x,ay aj k O (GF 7 (c::a) (oL (.slice (ae ⟨w,po,af⟩) n cap) b aq (i+1) x) i7) W):ay aj k O (GF 7 (c::a) (oL (.slice (ae ⟨w,po,af⟩) n cap) b aq i x) i7) W:=by
 have h:cZ.wrap ((i:Int)+1)=((i+1:Nat):Int):=by rw[ft];omega
 refine .K 7 ?_;refine .val (i:=29) (v:=.bool (aM ((i:Int)<(n:Int)))) (v':=.bool aq) ah (by rw[decide_eq_true ag]) ?_;refine .K 12 ?_;refine .ri (i:=2) ah bI (t:=22) (x:=.tmp 35) (y:=.tmp 36) (e:=39) (n:=9) (a:=⟨w,po,af⟩) (l:=n) (c:=cap) (k:=(i:Int)) ah ah ah ⟨ag,ag⟩ NO OH ?_;rw[DL];refine .K 1 ?_;refine .ep (i:=4) ah bJ (t:=3) (x:=.tmp 38) (a:=⟨w,po+i*9,af⟩) (v:=.int .i64 kd) ah ah ib f j ?_;refine .K 2 ?_;refine .val (i:=41) (v:=.bool (aM (kd<=11))) (v':=.bool ax) ah (by rw[decide_eq_false ag]) ?_;refine .K 7 ?_;refine .val (i:=34) (v:=.int .i64 (cZ.wrap ((i:Int)+1))) (v':=.int .i64 ((i+1:Nat):Int)) ah (by rw[h]) ?_;refine .K 3 ?_;exact .lit (tm:=oL (.slice (ae ⟨w,po,af⟩) n cap) b aq (i+1)) ah l
end
