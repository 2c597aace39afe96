/- Own texts: GbC, GcA, GcB. -/
import Derived.Test.YtcgjppacnhmjlaaGreatMAF
import Derived.Test.YtcgjppacnhmjlaaGreatMAE
set_option linter.all false
set_option maxRecDepth 100000
open Bool renaming true->aq,false->ax
open Decidable renaming decide->aM
open Go renaming World->ak,Value->au,Frame->aC,Goroutine->aX,heap_alloc_new->cY,Addr->aH,undef->aN,execOp->bp,sizeOf->ed
open Go.Addr renaming add_lit->jF
open Go.IntKind renaming i64->cZ,wrap_i64->ft
open Go.Proofs.Tryz renaming prog->aj
open Go.Sem renaming runT_fst->fE
open Go.World renaming block_lt_of_cell?->cC,cell?->bL,frozen?->gu,setCell_alloc_new->xg
open Option renaming some->ae,none->af
open Prod renaming snd->tu
namespace Go.Proofs.YtcgjppacnhmjlaaGreat
open Go Go.Conc Go.ConcN Go.Conc.Lib Go.ConcR.Gen Go.RowKit
namespace Sim
variable {a1:Option aH} {R:ByteArray} {H:au->(Nat->Prop)->BR->ak->Prop}
section
variable {j:au->ak->Prop} {O:Nat->Prop} {W:ak} {o rb s l po n p i k r w m t h lb y B:Nat} {N:Option aH} {c:aC} {a:List aC} {x:Nat->au} {lv:au} {e v:Int}
theorem WW{K:au->(Nat->Prop)->BR->ak->Prop}(a2:n<=1048576)(hi:¬i<n)(B:¬O s)(w:W.cell? ⟨s,0,af⟩=ae (ptr o))(R:MC j 59 #[ptr o,.slice (ae ⟨h,0,af⟩) n (n+1)] O W K)(l:∀u b k f,K u b k f->∃e r,u=.int .i64 e/\¬b s/\f.cell? ⟨s,1,af⟩=ae (ptr rb)/\MC j 60 #[ptr rb,.slice N n p] b f r/\∀u b k f,r u b k f->∃v,u=.int .i64 v/\¬b h/\f.cell? ⟨h,n,af⟩=ae (.slice af 0 0)/\∀x,ay aj j b (aw (FD 39 [] (dF (.slice N n p) (ptr s) (.slice (ae ⟨h,0,af⟩) (n+1) (n+1)) lv (x 7) (x 8) (x 9) (.int .i64 e) (.int .i64 v) (.bool aq) (.int .i64 ((0:Nat):Int)) (x 14) (x 15) x) rj) (c::a)) f):ay aj j O (aw (FD 39 [] (dF (.slice N n p) (ptr s) (.slice (ae ⟨h,0,af⟩) (n+1) (n+1)) lv (.int .i64 (i:Int)) (x 8) (x 9) (x 10) (x 11) (x 12) (x 13) (x 14) (x 15) x) su) (c::a)) W:=by
 refine .K 7 ?_;refine .V 23 (.bool (aM ((i:Int)<(n:Int)))) (.bool ax) (by rw[decide_eq_false ag]) ?_;refine .K 4 ?_;refine .T 39 [] (c::a) (λx=>dF (.slice N n p) (ptr s) (.slice (ae ⟨h,0,af⟩) (n+1) (n+1)) lv (.int .i64 (i:Int)) (x 8) (x 9) (x 10) (x 11) (x 12) (x 13) (x 14) (x 15) x) [.code (cd [1,1,1,1,0] dc),.code (cd [1,1,1,1,1] dc)] λx=> ?_;refine .Q 6 [ptr s,ptr o,.slice (ae ⟨h,0,af⟩) (n+1) (n+1),.slice N n p,.int .i64 (n:Int),.slice (ae ⟨h,0,af⟩) n (n+1)] ⟨.I,.D ⟨s,0,af⟩ B w,.I,.I,.I,.Sl h (n+1) (n+1) n ag,trivial⟩ ?_;refine .K 1 ?_;refine .C 59 #[ptr o,.slice (ae ⟨h,0,af⟩) n (n+1)] (λx=>FD 39 [] (dF (.slice N n p) (ptr s) (.slice (ae ⟨h,0,af⟩) (n+1) (n+1)) lv (.int .i64 (i:Int)) (x 8) (x 9) (x 10) (x 11) (x 12) (x 13) (x 14) (x 15) x) [.inRegion (rO (cd [1,1,1,1,0] dc)) [6,7],.code (cd [1,1,1,1,1] dc)]) (c::a) R λx u b k f t=> ?_;obtain⟨e,r,rfl,H,y,U,l⟩:=l u b k f t;refine .K 5 ?_;refine .L ⟨s,1,af⟩ (ptr rb) H y ?_;refine .K 2 ?_;refine .C 60 #[ptr rb,.slice N n p] (λx=>FD 39 [] (dF (.slice N n p) (ptr s) (.slice (ae ⟨h,0,af⟩) (n+1) (n+1)) lv (.int .i64 (i:Int)) (x 8) (x 9) (.int .i64 e) (x 11) (x 12) (x 13) (x 14) (x 15) x) [.inRegion (rO (cd [1,1,1,1,1,0] dc)) [3,4],.code (cd [1,1,1,1,1,1] dc)]) (c::a) U λx u b k f t=> ?_;obtain⟨v,rfl,Z,a1,l⟩:=l u b k f t;refine .K 7 ?_;refine .X ⟨h,0,af⟩ (n+1) (n+1) (n:Int) 1 ⟨h,n,af⟩ ⟨ag,ag⟩ (dr ag) ?_;refine .L ⟨h,n,af⟩ (.slice af 0 0) Z a1 ?_;refine .K 10 ?_;exact .T 39 [] (c::a) (λx=>dF (.slice N n p) (ptr s) (.slice (ae ⟨h,0,af⟩) (n+1) (n+1)) lv (x 7) (x 8) (x 9) (.int .i64 e) (.int .i64 v) (.bool aq) (.int .i64 ((0:Nat):Int)) (x 14) (x 15) x) rj l
theorem WX(b:¬O l)(f:W.cell? ⟨l,po+i,af⟩=ae (.slice a1 m t))(Z:n<=1048576)(R:i<n)(U:m<=1048576)(r:¬O y)(H:W.cell? ⟨y,i,af⟩=ae (.slice (ae ⟨lb,0,af⟩) (m+1) (m+1)))(o:¬O h)(u:W.cell? ⟨h,i,af⟩=ae (.slice (ae ⟨lb,0,af⟩) m (m+1)))(k:¬O lb)(w:W.cell? ⟨lb,m*2,af⟩=ae (.string lW))(N:∀x,ay aj j O (aw (FD 39 [] (dF (.slice (ae ⟨l,po,af⟩) n p) (ptr s) (.slice (ae ⟨h,0,af⟩) (n+1) (n+1)) (.slice (ae ⟨y,0,af⟩) n B) (x 7) (x 8) (x 9) (.int .i64 e) (.int .i64 v) (.bool aq) (.int .i64 (i:Int)) (.slice (ae ⟨lb,0,af⟩) (m+1) (m+1)) (.int .i64 ((0:Nat):Int)) x) tZ) (c::a)) W):ay aj j O (aw (FD 39 [] (dF (.slice (ae ⟨l,po,af⟩) n p) (ptr s) (.slice (ae ⟨h,0,af⟩) (n+1) (n+1)) (.slice (ae ⟨y,0,af⟩) n B) (x 7) (x 8) (x 9) (.int .i64 e) (.int .i64 v) (.bool aq) (.int .i64 (i:Int)) (x 14) (x 15) x) rj) (c::a)) W:=by
 refine .K 7 ?_;refine .V 104 (.bool (aM ((i:Int)<(n:Int)))) (.bool aq) (by rw[decide_eq_true ag]) ?_;refine .K 9 ?_;refine .X ⟨y,0,af⟩ n B (i:Int) 1 ⟨y,i,af⟩ ⟨ag,ag⟩ (dr ag) ?_;refine .L ⟨y,i,af⟩ (.slice (ae ⟨lb,0,af⟩) (m+1) (m+1)) r H ?_;refine .K 3 ?_;refine .T 39 [] (c::a) (λx=>dF (.slice (ae ⟨l,po,af⟩) n p) (ptr s) (.slice (ae ⟨h,0,af⟩) (n+1) (n+1)) (.slice (ae ⟨y,0,af⟩) n B) (x 7) (x 8) (x 9) (.int .i64 e) (.int .i64 v) (.bool aq) (.int .i64 (i:Int)) (.slice (ae ⟨lb,0,af⟩) (m+1) (m+1)) (x 15) x) [.code (cd [1,1,1,1,1,1,1,0,1,2,2,1,0,2,1,0] dc),.code (cd [1,1,1,1,1,1,1,0,1,2,2,1,0,2,1,1] dc),.inBlock 5,.code (cd [1,1,1,1,1,1,1,0,1,2,2,1,1] dc),.inLoop (cd [1,1,1,1,1,1,1,0,1,2,2] dc),.inBlock 4,.code (cd [1,1,1,1,1,1,1,1] dc)] λx=> ?_;refine .Q 26 [.bool aq,.bool aq,.slice (ae ⟨h,0,af⟩) (n+1) (n+1),.int .i64 (i:Int),.pointer (ae ⟨h,i,af⟩),.slice (ae ⟨lb,0,af⟩) m (m+1),.int .i64 (m:Int),.slice (ae ⟨l,po,af⟩) n p,.int .i64 (i:Int),.pointer (ae ⟨l,po+i,af⟩),.slice a1 m t,.int .i64 (m:Int),.bool aq,.bool aq,.bool aq,.slice (ae ⟨lb,0,af⟩) (m+1) (m+1),.slice (ae ⟨l,po,af⟩) n p,.int .i64 (i:Int),.pointer (ae ⟨l,po+i,af⟩),.slice a1 m t,.int .i64 (m:Int),.pointer (ae ⟨lb,m*2,af⟩),.pointer (ae ⟨lb,m*2,af⟩),.string lW,.bool aq,.bool aq] ⟨.I,.I,.I,.I,.X ⟨h,0,af⟩ (n+1) (n+1) (i:Int) 1 ⟨h,i,af⟩ ⟨ag,ag⟩ (dr ag),.D ⟨h,i,af⟩ o u,.I,.I,.I,.X ⟨l,po,af⟩ n p (i:Int) 1 ⟨l,po+i,af⟩ ⟨ag,ag⟩ (dr ag),.D ⟨l,po+i,af⟩ b f,.I,.J (.bool (aM ((m:Int)=(m:Int)))) (by rw[decide_eq_true rfl]),.I,.I,.I,.I,.I,.X ⟨l,po,af⟩ n p (i:Int) 1 ⟨l,po+i,af⟩ ⟨ag,ag⟩ (dr ag),.D ⟨l,po+i,af⟩ b f,.I,.X ⟨lb,0,af⟩ (m+1) (m+1) (m:Int) 2 ⟨lb,m*2,af⟩ ⟨ag,ag⟩ (dr ag),.I,.D ⟨lb,m*2,af⟩ k w,.J (.bool (lW.toList==lW.toList)) (by rw[beq_self_eq_true]),.I,trivial⟩ ?_;refine .K 8 ?_;exact .T 39 [] (c::a) (λx=>dF (.slice (ae ⟨l,po,af⟩) n p) (ptr s) (.slice (ae ⟨h,0,af⟩) (n+1) (n+1)) (.slice (ae ⟨y,0,af⟩) n B) (x 7) (x 8) (x 9) (.int .i64 e) (.int .i64 v) (.bool aq) (.int .i64 (i:Int)) (.slice (ae ⟨lb,0,af⟩) (m+1) (m+1)) (.int .i64 ((0:Nat):Int)) x) tZ N
theorem WY(f:¬O l)(u:W.cell? ⟨l,po+i,af⟩=ae (.slice (ae ⟨r,w,af⟩) m t))(aa:n<=1048576)(hi:i<n)(H:¬O r){b:Int}(a1:W.cell? ⟨r,w+k*2,af⟩=ae (.string R))(a2:W.cell? ⟨r,w+k*2+1,af⟩=ae (.int .i64 b))(a8:m<=1048576)(hk:k<m)(o:¬O lb)(N:W.cell? ⟨lb,k*2,af⟩=ae (.string R))(U:W.cell? ⟨lb,k*2+1,af⟩=ae (.int .i64 b))(a6:W.frozen? ⟨lb,k*2,af⟩=ax)(a7:W.frozen? ⟨lb,k*2+1,af⟩=ax)(hn:∀x,ay aj j O (aw (FD 39 [] (dF (.slice (ae ⟨l,po,af⟩) n p) (ptr s) (.slice (ae ⟨h,0,af⟩) (n+1) (n+1)) (.slice (ae ⟨y,0,af⟩) n B) (x 7) (x 8) (x 9) (.int .i64 e) (.int .i64 v) (.bool aq) (.int .i64 (i:Int)) (.slice (ae ⟨lb,0,af⟩) (m+1) (m+1)) (.int .i64 ((k+1:Nat):Int)) x) tZ) (c::a)) ((W.setCell ⟨lb,k*2,af⟩ (.string wh)).setCell ⟨lb,k*2+1,af⟩ (.int .i64 (-7)))):ay aj j O (aw (FD 39 [] (dF (.slice (ae ⟨l,po,af⟩) n p) (ptr s) (.slice (ae ⟨h,0,af⟩) (n+1) (n+1)) (.slice (ae ⟨y,0,af⟩) n B) (x 7) (x 8) (x 9) (.int .i64 e) (.int .i64 v) (.bool aq) (.int .i64 (i:Int)) (.slice (ae ⟨lb,0,af⟩) (m+1) (m+1)) (.int .i64 (k:Int)) x) tZ) (c::a)) W:=by
 have Z:cZ.wrap ((k:Int)+1)=((k+1:Nat):Int):=by rw[ft];omega
 refine .K 6 ?_;refine .X ⟨l,po,af⟩ n p (i:Int) 1 ⟨l,po+i,af⟩ ⟨ag,ag⟩ (dr ag) ?_;refine .L ⟨l,po+i,af⟩ (.slice (ae ⟨r,w,af⟩) m t) f u ?_;refine .K 2 ?_;refine .V 143 (.bool (aM ((k:Int)<(m:Int)))) (.bool aq) (by rw[decide_eq_true ag]) ?_;refine .K 6 ?_;refine .T 39 [] (c::a) (λx=>dF (.slice (ae ⟨l,po,af⟩) n p) (ptr s) (.slice (ae ⟨h,0,af⟩) (n+1) (n+1)) (.slice (ae ⟨y,0,af⟩) n B) (x 7) (x 8) (x 9) (.int .i64 e) (.int .i64 v) (.bool aq) (.int .i64 (i:Int)) (.slice (ae ⟨lb,0,af⟩) (m+1) (m+1)) (.int .i64 (k:Int)) x) [.code (cd [1,1,1,1,1,1,1,0,1,2,2,1,0,2,1,1,1,2,2,1,0,2,0] dc),.code (cd [1,1,1,1,1,1,1,0,1,2,2,1,0,2,1,1,1,2,2,1,0,2,1] dc),.inBlock 7,.code (cd [1,1,1,1,1,1,1,0,1,2,2,1,0,2,1,1,1,2,2,1,1] dc),.inLoop (cd [1,1,1,1,1,1,1,0,1,2,2,1,0,2,1,1,1,2,2] dc),.inBlock 6,.inBlock 5,.code (cd [1,1,1,1,1,1,1,0,1,2,2,1,1] dc),.inLoop (cd [1,1,1,1,1,1,1,0,1,2,2] dc),.inBlock 4,.code (cd [1,1,1,1,1,1,1,1] dc)] λx=> ?_;refine .Q 33 [.bool aq,.bool aq,.slice (ae ⟨lb,0,af⟩) (m+1) (m+1),.int .i64 (k:Int),.pointer (ae ⟨lb,k*2,af⟩),.pointer (ae ⟨lb,k*2,af⟩),.string R,.slice (ae ⟨l,po,af⟩) n p,.int .i64 (i:Int),.pointer (ae ⟨l,po+i,af⟩),.slice (ae ⟨r,w,af⟩) m t,.int .i64 (k:Int),.pointer (ae ⟨r,w+k*2,af⟩),.pointer (ae ⟨r,w+k*2,af⟩),.string R,.bool aq,.bool aq,.bool aq,.slice (ae ⟨lb,0,af⟩) (m+1) (m+1),.int .i64 (k:Int),.pointer (ae ⟨lb,k*2,af⟩),.pointer (ae ⟨lb,k*2+1,af⟩),.int .i64 b,.slice (ae ⟨l,po,af⟩) n p,.int .i64 (i:Int),.pointer (ae ⟨l,po+i,af⟩),.slice (ae ⟨r,w,af⟩) m t,.int .i64 (k:Int),.pointer (ae ⟨r,w+k*2,af⟩),.pointer (ae ⟨r,w+k*2+1,af⟩),.int .i64 b,.bool aq,.bool aq] ⟨.I,.I,.I,.I,.X ⟨lb,0,af⟩ (m+1) (m+1) (k:Int) 2 ⟨lb,k*2,af⟩ ⟨ag,ag⟩ (dr ag),.I,.D ⟨lb,k*2,af⟩ o N,.I,.I,.X ⟨l,po,af⟩ n p (i:Int) 1 ⟨l,po+i,af⟩ ⟨ag,ag⟩ (dr ag),.D ⟨l,po+i,af⟩ f u,.I,.X ⟨r,w,af⟩ m t (k:Int) 2 ⟨r,w+k*2,af⟩ ⟨ag,ag⟩ (dr ag),.I,.D ⟨r,w+k*2,af⟩ H a1,.J (.bool (R.toList==R.toList)) (by rw[beq_self_eq_true]),.I,.I,.I,.I,.X ⟨lb,0,af⟩ (m+1) (m+1) (k:Int) 2 ⟨lb,k*2,af⟩ ⟨ag,ag⟩ (dr ag),.I,.D ⟨lb,k*2+1,af⟩ o U,.I,.I,.X ⟨l,po,af⟩ n p (i:Int) 1 ⟨l,po+i,af⟩ ⟨ag,ag⟩ (dr ag),.D ⟨l,po+i,af⟩ f u,.I,.X ⟨r,w,af⟩ m t (k:Int) 2 ⟨r,w+k*2,af⟩ ⟨ag,ag⟩ (dr ag),.I,.D ⟨r,w+k*2+1,af⟩ H a2,.J (.bool (aM ((b:Int)=(b:Int)))) (by rw[decide_eq_true rfl]),.I,trivial⟩ ?_;refine .K 6 ?_;refine .X ⟨lb,0,af⟩ (m+1) (m+1) (k:Int) 2 ⟨lb,k*2,af⟩ ⟨ag,ag⟩ (dr ag) ?_;refine .S2 lb (k*2) (.string wh) (.int .i64 (-7)) (.string R) (.int .i64 b) rfl rfl o N U a6 a7 ?_;refine .K 5 ?_;refine .V 145 (.int .i64 (cZ.wrap ((k:Int)+1))) (.int .i64 ((k+1:Nat):Int)) (by rw[Z]) ?_;refine .K 3 ?_;exact .T 39 [] (c::a) (λx=>dF (.slice (ae ⟨l,po,af⟩) n p) (ptr s) (.slice (ae ⟨h,0,af⟩) (n+1) (n+1)) (.slice (ae ⟨y,0,af⟩) n B) (x 7) (x 8) (x 9) (.int .i64 e) (.int .i64 v) (.bool aq) (.int .i64 (i:Int)) (.slice (ae ⟨lb,0,af⟩) (m+1) (m+1)) (.int .i64 ((k+1:Nat):Int)) x) tZ hn
theorem X3(b:¬O l)(o:W.cell? ⟨l,po+i,af⟩=ae (.slice a1 m t))(H:n<=1048576)(u:i<n)(w:¬k<m)(r:∀x,ay aj j O (aw (FD 39 [] (dF (.slice (ae ⟨l,po,af⟩) n p) (ptr s) (.slice (ae ⟨h,0,af⟩) (n+1) (n+1)) (.slice (ae ⟨y,0,af⟩) n B) (x 7) (x 8) (x 9) (.int .i64 e) (.int .i64 v) (.bool aq) (.int .i64 ((i+1:Nat):Int)) (x 14) (x 15) x) rj) (c::a)) W):ay aj j O (aw (FD 39 [] (dF (.slice (ae ⟨l,po,af⟩) n p) (ptr s) (.slice (ae ⟨h,0,af⟩) (n+1) (n+1)) (.slice (ae ⟨y,0,af⟩) n B) (x 7) (x 8) (x 9) (.int .i64 e) (.int .i64 v) (.bool aq) (.int .i64 (i:Int)) (.slice (ae ⟨lb,0,af⟩) (m+1) (m+1)) (.int .i64 (k:Int)) x) tZ) (c::a)) W:=by
 have f:cZ.wrap ((i:Int)+1)=((i+1:Nat):Int):=by rw[ft];omega
 refine .K 6 ?_;refine .X ⟨l,po,af⟩ n p (i:Int) 1 ⟨l,po+i,af⟩ ⟨ag,ag⟩ (dr ag) ?_;refine .L ⟨l,po+i,af⟩ (.slice a1 m t) b o ?_;refine .K 2 ?_;refine .V 143 (.bool (aM ((k:Int)<(m:Int)))) (.bool ax) (by rw[decide_eq_false ag]) ?_;refine .K 7 ?_;refine .V 106 (.int .i64 (cZ.wrap ((i:Int)+1))) (.int .i64 ((i+1:Nat):Int)) (by rw[f]) ?_;refine .K 3 ?_;exact .T 39 [] (c::a) (λx=>dF (.slice (ae ⟨l,po,af⟩) n p) (ptr s) (.slice (ae ⟨h,0,af⟩) (n+1) (n+1)) (.slice (ae ⟨y,0,af⟩) n B) (x 7) (x 8) (x 9) (.int .i64 e) (.int .i64 v) (.bool aq) (.int .i64 ((i+1:Nat):Int)) (x 14) (x 15) x) rj r
theorem X4(t:¬i<n)(o:MC j 33 #[.int .i64 e] O W H)(l:∀u b k f,H u b k f->u=.int .i64 v/\ay aj j b (aw (c.finish (.bool aq)) a) f):ay aj j O (aw (FD 39 [] (dF (.slice N n p) (ptr s) (.slice (ae ⟨h,0,af⟩) (n+1) (n+1)) lv (x 7) (x 8) (x 9) (.int .i64 e) (.int .i64 v) (.bool aq) (.int .i64 (i:Int)) (x 14) (x 15) x) rj) (c::a)) W:=by
 refine .K 7 ?_;refine .V 104 (.bool (aM ((i:Int)<(n:Int)))) (.bool ax) (by rw[decide_eq_false ag]) ?_;refine .K 7 ?_;refine .C 33 #[.int .i64 e] (λx=>FD 39 [] (dF (.slice N n p) (ptr s) (.slice (ae ⟨h,0,af⟩) (n+1) (n+1)) lv (x 7) (x 8) (x 9) (.int .i64 e) (.int .i64 v) (.bool aq) (.int .i64 (i:Int)) (x 14) (x 15) x) [.inRegion (rO (cd [1,1,1,1,1,1,1,1,0] dc)) [1,2,3,4,5,6,7],.code (cd [1,1,1,1,1,1,1,1,1] dc)]) (c::a) o λx u b k f r=> ?_;obtain⟨rfl,l⟩:=l u b k f r;refine .K 2 ?_;refine .V 186 (.bool (aM ((v:Int)=(v:Int)))) (.bool aq) (by rw[decide_eq_true rfl]) ?_;refine .K 5 ?_;refine .K 2 ?_;exact .E (aw (c.finish (.bool aq)) a) l
end
def T7(v0 v1 v5 a b v9 v10:au)(x:Nat->au):Array Value:= #[v0,v1,x 2,x 3,x 4,v5,a,x 7,b,v9,v10,x 11,x 12,x 13,x 14,x 15,x 16,x 17,x 18,x 19,x 20,x 21,x 22,x 23,x 24,x 25,x 26,x 27,x 28,x 29,x 30,x 31,x 32,x 33,x 34,x 35,x 36,x 37,x 38,x 39,x 40,x 41,x 42,x 43,x 44,x 45,x 46,x 47,x 48,x 49,x 50,x 51,x 52,x 53,x 54,x 55,x 56,x 57,x 58,x 59,x 60,x 61,x 62,x 63,x 64,x 65,x 66,x 67,x 68,x 69,x 70,x 71,x 72,x 73,x 74,x 75,x 76,x 77,x 78,x 79,x 80,x 81,x 82,x 83,x 84,x 85,x 86,x 87,x 88,x 89,x 90,x 91,x 92,x 93,x 94,x 95,x 96,x 97,x 98,x 99,x 100,x 101,x 102,x 103,x 104,x 105,x 106,x 107,x 108,x 109,x 110,x 111,x 112,x 113,x 114,x 115,x 116,x 117]
noncomputable def ub:List Item:=[.code (cd [1,1,1,1,1,1,0,1,2,2] B7),.inLoop (cd [1,1,1,1,1,1,0,1,2,2] B7),.inBlock 2,.code (cd [1,1,1,1,1,1,1] B7)]
noncomputable def EA:List Item:=[.code (cd [1,1,1,1,1,1,0,1,2,2,1,0,2,1,0] B7),.code (cd [1,1,1,1,1,1,0,1,2,2,1,0,2,1,1] B7),.inBlock 3,.code (cd [1,1,1,1,1,1,0,1,2,2,1,1] B7),.inLoop (cd [1,1,1,1,1,1,0,1,2,2] B7),.inBlock 2,.code (cd [1,1,1,1,1,1,1] B7)]
noncomputable def uc:List Item:=[.code (cd [1,1,1,1,1,1,0,1,2,2,1,0,2,1,1,0,1,2,2] B7),.inLoop (cd [1,1,1,1,1,1,0,1,2,2,1,0,2,1,1,0,1,2,2] B7),.inBlock 4,.code (cd [1,1,1,1,1,1,0,1,2,2,1,0,2,1,1,1] B7),.inBlock 3,.code (cd [1,1,1,1,1,1,0,1,2,2,1,1] B7),.inLoop (cd [1,1,1,1,1,1,0,1,2,2] B7),.inBlock 2,.code (cd [1,1,1,1,1,1,1] B7)]
noncomputable def Bd:List Item:=[.code (cd [1,1,1,1,1,1,0,1,2,2,1,0,2,1,1,1,0,0] B7),.code (cd [1,1,1,1,1,1,0,1,2,2,1,0,2,1,1,1,0,1] B7),.code (cd [1,1,1,1,1,1,0,1,2,2,1,0,2,1,1,1,1] B7),.inBlock 3,.code (cd [1,1,1,1,1,1,0,1,2,2,1,1] B7),.inLoop (cd [1,1,1,1,1,1,0,1,2,2] B7),.inBlock 2,.code (cd [1,1,1,1,1,1,1] B7)]
noncomputable def EB:List Item:=[.code (cd [1,1,1,1,1,1,0,1,2,2,1,0,2,1,1,1,1,0] B7),.code (cd [1,1,1,1,1,1,0,1,2,2,1,0,2,1,1,1,1,1] B7),.inBlock 3,.code (cd [1,1,1,1,1,1,0,1,2,2,1,1] B7),.inLoop (cd [1,1,1,1,1,1,0,1,2,2] B7),.inBlock 2,.code (cd [1,1,1,1,1,1,1] B7)]
noncomputable def Kk:List Item:=[.code (cd [1,1,1,1,1,1,0,1,2,2,1,0,2,1,1] B7),.inBlock 3,.code (cd [1,1,1,1,1,1,0,1,2,2,1,1] B7),.inLoop (cd [1,1,1,1,1,1,0,1,2,2] B7),.inBlock 2,.code (cd [1,1,1,1,1,1,1] B7)]
noncomputable def Bz:Array Oper:=rO (cd [1,1,1,1,1,1,0,1,2,2,1,0,2,1,0] B7)
theorem ay.Pz{j:au->ak->Prop}{O:Nat->Prop}{g:aX}{w:ak}(p q:au)(b:Nat)(k:w.heap.size=b)(f:¬O b)(r:p.oneCell'=aq)(s:q.oneCell'=aq)(l:ay aj j O (bt (bt g (ptr b)) aN) (w.alloc (.cells #[p,q] 42)))(t:g.status=.running:=by kernel_rfl)(h:dW g (lr g):=by exact bJ)(a:∀w,(bp (aG g).eval (oG g)).runT aj w #[]=(.ok (.value (ptr w.heap.size)) (w.alloc eI), #[]):=by(intro _;kernel_rfl))(u:(bt g (ptr b)).status=.running:=by kernel_rfl)(c:dW (bt g (ptr b)) (lr (bt g (ptr b))):=by exact bJ)(o:(oG (bt g (ptr b))).op=.store (gl (oG (bt g (ptr b))).op) (je (oG (bt g (ptr b))).op) (oc (oG (bt g (ptr b))).op):=by kernel_rfl)(x:(aG (bt g (ptr b))).eval (je (oG (bt g (ptr b))).op)=.pointer (ae ⟨b,0,af⟩):=by kernel_rfl)(y:(aG (bt g (ptr b))).eval (oc (oG (bt g (ptr b))).op)=.agg #[p,q]:=by kernel_rfl)(v:∀w,(ed (gl (oG (bt g (ptr b))).op)).runT aj w #[]=(.ok 2 w, #[]):=by(intro _;kernel_rfl)):ay aj j O g w:=by
 subst k;refine .uk t h (λw=>by rw[<-fE aj _ _ #[],a w]) (λw=>congrArg tu (a w)) (.S2 w.heap.size 0 p q (.pointer af) (.pointer af) r s f ?_ ?_ ?_ ?_ ?_ u c o x y v);·unfold bL;rw[cY];rfl
 ·unfold bL;rw[cY];rfl
 ·unfold gu;rw[cY];rfl
 ·unfold gu;rw[cY];rfl
 ·unfold eI;rw[xg,xg];exact l
section
variable {j:au->ak->Prop} {O:Nat->Prop} {W:ak} {f h nt gc i k b o rb r m t n:Nat} {U:Option aH} {c:aC} {a:List aC} {x:Nat->au} {u:au}
theorem XE(h:¬i<n)(b:∀x,ay aj j O (aw (FD 7 [] (T7 (.slice U n t) (.int .i64 11) (ptr f) (.bool aq) (.int .i64 ((0:Nat):Int)) (x 9) (x 10) x) ub) (c::a)) W):ay aj j O (GF 7 (c::a) (oL (.slice U n t) f aq i x) i7) W:=by
 refine .K 7 ?_;refine .V 29 (.bool (aM ((i:Int)<(n:Int)))) (.bool ax) (by rw[decide_eq_false ag]) ?_;refine .K 13 ?_;exact .T 7 [] (c::a) (λx=>T7 (.slice U n t) (.int .i64 11) (ptr f) (.bool aq) (.int .i64 ((0:Nat):Int)) (x 9) (x 10) x) ub b
theorem XL(l:¬O f)(b:W.cell? ⟨f,0,af⟩=ae (.slice (ae ⟨h,0,af⟩) nt gc))(o:¬i<nt)(k:ay aj j O (aw (c.finish (.bool aq)) a) W):ay aj j O (aw (FD 7 [] (T7 u (.int .i64 11) (ptr f) (.bool aq) (.int .i64 (i:Int)) (x 9) (x 10) x) ub) (c::a)) W:=by
 refine .K 7 ?_;refine .L ⟨f,0,af⟩ (.slice (ae ⟨h,0,af⟩) nt gc) l b ?_;refine .K 2 ?_;refine .V 54 (.bool (aM ((i:Int)<(nt:Int)))) (.bool ax) (by rw[decide_eq_false ag]) ?_;refine .K 11 ?_;refine .K 2 ?_;exact .E (aw (c.finish (.bool aq)) a) k
theorem XO(r:¬O f)(l:W.cell? ⟨f,0,af⟩=ae (.slice (ae ⟨h,0,af⟩) nt gc))(H:i<nt)(N:nt<=8)(t:¬O h)(p:W.cell? ⟨h,i*2,af⟩=ae (ptr o))(w:W.cell? ⟨h,i*2+1,af⟩=ae (ptr rb))(B:W.heap.size=b)(v:¬O b)(y:∀x,ay aj j O (aw (FD 7 [] (T7 u (.int .i64 11) (ptr f) (.bool aq) (.int .i64 (i:Int)) (ptr b) (x 10) x) EA) (c::a)) (W.alloc (.cells #[ptr o,ptr rb] 42))):ay aj j O (aw (FD 7 [] (T7 u (.int .i64 11) (ptr f) (.bool aq) (.int .i64 (i:Int)) (x 9) (x 10) x) ub) (c::a)) W:=by
 refine .K 7 ?_;refine .L ⟨f,0,af⟩ (.slice (ae ⟨h,0,af⟩) nt gc) r l ?_;refine .K 2 ?_;refine .V 54 (.bool (aM ((i:Int)<(nt:Int)))) (.bool aq) (by rw[decide_eq_true ag]) ?_;refine .K 13 ?_;refine .L ⟨f,0,af⟩ (.slice (ae ⟨h,0,af⟩) nt gc) r l ?_;refine .K 1 ?_;refine .X ⟨h,0,af⟩ nt gc (i:Int) 2 ⟨h,i*2,af⟩ ⟨ag,ag⟩ (dr ag) ?_;refine .La ⟨h,i*2,af⟩ [ptr o,ptr rb] t (cC _ _ p) (λs R k=>by
   match s,k with
   |0,k=>cases k;rw[jF];exact p
   |1,k=>cases k;rw[jF];exact w
   |s+2,k=>simp at k) ?_
 refine .Pz (ptr o) (ptr rb) b B v rfl rfl ?_;refine .K 2 ?_;exact .T 7 [] (c::a) (λx=>T7 u (.int .i64 11) (ptr f) (.bool aq) (.int .i64 (i:Int)) (ptr b) (x 10) x) EA y
theorem XJ(a8:¬O b)(al:W.cell? ⟨b,0,af⟩=ae (ptr o))(am:W.cell? ⟨b,1,af⟩=ae (ptr rb))(a7:¬O rb)(aa:W.cell? ⟨rb,0,af⟩=ae (.slice U m t))(hB:MC j 12 #[ptr o] O W H)(hs:∀Z l p k,H Z l p k->Z=.int .i64 (m:Int)/\¬l b/\k.cell? ⟨b,0,af⟩=ae (ptr o)/\k.cell? ⟨b,1,af⟩=ae (ptr rb)/\¬l rb/\k.cell? ⟨rb,0,af⟩=ae (.slice U m t))(hn:∀Z l p k,H Z l p k->∀x,ay aj j l (aw (FD 7 [] (T7 u (.int .i64 11) (ptr f) (.bool aq) (.int .i64 (i:Int)) (ptr b) (.int .i64 ((0:Nat):Int)) x) uc) (c::a)) k):ay aj j O (aw (FD 7 [] (T7 u (.int .i64 11) (ptr f) (.bool aq) (.int .i64 (i:Int)) (ptr b) (x 10) x) EA) (c::a)) W:=by
 obtain⟨Vs,ao⟩:∃Vs:Nat->au,Vs=λi=>VN [ptr b,ptr o,aN,.pointer (ae ⟨b,1,af⟩),ptr rb,ptr rb,ptr rb,.slice U m t,.int .i64 (m:Int)] i:=⟨_,rfl⟩
 have key:=ay.mixed (Post:=j) (ops:=Bz) (id:=16) (df:=[]) (fr:=FD 7 [] #[] []) (cs:=c::a) (k:=Kk) (tm:=T7 u (.int .i64 11) (ptr f) (.bool aq) (.int .i64 (i:Int)) (ptr b) (x 10) x) (O:=O) (W:=W) [2,9,10] (λi=>VN [ptr b,ptr o,aN,.pointer (ae ⟨b,1,af⟩),ptr rb,ptr rb,ptr rb,.slice U m t,.int .i64 (m:Int)] i)
  (λs N l k=>(s=0/\N=[]/\l=O/\k=W)\/((s=1/\N=[.int .i64 (m:Int)]\/s=2/\N=[.int .i64 (m:Int),.bool aq]\/s=3/\N=[.int .i64 (m:Int),.bool aq,.bool aq])/\∃p,H (.int .i64 (m:Int)) l p k))
  ah ah (λs N l k r ap i hi v=> ?_) (λs N l k y rest r ad ac hd hq R=> ?_) (λN l k y r ac hq=> ?_) (.inl ⟨rfl,rfl,rfl,rfl⟩)
 ·exact .E _ key
 ·have hf:¬l b/\k.cell? ⟨b,0,af⟩=ae (ptr o)/\k.cell? ⟨b,1,af⟩=ae (ptr rb)/\¬l rb/\k.cell? ⟨rb,0,af⟩=ae (.slice U m t):=by
   rcases r with⟨_,_,rfl,rfl⟩|⟨_,p,w⟩;·exact⟨a8,al,am,a7,aa⟩
   ·exact(hs _ _ _ _ w).2
  obtain⟨f1,f2,f3,f4,f5⟩:=hf;have ab:i<11:=hi
  match i,ab,v with
  |0,_,_=>exact .I
  |1,_,_=>exact .D ⟨b,0,af⟩ f1 f2
  |2,_,v=>cases v
  |3,_,_=>exact .I
  |4,_,_=>exact .D ⟨b,1,af⟩ f1 f3
  |5,_,_=>exact .I
  |6,_,_=>exact .I
  |7,_,_=>exact .D ⟨rb,0,af⟩ f4 f5
  |8,_,_=>exact .I
  |9,_,v=>cases v
  |10,_,v=>cases v
  |i+11,hi,_=>omega
 ·have ai:s<3:=ad
  match s,ai with
  |0,_=>
   rcases r with⟨_,rfl,rfl,rfl⟩|⟨⟨h,_⟩|⟨h,_⟩|⟨h,_⟩,_⟩
   ·have B:cB y 68 (ptr o)=y:=gU (hd 1 ah ah);rw[<-B]at R⊢;refine .K 1 ?_;refine .C 12 #[ptr o] (λ_=>FD 7 [] (bS (cA Bz Bz.size) (T7 u (.int .i64 11) (ptr f) (.bool aq) (.int .i64 (i:Int)) (ptr b) (x 10) x) (cB y 68 (ptr o))) (.inRegion Bz (2::rest)::Kk)) (c::a) hB λ_ Z a1 a2 a6 hu=> ?_;obtain rfl:=(hs _ _ _ _ hu).1;rw[AQ ah];exact R _ a1 a6 (.inr ⟨.inl ⟨rfl,rfl⟩,a2,hu⟩)
   all_goals cases h
  |1,_=>
   rcases r with⟨h,_⟩|⟨⟨_,rfl⟩|⟨h,_⟩|⟨h,_⟩,p,w⟩;·cases h
   ·have B:cB y 75 (.int .i64 (m:Int))=y:=gU (hd 8 ah ah);have an:cB (cB y 75 (.int .i64 (m:Int))) 69 (.int .i64 (m:Int))=y:=by rw[B];exact gU (hq 0 ag)
    rw[<-an]at R⊢;exact .Bp (f:=7) (i:=9) (v:=.bool aq) ah ah ah (.J (.bool (aM ((m:Int)=(m:Int)))) (by rw[decide_eq_true rfl])) (R (.bool aq) l k (.inr ⟨.inr (.inl ⟨rfl,rfl⟩),p,w⟩))
   all_goals cases h
  |2,_=>
   rcases r with⟨h,_⟩|⟨⟨h,_⟩|⟨_,rfl⟩|⟨h,_⟩,p,w⟩;·cases h
   ·cases h
   ·have B:cB y 76 (.bool aq)=y:=gU (hq 1 ag);rw[<-B]at R⊢;exact .Bp (f:=7) (i:=10) (v:=.bool aq) ah ah ah .I (R (.bool aq) l k (.inr ⟨.inr (.inr ⟨rfl,rfl⟩),p,w⟩))
   ·cases h
 ·rcases r with⟨h,_⟩|⟨⟨h,_⟩|⟨h,_⟩|⟨_,rfl⟩,p,w⟩;·cases h
  ·cases h
  ·cases h
  ·have B:cB y 6 (.bool aq)=y:=gU (hq 2 bc);rw[<-B];refine .K 1 ?_;refine .K 7 ?_;exact .T 7 [] (c::a) (λx=>T7 u (.int .i64 11) (ptr f) (.bool aq) (.int .i64 (i:Int)) (ptr b) (.int .i64 ((0:Nat):Int)) x) uc (hn _ l p k w)
theorem XH(l:¬O b)(w:W.cell? ⟨b,0,af⟩=ae (ptr o))(s:W.cell? ⟨b,1,af⟩=ae (ptr rb))(h:¬O rb)(p:W.cell? ⟨rb,0,af⟩=ae (.slice U m t))(v:¬k<m)(r:∀x,ay aj j O (aw (FD 7 [] (T7 u (.int .i64 11) (ptr f) (.bool aq) (.int .i64 (i:Int)) (ptr b) (x 10) x) Bd) (c::a)) W):ay aj j O (aw (FD 7 [] (T7 u (.int .i64 11) (ptr f) (.bool aq) (.int .i64 (i:Int)) (ptr b) (.int .i64 (k:Int)) x) uc) (c::a)) W:=by
 refine .K 5 ?_;refine .L ⟨b,1,af⟩ (ptr rb) l s ?_;refine .K 2 ?_;refine .L ⟨rb,0,af⟩ (.slice U m t) h p ?_;refine .K 2 ?_;refine .V 84 (.bool (aM ((k:Int)<(m:Int)))) (.bool ax) (by rw[decide_eq_false ag]) ?_;refine .K 8 ?_;exact .T 7 [] (c::a) (λx=>T7 u (.int .i64 11) (ptr f) (.bool aq) (.int .i64 (i:Int)) (ptr b) (x 10) x) Bd r
theorem XI(w:¬O b)(Z:W.cell? ⟨b,0,af⟩=ae (ptr o))(B:W.cell? ⟨b,1,af⟩=ae (ptr rb))(N:¬O rb)(U:W.cell? ⟨rb,0,af⟩=ae (.slice (ae ⟨r,0,af⟩) m t))(hk:k<m)(hm:m<=3000)(a6:¬O r)(a7:W.cell? ⟨r,k*2,af⟩=ae (.string R))(hB:MC j 13 #[.agg #[ptr o,ptr rb],.string R] O W H)(y:∀l p v s,H l p v s->l=.bool aq/\∀x,ay aj j p (aw (FD 7 [] (T7 u (.int .i64 11) (ptr f) (.bool aq) (.int .i64 (i:Int)) (ptr b) (.int .i64 ((k+1:Nat):Int)) x) uc) (c::a)) s):ay aj j O (aw (FD 7 [] (T7 u (.int .i64 11) (ptr f) (.bool aq) (.int .i64 (i:Int)) (ptr b) (.int .i64 (k:Int)) x) uc) (c::a)) W:=by
 have a2:cZ.wrap ((k:Int)+1)=((k+1:Nat):Int):=by rw[ft];omega
 refine .K 5 ?_;refine .L ⟨b,1,af⟩ (ptr rb) w B ?_;refine .K 2 ?_;refine .L ⟨rb,0,af⟩ (.slice (ae ⟨r,0,af⟩) m t) N U ?_;refine .K 2 ?_;refine .V 84 (.bool (aM ((k:Int)<(m:Int)))) (.bool aq) (by rw[decide_eq_true ag]) ?_;refine .K 8 ?_;refine .T 7 [] (c::a) (λx=>T7 u (.int .i64 11) (ptr f) (.bool aq) (.int .i64 (i:Int)) (ptr b) (.int .i64 (k:Int)) x) [.code (cd [1,1,1,1,1,1,0,1,2,2,1,0,2,1,1,0,1,2,2,1,0,2] B7),.inBlock 5,.code (cd [1,1,1,1,1,1,0,1,2,2,1,0,2,1,1,0,1,2,2,1,1] B7),.inLoop (cd [1,1,1,1,1,1,0,1,2,2,1,0,2,1,1,0,1,2,2] B7),.inBlock 4,.code (cd [1,1,1,1,1,1,0,1,2,2,1,0,2,1,1,1] B7),.inBlock 3,.code (cd [1,1,1,1,1,1,0,1,2,2,1,1] B7),.inLoop (cd [1,1,1,1,1,1,0,1,2,2] B7),.inBlock 2,.code (cd [1,1,1,1,1,1,1] B7)] λx=> ?_;refine .Q 10 [.agg #[ptr o,ptr rb],.pointer (ae ⟨b,1,af⟩),ptr rb,ptr rb,ptr rb,.slice (ae ⟨r,0,af⟩) m t,.int .i64 (k:Int),.pointer (ae ⟨r,k*2,af⟩),.pointer (ae ⟨r,k*2,af⟩),.string R] ⟨.Da ⟨b,0,af⟩ [ptr o,ptr rb] w (cC _ _ Z) (λa1 l h=>by
   match a1,h with
   |0,h=>cases h;exact Z
   |1,h=>cases h;exact B
   |a1+2,h=>simp at h) rfl,.I,.D ⟨b,1,af⟩ w B,.I,.I,.D ⟨rb,0,af⟩ N U,.I,.X ⟨r,0,af⟩ m t (k:Int) 2 ⟨r,k*2,af⟩ ⟨ag,ag⟩ (dr ag),.I,.D ⟨r,k*2,af⟩ a6 a7,trivial⟩ ?_
 refine .K 1 ?_;refine .C 13 #[.agg #[ptr o,ptr rb],.string R] (λx=>FD 7 [] (T7 u (.int .i64 11) (ptr f) (.bool aq) (.int .i64 (i:Int)) (ptr b) (.int .i64 (k:Int)) x) [.inRegion (rO (cd [1,1,1,1,1,1,0,1,2,2,1,0,2,1,1,0,1,2,2,1,0,2] B7)) [10,11],.inBlock 5,.code (cd [1,1,1,1,1,1,0,1,2,2,1,0,2,1,1,0,1,2,2,1,1] B7),.inLoop (cd [1,1,1,1,1,1,0,1,2,2,1,0,2,1,1,0,1,2,2] B7),.inBlock 4,.code (cd [1,1,1,1,1,1,0,1,2,2,1,0,2,1,1,1] B7),.inBlock 3,.code (cd [1,1,1,1,1,1,0,1,2,2,1,1] B7),.inLoop (cd [1,1,1,1,1,1,0,1,2,2] B7),.inBlock 2,.code (cd [1,1,1,1,1,1,1] B7)]) (c::a) hB λx l p v s hu=> ?_;obtain⟨rfl,y⟩:=y l p v s hu;refine .K 6 ?_;refine .V 89 (.int .i64 (cZ.wrap ((k:Int)+1))) (.int .i64 ((k+1:Nat):Int)) (by rw[a2]) ?_;refine .K 3 ?_;exact .T 7 [] (c::a) (λx=>T7 u (.int .i64 11) (ptr f) (.bool aq) (.int .i64 (i:Int)) (ptr b) (.int .i64 ((k+1:Nat):Int)) x) uc y
theorem XN(y:¬O b)(t:W.cell? ⟨b,0,af⟩=ae (ptr o))(B:W.cell? ⟨b,1,af⟩=ae (ptr rb))(w:MC j 14 #[.agg #[ptr o,ptr rb]] O W H)(s:∀k l r p,H k l r p->k=.bool aq/\∀x,ay aj j l (aw (FD 7 [] (T7 u (.int .i64 11) (ptr f) (.bool aq) (.int .i64 (i:Int)) (ptr b) (x 10) x) EB) (c::a)) p):ay aj j O (aw (FD 7 [] (T7 u (.int .i64 11) (ptr f) (.bool aq) (.int .i64 (i:Int)) (ptr b) (x 10) x) Bd) (c::a)) W:=by
 refine .K 9 ?_;refine .La ⟨b,0,af⟩ [ptr o,ptr rb] y (cC _ _ t) (λv k h=>by
   match v,h with
   |0,h=>cases h;exact t
   |1,h=>cases h;exact B
   |v+2,h=>simp at h) ?_
 refine .K 1 ?_;refine .C 14 #[.agg #[ptr o,ptr rb]] (λx=>FD 7 [] (T7 u (.int .i64 11) (ptr f) (.bool aq) (.int .i64 (i:Int)) (ptr b) (x 10) x) [.inRegion (rO (cd [1,1,1,1,1,1,0,1,2,2,1,0,2,1,1,1,0,1,3] B7)) [1,2],.code (cd [1,1,1,1,1,1,0,1,2,2,1,0,2,1,1,1,1] B7),.inBlock 3,.code (cd [1,1,1,1,1,1,0,1,2,2,1,1] B7),.inLoop (cd [1,1,1,1,1,1,0,1,2,2] B7),.inBlock 2,.code (cd [1,1,1,1,1,1,1] B7)]) (c::a) w λx k l r p N=> ?_;obtain⟨rfl,s⟩:=s k l r p N;refine .K 3 ?_;exact .T 7 [] (c::a) (λx=>T7 u (.int .i64 11) (ptr f) (.bool aq) (.int .i64 (i:Int)) (ptr b) (x 10) x) EB s
theorem XF(B:¬O b)(t:W.cell? ⟨b,0,af⟩=ae (ptr o))(N:W.cell? ⟨b,1,af⟩=ae (ptr rb))(U:i<8)(y:MC j 15 #[ptr f,.agg #[ptr o,ptr rb],.agg (opC 6 0 0 ⟨#[]⟩ ⟨#[]⟩ (-1) (.slice af 0 0) (.slice af 0 0) (.slice af 0 0))] O W H)(s:∀k l r p,H k l r p->k=.bool aq/\∀x,ay aj j l (aw (FD 7 [] (T7 u (.int .i64 11) (ptr f) (.bool aq) (.int .i64 ((i+1:Nat):Int)) (x 9) (x 10) x) ub) (c::a)) p):ay aj j O (aw (FD 7 [] (T7 u (.int .i64 11) (ptr f) (.bool aq) (.int .i64 (i:Int)) (ptr b) (x 10) x) EB) (c::a)) W:=by
 have w:cZ.wrap ((i:Int)+1)=((i+1:Nat):Int):=by rw[ft];omega
 refine .K 10 ?_;refine .La ⟨b,0,af⟩ [ptr o,ptr rb] B (cC _ _ t) (λv k h=>by
   match v,h with
   |0,h=>cases h;exact t
   |1,h=>cases h;exact N
   |v+2,h=>simp at h) ?_
 refine .K 2 ?_;refine .C 15 #[ptr f,.agg #[ptr o,ptr rb],.agg (opC 6 0 0 ⟨#[]⟩ ⟨#[]⟩ (-1) (.slice af 0 0) (.slice af 0 0) (.slice af 0 0))] (λx=>FD 7 [] (T7 u (.int .i64 11) (ptr f) (.bool aq) (.int .i64 (i:Int)) (ptr b) (x 10) x) [.inRegion (rO (cd [1,1,1,1,1,1,0,1,2,2,1,0,2,1,1,1,1,1,3] B7)) [3,4],.inBlock 3,.code (cd [1,1,1,1,1,1,0,1,2,2,1,1] B7),.inLoop (cd [1,1,1,1,1,1,0,1,2,2] B7),.inBlock 2,.code (cd [1,1,1,1,1,1,1] B7)]) (c::a) y λx k l r p R=> ?_;obtain⟨rfl,s⟩:=s k l r p R;refine .K 6 ?_;refine .V 59 (.int .i64 (cZ.wrap ((i:Int)+1))) (.int .i64 ((i+1:Nat):Int)) (by rw[w]) ?_;refine .K 3 ?_;exact .T 7 [] (c::a) (λx=>T7 u (.int .i64 11) (ptr f) (.bool aq) (.int .i64 ((i+1:Nat):Int)) (x 9) (x 10) x) ub s
end
def vD(v0 v3 v4 v5:au)(x:Nat->au):Array Value:= #[v0,x 1,x 2,v3,v4,v5,x 6,x 7,x 8,x 9,x 10,x 11,x 12,x 13,x 14,x 15,x 16,x 17,x 18,x 19,x 20,x 21,x 22,x 23,x 24,x 25,x 26,x 27,x 28,x 29,x 30,x 31,x 32,x 33,x 34,x 35,x 36,x 37,x 38,x 39,x 40,x 41,x 42,x 43,x 44,x 45,x 46,x 47,x 48]
noncomputable def Bc:List Item:=[.code (cd [1,1,0,1,2,1,4,1,4,1,3,1] qM),.inBlock 0,.code (cd [1,1,1] qM)]
noncomputable def qp:Array Oper:=rO (cd [1,1,0,1,2,1,4,1,4,1,3,0] qM)
noncomputable def Ve:List Item:=[.code (cd [1,1,0,1,2,1,4,1,4,1,3,0] qM),.code (cd [1,1,0,1,2,1,4,1,4,1,3,1] qM),.inBlock 0,.code (cd [1,1,1] qM)]
section
variable {j:au->ak->Prop} {O:Nat->Prop} {W:ak} {f Z nb o rb:Nat} {on ot:Int} {key aP:ByteArray} {nn:Int} {pv fv mv:au} {v1:au} {c:aC} {a:List aC}
theorem VU{K1 K3:au->(Nat->Prop)->BR->ak->Prop}{K2:au->au->(Nat->Prop)->BR->ak->Prop}{x0:Nat->au}(hx:x0 5=ptr nb)(h:lQ O f Z nb o rb 9 on ot key aP nn pv fv mv 11 W)(hB:MC j 20 #[ptr o] O W K1)(h1:∀u k l b,K1 u k l b->(¬k nb/\b.cell? ⟨nb,0,af⟩=ae (ptr o)/\b.cell? ⟨nb,1,af⟩=ae (ptr rb))/\MC j 21 #[ptr rb] k b (K2 u))(h2:∀u v k l b,K2 u v k l b->(¬k nb/\b.cell? ⟨nb,0,af⟩=ae (ptr o)/\b.cell? ⟨nb,1,af⟩=ae (ptr rb))/\MC j 9 #[ptr f,u,v] k b K3)(h3:∀u k l b,K3 u k l b->(¬k nb/\b.cell? ⟨nb,0,af⟩=ae (ptr o)/\b.cell? ⟨nb,1,af⟩=ae (ptr rb))/\ay aj j k (aw (c.finish u) a) b):ay aj j O (aw (fh.at ⟨fg f Z v1 (.bool ax) x0,[]⟩ fi) (c::a)) W:=by
 refine .V 5 (x0 5) (ptr nb) hx ?_;refine .T 11 [] (c::a) (λx=>vD (ptr f) (ptr Z) (.bool ax) (ptr nb) x) [.code (cd [1,1] qM)] λx=> ?_;refine .K 4 ?_;refine .L ⟨Z,0,af⟩ (.int .i64 9) h.fA h.o0 ?_;refine .K 27 ?_;refine .T 11 [] (c::a) (λx=>vD (ptr f) (ptr Z) (.bool ax) (ptr nb) x) Ve λx=> ?_
 have key:=ay.mixed (Post:=j) (ops:=qp) (id:=9) (df:=[]) (fr:=FD 11 [] #[] []) (cs:=c::a) (k:=Bc) (tm:=vD (ptr f) (ptr Z) (.bool ax) (ptr nb) x) (O:=O) (W:=W) [3,6,7,8] (λi=>VN [ptr f,ptr nb,ptr o,aN,.pointer (ae ⟨nb,1,af⟩),ptr rb] i)
  (λs B k b=>(s=0/\B=[]/\k=O/\b=W)\/(s=1/\∃u l,B=[u]/\K1 u k l b)\/(s=2/\∃u v l,B=[u,v]/\K2 u v k l b)\/(s=3/\∃u v z l,B=[u,v,z]/\K3 z k l b)\/(s=4/\∃u v z l,B=[u,v,z,z]/\K3 z k l b))
  ah ah (λs B k b t ab i hi r=> ?_) (λs B k b y rest t a6 a2 hd hq w=> ?_) (λB k b y t a2 hq=> ?_) (.inl ⟨rfl,rfl,rfl,rfl⟩)
 ·exact .E _ key
 ·have hf:¬k nb/\b.cell? ⟨nb,0,af⟩=ae (ptr o)/\b.cell? ⟨nb,1,af⟩=ae (ptr rb):=by
   rcases t with⟨_,_,rfl,rfl⟩|⟨_,u,l,_,p⟩|⟨_,u,v,l,_,p⟩|⟨_,u,v,z,l,_,p⟩|⟨_,u,v,z,l,_,p⟩;·exact⟨h.jO,h.n0,h.n1⟩
   ·exact(h1 _ _ _ _ p).1
   ·exact(h2 _ _ _ _ _ p).1
   ·exact(h3 _ _ _ _ p).1
   ·exact(h3 _ _ _ _ p).1
  obtain⟨f1,f2,f3⟩:=hf;have a1:i<9:=hi
  match i,a1,r with
  |0,_,_=>exact .I
  |1,_,_=>exact .I
  |2,_,_=>exact .D ⟨nb,0,af⟩ f1 f2
  |3,_,r=>cases r
  |4,_,_=>exact .I
  |5,_,_=>exact .D ⟨nb,1,af⟩ f1 f3
  |6,_,r=>cases r
  |7,_,r=>cases r
  |8,_,r=>cases r
  |i+9,hi,_=>omega
 ·have a7:s<4:=a6
  match s,a7 with
  |0,_=>
   rcases t with⟨_,rfl,rfl,rfl⟩|⟨h,_⟩|⟨h,_⟩|⟨h,_⟩|⟨h,_⟩
   ·have hx:cB y 40 (ptr o)=y:=gU (hd 2 ah ah);rw[<-hx]at w⊢;refine .K 1 ?_;refine .C 20 #[ptr o] (λ_=>FD 11 [] (bS (cA qp qp.size) (vD (ptr f) (ptr Z) (.bool ax) (ptr nb) x) (cB y 40 (ptr o))) (.inRegion qp (3::rest)::Bc)) (c::a) hB λ_ u H N R hu=> ?_;rw[AQ ah];exact w u H R (.inr (.inl ⟨rfl,u,N,rfl,hu⟩))
   all_goals cases h
  |1,_=>
   rcases t with⟨h,_⟩|⟨_,u,l,rfl,p⟩|⟨h,_⟩|⟨h,_⟩|⟨h,_⟩;·cases h
   ·have hx:cB y 43 (ptr rb)=y:=gU (hd 5 ah ah);rw[<-hx]at w⊢;refine .K 1 ?_;refine .C 21 #[ptr rb] (λ_=>FD 11 [] (bS (cA qp qp.size) (vD (ptr f) (ptr Z) (.bool ax) (ptr nb) x) (cB y 43 (ptr rb))) (.inRegion qp (6::rest)::Bc)) (c::a) (h1 _ _ _ _ p).2 λ_ v H N R hu=> ?_;rw[AQ ah];exact w v H R (.inr (.inr (.inl ⟨rfl,u,v,N,rfl,hu⟩)))
   all_goals cases h
  |2,_=>
   rcases t with⟨h,_⟩|⟨h,_⟩|⟨_,u,v,l,rfl,p⟩|⟨h,_⟩|⟨h,_⟩;·cases h
   ·cases h
   ·have U:cB y 38 (ptr f)=y:=gU (hd 0 ah ah);have a8:cB (cB y 38 (ptr f)) 41 u=y:=by rw[U];exact gU (hq 0 ag)
    have aa:cB (cB (cB y 38 (ptr f)) 41 u) 44 v=y:=by rw[a8];exact gU (hq 1 ag)
    rw[<-aa]at w⊢;refine .K 1 ?_;refine .C 9 #[ptr f,u,v] (λ_=>FD 11 [] (bS (cA qp qp.size) (vD (ptr f) (ptr Z) (.bool ax) (ptr nb) x) (cB (cB (cB y 38 (ptr f)) 41 u) 44 v)) (.inRegion qp (7::rest)::Bc)) (c::a) (h2 _ _ _ _ _ p).2 λ_ z H N R hu=> ?_;rw[AQ ah];exact w z H R (.inr (.inr (.inr (.inl ⟨rfl,u,v,z,N,rfl,hu⟩))))
   all_goals cases h
  |3,_=>
   rcases t with⟨h,_⟩|⟨h,_⟩|⟨h,_⟩|⟨_,u,v,z,l,rfl,p⟩|⟨h,_⟩;·cases h
   ·cases h
   ·cases h
   ·have U:cB y 45 z=y:=gU (hq 2 ag);rw[<-U]at w⊢;exact .Bp (f:=11) (i:=8) (v:=z) ah ah ah .I (w z k b (.inr (.inr (.inr (.inr ⟨rfl,u,v,z,l,rfl,p⟩)))))
   ·cases h
 ·rcases t with⟨h,_⟩|⟨h,_⟩|⟨h,_⟩|⟨h,_⟩|⟨_,u,v,z,l,rfl,p⟩;·cases h
  ·cases h
  ·cases h
  ·cases h
  ·have U:cB y 4 z=y:=gU (hq 3 bc);rw[<-U];refine .K 3 ?_;exact .E (aw (c.finish z) a) (h3 _ _ _ _ p).2
end
