/- Own texts: SimE, SimF, SimG, SimH. -/
import Derived.Test.YtcgjppacnhmjlaaGreatMC
set_option linter.all false
open Array renaming all_eq_true_iff_forall_mem->jh,getElem?_map->qB,forIn_toList->ay9
open Bind renaming bind->eN
open Bool renaming true->aq,false->ax,false_eq_true->dx,or_eq_true->qE,eq_iff_iff->xx,not_false->CQ,not_true->aD7
open Decidable renaming decide->aM
open Go renaming World->ak,Value->au,TypeId->aK,Program->aV,Addr->aH,Operand->bC,FuncId->bW,underlying->iZ,Sem->bA,IntKind->mK,stuck->iO,unsupported->va,eqGuard->om,convert->oo,binOp->kh,program->qJ,behindNumber->A6,typeInfo->vg,samePointer->Dg,cellAtBytes->Dh,BinOp->pM,movedPointer->Pg,sameAddr->I5,movedNumber->Pm,frozen->Dp,byteOfCell->Pt,shape->Ah
open Go.Builtin renaming zeroCells->xq,unsafeAdd_->Cz,unsafeString_->GU,max2->CV,append_->H6,holdsCells->NQ,copy_->Ov,max_->OC,len_->OD,firstCells->aw9,mayShare->ay7,lenOf->aB0
open Go.Op renaming equal->nG,eqGuardIn->xD,equalIn->xL,maxDepth->A8,addrCmp->Hw,twoPlaces->P5,unary->I3,stringOp->Pe,intArith->Pf,addrMod->Pk,intDiv->Ps,shift->Pw
open Go.Sem renaming bind->dp,run->fu
open List renaming foldlM_cons->CN,forIn_cons->aB5
open Nat renaming le_refl->aL,mul_le_mul_right->ay0,div_le_div_right->ay1
open Option renaming some->ae,none->af,map_eq_some_iff->ji,bind_some->qD
open Pure renaming pure->bN
namespace Go.Proofs.YtcgjppacnhmjlaaGreat
open Go
namespace Sim
variable {l r:Array au} {a b h k:au} {c:aK} {s v:Nat} {j f o p:aH}
section
variable {X:Ctx} {R:BR} {t u w x:Type}
theorem ab6(h:bq X.G R l r)(c:Array aK)(t:aK):aD X (VX X) R (OD c t l) (OD c t r):=by
 unfold OD;cases s:c[0]? with
 |none=>exact bu _ _
 |some t0=>
  cases j:l[0]? with
  |none=>exact bu _ _
  |some v=>
   obtain⟨u,e,b⟩:=h.get j;rw[e];dsimp only;refine aD.bn (jT t0) λk f d=> ?_;have b:=b.mono f.sub;cases d with
   |string=>cases b<;>first|exact .pure (.int _ _)|exact bu _ _
   |array n e=>exact .pure (.int _ _)
   |pointer a=>
    refine aD.bn (jT a) λo p d=> ?_;cases d<;>first|exact .pure (.int _ _)|exact bu _ _
   |slice e=>cases b<;>first|exact .pure (.int _ _)|exact bu _ _
   |_=>cases b<;>exact bu _ _
theorem wQ{c:BR}(f:VR X.G c a b):aD X eg R (aB0 a) (aB0 b):=by
 cases f<;>first|exact .pure rfl|exact bu _ _
theorem mn(j:VR X.G R a b)(s n:Nat):aD X (bq X.G) R (aw9 s n a) (aw9 s n b):=by
 cases j with
 |slice l c f=>exact Mc f _
 |snil l c=>exact .pure .nil
 |string s=>
  refine .pure ⟨rfl,λi k o f h=> ?_⟩;rw[f]at h;cases h;rw[qB]at f;obtain⟨x,_,rfl⟩:=ji.1 f;exact .int _ _
 |_=>exact bu _ _
theorem Cq{G:bW->Prop}{z:Array au}(a:bq G R z l)(n:Nat):bq G R (xq z n) (xq l n):=by
 have:=Cs a (n*z.size);unfold xq;rw[a.1]at this⊢;exact this
theorem aa3(h:bq X.G R l r)(k:Array aK)(t:aK):aD X (VX X) R (Ov k t l) (Ov k t r):=by
 unfold Ov;cases ht:k[0]? with
 |none=>exact bu _ _
 |some t0=>
  cases U:l[0]? with
  |none=>exact bu _ _
  |some a1=>
   cases W:l[1]? with
   |none=>exact bu _ _
   |some a2=>
    obtain⟨v',e,j⟩:=h.get U;obtain⟨x',B,a⟩:=h.get W;rw[e,B];dsimp only;refine aD.bn (jT t0) λR1 p d=> ?_;have j:=j.mono p.sub;have a:=a.mono p.sub;cases d with
    |slice o=>
     cases j with
     |snil Z c=>
      refine aD.bn (wQ a) λv b n=> ?_;refine aD.bn (iU o) λw f s=> ?_;exact(mn ((a.mono b.sub).mono f.sub) s _).bind λx _ c y _=>.pure (.int _ _)
     |slice Z c N=>
      refine aD.bn (wQ a) λv b n=> ?_;refine aD.bn (iU o) λw f s=> ?_;refine(mn ((a.mono b.sub).mono f.sub) s _).bind λx H c y u=> ?_;exact aD.bn (za _ _ 0 (((N.mono b.sub).mono f.sub).mono H.sub) u.list.1 u.list.2) λ_ _ _=>.pure (.int _ _)
     |_=>exact bu _ _
    |_=>exact bu _ _
theorem dH.pre{P:aV}{s:bA t}{f:t->bA u}(c:∀w,∃a b,s.run P w=.ok a b)(h:∀a,dH P (f a)):dH P (s.bind f):=λw=>by
 obtain⟨a,b,e⟩:=c w;rw[run_bind,e];exact h a b
theorem BF{P:aV}{s:bA t}{f:t->bA u}(j:∀w,∃a c,s.run P w=.ok a c)(h:∀a w,∃b c,(f a).run P w=.ok b c):∀w,∃b c,(s.bind f).run P w=.ok b c:=λw=>by
 obtain⟨a,c,e⟩:=j w;rw[run_bind,e];exact h a c
theorem Lx{P:aV}(a:aH)(n:Nat):∀w,∃b c,(NQ a n).run P w=.ok b c:=λw=>by
 unfold NQ;refine BF (s:=Ah a.block) (λw=>⟨_,_,rfl⟩) (λo w=> ?_) w;cases o<;>exact⟨_,_,rfl⟩
theorem BG{P:aV}(size f n:Nat)(base:Option aH)(x:au):∀w,∃b c,(ay7 size f n base x).run P w=.ok b c:=by
 have fin:∀(t:Bool) (w:ak),∃b c,(if(! t)=aq then(bN aq:bA Bool)else match x with
   | .slice (ae b) _ _=>do bN (!(<-NQ b (n*size))||base.any (·.block==b.block))
   |_=>bN ax).run P w=.ok b c:=by
  intro t w;split;·exact⟨_,_,rfl⟩
  ·split;·exact BF (Lx _ _) (λa w=>⟨_,_,rfl⟩) w
   ·exact⟨_,_,rfl⟩
 unfold ay7;cases base with
 |none=>exact λw=>fin aq w
 |some a=>
  refine BF (Lx _ _) λt w=> ?_;refine BF (s:=Dp _) (λw=>⟨_,_,rfl⟩) (λz w=> ?_) w;exact fin _ w
theorem iv{A:BR->t->u->Prop}{c:Prop}[Decidable c]{s1 s2:bA t}{j a:bA u}(h:dH X.P s1)(b:¬c->aD X A R s2 a):aD X A R (if c then s1 else s2) (if c then j else a):=by
 split;·exact .dead h
 ·rename_i f;exact b f
theorem ZR{ts:Array aK}(T:∀t0 e,ts[0]?=ae t0->X.P.underlying t0=ae (.slice e)->pV X e)(an:bq X.G R l r)(ao:aK)(hi:∀t1,ts[1]?=ae t1->∀aF,X.P.underlying t1≠ae (.int aF)):aD X (VX X) R (H6 ts ao l) (H6 ts ao r):=by
 unfold H6;cases ht:ts[0]? with
 |none=>exact bu _ _
 |some t0=>
  cases ar:l[0]? with
  |none=>exact bu _ _
  |some aJ=>
   cases av:l[1]? with
   |none=>exact bu _ _
   |some aP=>
    obtain⟨v',e,hv⟩:=an.get ar;obtain⟨x',e',o⟩:=an.get av;rw[e,e'];dsimp only;refine aD.bind (kz t0) λR1 h1 d d' y=> ?_;obtain⟨rfl,a6⟩:=y;have hv:=hv.mono h1.sub;have o:=o.mono h1.sub;cases d with
    |slice f=>
     cases hv with
     |slice a1 ac p=>
      have hb:VR X.G R1 _ _:=VR.slice a1 ac p;dsimp only;refine aD.bn (iU f) λR2 h2 s=> ?_;cases a2:ts[1]? with
      |none=>
       dsimp only;refine aD.bind (A:=λ_ a b=>a=ax/\b=ax) (aD.pure ⟨rfl,rfl⟩) λR4 Z z z' k=> ?_;have W:=h2.sub.trans Z.sub;obtain⟨rfl,rfl⟩:=k;simp only[dx,if_false,CQ,if_true,false_or];refine aD.bn (wQ o) λR5 h5 n=> ?_;have h:=W.trans h5.sub;split
       ·refine(mn (o.mono h) s n).bind λB j c1 ad hc=> ?_;exact aD.bn (za _ _ 0 (((p.mono h).mono j.sub).add _) hc.list.1 hc.list.2) λR7 v _=>.pure (.slice _ _ (((p.mono h).mono j.sub).mono v.sub))
       ·refine(jS f).bind λB j w x c=> ?_;obtain⟨rfl,_⟩:=c;refine iv (.bind (qe (.error _) trivial) _) λ_=> ?_;refine(jS f).bind λR7 v w x c=> ?_;obtain⟨rfl,_⟩:=c;refine iv (.bind (.pre (BG _ _ _ _ _) λb=>.ite (.pre (λam=>⟨_,_,rfl⟩) λ_=>.unsupported _ az) (.unsupported _ az)) _) λ_=> ?_;refine .choose λnc=> ?_;refine(jS f).bind λR8 h8 w x c=> ?_;obtain⟨rfl,_⟩:=c;refine aD.bn (z7 _) λR9 h9 _=> ?_;have u:=(((h.trans j.sub).trans v.sub).trans h8.sub).trans h9.sub;refine(mn (hb.mono u) s a1).bind λa7 H o1 al ho=> ?_;have U:=u.trans H.sub;refine(mn (o.mono U) s n).bind λa8 N n1 ai hn=> ?_;refine(sF (T t0 f ht a6)).bind λaa t z z' k=> ?_;refine(sD ((((ho.mono N.sub).mono t.sub).append (hn.mono t.sub)).append (Cq k.cells _)) f).bind λab gg a a' p=> ?_;exact .pure (.slice _ _ p)
      |some t1=>
       dsimp only;refine aD.bind (kz t1) λR3 h3 dd ap y=> ?_;refine aD.bind (A:=λ_ a b=>a=ax/\b=ax) (aD.pure ⟨?_,?_⟩) λR4 Z z z' k=> ?_;·cases dd<;>first|rfl|exact absurd y.2 (hi _ a2 _)
       ·rw[<-y.1];cases dd<;>first|rfl|exact absurd y.2 (hi _ a2 _)
       have W:=(h2.sub.trans h3.sub).trans Z.sub;obtain⟨rfl,rfl⟩:=k;simp only[dx,if_false,CQ,if_true,false_or];refine aD.bn (wQ o) λR5 h5 n=> ?_;have h:=W.trans h5.sub;split
       ·refine(mn (o.mono h) s n).bind λB j c1 ad hc=> ?_;exact aD.bn (za _ _ 0 (((p.mono h).mono j.sub).add _) hc.list.1 hc.list.2) λR7 v _=>.pure (.slice _ _ (((p.mono h).mono j.sub).mono v.sub))
       ·refine(jS f).bind λB j w x c=> ?_;obtain⟨rfl,_⟩:=c;refine iv (.bind (qe (.error _) trivial) _) λ_=> ?_;refine(jS f).bind λR7 v w x c=> ?_;obtain⟨rfl,_⟩:=c;refine iv (.bind (.pre (BG _ _ _ _ _) λb=>.ite (.pre (λam=>⟨_,_,rfl⟩) λ_=>.unsupported _ az) (.unsupported _ az)) _) λ_=> ?_;refine .choose λnc=> ?_;refine(jS f).bind λR8 h8 w x c=> ?_;obtain⟨rfl,_⟩:=c;refine aD.bn (z7 _) λR9 h9 _=> ?_;have u:=(((h.trans j.sub).trans v.sub).trans h8.sub).trans h9.sub;refine(mn (hb.mono u) s a1).bind λa7 H o1 al ho=> ?_;have U:=u.trans H.sub;refine(mn (o.mono U) s n).bind λa8 N n1 ai hn=> ?_;refine(sF (T t0 f ht a6)).bind λaa t z z' k=> ?_;refine(sD ((((ho.mono N.sub).mono t.sub).append (hn.mono t.sub)).append (Cq k.cells _)) f).bind λab gg a a' p=> ?_;exact .pure (.slice _ _ p)
     |snil a1 ac=>
      have hb:VR X.G R1 _ _:=VR.snil a1 ac;dsimp only;refine aD.bn (iU f) λR2 h2 s=> ?_;cases a2:ts[1]? with
      |none=>
       dsimp only;refine aD.bind (A:=λ_ a b=>a=ax/\b=ax) (aD.pure ⟨rfl,rfl⟩) λR4 Z z z' k=> ?_;have W:=h2.sub.trans Z.sub;obtain⟨rfl,rfl⟩:=k;simp only[dx,if_false,CQ,if_true,false_or];refine aD.bn (wQ o) λR5 h5 n=> ?_;have h:=W.trans h5.sub;split
       ·refine(mn (o.mono h) s n).bind λB j c1 ad hc=> ?_;exact .pure (.snil _ _)
       ·refine(jS f).bind λB j w x c=> ?_;obtain⟨rfl,_⟩:=c;refine iv (.bind (qe (.error _) trivial) _) λ_=> ?_;refine(jS f).bind λR7 v w x c=> ?_;obtain⟨rfl,_⟩:=c;refine iv (.bind (.pre (BG _ _ _ _ _) λb=>.ite (.pre (λam=>⟨_,_,rfl⟩) λ_=>.unsupported _ az) (.unsupported _ az)) _) λ_=> ?_;refine .choose λnc=> ?_;refine(jS f).bind λR8 h8 w x c=> ?_;obtain⟨rfl,_⟩:=c;refine aD.bn (z7 _) λR9 h9 _=> ?_;have u:=(((h.trans j.sub).trans v.sub).trans h8.sub).trans h9.sub;refine(mn (hb.mono u) s a1).bind λa7 H o1 al ho=> ?_;have U:=u.trans H.sub;refine(mn (o.mono U) s n).bind λa8 N n1 ai hn=> ?_;refine(sF (T t0 f ht a6)).bind λaa t z z' k=> ?_;refine(sD ((((ho.mono N.sub).mono t.sub).append (hn.mono t.sub)).append (Cq k.cells _)) f).bind λab gg a a' p=> ?_;exact .pure (.slice _ _ p)
      |some t1=>
       dsimp only;refine aD.bind (kz t1) λR3 h3 dd ap y=> ?_;refine aD.bind (A:=λ_ a b=>a=ax/\b=ax) (aD.pure ⟨?_,?_⟩) λR4 Z z z' k=> ?_;·cases dd<;>first|rfl|exact absurd y.2 (hi _ a2 _)
       ·rw[<-y.1];cases dd<;>first|rfl|exact absurd y.2 (hi _ a2 _)
       have W:=(h2.sub.trans h3.sub).trans Z.sub;obtain⟨rfl,rfl⟩:=k;simp only[dx,if_false,CQ,if_true,false_or];refine aD.bn (wQ o) λR5 h5 n=> ?_;have h:=W.trans h5.sub;split
       ·refine(mn (o.mono h) s n).bind λB j c1 ad hc=> ?_;exact .pure (.snil _ _)
       ·refine(jS f).bind λB j w x c=> ?_;obtain⟨rfl,_⟩:=c;refine iv (.bind (qe (.error _) trivial) _) λ_=> ?_;refine(jS f).bind λR7 v w x c=> ?_;obtain⟨rfl,_⟩:=c;refine iv (.bind (.pre (BG _ _ _ _ _) λb=>.ite (.pre (λam=>⟨_,_,rfl⟩) λ_=>.unsupported _ az) (.unsupported _ az)) _) λ_=> ?_;refine .choose λnc=> ?_;refine(jS f).bind λR8 h8 w x c=> ?_;obtain⟨rfl,_⟩:=c;refine aD.bn (z7 _) λR9 h9 _=> ?_;have u:=(((h.trans j.sub).trans v.sub).trans h8.sub).trans h9.sub;refine(mn (hb.mono u) s a1).bind λa7 H o1 al ho=> ?_;have U:=u.trans H.sub;refine(mn (o.mono U) s n).bind λa8 N n1 ai hn=> ?_;refine(sF (T t0 f ht a6)).bind λaa t z z' k=> ?_;refine(sD ((((ho.mono N.sub).mono t.sub).append (hn.mono t.sub)).append (Cq k.cells _)) f).bind λab gg a a' p=> ?_;exact .pure (.slice _ _ p)
     |_=>exact bu _ _
    |_=>exact bu _ _
end
section
variable {X:Ctx} {R:BR} {t u w x:Type}
theorem ac0(h:bq X.G R l r)(N:Array aK)(t:aK):aD X (VX X) R (OC N t l) (OC N t r):=by
 have m2:∀{R:BR} {a j b u:au},VR X.G R a j->VR X.G R b u->aD X (VX X) R (CV a b) (CV j u):=by
  intro R a j b u p s;cases p with
  |int a1 n=>
   cases s with
   |int k' n'=>exact .pure (.int _ _)
   |ptr h=>exact .dead (.unsupported _ az)
   |_=>exact bu _ _
  |string a2=>
   cases s with
   |string s'=>exact .pure (.string _)
   |ptr h=>exact .dead (.unsupported _ az)
   |_=>exact bu _ _
  |ptr h=>exact .dead (by unfold CV;exact .unsupported _ az)
  |_=>
   cases s with
   |ptr h=>exact .dead (.unsupported _ az)
   |_=>exact bu _ _
 have U:∀(k f:List au){R:BR} {a j:au},k.length=f.length->(∀(i:Nat) v o,k[i]?=ae v->f[i]?=ae o->VR X.G R v o)->VR X.G R a j->aD X (VX X) R (k.foldlM CV a) (f.foldlM CV j):=by
  intro k;induction k with
  |nil=>intro f R a j c _ p;cases f with
   |nil=>exact .pure p
   |cons=>simp at c
  |cons v k Z=>intro f R a j c H p;cases f with
   |nil=>simp at c
   |cons o f=>
    rw[CN,CN];exact(m2 p (H 0 v o rfl rfl)).bind λR1 W b u s=>Z f (by simpa using c) (λi x y h w=>(H (i+1) x y h w).mono W.sub) s
 have c:=h.list;unfold OC;cases e:l.toList with
 |nil=>exact bu _ _
 |cons x k=>
  cases B:r.toList with
  |nil=>rw[e,B]at c;simp at c
  |cons y f=>
   rw[e,B]at c;exact U k f (by simpa using c.1) (λi v o h w=>c.2 (i+1) v o h w) (c.2 0 x y rfl rfl)
theorem QB{P:aV}{d:Nat}{off:Nat}{n:Int}(h:s<=v){x:Nat}(a:Dh P d c s off n=ae x):Dh P d c v off n=ae x:=by
 unfold Dh at a⊢;dsimp only at a⊢;split at a;·cases a
 ·rename_i k;rw[if_neg k];cases j:Pt P d c (off%P.cellsOf c)with
  |none=>rw[j]at a;cases a
  |some b=>
   rw[j]at a;simp only[Option.bind_eq_bind,qD]at a⊢;split at a;·cases a
   ·rename_i f;rw[if_neg];·exact a
    ·simp only[qE,decide_eq_true_eq,not_or,Int.not_lt,ge_iff_le,Int.not_le]at f⊢;refine⟨f.1,Int.lt_of_lt_of_le f.2 ?_⟩;have:s*P.bytesOf c<=v*P.bytesOf c:=ay0 _ h;exact Int.ofNat_le.2 this
theorem ad5(h:bq X.G R l r)(k:Array aK)(t:aK)(U:∀f,k[0]?=ae f->∀e,X.P.underlying f=ae (.pointer e)->X.P.underlying e=ae (.int .u8)):aD X (VX X) R (GU k t l) (GU k t r):=by
 obtain⟨w⟩:=l;obtain⟨o⟩:=r
 match w,o,h with
 |[],o,h=>exact bu _ _
 |[a],o,h=>exact bu _ _
 |a::b::c::w,o,h=>exact .dead (by unfold GU;exact .stuck _)
 |[a,b],[],h=>exact absurd h.1 az
 |[a,b],[_],h=>exact absurd h.1 az
 |[a,b],_::_::_::_,h=>exact absurd h.1 az
 |[a,b],[y,B],h=>
  have j:=h.2 0 a y rfl rfl;have v:=h.2 1 b B rfl rfl;unfold GU;cases j with
  |pnil=>
   dsimp only;refine aD.bn (wO v) λx u n=> ?_;cases k[0]? with
   |none=>exact bu _ _
   |some f=>
    dsimp only;refine iv (.bind (qe (.error _) trivial) _) λ_=> ?_;refine iv (.bind (.unsupported _ az) _) λ_=> ?_;split;·exact .pure (.string _)
    ·exact sE (.error _) _ trivial
  |@ptr a0 Z j=>
   dsimp only;refine aD.bn (wO v) λx u n=> ?_;cases N:k[0]? with
   |none=>exact bu _ _
   |some f=>
    dsimp only;refine iv (.bind (qe (.error _) trivial) _) λ_=> ?_;refine iv (.bind (.unsupported _ az) _) λ_=> ?_;split;·exact .pure (.string _)
    ·refine aD.bind (aa4 f) λW H e e' p=> ?_;obtain⟨rfl,p⟩:=p;have j:=(j.mono u.sub).mono H.sub;exact .ustr j (U f N e p) λs=>.pure (.string s)
  |_=>exact bu _ _
theorem Ma(op:pM)(k:mK)(x y:Int):aD X (VX X) R (Pf op k x y) (Pf op k x y):=by
 cases op<;>first|exact .pure (.int _ _)|exact bu _ _
theorem ab5(op:pM)(k:mK)(x y:Int):aD X (VX X) R (Ps op k x y) (Ps op k x y):=by
 unfold Ps;split;·exact sE (.error _) _ trivial
 ·cases op<;>first|exact .pure (.int _ _)|exact bu _ _
theorem FQ(op:pM)(x y:Int):aD X (VX X) R (Op.intCmp op x y) (Op.intCmp op x y):=by
 cases op<;>first|exact .pure (.bool _)|exact bu _ _
theorem ac5(op:pM)(k:mK)(x:Int)(a:mK)(y:Int):aD X (VX X) R (Pw op k x a y) (Pw op k x a y):=by
 unfold Pw;split;·exact sE (.error _) _ trivial
 ·cases op<;>first|exact .pure (.int _ _)|exact bu _ _
theorem uC(op:pM)(x y:ByteArray):aD X (VX X) R (Pe op x y) (Pe op x y):=by
 unfold Pe;cases op<;>first|exact .pure (.bool _)|exact bu _ _|skip
 dsimp only;split;·exact .dead (.unsupported _ az)
 ·exact .pure (.string _)
theorem uB{A:BR->t->t->Prop}(h:R s v){f a:Option (aK×Nat)->bA t}(k:∀b c,ShR X b c->aD X A R (f b) (a c)):aD X A R ((Ah s).bind f) ((Ah v).bind a):=.shape h k
theorem wP(b:X.fz=aq){a a':aH}(h:AR R a a'):aD X eg R (Dp a) (Dp a'):=.frozen b h λ_=>.pure rfl
theorem Mm(c:X.fz=aq)(h:AR R j f):aD X eg R (stringish j) (stringish f):=by
 refine aD.bn (wP c h) λo k b=> ?_;cases b with
 |true=>exact .pure rfl
 |false=>
  simp only[dx,if_false];refine uB (k.sub _ _ h.1) λs l a=> ?_;have a:=a.fz c;subst a;cases l with
  |none=>exact .pure rfl
  |some s=>exact wP c ⟨k.sub _ _ h.1,rfl,rfl⟩
theorem ac1(a:X.fz=aq)(h:AR R j f)(k:AR R o p):aD X eg R (mayBeOne j o) (mayBeOne f p):=by
 refine aD.bn (Mm a h) λH b x=> ?_;refine aD.bn (Mm a (k.mono b.sub)) λN l y=> ?_;have t:=(h.mono b.sub).mono l.sub;have w:=(k.mono b.sub).mono l.sub;refine aD.bn (aD.shape t.1 λs B c=>.pure (by rw[c.fz a])) λU r u=> ?_;exact aD.bn (aD.shape (r.sub _ _ w.1) λs B c=>.pure (by rw[c.fz a])) λW Z v=>.pure rfl
theorem AR.eq_iff(r:BR.iy s R)(h:AR R j f)(k:AR R o p):(j.block==o.block)=(f.block==p.block)/\(j==o)=(f==p):=by
 have l:(j.block==o.block)=(f.block==p.block):=by
  by_cases e:j.block=o.block
  ·have this:f.block=p.block:=r.fn _ _ _ h.1 (e▸k.1);rw[beq_iff_eq.2 e,beq_iff_eq.2 this]
  ·have this:f.block≠p.block:=λt=>e (r.inj _ _ _ h.1 (t▸k.1));rw[beq_false_of_ne e,beq_false_of_ne this]
 refine⟨l,?_⟩;obtain⟨x,a,c⟩:=j;obtain⟨x',N,W⟩:=f;obtain⟨y,b,u⟩:=o;obtain⟨y',U,Z⟩:=p;obtain⟨_,v,w⟩:=h;obtain⟨_,B,H⟩:=k;subst v w B H;have:∀(x y a b:Nat) (c u:Option Nat),((⟨x,a,c⟩:aH)==⟨y,b,u⟩)=((x==y)&&((a==b)&&(c==u))):=by
  intro x y a b c u;rw[xx];simp
 rw[this,this,l]
theorem FW(k:X.fz=aq)(w:BR.iy X.P.globals.size R)(h:AR R j f)(a:AR R o p):aD X eg R (I5 j o) (I5 f p):=by
 obtain⟨u,v⟩:=AR.eq_iff w h a;unfold I5;rw[u,v];split;·exact .pure rfl
 ·refine aD.bn (wP k h) λB b x=> ?_;refine aD.bn (wP k (a.mono b.sub)) λH l y=> ?_;have s:=(h.mono b.sub).mono l.sub;have t:=(a.mono b.sub).mono l.sub;refine iv (.bind (.unsupported _ az) _) λ_=> ?_;refine aD.bn (FV s) λN c _=> ?_;refine aD.bn (FV (t.mono c.sub)) λU r _=> ?_;refine aD.bn (ac1 k ((s.mono c.sub).mono r.sub) ((t.mono c.sub).mono r.sub)) λW Z o=> ?_;cases o with
  |true=>exact .choose λ_=>.pure rfl
  |false=>exact .pure rfl
theorem Mk(y:X.fz=aq)(w:BR.iy X.P.globals.size R)(x:VR X.G R a b)(p:VR X.G R h k){c f j l:Option aH}(r:a=.pointer c)(s:b=.pointer f)(t:h=.pointer j)(u:k=.pointer l):aD X eg R (Dg c j) (Dg f l):=by
 subst r s t u;cases x with
 |pnil=>
  cases p with
  |pnil=>exact .pure rfl
  |ptr o=>exact .pure rfl
 |ptr o=>
  cases p with
  |pnil=>exact .pure rfl
  |ptr v=>exact FW y w o v
end
def vI(P:aV)(fz:Bool):Nat->aK->Bool
 |0,_=>ax
 |d+1,t=>match P.underlying t with
  |some .bool|some (.int _)|some .string|some (.slice _)|some (.func ..)=>aq
  |some (.pointer _)|some .unsafePointer=>fz
  |some (.struct a)=>a.all λf=>vI P fz d f.type
  |_=>ax
section
variable {X:Ctx} {R:BR} {t u w x:Type}
theorem M9{c:Type}{f:Type}(body b:f->c->bA (ForInStep c)):∀(l:List f){R:BR} (s:c),(∀i∈l,∀a,BR.Ext X.P.globals.size R a->∀s,aD X eg a (body i s) (b i s))->aD X eg R (forIn l s body) (forIn l s b)
 |[],R,s,_=>.pure rfl
 |i::l,R,s,h=>by
  rw[aB5,aB5];refine aD.bn (h i az R (.refl _ _) s) λr o x=> ?_;cases x with
  |done s=>exact .pure rfl
  |yield s=>exact M9 body b l s λj p a k s=>h j (by simp[p]) a (o.trans k) s
theorem M7:∀(k n:Nat)(t:aK){R:BR} {x N y U:au},vI X.P X.fz k t=aq->k<=n->BR.iy X.P.globals.size R->VR X.G R x N->VR X.G R y U->aD X eg R (xL n t x y) (xL n t N U)
 |0,_,_,_,_,_,_,_,h,_,_,_,_=>by simp[vI]at h
 |k+1,0,_,_,_,_,_,_,_,h,_,_,_=>ag
 |k+1,n+1,t,R,x,N,y,U,h,hn,r,l,a=>by
  unfold xL;refine aD.bind (kz t) λW w d d' H=> ?_;obtain⟨rfl,H⟩:=H;unfold vI at h;rw[H]at h;have l:=l.mono w.sub;have a:=a.mono w.sub;have r:=w.dC r;cases d with
  |bool=>cases l<;>cases a<;>first|exact .pure rfl|exact bu _ _
  |string=>cases l<;>cases a<;>first|exact .pure rfl|exact bu _ _
  |slice e=>cases l<;>cases a<;>first|exact .pure rfl|exact bu _ _
  |func al b am=>cases l<;>cases a<;>first|exact .pure rfl|exact bu _ _
  |pointer e=>
   cases l with
   |ptr s=>
    cases a with
    |ptr p=>
     refine aD.bn (iU e) λv c m=> ?_;split;·exact FW (by simpa using h) (c.dC r) (s.mono c.sub) (p.mono c.sub)
     ·rw[(AR.eq_iff r s p).2];split;·exact .pure rfl
      ·exact .choose λ_=>.pure rfl
    |pnil=>exact .pure rfl
    |_=>exact bu _ _
   |_=>cases a<;>first|exact .pure rfl|exact bu _ _
  |unsafePointer=>
   cases l with
   |ptr s=>
    cases a with
    |ptr p=>exact FW (by simpa using h) r s p
    |pnil=>exact .pure rfl
    |_=>exact bu _ _
   |_=>cases a<;>first|exact .pure rfl|exact bu _ _
  |int ik=>
   cases l with
   |int k1 n1=>
    cases a with
    |int k2 n2=>
     dsimp only;split;·exact .pure rfl
     ·exact bu _ _
    |ptr p=>
     by_cases e:n1=0;·subst e;exact .pure rfl
     ·dsimp only;split<;>first|exact .pure rfl|exact .dead (.unsupported _ az)|exact bu _ _|(exfalso;simp_all)
    |pnil=>exact .dead (.unsupported _ az)
    |_=>exact bu _ _
   |ptr s=>
    cases a with
    |int k2 n2=>
     by_cases e:n2=0;·subst e;exact .pure rfl
     ·dsimp only;split<;>first|exact .pure rfl|exact .dead (.unsupported _ az)|exact bu _ _|(exfalso;simp_all)
    |ptr p=>
     dsimp only;refine aD.bind (sC s) λv c ac q a6=> ?_;refine aD.bind (sC (p.mono c.sub)) λR3 o p2 q2 a7=> ?_;refine mq ?_;obtain⟨p1,pb⟩:=ac;obtain⟨q1,qb⟩:=q;obtain⟨p3,ao⟩:=p2;obtain⟨q3,ap⟩:=q2;obtain⟨j,u⟩:=a6;obtain⟨B,h8⟩:=a7;dsimp only at j u B h8⊢;have a2:=o.dC (c.dC r);have j:=j.mono o.sub;have a1:=AR.eq_iff a2 j B;have el:aM (p1.block<X.P.globals.size)=aM (q1.block<X.P.globals.size):=by
      have:=a2.low _ _ j.1;simp[this]
     rw[a1.1,el,a1.2];split
     ·refine aD.bn (uA j) λZ dI ad=> ?_;exact aD.bn (uA (B.mono dI.sub)) λR5 _ ai=>.pure rfl
     ·refine(jS t).bind λZ dI ti av a8=> ?_;obtain⟨rfl,_⟩:=a8;split
      ·split;·exact .pure rfl
       ·exact .dead (.unsupported _ az)
      ·exact .dead (.unsupported _ az)
    |_=>
     dsimp only;exact .dead (.unsupported _ az)
   |pnil=>cases a<;>first|exact .dead (.unsupported _ az)|exact bu _ _
   |_=>cases a<;>first|exact .dead (.unsupported _ az)|exact bu _ _
  |struct fs=>
   cases l with
   |@agg xs bk o j=>
    cases a with
    |@agg ys rJ u h6=>
     dsimp only;have aa:bq X.G W xs bk:=⟨o,j⟩;have ab:bq X.G W ys rJ:=⟨u,h6⟩;refine mq ?_;refine iv (.bind (.unsupported _ az) _) λ_=> ?_;refine aD.bn ?_ λv c an=> ?_
     ·rw[<-ay9,<-ay9];refine M9 _ _ _ _ λf hm v c ar=> ?_;split
      ·refine aD.bind (BO (aa.mono c.sub) f.type f.offset) λR3 o ad u' hu=> ?_;refine aD.bind (BO ((ab.mono c.sub).mono o.sub) f.type f.offset) λZ j ai v' hv=> ?_;have ok:vI X.P X.fz k f.type=true:=(jh.1 h) f (by simpa using hm);refine aD.bn (M7 k n f.type ok ag (j.dC (o.dC (c.dC r))) (hu.mono j.sub) hv) λR5 u b=> ?_;cases b<;>exact .pure rfl
      ·exact .pure rfl
     ·split<;>exact .pure rfl
    |_=>exact bu _ _
   |_=>cases a<;>exact bu _ _
  |_=>cases h
end
section
variable {X:Ctx} {R:BR} {t u w x:Type}
def PG(R:BR)(u c:au):Prop:=∃a b,u=.pointer (ae a)/\c=.pointer (ae b)/\AR R a b
theorem BT(H:VR X.G R a b)(r:VR X.G R h k)(t:aK):aD X PG R (Cz #[] t #[a,h]) (Cz #[] t #[b,k]):=by
 unfold Cz;cases H with
 |pnil=>
  dsimp only;refine aD.bn (wO r) λu p n=> ?_;split;·exact .dead (.unsupported _ az)
  ·exact .dead (.ite (.bind (.unsupported _ az) _) (.unsupported _ az))
 |ptr f=>
  dsimp only;refine aD.bn (wO r) λu p n=> ?_;have f:=f.mono p.sub;split
  ·refine(BU f.1).bind λW w x U e=> ?_;rcases e with⟨rfl,rfl⟩|⟨x,U,a1,_,rfl,rfl,o⟩;·exact .pure ⟨_,_,rfl,rfl,f.mono w.sub⟩
   ·first|exact .dead (.unsupported _ az)|exact .pure ⟨_,_,rfl,rfl,o⟩
  ·refine iv (.bind (.unsupported _ az) _) λ_=> ?_;refine uB f.1 λs N B=> ?_;cases s with
   |none=>exact .dead (.unsupported _ az)
   |some s=>
    obtain⟨e,c⟩:=s;have y:∃j,N=ae (e,j)/\c<=j:=by
     rcases B with rfl|⟨_,_,Z,n1,n2,v,rfl,l⟩;·exact⟨c,rfl,aL _⟩
     ·cases v;exact⟨_,rfl,l⟩
    obtain⟨j,rfl,l⟩:=y;refine mq ?_;rw[f.2.1];cases o:Dh X.P X.P.depth e (c/X.P.cellsOf e) _ n with
    |none=>exact .dead (.unsupported _ az)
    |some off=>
     rw[QB (ay1 l) o];exact .pure ⟨_,_,rfl,rfl,f.1,rfl,f.2.2⟩
 |_=>exact bu _ _
theorem wR(o:VR X.G R a b)(c:VR X.G R h k)(t:aK):aD X (VX X) R (Pm t a h) (Pm t b k):=by
 unfold Pm;refine aD.bn (jT t) λN r d=> ?_;have o:=o.mono r.sub;have c:=c.mono r.sub;refine iv (.bind (.unsupported _ az) _) λ_=> ?_;cases o with
 |ptr y=>
  dsimp only;refine(sC y).bind λU w p q B=> ?_;obtain⟨p1,l⟩:=p;obtain⟨q1,l'⟩:=q;obtain⟨x,rfl⟩:=B;dsimp only;refine(BT (.ptr x) (c.mono w.sub) t).bind λW Z u H j=> ?_;obtain⟨s,v,rfl,rfl,f⟩:=j;exact .newN f λa1 r' _ _ _ _=>.pure (.ptr ⟨.inr ⟨rfl,rfl⟩,rfl,rfl⟩)
 |pnil=>exact(BT .pnil c t).imp λR u H j=>by obtain⟨s,v,rfl,rfl,f⟩:=j;exact .ptr f
 |_=>exact .dead (by unfold Cz;exact .stuck _)
theorem Mg(w:VR X.G R a b)(p:VR X.G R h k)(t:aK):aD X (VX X) R (Pg t a h) (Pg t b k):=by
 unfold Pg;cases w with
 |ptr o=>
  dsimp only;refine(Mi o.1).bind λy j x B e=> ?_;rcases e with⟨rfl,rfl⟩|⟨u,r,l,rfl,rfl,c⟩;·exact(BT (.ptr (o.mono j.sub)) (p.mono j.sub) t).imp λR u r c=>by obtain⟨s,v,rfl,rfl,f⟩:=c;exact .ptr f
  ·exact .dead (.unsupported _ az)
 |pnil=>exact(BT .pnil p t).imp λR u r c=>by obtain⟨s,v,rfl,rfl,f⟩:=c;exact .ptr f
 |_=>exact .dead (by unfold Cz;exact .stuck _)
theorem Mn(k:BR.iy X.P.globals.size R)(b:AR R j f)(c:AR R o p):aD X eg R (P5 j o) (P5 f p):=by
 unfold P5;refine mq ?_;have l:=(AR.eq_iff k b c).1;have r:aM (j.block>=X.P.globals.size)=aM (f.block>=X.P.globals.size):=by
  have:=k.low _ _ b.1;by_cases h:j.block<X.P.globals.size;·have a:=this.1 h;simp[Nat.not_le.2 h,Nat.not_le.2 a]
  ·have a:¬f.block<X.P.globals.size:=λx=>h (this.2 x);simp[Nat.not_lt.1 h,Nat.not_lt.1 a]
 have s:(j.block !=o.block)=(f.block !=p.block):=by simp only[bne,l]
 rw[s,r];refine iv (.bind (.unsupported _ az) _) λ_=> ?_;exact aD.bn (uA b) λu t x=>aD.bn (uA (c.mono t.sub)) λv _ y=>.pure rfl
theorem ZP(c:BR.iy X.P.globals.size R)(a:AR R j f)(b:AR R o p)(k:mK):aD X (VX X) R (Op.addrSub k j o) (Op.addrSub k f p):=
 aD.bn (Mn c a b) λ_ _ _=>.pure (.int _ _)
theorem ZN(c:BR.iy X.P.globals.size R)(a:AR R j f)(b:AR R o p)(op:pM):aD X (VX X) R (Hw op j o) (Hw op f p):=
 aD.bn (Mn c a b) λ_ _ x=>by
  cases op<;>first|exact .pure (.bool _)|exact .dead (.unsupported _ az)
theorem ZO(a:AR R j f)(k:mK)(n:Int):aD X (VX X) R (Pk k j n) (Pk k f n):=by
 unfold Pk;refine uB a.1 λs l h=> ?_
 have key:∀e,aD X (VX X) R (do
   let align:=(<-vg e).align
   if n<1||n.toNat>align||align%n.toNat !=0 then va .addressObserved
   bN (.int k ((<-byteOf j)%n.toNat:Nat))) (do
   let align:=(<-vg e).align
   if n<1||n.toNat>align||align%n.toNat !=0 then va .addressObserved
   bN (.int k ((<-byteOf f)%n.toNat:Nat))):=λe=>by
  refine(jS e).bind λo b i u c=> ?_;obtain⟨rfl,_⟩:=c;refine iv (.bind (.unsupported _ az) _) λ_=> ?_;exact aD.bn (uA (a.mono b.sub)) λp _ y=>.pure (.int _ _)
 rcases h with rfl|⟨t,r,e,m,v,rfl,rfl,_⟩
 ·rcases l with _|⟨e,m⟩;·exact .dead (.unsupported _ az)
  ·exact key e
 ·exact key e
def jB:pM->Bool
 | .add| .sub| .mul| .lss| .leq| .gtr| .geq| .shl| .shr| .quo| .rem=>aq
 |_=>ax
theorem ZU(B:BR.iy X.P.globals.size R)(N:VR X.G R a b)(v:VR X.G R h k)(op:pM)(t:aK)(c:jB op=aq):aD X (VX X) R (kh op t a h) (kh op t b k):=by
 cases N with
 |int j n=>
  cases v with
  |int Z n'=>
   cases op<;>simp only[jB,dx]at c<;>unfold kh<;>dsimp only<;>first|exact ac5 _ _ _ _ _|(split<;>first|exact bu _ _|exact Ma _ _ _ _|exact FQ _ _ _|exact ab5 _ _ _ _)
  |ptr o=>cases op<;>first|(simp only[jB,dx]at c;done)|exact wR (.ptr o) (.int j n) t|exact .dead (.unsupported _ az)
  |pnil=>cases op<;>first|(simp only[jB,dx]at c;done)|exact wR .pnil (.int j n) t|exact .dead (.unsupported _ az)
  |_=>cases op<;>first|(simp only[jB,dx]at c;done)|exact bu _ _
 |string s=>
  cases v with
  |string w=>cases op<;>first|(simp only[jB,dx]at c;done)|exact uC .add s w|exact uC .lss s w|exact uC .leq s w|exact uC .gtr s w|exact uC .geq s w|exact bu _ _
  |ptr o=>cases op<;>first|(simp only[jB,dx]at c;done)|exact .dead (.unsupported _ az)
  |pnil=>cases op<;>first|(simp only[jB,dx]at c;done)|exact .dead (.unsupported _ az)
  |_=>cases op<;>first|(simp only[jB,dx]at c;done)|exact bu _ _
 |ptr l=>
  cases v with
  |int j n=>
   cases op<;>first|(simp only[jB,dx]at c;done)|exact wR (.ptr l) (.int _ _) t|exact .dead (.unsupported _ az)|exact(sC l).bind λx f p q u=>ZO u.1 j n|skip
   refine aD.bn (jT t) λx f d=> ?_;split;·exact Mg (.ptr (l.mono f.sub)) (.int j n) t
   ·exact wR (.ptr (l.mono f.sub)) (.int j n) t
  |ptr o=>
   have cmp:∀op,aD X (VX X) R (do Hw op (<-A6 _).1 (<-A6 _).1) (do Hw op (<-A6 _).1 (<-A6 _).1):=λop=>
    (sC l).bind λx f p q u=>(sC (o.mono f.sub)).bind λH r U W y=>ZN (r.dC (f.dC B)) (u.1.mono r.sub) y.1 op
   cases op<;>first|(simp only[jB,dx]at c;done)|exact cmp _|exact .dead (.unsupported _ az)|skip
   exact(sC l).bind λx f p q u=>(sC (o.mono f.sub)).bind λH r U W y=>ZP (r.dC (f.dC B)) (u.1.mono r.sub) y.1 _
  |_=>cases op<;>first|(simp only[jB,dx]at c;done)|exact .dead (.unsupported _ az)
 |pnil=>
  cases v with
  |int j n=>
   cases op<;>first|(simp only[jB,dx]at c;done)|exact wR .pnil (.int _ _) t|exact .dead (.unsupported _ az)|skip
   refine aD.bn (jT t) λx f d=> ?_;split;·exact Mg .pnil (.int j n) t
   ·exact wR .pnil (.int j n) t
  |_=>cases op<;>first|(simp only[jB,dx]at c;done)|exact .dead (.unsupported _ az)
 |_=>
  cases v with
  |ptr o=>cases op<;>first|(simp only[jB,dx]at c;done)|exact .dead (.unsupported _ az)
  |pnil=>cases op<;>first|(simp only[jB,dx]at c;done)|exact .dead (.unsupported _ az)
  |_=>cases op<;>first|(simp only[jB,dx]at c;done)|exact bu _ _
theorem M8(c:VR X.G R a b)(t:aK):aD X eg R (nG t a (.pointer af)) (nG t b (.pointer af))/\aD X eg R (nG t (.pointer af) a) (nG t (.pointer af) b):=by
 constructor
 ·refine aD.bn (jT t) λf h d=> ?_;cases d<;>cases c<;>first|exact .pure rfl|exact bu _ _|exact .dead (.unsupported _ az)
 ·refine aD.bn (jT t) λf h d=> ?_;cases d<;>cases c<;>first|exact .pure rfl|exact bu _ _|exact .dead (.unsupported _ az)
theorem aa6(r:VR X.G R a b)(o:VR X.G R h k)(op:pM)(t:aK)(c f:bC)(p:X.P.eqGuardType X.P.depth t=ax)(j:a≠ .nilIface)(l:h≠ .nilIface):aD X eg R (om op t c f a h) (om op t c f b k):=by
 unfold om;cases op<;>first|exact .pure rfl|skip
 all_goals
  cases r with
  |agg j l=>
   cases o with
   |agg s u=>
    dsimp only;refine mq ?_;refine mq ?_;rw[p];exact .pure rfl
   |anyN=>exact absurd rfl ‹_›
   |_=>exact .pure rfl
  |anyN=>exact absurd rfl j
  |_=>cases o<;>first|exact absurd rfl l|exact .pure rfl
theorem aa5(u:VR X.G R a b)(c:VR X.G R h k)(op:pM)(t:aK)(v:op=.eql\/op=.neq)(o:a≠ .nilIface)(p:h≠ .nilIface)(r:aD X eg R (nG t a h) (nG t b k)):aD X (VX X) R (kh op t a h) (kh op t b k):=by
 have f:aD X (VX X) R (do bN (.bool (<-nG t a h))) (do bN (.bool (<-nG t b k))):=aD.bn r λ_ _ _=>.pure (.bool _);have j:aD X (VX X) R (do bN (.bool (!(<-nG t a h)))) (do bN (.bool (!(<-nG t b k)))):=aD.bn r λ_ _ _=>.pure (.bool _);rcases v with rfl|rfl
 ·cases u with
  |int w n=>
   cases c with
   |int x y=>
    unfold kh;dsimp only;split;·exact bu _ _
    ·exact FQ _ _ _
   |anyN=>exact absurd rfl p
   |_=>exact f
  |string s=>
   cases c with
   |string l=>exact uC .eql s l
   |_=>exact f
  |anyN=>exact absurd rfl o
  |_=>cases c<;>exact f
 ·cases u with
  |int w n=>
   cases c with
   |int x y=>
    unfold kh;dsimp only;split;·exact bu _ _
    ·exact FQ _ _ _
   |anyN=>exact absurd rfl p
   |_=>exact j
  |string s=>
   cases c with
   |string l=>exact uC .neq s l
   |_=>exact j
  |anyN=>exact absurd rfl o
  |_=>cases c<;>exact j
theorem UG{f:TypeDesc->bA u}(h:∀d,X.P.underlying c=ae d->dH X.P (f d)):dH X.P ((iZ c).bind f):=by
 intro w;cases a:X.P.underlying c with
 |none=>exact⟨.stuck "no such type",w,by rw[run_bind];simp[iZ,qJ,eN,dp,fu,a,iO],trivial⟩
 |some d=>
  obtain⟨x,k,b,j⟩:=h d a w;exact⟨x,k,by rw[run_bind];simp only[iZ,qJ,eN,dp,fu,a,bN];exact b,j⟩
theorem UF(l:∀f,X.P.underlying c≠ae (.interface f))(h:a=.nilIface\/b=.nilIface):dH X.P (nG c a b):=by
 show dH X.P (xL (9999+1) c a b);unfold xL;refine UG λd j=> ?_;rcases h with rfl|rfl
 ·cases d with
  |interface f=>exact absurd j (l f)
  |int k=>cases b<;>first|exact .stuck _|exact .unsupported .addressObserved az
  |_=>exact .stuck _
 ·cases d with
  |interface f=>exact absurd j (l f)
  |int k=>
   cases a with
   |pointer o=>cases o<;>exact .unsupported .addressObserved az
   |_=>exact .stuck _
  |_=>
   cases a with
   |pointer o=>cases o<;>exact .stuck _
   |slice o=>cases o<;>exact .stuck _
   |map o=>cases o<;>exact .stuck _
   |_=>exact .stuck _
theorem UE(u:∀t,X.P.underlying c≠ae (.interface t))(h:a=.nilIface\/b=.nilIface)(op:pM)(j k:bC)(r:op=.eql\/op=.neq):dH X.P (do om op c j k a b;kh op c a b):=by
 have v:dH X.P (kh op c a b):=by
  have e:=UF (X:=X) u h;rcases r with rfl|rfl<;>rcases h with rfl|rfl;·exact e.bind _
  ·cases a with
   |pointer o=>cases o<;>exact e.bind _
   |_=>exact e.bind _
  ·exact e.bind _
  ·cases a with
   |pointer o=>cases o<;>exact e.bind _
   |_=>exact e.bind _
 intro w;show∃x f,((om op c j k a b).bind λ_=>kh op c a b).run X.P w=.halt x f/\lO x;rw[run_bind];have y:(∃f,(om op c j k a b).run X.P w=.ok () f)\/∃x f,(om op c j k a b).run X.P w=.halt x f/\lO x:=by
  have both:(∃f,(xD A8 c .nilIface .nilIface).run X.P w=.ok ax f)\/∃x f,(xD A8 c .nilIface .nilIface).run X.P w=.halt x f/\lO x:=by
   show(∃f,(xD (9999+1) c .nilIface .nilIface).run X.P w=.ok ax f)\/∃x f,(xD (9999+1) c .nilIface .nilIface).run X.P w=.halt x f/\lO x;unfold xD;simp only[eN,run_bind];cases p:X.P.underlying c with
   |none=>exact .inr ⟨.stuck "no such type",w,by simp[iZ,qJ,eN,dp,fu,p,iO],trivial⟩
   |some d=>
    have:(iZ c).run X.P w=.ok d w:=by simp[iZ,qJ,eN,dp,fu,p,bN]
    rw[this];cases d with
    |interface t=>exact absurd p (u t)
    |_=>exact .inl ⟨w,rfl⟩
  by_cases l:a=.nilIface/\b=.nilIface
  ·obtain⟨rfl,rfl⟩:=l;unfold om;rcases r with rfl|rfl
   all_goals
    rcases both with⟨f,e⟩|⟨x,f,e,s⟩
    ·cases j<;>cases k<;>first
      |exact .inl ⟨w,rfl⟩
      |exact .inl ⟨f,by show((xD A8 c .nilIface .nilIface).bind _).run X.P w=_;rw[run_bind,e];rfl⟩
    ·cases j<;>cases k<;>first
      |exact .inl ⟨w,rfl⟩
      |exact .inr ⟨x,f,by show((xD A8 c .nilIface .nilIface).bind _).run X.P w=_;rw[run_bind,e],s⟩
  ·left;unfold om;rcases r with rfl|rfl
   all_goals
    simp only[aD7,dx,if_false];rcases h with rfl|rfl;·cases b<;>first|exact(l ⟨rfl,rfl⟩).elim|exact⟨w,rfl⟩
    ·cases a<;>first|exact(l ⟨rfl,rfl⟩).elim|exact⟨w,rfl⟩
 rcases y with⟨f,e⟩|⟨x,f,e,s⟩;·rw[e];exact v f
 ·rw[e];exact⟨x,f,rfl,s⟩
theorem aa7(u:VR X.G R a b)(v:VR X.G R h k)(op:pM)(t:aK)(f j:bC)(s:op=.eql\/op=.neq)(x:X.P.eqGuardType X.P.depth t=ax)(y:∀B,X.P.underlying t≠ae (.interface B))(w:∀c,BR.Ext X.P.globals.size R c->aD X eg c (nG t a h) (nG t b k)):aD X (VX X) R (do om op t f j a h;kh op t a h) (do om op t f j b k;kh op t b k):=by
 by_cases l:a=.nilIface\/h=.nilIface;·exact .dead (UE y l op f j s)
 ·have p:a≠ .nilIface:=λe=>l (.inl e);have r:h≠ .nilIface:=λe=>l (.inr e);refine aD.bn (aa6 u v op t f j x p r) λc o _=> ?_;exact aa5 (u.mono o.sub) (v.mono o.sub) op t s p r (w c o)
theorem ac3(c:VR X.G R a b):aD X (VX X) R (I3 .not a) (I3 .not b):=by
 cases c with
 |bool f=>exact .pure (.bool _)
 |_=>exact bu _ _
theorem ac2(c:VR X.G R a b):aD X (VX X) R (I3 .neg a) (I3 .neg b):=by
 cases c with
 |int k n=>exact Ma .sub k 0 n
 |ptr h=>exact .dead (.unsupported _ az)
 |_=>exact bu _ _
theorem aa2(j:VR X.G R a b)(s d:aK)(h:∃k,X.P.underlying s=ae (.int k))(f:∃k,X.P.underlying d=ae (.int k)):aD X (VX X) R (oo s d a) (oo s d b):=by
 obtain⟨v,h⟩:=h;obtain⟨u,f⟩:=f;unfold oo;refine(kz s).bind λo r x l c=> ?_;obtain⟨rfl,c⟩:=c;rw[h]at c;cases c;refine(kz d).bind λp t x l c=> ?_;obtain⟨rfl,c⟩:=c;rw[f]at c;cases c;cases j with
 |int k n=>exact .pure (.int _ _)
 |_=>exact .dead (.unsupported _ az)
end
