/- Own texts: GeD, GeE, GeF. -/
import Derived.Test.YtcgjppacnhmjlaaGreatMAM
set_option linter.all false
set_option maxHeartbeats 1000000
open Array renaming getElem?_eq_some_iff->cq,getElem?_modify->fV,toList_map->H5,toList_range->ay8,ext'->Pa
open Bool renaming true->aq,false->ax
open Go renaming World->ak,Value->au,Frame->aC,TypeId->aK,heap_alloc_new->cY,Addr->aH,madeCells->kg,heap_alloc_old->xu,Obj->dV
open Go.Proofs.Tryz renaming prog->aj
open Go.Value renaming slice->iM,string->zX
open Go.World renaming block_lt_of_cell?->cC,cell?->bL,size_alloc->dh,cell?_of_block->gV,setCell->eK,size_setCell->jX,frozen?->gu
open List renaming getElem?_eq_getElem->bf,getElem?_eq_some_iff->cu,mem_of_getElem?->cG,take_of_length_le->fU,mem_append->dU,range->dn,length_append->gJ,drop_eq_getElem_cons->lG,take_append_drop->jW,getElem?_map->iI,getElem?_append_right->np,getElem?_append_left->nu,getElem?_eq_none->lI,getElem?_of_mem->lJ,mem_map->iL,take_add_one->mC,ext_getElem?->mD,any_eq_true->pG,length_cons->rM,append_assoc->sU,length_take->sW,replicate->rR,flatten_cons->uX,length_map->sY,take_length->zK,flatten_append->Cy,map_append->zT,length_nil->zV,size_toArray->CE,set_append_right->NJ,length_singleton->NK,replicate_succ->NS,getElem?_range->NU,set_cons_zero->O5,getElem?_replicate->aw2,toList_toArray->ay2
open Nat renaming le_refl->aL,le_trans->bT,lt_of_lt_of_le->dG,zero_add->ia,sub_self->xC,min_eq_left->Oo,reduceAdd->OK,mod_one->aK6
open Ne renaming symm->jm
open Option renaming some->ae,none->af,map_some->hZ
namespace Go.Proofs.YtcgjppacnhmjlaaGreat
open Go Go.Conc Go.ConcN Go.Conc.Lib Go.ConcR.Gen Go.RowKit
namespace Sim
variable {s:ak} {a t:Nat} {u:au} {f:PP} {j:List au}
def sc(O:Nat->Prop)(w:ak)(pa:Option aH)(pss:List (List PP)):Prop:=∀(i:Nat) ps,pss[i]?=ae ps->∃c po f h,pa=ae ⟨c,po,af⟩/\¬O c/\w.cell? ⟨c,po+i,af⟩=ae (.slice f ps.length h)/\∀(k:Nat) q,ps[k]?=ae q->∃a b,f=ae ⟨a,b,af⟩/\¬O a/\w.cell? ⟨a,b+k*2,af⟩=ae (.string q.1)/\w.cell? ⟨a,b+k*2+1,af⟩=ae (.int .i64 q.2)
theorem sc.on{O:Nat->Prop}{w:ak}{pa:Option aH}{pss:List (List PP)}(h:sc O w pa pss)(a:aO w s):sc O s pa pss:=λi ps u=>by
 obtain⟨B,po,b,c,e,r,j,l⟩:=h i ps u;exact⟨B,po,b,c,e,r,a.cell j,λk q v=>by
  obtain⟨x,y,f,t,o,p⟩:=l k q v;exact⟨x,y,f,t,a.cell o,a.cell p⟩⟩
theorem Ki(a b:List PP)(L:List KV):dJ (a++b) L=dJ b (dJ a L):=by simp[dJ]
theorem UU(a:List PP)(q:PP)(L:List KV):dJ (a++[q]) L=ins (eG q.1) q.2 (dJ a L):=by simp[dJ]
section
variable {Post:au->ak->Prop} {O:Nat->Prop} {R:BR} {w:ak} {r:Nat} {o:au} {l:List KV} {pa:Option aH} {pc:Nat} {pss:List (List PP)}
theorem Ye(hK:aI Xm O R w)(hr:R r r)(B:bQ w r o l)(hP:sc O w pa pss)(bw:pss.length<=1048576)(bd:∀ps∈pss,ps.length<=1048576):MC Post 60 #[ptr r,.slice pa pss.length pc] O w (λaP O' U p=>O'=O/\aP=.int .i64 (jb pss l)/\(∃bi,bQ p r bi (jw pss l)/\∀g,bi.ownBlock=ae g->o.ownBlock=ae g\/w.heap.size<=g)/\jJ r o.ownBlock w p/\aI Xm O U p/\BR.Sub R U):=by
 intro c h hn;have bE:r<w.heap.size:=(hK.wr.lt hr).1;have b2:∀e,jb pss l=e->jw pss l=l->ay aj Post O (aw (c.finish (.int .i64 e)) h) w:=λe f h2=>hn _ O R w ⟨rfl,by rw[f],⟨o,by rw[h2];exact B,λg t=>.inl t⟩,.cv (aO.refl w),hK,BR.Sub.refl R⟩;by_cases a1:16<pss.length
 ·refine XA a1 (b2 6 ?_ ?_);·unfold jb;rw[if_pos a1]
  ·unfold jw;rw[if_pos a1]
 have bs:(∀ps∈pss,fI ps=ax)->∀(W0:ak)(y:Nat)(yv:au) (R0:BR),aO w W0->w.heap.size=y->y<W0.heap.size->(∀g,yv.ownBlock=ae g->w.heap.size<=g)->R0 y y->BR.Sub R R0-> ∀(a i:Nat),a+i=pss.length->∀(s:BR)(W:ak) (x:Nat->au),tI O R0 W0 y yv W0.heap.size s W (dJ (pss.take i).flatten l)->(dJ (pss.take i).flatten l).length<=3000->
    ay aj Post O (aw (FD 60 [] (T6 (ptr r) (.slice pa pss.length pc) (x 5) (x 6) (ptr y) (.int .i64 (i:Int)) (x 9) (x 12) x) tV) (c::h)) W:=by
  intro ar W0 y yv R0 a8 hy bM bg b3 b0;have bv:∀(a b:List PP),pss.flatten=a++b->3000<(dJ a l).length->ay aj Post O (aw (c.finish (.int .i64 2)) h) w:=λa b e bl=>by
   have f:3000<(dJ pss.flatten l).length:=by
    rw[e,Ki];exact dG bl (yC b (uM a B.ck))
   have:=Jt B.ck a1 ar f;exact b2 2 this.1 this.2
  have av:∀(s:BR)(W:ak) (L:List KV),tI O R0 W0 y yv W0.heap.size s W L->aO w W:=λs W L j=>by
   refine⟨bT a8.size j.but.size,λk Z=>(j.but.block k (dG Z a8.size) ag λe=> ?_).trans (a8.block k Z),j.but.os.trans a8.os,j.but.output.trans a8.output⟩;have:=bg k e.symm;omega
  intro a;induction a with
  |zero=>
   intro i hi s W x j a6;obtain⟨ad,f,h2⟩:=j.ref;have H:=av s W _ j;rw[fU ag]at f a6;have hf:=TP B.ck a1 ar a6;have bk:s r r:=j.sub _ _ (b0 _ _ hr);have b6:s y y:=j.sub _ _ b3;have aQ:=kA B H;have br:VR Xm.G s ad ad:=rp j.known b6 f.cell;have aT:∀g,ad.ownBlock=ae g->w.heap.size<=g:=λg t=>by
    rcases h2 with h2|⟨g',h2,h3⟩;·exact bg g (h2▸t)
    ·rw[h2]at t;cases t;exact bT a8.size h3
   have be:∀k,k≠r->(W.setCell ⟨r,0,af⟩ ad).heap[k]?=W.heap[k]?:=λk Z=>by simp[eK,fV,jm Z]
   refine Xz (yv:=ad) (ov:=o) ag (j.known.apart y b6) f.cell (by
    rcases f.cases with⟨_,rfl⟩|⟨g,cap,rfl,_⟩<;>rfl) (j.known.apart r bk) aQ.cell aQ.free (hn _ O s _ ⟨rfl,by rw[hf.1],⟨ad,?_,λg t=>.inr (aT g t)⟩,⟨by rw[jX];exact H.size,λk Z f _=>(be k f).trans (H.block k Z),H.os,H.output⟩,j.known.set _ br,b0.trans j.sub⟩)
   rw[hf.2];refine⟨?_,ng f.row λg t=>be g (by have:=aT g t;omega),λe=>by have:=aT r e;omega,f.ck,f.short,f.cI⟩;simp[eK,fV,aQ.blk]
  |succ a ih=>
   intro i hi s W x j a6;have v:i<pss.length:=ag;obtain⟨ps,a2⟩:∃ps,pss[i]?=ae ps:=⟨pss[i],bf v⟩;have al:=cG a2;have bm:pss.flatten=(pss.take i).flatten++(ps++(pss.drop (i+1)).flatten):=by
    conv=>lhs;rw[<-jW i pss]
    rw[Cy,lG v];have:pss[i]=ps:=by rw[bf v]at a2;cases a2;rfl
    rw[this];simp
   obtain⟨pb,po,ai,ci,rfl,cR,aa,aR⟩:=hP i ps a2;refine Xt v λx=> ?_
   have part:∀(b k:Nat),b+k=ps.length->∀(s:BR)(W:ak) (x:Nat->au),tI O R0 W0 y yv W0.heap.size s W (dJ ((pss.take i).flatten++ps.take k) l)->(dJ ((pss.take i).flatten++ps.take k) l).length<=3000->
     ay aj Post O (aw (FD 60 [] (T6 (ptr r) (.slice (ae ⟨pb,po,af⟩) pss.length pc) (x 5) (x 6) (ptr y) (.int .i64 (i:Int)) (.int .i64 (k:Int)) (x 12) x) tW) (c::h)) W:=by
    intro b;induction b with
    |zero=>
     intro k Z s W x j a6;have H:=av s W _ j;have ek:ps.take k=ps:=fU ag;rw[ek]at j a6;refine Xu cR (H.cell aa) ag v ag λx=> ?_;have e:dJ (pss.take (i+1)).flatten l=dJ ((pss.take i).flatten++ps) l:=by rw[mC,a2];simp
     exact ih (i+1) ag s W x (by rw[e];exact j) (by rw[e];exact a6)
    |succ b aF=>
     intro k Z s W x j a6;have H:=av s W _ j;have ab:k<ps.length:=ag;obtain⟨q,N⟩:∃q,ps[k]?=ae q:=⟨ps[k],bf ab⟩;obtain⟨kb,ko,rfl,ao,ap,bb⟩:=aR k q N;have am:q.1.size<=64:=by
      have:=ar ps al;unfold fI at this;rw[List.any_eq_false]at this;have:=this q (cG N);simpa using this
     have an:dJ ((pss.take i).flatten++ps.take (k+1)) l=ins (eG q.1) q.2 (dJ ((pss.take i).flatten++ps.take k) l):=by
      rw[mC,N,<-sU];exact UU _ q l
     have bo:=bd ps al;refine Xx (kk:=q.1) (kv:=q.2) cR (H.cell aa) ag v ao (H.cell ap) ag ab (H.cell bb) (j.put b3 (aL _) ag) λaP O' U W' hu=> ?_;obtain⟨rfl,rfl,f,_,_⟩:=hu;have b1:bh (dJ ((pss.take i).flatten++ps.take k) l):=uM _ B.ck;generalize hD:dJ ((pss.take i).flatten++ps.take k) l=D at*;have a7:¬64<q.1.size:=ag;have aU:eG q.1=q.1.data.toList:=rfl;cases ac:lk q.1.data.toList D with
     |some aP=>
      obtain⟨e1,e2⟩:=yY (v:=q.2) a7 ac;rw[e1];rw[e2]at f;refine⟨_,_,0,rfl,λx=> ?_⟩;refine KS ag λx=> ?_;exact aF (k+1) ag U W' x (by rw[an];exact f) (by rw[an,aU,EK b1 (by rw[ac];rfl)];exact a6)
     |none=>
      by_cases h3:3000<=D.length
      ·obtain⟨e1,e2⟩:=yX (v:=q.2) a7 ac h3;rw[e1];refine⟨_,_,2,rfl,λx=> ?_⟩;have ba:=av U W' _ f;refine Xy bc ?_;have bj:3000<(dJ pss.flatten l).length:=by
        have e:pss.flatten=((pss.take i).flatten++ps.take (k+1))++(ps.drop (k+1)++(pss.drop (i+1)).flatten):=by
         rw[bm,sU,<-sU (ps.take (k+1)),jW]
        rw[e,Ki];refine dG ?_ (yC _ (uM _ B.ck));rw[an,aU,yD b1 ac];omega
       have hf:=Jt B.ck a1 ar bj;exact hn _ O' U W' ⟨rfl,by rw[hf.1],⟨o,by rw[hf.2];exact kA B ba,λg t=>.inl t⟩,.cv ba,f.known,b0.trans f.sub⟩
      ·obtain⟨e1,e2⟩:=yW (v:=q.2) a7 ac h3;rw[e1];rw[e2]at f;refine⟨_,_,0,rfl,λx=> ?_⟩;refine KS ag λx=> ?_;exact aF (k+1) ag U W' x (by rw[an];exact f) (by rw[an,aU,yD b1 ac];omega)
   exact part ps.length 0 ag s W x (by simpa using j) (by simpa using a6)
 have keys:∀(a i:Nat),a+i=pss.length->∀(x:Nat->au),(∀ps∈pss.take i,fI ps=ax)->ay aj Post O (aw (FD 60 [] (T6 (ptr r) (.slice pa pss.length pc) (.int .i64 (i:Int)) (x 6) (x 7) (x 8) (x 9) (x 12) x) tU) (c::h)) w:=by
  intro a;induction a with
  |zero=>
   intro i hi x t;rw[fU ag]at t;refine Xs ag (F3 hK hr B) λaP O' U W' hu=> ?_;obtain⟨rfl,rfl,⟨yv,f,h2⟩,h3,h4,h5,h6⟩:=hu;refine⟨w.heap.size,rfl,λx=> ?_⟩;exact bs t W' w.heap.size yv U h3 rfl (cJ f.blk) h2 h6 h5 pss.length 0 ag U W' x ⟨h4,BR.Sub.refl _,.cv (aO.refl _),aL _,λg t=>(f.row.lt g t).2,yv,f,.inl rfl⟩ B.cI
  |succ a ih=>
   intro i hi x t;have v:i<pss.length:=ag;obtain⟨ps,a2⟩:∃ps,pss[i]?=ae ps:=⟨pss[i],bf v⟩;have al:=cG a2;obtain⟨pb,po,ai,ci,rfl,cR,aa,aR⟩:=hP i ps a2;refine Xo v λx=> ?_;have part:∀(b k:Nat),b+k=ps.length->∀(x:Nat->au),(∀q∈ps.take k,q.1.size<=64)->ay aj Post O (aw (FD 60 [] (T6 (ptr r) (.slice (ae ⟨pb,po,af⟩) pss.length pc) (.int .i64 (i:Int)) (.int .i64 (k:Int)) (x 7) (x 8) (x 9) (x 12) x) ss) (c::h)) w:=by
    intro b;induction b with
    |zero=>
     intro k Z x a7;rw[fU ag]at a7;refine Xp cR aa ag v ag λx=>ih (i+1) ag x λaJ u=> ?_;rw[mC,a2,dU]at u;rcases u with u|u;·exact t aJ u
     ·simp at u;subst u;exact Iz λbP q hj N=>a7 q (cG N)
    |succ b aF=>
     intro k Z x a7;have ab:k<ps.length:=ag;obtain⟨q,N⟩:∃q,ps[k]?=ae q:=⟨ps[k],bf ab⟩;obtain⟨kb,ko,rfl,ao,ap,bb⟩:=aR k q N;have bo:=bd ps al;by_cases am:q.1.size<=64
     ·refine Xq cR aa ag v ao ap ag ab am λx=>aF (k+1) ag x λaJ u=> ?_;rw[mC,N,dU]at u;rcases u with u|u;·exact a7 aJ u
      ·simp at u;subst u;exact am
     ·have b9:pss.any fI=true:=pG.2 ⟨ps,al,IA N am⟩;refine Xr cR aa ag v ao ap ag ab am (b2 1 ?_ ?_);·unfold jb;rw[if_neg a1,b9];rfl
      ·unfold jw;rw[if_neg a1,b9];rfl
   exact part ps.length 0 ag x (λq N=>by simp at N)
 exact Xv a1 λx=>keys pss.length 0 ag x (λaJ u=>by simp at u)
end
def eS(w:ak)(b:Nat)(e:aK)(xs:List au):Prop:=w.heap[b]?=ae (.cells xs.toArray e (0,0))
section
variable {w p:ak} {b:Nat} {e:aK} {xs:List au} {O:Nat->Prop} {R:BR}
theorem eS.lt(h:eS w b e xs):b<w.heap.size:=(cq.1 h).1
theorem eS.cell(h:eS w b e xs){o:Nat}{v:au}(a:xs[o]?=ae v):w.cell? ⟨b,o,af⟩=ae v:=by
 unfold bL;rw[h];simpa using a
theorem eS.free(h:eS w b e xs)(o:Nat):w.frozen? ⟨b,o,af⟩=false:=by
 unfold gu;rw[h];simp
theorem eS.set(h:eS w b e xs)(o:Nat)(v:au):eS (w.setCell ⟨b,o,af⟩ v) b e (xs.set o v):=by
 unfold eS at*;simp[eK,fV,h]
theorem eS.bK(h:eS w b e xs)(a:p.heap[b]?=w.heap[b]?):eS p b e xs:=a.trans h
theorem uI(c:t≠b):(w.setCell ⟨b,a,af⟩ u).heap[t]?=w.heap[t]?:=by simp[eK,fV,jm c]
theorem eS.new(w:ak)(e:aK)(xs:List au):eS (w.alloc (.cells xs.toArray e)) w.heap.size e xs:=cY w _
theorem aI.cells(f:aI Xm O R w){xs:List au}(j:∀v∈xs,VR Xm.G R v v)(e:aK):aI Xm O (R.add w.heap.size w.heap.size) (w.alloc (.cells xs.toArray e)):=
 f.add (o:=.cells xs.toArray e) (λb h=>xu w _ h) (cY w _) (sk ⟨aL _,λi v k a c=>by
  rw[a]at c;cases c;exact(j v (cG (by simpa using a))).mono (BR.gF _ _ _)⟩) (by rw[dh];omega)
end
def ll(ps:List PP):List Value:=ps.flatMap λq=>[.string q.1,.int .i64 q.2]
def zP(n:Nat):List Value:=(rR n [zX ⟨#[]⟩,.int .i64 0]).flatten
theorem tQ(ps:List PP):(ll ps).length=ps.length*2:=by
 induction ps with
 |nil=>rfl
 |cons q ps a=>simp only[ll,List.flatMap_cons,gJ,rM,zV]at a⊢;omega
theorem TU{ps:List PP}(h:ps[a]?=ae f):ll (ps.take (a+1))=ll (ps.take a)++[.string f.1,.int .i64 f.2]:=by
 rw[mC,h];simp[ll]
theorem Jv:∀(ps:List PP)(k:Nat) (q:PP),ps[k]?=ae q->(ll ps)[k*2]?=ae (.string q.1)/\(ll ps)[k*2+1]?=ae (.int .i64 q.2)
 |[],k,q,h=>by simp at h
 |p::ps,0,q,h=>by simp at h;subst h;exact⟨rfl,rfl⟩
 |p::ps,k+1,q,h=>by
  have:=Jv ps k q (by simpa using h);rw[show(k+1)*2=k*2+1+1 by omega];exact this
theorem xc(n:Nat):zP (n+1)=.string ⟨#[]⟩:: .int .i64 0::zP n:=by simp[zP,NS]
theorem XU(z:au)(n:Nat):kg #[z] n=(rR n z).toArray:=by
 unfold kg;apply Pa;simp only[H5,ay8,ay2];apply mD;intro i;simp only[iI,aw2];by_cases h:i<n;·simp[NU h,h,aK6]
 ·simp[h,lI (show(dn n).length<=i by simp;omega)]
theorem GL:∀(n i:Nat),(zP n)[i]?=if i<n*2 then ae (if i%2=0 then .string ⟨#[]⟩else .int .i64 0)else af
 |0,i=>by simp[zP]
 |n+1,0=>by rw[xc,if_pos ag];rfl
 |n+1,1=>by rw[xc,if_pos ag];rfl
 |n+1,i+2=>by
  rw[xc];show(zP n)[i]?=_;rw[GL n i,show(i+2)%2=i%2 by omega];by_cases h:i<n*2
  ·have a:i+2<(n+1)*2:=ag;simp only[h,a,if_true]
  ·have a:¬i+2<(n+1)*2:=ag;simp only[h,a,if_false]
theorem XV(n:Nat):Bs n=(zP n).toArray:=by
 unfold Bs kg;apply Pa;simp only[H5,ay8,ay2];apply mD;intro i;rw[GL,iI];by_cases h:i<n*2
 ·rw[NU h,if_pos h];simp only[hZ,CE,rM,zV,ia,OK];congr 1;by_cases a:i%2=0;·rw[if_pos a,a];rfl
  ·have:i%2=1:=ag;rw[if_neg a,this];rfl
 ·rw[lI (show(dn (n*2)).length<=i by simp;omega),if_neg h];rfl
theorem G7{z:List au}{q s t:au}{n:Nat}(a:j.length=n):((j++u::q::z).set n s).set (n+1) t=(j++[s,t])++z:=by
 subst a;rw[NJ _ _ (aL _),xC,O5,NJ _ _ ag,show j.length+1-j.length=1 by omega,List.set_cons_succ,O5];simp
def lay(ps:List PP)(k:Nat):List Value:=ll (ps.take k)++zP (ps.length+1-k)
theorem VF(ps:List PP):lay ps 0=zP (ps.length+1):=by simp[lay,ll]
theorem Kq{ps:List PP}{k:Nat}(b:k<=ps.length):(lay ps k)[k*2]?=ae (.string ⟨#[]⟩)/\(lay ps k)[k*2+1]?=ae (.int .i64 0):=by
 have a:(ll (ps.take k)).length=k*2:=by rw[tQ,sW];rw[Oo b]
 unfold lay;rw[show ps.length+1-k=(ps.length-k)+1 by omega,xc];constructor;·rw[np ag,a,xC];rfl
 ·rw[np ag,a,show k*2+1-k*2=1 by omega];rfl
theorem VE{ps:List PP}(h:ps[a]?=ae f):((lay ps a).set (a*2) (.string f.1)).set (a*2+1) (.int .i64 f.2)=lay ps (a+1):=by
 have b:=(cu.1 h).1;unfold lay;rw[show ps.length+1-a=(ps.length+1-(a+1))+1 by omega,xc,G7 (by rw[tQ,sW,Oo ag]),TU h]
def laid(ps:List PP):List Value:=ll ps++[.string lW,.int .i64 0]
theorem VD{ps:List PP}:((lay ps ps.length).set (ps.length*2) (.string lW)).set (ps.length*2+1) (.int .i64 0)=laid ps:=by
 unfold lay laid;rw[show ps.length+1-ps.length=0+1 by omega,xc,G7 (by rw[tQ,zK]),zK];simp[zP]
theorem VB{ps:List PP}(h:ps[a]?=ae f):(laid ps)[a*2]?=ae (.string f.1)/\(laid ps)[a*2+1]?=ae (.int .i64 f.2):=by
 obtain⟨b,c⟩:=Jv ps a f h;have j:=(cu.1 h).1;unfold laid;rw[nu (by rw[tQ];omega),nu (by rw[tQ];omega)];exact⟨b,c⟩
theorem VC(ps:List PP):(laid ps)[ps.length*2]?=ae (.string lW):=by
 unfold laid;rw[np (by rw[tQ];omega),tQ,xC];rfl
def over(ps:List PP)(k:Nat):List Value:=(rR k [zX wh,.int .i64 (-7)]).flatten++(ll (ps.drop k)++[.string lW,.int .i64 0])
theorem Z5(ps:List PP):over ps 0=laid ps:=by simp[over,laid]
theorem zf(k:Nat)(a b:au):(rR k [a,b]).flatten.length=k*2:=by
 induction k with
 |zero=>rfl
 |succ k c=>rw[NS,uX,gJ,c];simp;omega
theorem LG{ps:List PP}(h:ps[a]?=ae f):over ps a=(rR a [zX wh,.int .i64 (-7)]).flatten++ .string f.1:: .int .i64 f.2::(ll (ps.drop (a+1))++[.string lW,.int .i64 0]):=by
 obtain⟨b,e⟩:=cu.1 h;unfold over;rw[lG b,e];simp[ll]
theorem Z3{ps:List PP}(h:ps[a]?=ae f):(over ps a)[a*2]?=ae (.string f.1)/\(over ps a)[a*2+1]?=ae (.int .i64 f.2):=by
 rw[LG h];constructor;·rw[np (by rw[zf];omega),zf,xC];rfl
 ·rw[np (by rw[zf];omega),zf,show a*2+1-a*2=1 by omega];rfl
theorem Z4{ps:List PP}(h:ps[a]?=ae f):((over ps a).set (a*2) (.string wh)).set (a*2+1) (.int .i64 (-7))=over ps (a+1):=by
 rw[LG h,G7 (zf a _ _)];unfold over;rw[List.replicate_succ',Cy];simp
def kB(d:Nat×List PP):Value:=.slice (ae ⟨d.1,0,af⟩) d.2.length (d.2.length+1)
def lF(d:Nat×List PP):Value:=.slice (ae ⟨d.1,0,af⟩) (d.2.length+1) (d.2.length+1)
structure FL(O:Nat->Prop)(R:BR)(w1:ak)(gb:Nat)(pss:List (List PP))(D:List (Nat×List PP))(lv:au)(R1:BR)(W:ak):Prop where
 cv:aO w1 W
 known:aI Xm O R1 W
 sub:BR.Sub R R1
 rg:R1 gb gb
 own:eS W gb 102 (D.map kB++rR (pss.length+1-D.length) (.slice af 0 0))
 row:j9 (λ_=>True) W (gb+1) 102 1 lv D.length (D.map lF)
 vl:VR Xm.G R1 lv lv
 blk:∀d∈D,gb<d.1/\R1 d.1 d.1/\eS W d.1 103 (laid d.2)
 yN:(D.map (·.1)).Nodup
 apart:∀g,lv.ownBlock=ae g->g≠gb/\∀d∈D,d.1≠g
 parts:D.map (·.2)=pss.take D.length
section
variable {Post:au->ak->Prop} {O:Nat->Prop} {R:BR} {w1:ak} {gb k pc:Nat} {pa:Option aH} {pss:List (List PP)} {c:aC} {h:List aC}
theorem ah0{b:au->Prop}{e:aK}{n:Nat}(h:j9 b s a e t u n j)(o:dV):j9 b (s.alloc o) a e t u n j:=h.bK λk c=>xu s o (h.own.lt k c).2
theorem TN(c5:w1.heap.size=gb)(hP:sc O w1 pa pss)(a6:pss.length<=1048576)(bs:∀ps∈pss,ps.length<=1048576)(bk:∀D r o W x,FL O R w1 gb pss D r o W->D.length=pss.length->ay aj Post O (aw (FD 39 [] (dF (.slice pa pss.length pc) (ptr k) (.slice (ae ⟨gb,0,af⟩) (pss.length+1) (pss.length+1)) r (.int .i64 (pss.length:Int)) (x 8) (x 9) (x 10) (x 11) (x 12) (x 13) (x 14) (x 15) x) su) (c::h)) W):∀(a2:Nat) (D:List (Nat×List PP)) (r:au) (o:BR) (W:ak) (x:Nat->au),a2+D.length=pss.length->FL O R w1 gb pss D r o W->ay aj Post O (aw (FD 39 [] (dF (.slice pa pss.length pc) (ptr k) (.slice (ae ⟨gb,0,af⟩) (pss.length+1) (pss.length+1)) r (.int .i64 (D.length:Int)) (x 8) (x 9) (x 10) (x 11) (x 12) (x 13) (x 14) (x 15) x) su) (c::h)) W:=by
 intro a2;induction a2 with
 |zero=>
  intro D r o W x ha hF;have e:D.length=pss.length:=ag;rw[e];exact bk D r o W x hF e
 |succ a2 ih=>
  intro D r o W x ha hF;have N:D.length<pss.length:=ag;obtain⟨ps,aF⟩:∃ps,pss[D.length]?=ae ps:=⟨pss[D.length],bf N⟩;have al:=bs ps (cG aF);obtain⟨pb,po,ai,ci,rfl,cR,ad,bg⟩:=(hP.on hF.cv) D.length ps aF;have br:=hF.known.low;have gQ:¬O W.heap.size:=λhO=>by have:=br _ hO;omega
  have ba:¬O gb:=hF.known.apart gb hF.rg;have bm:=hF.own.lt;obtain⟨a,a1⟩:∃a,W.heap.size=a:=⟨_,rfl⟩;refine WQ cR ad a6 N al a1 λx=> ?_;rw[XV];have aP:aI Xm O (o.add a a) (W.alloc (.cells (zP (ps.length+1)).toArray 103)):=by
   rw[<-a1];refine hF.known.cells (λbZ hv=> ?_) 103;obtain⟨p,Z⟩:=lJ hv;rw[GL]at Z;split at Z
   ·cases Z;split;·exact .string _
    ·exact .int _ _
   ·cases Z
  have ao:(o.add a a) a a:=.inr ⟨rfl,rfl⟩;obtain⟨t,a8⟩:∃t,W.alloc (.cells (zP (ps.length+1)).toArray 103)=t:=⟨_,rfl⟩;rw[a8]at aP⊢;have w:aO W t:=a8▸dw W _;have bM:t.heap.size=a+1:=by rw[<-a8,dh,a1]
  have b9:eS t a 103 (lay ps 0):=by rw[VF,<-a1,<-a8];exact eS.new W 103 _
  have inner:∀(b p:Nat),b+p=ps.length->∀(V:ak) (x:Nat->au),V.heap.size=t.heap.size->V.os=t.os->V.output=t.output->(∀j,j≠a->V.heap[j]?=t.heap[j]?)->aI Xm O (o.add a a) V->eS V a 103 (lay ps p)->
    ay aj Post O (aw (FD 39 [] (dF (.slice (ae ⟨pb,po,af⟩) pss.length pc) (ptr k) (.slice (ae ⟨gb,0,af⟩) (pss.length+1) (pss.length+1)) r (.int .i64 (D.length:Int)) (.slice (ae ⟨a,0,af⟩) (ps.length+1) (ps.length+1)) (.int .i64 (p:Int)) (x 10) (x 11) (x 12) (x 13) (x 14) (x 15) x) tY) (c::h)) V:=by
   intro b;induction b with
   |zero=>
    intro p Z V x v1 v2 v3 v4 an s;have bo:p=ps.length:=ag;subst bo;have u:aO W V:=⟨by rw[v1];exact w.size,λj l=>(v4 j ag).trans (w.block j l),v2.trans w.os,v3.trans w.output⟩;obtain⟨l1,l2⟩:=Kq (ps:=ps) (aL _);refine WT cR (u.cell ad) a6 N al ag (by rw[<-a1];exact gQ) (s.cell l1) (s.cell l2) (s.free _) (s.free _) λx=> ?_;have H:=(s.set (ps.length*2) (.string lW)).set (ps.length*2+1) (.int .i64 0);rw[VD]at H;have aQ:=(an.set ⟨a,ps.length*2,af⟩ (v:=.string lW) (.string _)).set ⟨a,ps.length*2+1,af⟩ (v:=.int .i64 0) (.int _ _);obtain⟨U,hU⟩:∃U,(V.setCell ⟨a,ps.length*2,af⟩ (.string lW)).setCell ⟨a,ps.length*2+1,af⟩ (.int .i64 0)=U:=⟨_,rfl⟩;have bd:∀j,j≠a->U.heap[j]?=V.heap[j]?:=λj l=>by rw[<-hU,uI l,uI l]
    have a7:U.heap.size=V.heap.size/\U.os=V.os/\U.output=V.output:=by rw[<-hU];exact⟨by rw[jX,jX],rfl,rfl⟩
    rw[hU]at H aQ⊢;have y:aO W U:=⟨by rw[a7.1];exact u.size,λj l=>(bd j ag).trans (u.block j l),a7.2.1.trans u.os,a7.2.2.trans u.output⟩;have av:=hF.own.bK (y.block gb bm);have bl:(D.map kB++rR (pss.length+1-D.length) (iM af 0 0))[D.length]?=ae (.slice af 0 0):=by
     rw[np az,sY,xC,aw2,if_pos ag]
    refine WU cR (y.cell ad) a6 N ba (av.cell bl) (av.free _) λx=> ?_;have bP:VR Xm.G (o.add a a) (kB (a,ps)) (kB (a,ps)):=.slice _ _ ⟨ao,rfl,rfl⟩;have bU:VR Xm.G (o.add a a) (lF (a,ps)) (lF (a,ps)):=.slice _ _ ⟨ao,rfl,rfl⟩;have aR:=aQ.set ⟨gb,D.length,af⟩ (v:=kB (a,ps)) bP;have c6:gb≠a:=ag;obtain⟨Y,hY⟩:∃Y,U.setCell ⟨gb,D.length,af⟩ (kB (a,ps))=Y:=⟨_,rfl⟩;have ac:∀j,j≠gb->Y.heap[j]?=U.heap[j]?:=λj l=>by rw[<-hY,uI l]
    have ap:Y.heap.size=a+1/\Y.os=U.os/\Y.output=U.output:=by rw[<-hY];exact⟨by rw[jX,a7.1,v1,bM],rfl,rfl⟩
    have bw:eS Y gb 102 ((D++[(a,ps)]).map kB++rR (pss.length+1-(D++[(a,ps)]).length) (.slice af 0 0)):=by
     have:=av.set D.length (kB (a,ps));rw[hY]at this;rw[show pss.length+1-D.length=(pss.length+1-(D++[(a,ps)]).length)+1 by simp;omega,NS,NJ _ _ az,sY,xC,O5]at this;rw[zT,sU];exact this
    have eY:U.setCell ⟨gb,D.length,af⟩ (.slice (ae ⟨a,0,af⟩) ps.length (ps.length+1))=Y:=hY;rw[eY];rw[hY]at aR;have bE:j9 (λ_=>True) Y (gb+1) 102 1 r D.length (D.map lF):=hF.row.bK λj l=>by
     have B:=hF.apart j l;have h2:=(hF.row.own.lt j l).2;exact(ac j B.1).trans (y.block j h2)
    have ar:aO w1 Y:=by
     refine⟨by have:=hF.cv.size;omega,λj l=>(ac j ag).trans ((y.block j (by have:=hF.cv.size;omega)).trans (hF.cv.block j l)),ap.2.1.trans (y.os.trans hF.cv.os),ap.2.2.trans (y.output.trans hF.cv.output)⟩
    obtain⟨v,aT⟩:∃v,Y.heap.size=v:=⟨_,rfl⟩;have b6:aI Xm O ((o.add a a).add v v) (Y.alloc (.cells #[lF (a,ps)] 102)):=by rw[<-aT];exact aR.cells (xs:=[lF (a,ps)]) (λbZ hv=>by simp at hv;subst hv;exact bU) 102
    have am:BR.Sub o ((o.add a a).add v v):=(BR.gF _ _ _).trans (BR.gF _ _ _);refine WV (pa:=ae ⟨pb,po,af⟩) (R:=(o.add a a).add v v) (Pl:=λ_=>True) (base:=gb+1) (xs:=D.map lF) a6 N al aT (λ_ _=>trivial) trivial b6 (hF.vl.mono am) (.slice _ _ ⟨.inr ⟨rfl,rfl⟩,rfl,rfl⟩) (ah0 bE _) (by rw[dh];omega) λb1 W' R' k1 k2 k3 k4 k5 k6 x=> ?_;have b0:(Y.alloc (.cells #[iM (ae ⟨a,0,af⟩) (ps.length+1) (ps.length+1)] 102)).heap.size=a+2:=by rw[dh,ap.1]
    rw[b0]at k6;have aa:∀j,j<a+1->ae j≠r.ownBlock->W'.heap[j]?=Y.heap[j]?:=λj l bv=>(k2.block j (by rw[b0];omega) bv).trans (xu Y _ ag);have aJ:∀g,r.ownBlock=ae g->g<a/\gb<g:=λg hg=>by have:=hF.row.own.lt g hg;omega
    have b3:FL O R w1 gb pss (D++[(a,ps)]) b1 R' W':=by
     refine⟨?_,k3,hF.sub.trans (am.trans k5),k5 _ _ (am _ _ hF.rg),bw.bK (aa gb ag λe=>(hF.apart gb e.symm).1 rfl),?_,k4,?_,?_,?_,?_⟩;·refine⟨by have:=k2.size;have:=hF.cv.size;omega,λj l=>(aa j (by have:=hF.cv.size;omega) λe=>by have:=aJ j e.symm;omega).trans (ar.block j l),k2.os.trans ar.os,k2.output.trans ar.output⟩
     ·have e:(D++[(a,ps)]).map lF=D.map lF++[.slice (ae ⟨a,0,af⟩) (ps.length+1) (ps.length+1)]:=by simp[lF]
      rw[e];simpa using k1
     ·intro d f;rcases dU.1 f with f|f
      ·obtain⟨q1,q2,q3⟩:=hF.blk d f;have bj:=q3.lt;refine⟨q1,k5 _ _ (am _ _ q2),q3.bK ?_⟩;exact(aa d.1 ag λe=>(hF.apart d.1 e.symm).2 d f rfl).trans ((ac d.1 ag).trans (y.block d.1 bj))
      ·simp at f;subst f;refine⟨by show gb<a;omega,k5 _ _ (.inl ao),H.bK ?_⟩;exact(aa a ag λe=>by have:=aJ a e.symm;omega).trans (ac a ag)
     ·rw[zT,List.map_singleton,List.nodup_append];refine⟨hF.yN,az,λa2 ha b hb=> ?_⟩;simp at hb;subst hb;obtain⟨d,f,rfl⟩:=iL.1 ha;have:=(hF.blk d f).2.2.lt;omega
     ·intro g hg;rcases k6 g hg with B|B
      ·refine⟨(hF.apart g B).1,λd f=> ?_⟩;rcases dU.1 f with f|f;·exact(hF.apart g B).2 d f
       ·simp at f;subst f;have:=aJ g B;show a≠g;omega
      ·refine⟨ag,λd f=> ?_⟩;rcases dU.1 f with f|f;·have:=(hF.blk d f).2.2.lt;omega
       ·simp at f;subst f;show a≠g;omega
     ·rw[zT,hF.parts,gJ,NK,mC,aF];rfl
    have:=ih (D++[(a,ps)]) b1 R' W' x (by simp;omega) b3;rw[gJ,NK]at this;exact this
   |succ b bY=>
    intro p Z V x v1 v2 v3 v4 an s;have aU:p<ps.length:=ag;obtain⟨q,hq⟩:∃q,ps[p]?=ae q:=⟨ps[p],bf aU⟩;obtain⟨kb,ko,rfl,bb,be,bi⟩:=bg p q hq;have u:aO W V:=⟨by rw[v1];exact w.size,λj l=>(v4 j ag).trans (w.block j l),v2.trans w.os,v3.trans w.output⟩;obtain⟨l1,l2⟩:=Kq (ps:=ps) (k:=p) ag;refine WS cR (u.cell ad) a6 N bb (u.cell be) (u.cell bi) al aU (by rw[<-a1];exact gQ) (s.cell l1) (s.cell l2) (s.free _) (s.free _) λx=> ?_;have H:=(s.set (p*2) (.string q.1)).set (p*2+1) (.int .i64 q.2);rw[VE hq]at H;exact bY (p+1) ag _ x (by rw[jX,jX,v1]) v2 v3 (λj l=>by rw[uI l,uI l];exact v4 j l) ((an.set _ (.string _)).set _ (.int _ _)) H
  exact inner ps.length 0 ag t x rfl rfl rfl (λ_ _=>rfl) aP b9
theorem TO{W2:ak}{R2:BR}{D:List (Nat×List PP)}{qb qc:Nat}{e ff:Int}(hD:D.map (·.2)=pss)(hP:sc O w1 pa pss)(a7:pss.length<=1048576)(b1:∀ps∈pss,ps.length<=1048576)(y:aO w1 W2)(ar:¬O gb)(aF:¬O qb)(hg:eS W2 gb 102 (D.map kB++[.slice af 0 0]))(hq:∀(i:Nat) d,D[i]?=ae d->W2.cell? ⟨qb,i,af⟩=ae (lF d))(H:∀d∈D,w1.heap.size<=d.1/\¬O d.1/\d.1≠gb/\d.1≠qb/\eS W2 d.1 103 (laid d.2))(b3:(D.map (·.1)).Nodup)(hK:aI Xm O R2 W2)(aR:∀W x,W.heap.size=W2.heap.size->W.os=W2.os->W.output=W2.output->(∀j,j∉D.map (·.1)->W.heap[j]?=W2.heap[j]?)->aI Xm O R2 W->ay aj Post O (aw (FD 39 [] (dF (.slice pa pss.length pc) (ptr k) (.slice (ae ⟨gb,0,af⟩) (pss.length+1) (pss.length+1)) (.slice (ae ⟨qb,0,af⟩) pss.length qc) (x 7) (x 8) (x 9) (.int .i64 e) (.int .i64 ff) (.bool aq) (.int .i64 (pss.length:Int)) (x 14) (x 15) x) rj) (c::h)) W):∀(a i:Nat),a+i=pss.length->∀(W:ak) (x:Nat->au),W.heap.size=W2.heap.size->W.os=W2.os->W.output=W2.output->(∀j,j∉D.map (·.1)->W.heap[j]?=W2.heap[j]?)->(∀(j:Nat) d,i<=j->D[j]?=ae d->eS W d.1 103 (laid d.2))->aI Xm O R2 W->ay aj Post O (aw (FD 39 [] (dF (.slice pa pss.length pc) (ptr k) (.slice (ae ⟨gb,0,af⟩) (pss.length+1) (pss.length+1)) (.slice (ae ⟨qb,0,af⟩) pss.length qc) (x 7) (x 8) (x 9) (.int .i64 e) (.int .i64 ff) (.bool aq) (.int .i64 (i:Int)) (x 14) (x 15) x) rj) (c::h)) W:=by
 have be:D.length=pss.length:=by rw[<-hD];simp
 intro a;induction a with
 |zero=>
  intro i hi W x R U v3 v4 v5 a2;have:i=pss.length:=ag;subst this;exact aR W x R U v3 v4 a2
 |succ a ih=>
  intro i hi W x R U v3 v4 v5 a2;have a6:i<pss.length:=ag;obtain⟨d,t⟩:∃d,D[i]?=ae d:=⟨D[i],bf ag⟩;have N:pss[i]?=ae d.2:=by rw[<-hD,iI,t];rfl
  have al:=cG t;obtain⟨d1,d2,d3,d4,d5⟩:=H d al;have an:=b1 d.2 (cG N);have r:aO w1 W:=⟨by rw[R];exact y.size,λj f=>(v4 j λu=>by obtain⟨o,p,rfl⟩:=iL.1 u;have:=(H o p).1;omega).trans (y.block j f),U.trans y.os,v3.trans y.output⟩;obtain⟨w,po,ai,ci,rfl,Z,ac,bd⟩:=(hP.on r) i d.2 N;have aU:eS W gb 102 (D.map kB++[.slice af 0 0]):=hg.bK (v4 gb λu=>by obtain⟨o,p,v⟩:=iL.1 u;exact(H o p).2.2.1 v);have b6:W.cell? ⟨qb,i,af⟩=ae (lF d):=(gV (a:=⟨qb,i,af⟩) (v4 qb λu=>by obtain⟨o,p,v⟩:=iL.1 u;exact(H o p).2.2.2.1 v)).trans (hq i d t);have hL:=v5 i d (aL _) t;have aT:(D.map kB++[iM af 0 0])[i]?=ae (kB d):=by rw[nu (by simp;omega),iI,t];rfl
  refine WX (lb:=d.1) Z ac a7 a6 an aF b6 ar (aU.cell aT) d2 (hL.cell (VC d.2)) λx=> ?_
  have inner:∀(b l:Nat),b+l=d.2.length->∀(V:ak) (x:Nat->au),V.heap.size=W.heap.size->V.os=W.os->V.output=W.output->(∀j,j≠d.1->V.heap[j]?=W.heap[j]?)->aI Xm O R2 V->eS V d.1 103 (over d.2 l)->
    ay aj Post O (aw (FD 39 [] (dF (.slice (ae ⟨w,po,af⟩) pss.length pc) (ptr k) (.slice (ae ⟨gb,0,af⟩) (pss.length+1) (pss.length+1)) (.slice (ae ⟨qb,0,af⟩) pss.length qc) (x 7) (x 8) (x 9) (.int .i64 e) (.int .i64 ff) (.bool aq) (.int .i64 (i:Int)) (.slice (ae ⟨d.1,0,af⟩) (d.2.length+1) (d.2.length+1)) (.int .i64 (l:Int)) x) tZ) (c::h)) V:=by
   intro b;induction b with
   |zero=>
    intro l hk V x u1 u2 u3 u4 a1 s;have B:aO w1 V:=⟨by rw[u1];exact r.size,λj f=>(u4 j ag).trans (r.block j f),u2.trans r.os,u3.trans r.output⟩;have aP:V.cell? ⟨w,po+i,af⟩=ae (.slice ai d.2.length ci):=by
     have a8:w≠d.1:=λe=>by
      subst e;obtain⟨ba,bb,ao,ap,e1,_,e2,_⟩:=hP i d.2 N;cases e1;have h9:d.1<w1.heap.size:=cC _ _ e2;omega
     exact(gV (a:=⟨w,po+i,af⟩) (u4 w a8)).trans ac
    refine X3 Z aP a7 a6 ag λx=> ?_;refine ih (i+1) ag V x (u1.trans R) (u2.trans U) (u3.trans v3) (λj f=>(u4 j λe'=>f (iL.2 ⟨d,al,e'.symm⟩)).trans (v4 j f)) (λj o f ad=> ?_) a1;have a8:o.1≠d.1:=λe'=>by
     have p:(D.map (·.1))[j]?=ae o.1:=by rw[iI,ad];rfl
     have v:(D.map (·.1))[i]?=ae d.1:=by rw[iI,t];rfl
     rw[e']at p;have b0:j<(D.map (·.1)).length:=(cu.1 p).1;have:=(List.getElem?_inj b0 b3).1 (p.trans v.symm);omega
    exact(v5 j o ag ad).bK (u4 o.1 a8)
   |succ b b9=>
    intro l hk V x u1 u2 u3 u4 a1 s;have am:l<d.2.length:=ag;obtain⟨q,aa⟩:∃q,d.2[l]?=ae q:=⟨d.2[l],bf am⟩;obtain⟨ba,bb,ao,ap,e1,_,e2,e3⟩:=hP i d.2 N;cases e1;obtain⟨kb,ko,rfl,av,aJ,aQ⟩:=e3 l q aa;have B:aO w1 V:=⟨by rw[u1];exact r.size,λj f=>(u4 j ag).trans (r.block j f),u2.trans r.os,u3.trans r.output⟩;obtain⟨l1,l2⟩:=Z3 aa;refine WY Z (B.cell e2) a7 a6 av (B.cell aJ) (B.cell aQ) an am d2 (s.cell l1) (s.cell l2) (s.free _) (s.free _) λx=> ?_;have ab:=(s.set (l*2) (.string wh)).set (l*2+1) (.int .i64 (-7));rw[Z4 aa]at ab;exact b9 (l+1) ag _ x (by rw[jX,jX,u1]) u2 u3 (λj f=>by rw[uI f,uI f];exact u4 j f) ((a1.set _ (.string _)).set _ (.int _ _)) ab
  exact inner d.2.length 0 ag W x rfl rfl rfl (λ_ _=>rfl) a2 (by rw[Z5];exact hL)
end
