import PyProof.Rows.All
import Wide.All
import OpenK.AllK
import Wide.FinOn
import Lean
import PyProof.EqAt
import PyProof.EqKinds
import PyProof.TupleCall
import PySem.Str
import PyProof.NeKinds
import PyProof.Draws
import PyProof.EnumMake
import PyProof.ZipIter
import KE.KSortTup
import KE.KLam
import PyProof.Rows.SortStr
import PyProof.Rows.FactsT3
import PyProof.StrOps2
import KE.KDictList
import KE.KRevIter
import PyProof.CollectIter
import PyProof.TupleOfGen
import PyProof.Rows.StrNews2
import PyProof.Rows.StrFacts2
import PyProof.StrLawsRepr
import PyProof.Rows.StrCase
import PyProof.Rows.StrSplit
import PySem.Challenge.RW_arrowfind_k80_written_and_read
set_option maxRecDepth 100000
set_option maxHeartbeats 4000000
set_option Elab.async false
set_option linter.all false
namespace L2
open PySem PySem.Spec PyProof.Rows
abbrev Key:=Sum Int Str
def Fb:Key→Value→Bool
 | .inl k,v=>Value.isInt k v
 | .inr x,v=>Value.isStrOf x v
def adN(w:World):Key→Int
 | .inl k=>hashInt k
 | .inr x=>hashStr w x
theorem fj:∀ {k:Key} {v:Value},Fb k v=true→(∃ i t,k=Sum.inl i∧v=Value.int i t)∨(∃ x t,k=Sum.inr x∧v=Value.str x t)
 | .inl i,v,h=>by
  obtain⟨t,e⟩:=Value.isInt_shape (k:=i) (v:=v) h
  exact .inl ⟨i,t,rfl,e⟩
 | .inr x,v,h=>by
  obtain⟨t,e⟩:=Value.isStrOf_shape (x:=x) (v:=v) h
  exact .inr ⟨x,t,rfl,e⟩
theorem Rq(i:Int)(t:Tok):Fb (.inl i) (.int i t)=true:=by simp[Fb,Value.isInt]
theorem Rp(x:Str)(t:Tok):Fb (.inr x) (.str x t)=true:=by simp[Fb,Value.isStrOf]
theorem aaQ(a b:Int):decide ((Sum.inl a:Key)=Sum.inl b)=(a == b):=by
 by_cases e:a=b
 ·subst e;simp
 ·have h:¬ (Sum.inl a:Key)=Sum.inl b:=fun q=>e (Sum.inl.inj q)
  rw[decide_eq_false h]
  exact(beq_eq_false_iff_ne.mpr e).symm
theorem aaN(a b:Str):decide ((Sum.inr a:Key)=Sum.inr b)=decide (a=b):=by
 by_cases e:a=b
 ·subst e;simp
 ·have h:¬ (Sum.inr a:Key)=Sum.inr b:=fun q=>e (Sum.inr.inj q)
  rw[decide_eq_false h,decide_eq_false e]
theorem aaP(a:Int)(b:Str):decide ((Sum.inl a:Key)=Sum.inr b)=false:=decide_eq_false (fun q=>nomatch q)
theorem aaO(a:Str)(b:Int):decide ((Sum.inr a:Key)=Sum.inl b)=false:=decide_eq_false (fun q=>nomatch q)
def gO(prog:Program)(w:World):PySem.KeyKind prog w Key where
 is:=Fb
 hash:=adN w
 inj:=fun v a b ha hb=>by
  rcases fj ha with ⟨i,t,rfl,rfl⟩|⟨x,t,rfl,rfl⟩
  ·rcases fj hb with ⟨j,u,rfl,e⟩|⟨y,u,rfl,e⟩
   ·injection e with e1 _;rw[e1]
   ·exact nomatch e
  ·rcases fj hb with ⟨j,u,rfl,e⟩|⟨y,u,rfl,e⟩
   ·exact nomatch e
   ·injection e with e1 _;rw[e1]
 byValue:=fun k v h=>by
  rcases fj h with ⟨i,t,rfl,rfl⟩|⟨x,t,rfl,rfl⟩<;>rfl
 pyHash:=fun hv h=>by
  rcases fj hv with ⟨i,t,rfl,rfl⟩|⟨x,t,rfl,rfl⟩
  ·exact wpAny_pyHash_int h
  ·exact wpAny_pyHash_str h
 eqBool:=fun hu hv h=>by
  rcases fj hu with ⟨i,t,rfl,rfl⟩|⟨x,t,rfl,rfl⟩
  ·rcases fj hv with ⟨j,u,rfl,rfl⟩|⟨y,u,rfl,rfl⟩
   ·rw[aaQ] at h;exact wpAny_eqBool_int h
   ·rw[aaP] at h;exact SeqAt.EqAt.int_str i t y u _ _ _ _ h
  ·rcases fj hv with ⟨j,u,rfl,rfl⟩|⟨y,u,rfl,rfl⟩
   ·rw[aaO] at h;exact SeqAt.EqAt.str_int x t j u _ _ _ _ h
   ·rw[aaN] at h;exact wpAny_eqBool_str h
 «strs»:=fun k x t v h=>by
  rcases fj h with ⟨i,u,rfl,e⟩|⟨y,u,rfl,e⟩
  ·exact nomatch e
  ·injection e with e1 _
   subst e1
   cases v<;>rfl
theorem J3(prog:Program)(w:World)(i:Int)(t:Tok):(gO prog w).is (.inl i) (.int i t)=true:=Rq i t
theorem J2(prog:Program)(w:World)(x:Str)(t:Tok):(gO prog w).is (.inr x) (.str x t)=true:=Rp x t
end L2
namespace L2
open PySem PySem.Spec PyProof.Rows
inductive V where
 | non|bl (b:Bool)|int (i:Int)|str (x:Str)|byt (b:Array UInt8)|flt (b:UInt64)|ref (a:Addr)|ty (n:String)
 deriving DecidableEq
def RelV:V→Value→Prop
 | .non,u=>u=Value.none
 | .bl b,u=>u=Value.bool b
 | .int i,u=>∃ t,u=Value.int i t
 | .str x,u=>∃ t,u=Value.str x t
 | .byt b,u=>∃ t,u=Value.bytes b t
 | .flt b,u=>∃ t,u=Value.float b t
 | .ref a,u=>u=Value.ref a
 | .ty n,u=>u=Value.type n
abbrev Vals:List V→List Value→Prop:=Paired RelV
theorem Vals.length{xs:List V}{us:List Value}(r:Vals xs us):xs.length=us.length:=Paired.length r
theorem Vals.get:∀ {xs:List V} {us:List Value} {i:Nat} {x:V},Vals xs us→xs[i]? = some x→∃ u,us[i]? = some u∧RelV x u
 | _,_,_,_,.nil,e=>by simp at e
 | _,_,0,_,.cons r _,e=>by simp at e;subst e;exact⟨_,rfl,r⟩
 | _,_,i+1,x,.cons _ t,e=>by
  obtain⟨u,h1,h2⟩:=Vals.get (i:=i) (x:=x) t (by simpa using e)
  exact⟨u,by simpa using h1,h2⟩
theorem Vals.append:∀ {xs ys:List V} {us ws:List Value},Vals xs us→Vals ys ws→Vals (xs++ys) (us++ws)
 | _,_,_,_,.nil,s=>s
 | _,_,_,_,.cons r t,s=>.cons r (Vals.append t s)
theorem Vals.take:∀ {xs:List V} {us:List Value} (n:Nat),Vals xs us→Vals (xs.take n) (us.take n)
 | _,_,0,_=>.nil
 | _,_,_+1,.nil=>.nil
 | _,_,n+1,.cons r t=>.cons r (Vals.take n t)
theorem Vals.drop:∀ {xs:List V} {us:List Value} (n:Nat),Vals xs us→Vals (xs.drop n) (us.drop n)
 | _,_,0,r=>r
 | _,_,_+1,.nil=>.nil
 | _,_,n+1,.cons _ t=>Vals.drop n t
def Oq:Option V→Option Value→Prop
 | some v,some u=>RelV v u
 | none,none=>True
 | _,_=>False
def KV{κ : Type}:List (κ×V)→List (κ×Value)→Prop:=Paired fun (p:κ×V) (q:κ×Value)=>p.1=q.1∧RelV p.2 q.2
def kV:Key→V
 | .inl i=>.int i
 | .inr x=>.str x
def Li(h:Heap)(a:Addr)(its:Array Value):Prop:=∃ o,h.get? a=some o∧o.cls=.type "tuple" ∧ o.dict=none∧∃ n,o.data=.seq its n
theorem Li.tup{h:Heap}{a:Addr}{its:Array Value}(x:Li h a its):IsTup h a its:=let ⟨o,e,c,_,d⟩:=x;⟨o,e,c,d⟩
theorem Li.new(h:Heap)(its:Array Value):Li (h.push { cls:=.type "tuple", data:=.seq its }) h.objs.size its:=⟨_,Heap.get?_push_size _ rfl,rfl,rfl,_,rfl⟩
inductive HO where
 /-- a list -/
 | lst (xs:List V)
 /-- a tuple (never changes) -/
 | tup (xs:List V)
 /-- a dict whose keys are ints and texts;one whose keys are tuples of ints and texts (the empty one is both) -/
 | dK (kvs:List (Key×V))|dT (kvs:List (List Key×V))
 /-- a set of ints: its members,its size -/
 | set (S:Int→Bool) (n:Nat)
 /-- an instance of the class at C,its dict at dx,its attributes -/
 | ins (C dx:Addr) (fs:List (Str×V))
 /-- the dict of the instance at x -/
 | own (x:Addr)
 /-- the dict of an exception -/
 | xd (fs:List (Str×V))
 /-- a bound method,f of x -/
 | met (f x:Addr)
 /-- a range object lo,lo+1,.. below hi -/
 | rng (lo hi:Int)
 /-- a thing that is known to the object (the script;a dict while a loop walks it): read,never written while it is so -/
 | frz (o:Obj) (u:HO)
 /-- a code object's table -/
 | tbl (w:Str) (ps:Array Value)
 /-- any other thing,by what is true of its one object (a def of one's own: aew a S n:=HO.ext fun h=>..) -/
 | ext (φ : Heap→Prop)
abbrev Hp:=Addr→Option HO
def upd(H:Hp)(a:Addr)(o:HO):Hp:=fun b=>if b=a then some o else H b
theorem aV{H:Hp}{a:Addr}{o:HO}:upd H a o a=some o:=by unfold upd;rw[if_pos rfl]
theorem aF{H:Hp}{a b:Addr}{o:HO}(h:b≠a):upd H a o b=H b:=by unfold upd;rw[if_neg h]
theorem aco{H:Hp}{a b:Addr}{o u:HO}(h:H a=some o)(h':H b=some u)(d:o≠u):a≠b:=by
 intro e;subst e;rw[h] at h';exact d (Option.some.inj h')
theorem aX{H:Hp}{a b:Addr}{o:HO}(h:H a=some o)(h':H b=none):a≠b:=by
 intro e;subst e;rw[h] at h';cases h'
section
variable(P:Program)(w:World)
def bW(H:Hp)(h:Heap)(a:Addr):HO→Prop
 | .lst xs=>xs.length≤sizeLine∧∃ (its:List Value) (n:Nat),Vals xs its∧h.get? a=some { cls:=.type "list", data:=.seq its.toArray n }
 | .tup xs=>xs.length≤sizeLine∧∃ its:List Value,Vals xs its∧Li h a its.toArray
 | .dK kvs=>kvs.length≤sizeLine∧(a == sysModules)=false∧∃ vs,KV kvs vs∧h.DictOf (gO P w) a vs
 | .dT kvs=>kvs.length≤sizeLine∧(a == sysModules)=false∧∃ xs:List (List Key×Addr×Value),
  Paired (fun (p:List Key×V) (q:List Key×Addr×Value)=>p.1=q.1∧H q.2.1=some (.tup (p.1.map kV))∧RelV p.2 q.2.2) kvs xs ∧
  ∃ o es ep,h.get? a=some o∧o.ExactDict∧o.data=.dict es ep∧es.toList=xs.map (entryOfKey (tupleKind (gO P w)))∧(xs.map (·.1)).Nodup
 | .set S n=>h.SetOf (intKind P w) a S n
 | .ins C dx fs=>H dx=some (.own a)∧fs.length≤1000∧dx≠a∧h.get? a=some (PySem.W.instObj C dx) ∧
  ∃ mA,h.Ns1 dx mA∧(∀ f,Oq (fs.lookup f) (mA f))∧PySem.Within mA (fs.map (·.1))
 | .own _=>∃ o,h.get? a=some o
 | .xd fs=>∃ mA,h.Ns1 a mA∧∀ f,Oq (fs.lookup f) (mA f)
 | .rng lo hi=>∃ t u v,h.get? a=some { cls:=.type "range", data:=.fields #[.int lo t,.int hi u,.int 1 v] }
 | .frz o u=>h.get? a=some o∧bW H h a u
 | .tbl _ ps=>h.get? a=some { cls:=.none,data:=.fields ps }
 | .met f x=>h.get? a=some (PySem.W.methodObj (.ref f) (.ref x))
 | .ext φ=>φ h∧(∃ o,h.get? a=some o)∧∀ h1 h2:Heap,φ h1→(∀ o,h1.get? a=some o→h2.get? a=some o)→φ h2
def uy(H:Hp)(h:Heap):Prop:=∀ a o,H a=some o→bW P w H h a o
end
section
variable{P:Program}{w:World}{H H':Hp}{h h':Heap}{a:Addr}{o:HO}
theorem bW.lt(x:bW P w H h a o):a < h.objs.size:=by
 cases o with
 | lst xs=>obtain⟨_,_,_,_,e⟩:=x;exact Heap.lt_size e
 | tup xs=>obtain⟨_,_,_,p⟩:=x;exact p.tup.lt
 | dK kvs=>obtain⟨_,_,_,_,o,_,_,e,_⟩:=x;exact Heap.lt_size e
 | dT kvs=>obtain⟨_,_,_,_,o,_,_,e,_⟩:=x;exact Heap.lt_size e
 | set S n=>obtain⟨o,_,_,_,e,_⟩:=x;exact Heap.lt_size e
 | ins C dx fs=>obtain⟨_,_,_,e,_⟩:=x;exact Heap.lt_size e
 | own y=>obtain⟨_,e⟩:=x;exact Heap.lt_size e
 | xd fs=>obtain⟨_,⟨_,_,_,e,_⟩,_⟩:=x;exact Heap.lt_size e
 | rng lo hi=>obtain⟨_,_,_,e⟩:=x;exact Heap.lt_size e
 | frz ob u=>obtain⟨e,_⟩:=x;exact Heap.lt_size e
 | tbl w ps=>exact Heap.lt_size (show h.get? a=some _ from x)
 | met f y=>exact Heap.lt_size (show h.get? a=some _ from x)
 | ext φ=>obtain⟨_,⟨_,e⟩,_⟩:=x;exact Heap.lt_size e
theorem Paired.aaJ{α β : Type}{F G:α→β→Prop}:∀ {l₁:List α} {l₂:List β},Paired F l₁ l₂→(∀ a b,F a b→G a b)→Paired G l₁ l₂
 | _,_,.nil,_=>.nil
 | _,_,.cons r t,f=>.cons (f _ _ r) (Paired.aaJ t f)
theorem bW.stay(x:bW P w H h a o)(k:∀ b u,(b=a∨H b=some (.own a))→h.get? b=some u→h'.get? b=some u)
 (ho:∀ b,H b=some (.own a)→H' b=some (.own a)) (ht:∀ b xs,H b=some (.tup xs)→H' b=some (.tup xs)):bW P w H' h' a o:=by
 induction o with
 | lst xs=>obtain⟨z,its,n,r,e⟩:=x;exact⟨z,its,n,r,k _ _ (.inl rfl) e⟩
 | tup xs=>obtain⟨z,its,r,ob,e,c⟩:=x;exact⟨z,its,r,ob,k _ _ (.inl rfl) e,c⟩
 | dK kvs=>obtain⟨z,y,vs,r,ob,es,ep,e,c⟩:=x;exact⟨z,y,vs,r,ob,es,ep,k _ _ (.inl rfl) e,c⟩
 | dT kvs =>
  obtain⟨z,y,xs,r,ob,es,ep,e,c⟩:=x
  exact⟨z,y,xs,Paired.aaJ r fun p q z=>⟨z.1,ht _ _ z.2.1,z.2.2⟩,ob,es,ep,k _ _ (.inl rfl) e,c⟩
 | set S n=>obtain⟨ob,es,ep,t,e,c⟩:=x;exact⟨ob,es,ep,t,k _ _ (.inl rfl) e,c⟩
 | ins C dx fs =>
  obtain⟨d,z,ne,e,mA,⟨od,es,ep,e2,c⟩,r⟩:=x
  exact⟨ho _ d,z,ne,k _ _ (.inl rfl) e,mA,⟨od,es,ep,k _ _ (.inr d) e2,c⟩,r⟩
 | own y=>obtain⟨ob,e⟩:=x;exact⟨ob,k _ _ (.inl rfl) e⟩
 | xd fs=>obtain⟨mA,⟨od,es,ep,e,c⟩,r⟩:=x;exact⟨mA,⟨od,es,ep,k _ _ (.inl rfl) e,c⟩,r⟩
 | rng lo hi=>obtain⟨t,u,v,e⟩:=x;exact⟨t,u,v,k _ _ (.inl rfl) e⟩
 | frz ob u ih=>obtain⟨e,q⟩:=x;exact⟨k _ _ (.inl rfl) e,ih q⟩
 | tbl w ps =>
  have e:h.get? a=some { cls:=.none,data:=.fields ps }:=x
  show h'.get? a=some { cls:=.none,data:=.fields ps }
  exact k a _ (.inl rfl) e
 | met f y =>
  have e:h.get? a=some (PySem.W.methodObj (.ref f) (.ref y)):=x
  show h'.get? a=some (PySem.W.methodObj (.ref f) (.ref y))
  exact k a _ (.inl rfl) e
 | ext φ=>obtain⟨p,⟨o,e⟩,st⟩:=x;exact⟨st _ _ p fun o q=>k _ _ (.inl rfl) q,⟨o,k _ _ (.inl rfl) e⟩,st⟩
theorem uy.lt(x:uy P w H h)(e:H a=some o):a < h.objs.size:=(x a o e).lt
theorem uy.fresh(x:uy P w H h)(e:h.objs.size≤a):H a=none:=by
 cases q:H a with
 | none=>rfl
 | some u=>exact absurd (Nat.lt_of_lt_of_le (x.lt q) e) (Nat.lt_irrefl _)
theorem uy.kept(x:uy P w H h)(k:∀ b u,h.get? b=some u→h'.get? b=some u):uy P w H h':=fun a o e =>
 (x a o e).stay (fun b u _ q=>k b u q) (fun _ q=>q) fun _ _ q=>q
theorem uy.laid(x:uy P w H h)(k:∀ b u,h.get? b=some u→h'.get? b=some u)(hp:h.objs.size≤a)(new:bW P w (upd H a o) h' a o):uy P w (upd H a o) h':=fun b u e=>by
 have hn:=x.fresh hp
 by_cases hb:b=a
 ·subst hb;rw[aV] at e;cases e;exact new
 ·rw[aF hb] at e
  exact(x b u e).stay (fun c v _ q=>k c v q) (fun c q=>by rw[aF (aX q hn)];exact q) fun c xs q=>by rw[aF (aX q hn)];exact q
end
def Rd(H:Hp)(a:Addr)(u:HO):Prop:=H a=some u∨∃ o,H a=some (.frz o u)
theorem Rd.ok{P:Program}{w:World}{H:Hp}{h:Heap}{a:Addr}{u:HO}(r:Rd H a u)(x:uy P w H h):bW P w H h a u:=by
 rcases r with r|⟨o,r⟩
 ·exact x a u r
 ·obtain⟨_,q⟩:=x a _ r
  exact q
def Mut:Option HO→Prop
 | some (.lst _)=>True
 | some (.dK _)=>True
 | some (.dT _)=>True
 | some (.set _ _)=>True
 | some (.ins _ _ _)=>True
 | some (.ext _)=>True
 | _=>False
section
variable{P:Program}{w:World}{H:Hp}{h h':Heap}{x e:Addr}{o':HO}
theorem uy.write(ok:uy P w H h)(mu:Mut (H x))(he:e=x∨H e=some (.own x))(k:∀ b u,b≠e→h.get? b=some u→h'.get? b=some u)(heo:∃ u,h'.get? e=some u)
 (new:bW P w (upd H x o') h' x o'):uy P w (upd H x o') h':=fun b u q=>by
 have acj:∀ c y,H c=some (.own y)→c≠x:=fun c y r z=>by subst z;rw[r] at mu;exact mu
 have adG:∀ c xs,H c=some (.tup xs)→c≠x:=fun c xs r z=>by subst z;rw[r] at mu;exact mu
 by_cases hb:b=x
 ·subst hb;rw[aV] at q;cases q;exact new
 ·rw[aF hb] at q
  by_cases hbe:b=e
  ·have q':H b=some (.own x):=by
    rcases he with z|z
    ·exact absurd (hbe.trans z) hb
    ·rw[hbe];exact z
   rw[q] at q';cases q'
   obtain⟨v,hv⟩:=heo
   exact⟨v,by rw[hbe];exact hv⟩
  ·refine(ok b u q).stay (fun c v hc r=>k c v ?_ r) (fun c r=>by rw[aF (acj c b r)];exact r) fun c xs r=>by rw[aF (adG c xs r)];exact r
   rcases hc with rfl|hc
   ·exact hbe
   ·rintro rfl
    rcases he with z|z
    ·exact acj c b hc z
    ·rw[hc] at z;cases z;exact hb rfl
end
structure Un(fs ex:List Addr)(H H':Hp)(h h':Heap):Prop where
 keep:∀ b o,h.get? b=some o→H b=none→b∉fs→b∉ex→h'.get? b=some o
 slot:∀ b o,h.get? b=some o→H b=none→b∈fs→b∉ex→∃ sl,h'.get? b=some { o with slots:=sl }
 free:∀ b o,h.get? b=some o→H b=none→b∉ex→H' b=none
 there:∀ b o,h.get? b=some o→b∉ex→∃ o',h'.get? b=some o'
 tups:∀ b xs,H b=some (.tup xs)→H' b=some (.tup xs)
 Ed:∀ b o u,H b=some (.frz o u)→H' b=some (.frz o u)
 DG:∀ b w ps,H b=some (.tbl w ps)→∃ more,H' b=some (.tbl w (ps++more))
section
variable{fs fs' ex ex':List Addr}{H H1 H2:Hp}{h h1 h2 h':Heap}{a x e:Addr}{o:HO}
theorem Un.any(u:Un fs ex H H1 h h1){b:Addr}{ob:Obj}(q:h.get? b=some ob)(n:H b=none)(hx:b∉ex):∃ sl,h1.get? b=some { ob with slots:=sl }:=by
 by_cases hb:b∈fs
 ·exact u.slot b ob q n hb hx
 ·exact⟨ob.slots,u.keep b ob q n hb hx⟩
theorem Un.kept(k:∀ b u,h.get? b=some u→h'.get? b=some u):Un fs ex H H h h' :=
 ⟨fun b ob q _ _ _=>k b ob q,fun b ob q _ _ _=>⟨ob.slots,k b ob q⟩,fun _ _ _ n _=>n,fun b ob q _=>⟨ob,k b ob q⟩,fun _ _ q=>q,fun _ _ _ q=>q,fun _ w ps q=>⟨#[],by rw[q];simp⟩⟩
theorem Un.refl:Un fs ex H H h h:=Un.kept fun _ _ q=>q
theorem Un.laid(k:∀ b u,h.get? b=some u→h'.get? b=some u)(hp:h.objs.size≤a)(hn:H a=none):Un fs ex H (upd H a o) h h' where
 keep:=fun b u q _ _ _=>k b u q
 slot:=fun b u q _ _ _=>⟨u.slots,k b u q⟩
 free:=fun b u q n _=>by rw[aF (Nat.ne_of_lt (Nat.lt_of_lt_of_le (Heap.lt_size q) hp))];exact n
 there:=fun b u q _=>⟨u,k b u q⟩
 tups:=fun b xs q=>by rw[aF (aX q hn)];exact q
 Ed:=fun b u xs q=>by rw[aF (aX q hn)];exact q
 DG:=fun b w ps q=>⟨#[],by rw[aF (aX q hn),q];simp⟩
theorem Un.write(mu:Mut (H x))(he:e=x∨H e=some (.own x))(k:∀ b u,b≠e→h.get? b=some u→h'.get? b=some u)(heo:∃ u,h'.get? e=some u):Un fs ex H (upd H x o) h h':=by
 have hx:∀ b,H b=none→b≠x:=fun b n z=>by subst z;rw[n] at mu;exact mu
 have hb:∀ b,H b=none→b≠e:=fun b n z=>by
  subst z
  rcases he with r|r
  ·exact hx b n r
  ·rw[n] at r;cases r
 have hm:∀ b u,H b=some u→¬ Mut (some u)→b≠x:=fun b u q nm z=>by subst z;rw[q] at mu;exact nm mu
 refine⟨fun b u q n _ _=>k b u (hb b n) q,fun b u q n _ _=>⟨u.slots,k b u (hb b n) q⟩,fun b u q n _=>by rw[aF (hx b n)];exact n,fun b u q _=>?_,
  fun b xs q=>by rw[aF (hm b _ q fun z=>z)];exact q,fun b u xs q=>by rw[aF (hm b _ q fun z=>z)];exact q,fun b w ps q=>⟨#[],by rw[aF (hm b _ q fun z=>z),q];simp⟩⟩
 by_cases hbe:b=e
 ·subst hbe;exact heo
 ·exact⟨u,k b u hbe q⟩
end
def trk(h:Heap)(H:Hp):List Addr:=(List.range h.objs.size).filter fun a=>(H a).isSome
def Ce(h:Heap)(H:Hp):Heap:=PySem.W.hideAll h (trk h H)
theorem RG(h:Heap)(H:Hp):(Ce h H).objs.size=h.objs.size:=PySem.W.hideAll_size _ _
theorem Vx{h:Heap}{H:Hp}{b:Addr}{o:Obj}(e:h.get? b=some o)(n:H b=none):(Ce h H).get? b=some o :=
 PySem.W.hideAll_get _ e fun hm=>by
  have q:(H b).isSome=true:=(List.mem_filter.mp hm).2
  rw[n] at q;simp at q
theorem Xw{h:Heap}{H:Hp}{b:Addr}{o:Obj}(e:(Ce h H).get? b=some o):h.get? b=some o∧H b=none:=by
 have e':h.get? b=some o:=PySem.W.of_hideAll (trk h H) e
 refine⟨e',?_⟩
 cases q:H b with
 | none=>rfl
 | some x =>
  have hm:b∈trk h H:=List.mem_filter.mpr ⟨List.mem_range.mpr (Heap.lt_size e'),by simp[q]⟩
  have z:(Ce h H).get? b=none:=PySem.W.hideAll_none (trk h H) hm
  rw[z] at e;cases e
end L2
namespace L2
open PySem PySem.Spec PyProof.Rows
structure Mod(K:PySem.W.Frag)(mg:Str→Option Value)(base:Heap):Prop where
 kin:K.In base
 glob:base.Ns mainGlobals mg
 blt:∃ mb,base.Ns builtinsNs mb∧∀ x:Str,x ≠ "__name__" → mb x=bootBuiltins x
 nolimit:base.NoLimit
structure Cx where
 prog:Program
 w:World
 K:PySem.W.Frag
 mg:Str→Option Value
 base:Heap
 A:Around
 N:List Str
 s₀:Shared
 H₀:Hp
 env:Env
 outer:List Env
 stack:List Env
 ex:List Addr
 fn:Str→Bool
 calm:Bool
 pn:List (Addr×Obj)
 xe:Value→Shared→Prop
def frs(l:List Env):List Addr:=l.filterMap (·.frame)
abbrev Cx.fs(X:Cx):List Addr:=frs X.outer
def Vis(sc:Scope)(x:Str):Prop:=sc.names.lookup x=some .local∨sc.names.lookup x=some .cell∨sc.names.lookup x=some .free
def Loc(sc:Scope)(x:Str):Prop:=sc.names.lookup x=some .local∨sc.names.lookup x=some .cell
def Look(env:Env)(h:Heap)(m:Str→Option Value)(x:Str)(u:Value):Prop :=
 (env.kindOf x=some .local∧m x=some u)∨((env.kindOf x=some .cell∨env.kindOf x=some .free)∧∃ c,env.cells.lookup x=some c∧h.IsCell c (some u))
structure Cx.Ok(X:Cx):Prop where
 mod:Mod X.K X.mg X.base
 kind:X.env.scope.kind=.function
 glob:X.env.globals=mainGlobals
 blt:X.env.builtins=builtinsNs
 above:X.s₀.heap.objs.size≤X.env.locals
 inj:∀ x y c,X.env.cells.lookup x=some c→X.env.cells.lookup y=some c→x=y
 has:∀ x,(X.env.kindOf x=some .cell∨X.env.kindOf x=some .free)→∃ c,X.env.cells.lookup x=some c
 cab:∀ x c,X.fn x=true→X.env.cells.lookup x=some c→X.s₀.heap.objs.size≤c
 hd:X.calm=true→X.A.handled=none
 frames:X.A.frames=some X.stack
 stk:X.stack=X.outer∨(X.stack=X.env::X.outer∧X.env.frame=some X.env.locals)
 exf:∀ b∈X.ex,b≠X.env.locals∧∀ x c,X.env.cells.lookup x=some c→c≠b
 bs:∀ b o,X.base.get? b=some o→X.s₀.heap.get? b=some o∧X.H₀ b=none
 bsz:X.base.objs.size≤X.s₀.heap.objs.size
 U9:∀ b o,X.base.get? b=some o→b∉X.ex
 Ym:∀ b∈X.ex,b∉X.fs
 Ci:X.s₀.heap.FunFrames X.base X.outer
 frf:∀ b∈X.fs,X.H₀ b=none
structure Inv(X:Cx)(pins:List (Addr×Obj))(σ : List (Option V))(H:Hp)(s:Shared):Prop where
 ok:X.Ok
 os:s.os=X.s₀.os
 bare:AllBare s.gens
 base:Un X.fs X.ex X.H₀ H X.s₀.heap s.heap
 loc:∃ m,s.heap.Ns X.env.locals m∧∀ (i:Nat) (x:Str) (v:V),X.N[i]? = some x→σ[i]? = some (some v)→Vis X.env.scope x→∃ u,RelV v u∧Look X.env s.heap m x u
 cell:∀ x c,X.env.cells.lookup x=some c→∃ v,s.heap.IsCell c v
 free:H X.env.locals=none
 pY:∀ x c,X.env.cells.lookup x=some c→H c=none
 pin:∀ p∈X.pn++pins,s.heap.get? p.1=some p.2∧H p.1=none∧p.1≠X.env.locals∧p.1∉X.fs∧∀ v,p.2.data≠.cell v
 hok:uy X.prog X.w H s.heap
 len:σ.length=X.N.length
section
variable{X:Cx}{pins:List (Addr×Obj)}{σ : List (Option V)}{H H':Hp}{s:Shared}{h':Heap}
theorem Cx.Ok.adI(ok:X.Ok){b:Addr}{o:Obj}(e:X.base.get? b=some o):b∉X.fs:=fun hb=>by
 have:=(ok.Ci.mem hb).1
 rw[e] at this;cases this
theorem Inv.bs(I:Inv X pins σ H s):∀ b o,X.base.get? b=some o→s.heap.get? b=some o∧H b=none:=fun b o e =>
 ⟨I.base.keep b o (I.ok.bs b o e).1 (I.ok.bs b o e).2 (I.ok.adI e) (I.ok.U9 b o e),I.base.free b o (I.ok.bs b o e).1 (I.ok.bs b o e).2 (I.ok.U9 b o e)⟩
theorem Inv.bk(I:Inv X pins σ H s):∀ b o,X.base.get? b=some o→s.heap.get? b=some o:=fun b o e=>(I.bs b o e).1
theorem Inv.mod(I:Inv X pins σ H s):Mod X.K X.mg X.base:=I.ok.mod
theorem Inv.Jc(I:Inv X pins σ H s):X.K.In s.heap:=I.ok.mod.kin.keeps I.bk
theorem Inv.nolimit(I:Inv X pins σ H s):s.heap.NoLimit:=I.ok.mod.nolimit.keeps I.bk
theorem Inv.lt(I:Inv X pins σ H s):X.env.locals < s.heap.objs.size:=let ⟨_,hn,_⟩:=I.loc;hn.lt
theorem Inv.sz(I:Inv X pins σ H s):X.s₀.heap.objs.size≤s.heap.objs.size:=Nat.le_trans I.ok.above (Nat.le_of_lt I.lt)
theorem Inv.adH(I:Inv X pins σ H s){a:Addr}(h:s.heap.objs.size≤a):a∉X.fs:=fun hb=>by
 obtain⟨_,o,ho,_⟩:=I.ok.Ci.mem hb
 exact absurd (Nat.lt_of_lt_of_le (Heap.lt_size ho) (Nat.le_trans I.sz h)) (Nat.lt_irrefl _)
theorem Inv.cne(I:Inv X pins σ H s):∀ x c,X.env.cells.lookup x=some c→c≠X.env.locals:=fun x c e z=>by
 obtain⟨v,o,ho,hd⟩:=I.cell x c e
 obtain⟨m,⟨o',es,ep,ho',hd',_⟩,_⟩:=I.loc
 rw[z,ho'] at ho;cases ho;rw[hd'] at hd;cases hd
theorem Inv.Ci(I:Inv X pins σ H s):s.heap.FunFrames X.base X.outer:=by
 have all:∀ (l:List Env),(∀ b∈frs l,b∈X.fs)→X.s₀.heap.FunFrames X.base l→s.heap.FunFrames X.base l:=by
  intro l
  induction l with
  | nil=>intro _ _;trivial
  | cons env r ih =>
   intro hs hl
   obtain⟨hk,⟨L,o,hf,hn,ho,hd⟩,hr⟩:=hl
   have hL:L∈X.fs:=hs L (by unfold frs;rw[List.filterMap_cons,hf];exact List.mem_cons_self)
   obtain⟨sl,e⟩:=I.base.slot L o ho (I.ok.frf L hL) hL fun z=>I.ok.Ym L z hL
   exact⟨hk,⟨L,_,hf,hn,e,hd⟩,ih (fun b hb=>hs b (by unfold frs;rw[List.filterMap_cons,hf];exact List.mem_cons_of_mem _ hb)) hr⟩
 exact all X.outer (fun _ hb=>hb) I.ok.Ci
theorem Inv.stack(I:Inv X pins σ H s):s.heap.FunFrames X.base X.stack:=by
 rcases I.ok.stk with e|⟨e,hf⟩
 ·rw[e];exact I.Ci
 ·rw[e]
  obtain⟨m,hn,_⟩:=I.loc
  refine .cons (by rw[I.ok.kind];decide) hf hn ?_ I.Ci
  exact Heap.get?_none_of_le (Nat.le_trans I.ok.bsz I.ok.above)
theorem Inv.GK(I:Inv X pins σ H s):∀ b∈frs X.stack,b∈X.env.locals::X.fs:=fun b hb=>by
 rcases I.ok.stk with e|⟨e,hf⟩
 ·rw[e] at hb;exact List.mem_cons_of_mem _ hb
 ·rw[e] at hb
  unfold frs at hb
  rw[List.filterMap_cons,hf] at hb
  exact hb
theorem Inv.GP(I:Inv X pins σ H s):∀ b∈frs X.stack,H b=none:=fun b hb=>by
 rcases List.mem_cons.mp (I.GK b hb) with e|hb
 ·rw[e];exact I.free
 ·obtain⟨_,o,ho,_⟩:=I.ok.Ci.mem hb
  exact I.base.free b o ho (I.ok.frf b hb) fun z=>I.ok.Ym b z hb
theorem Inv.step{g':Array GenState}{t':Nat}{d':Drawn}{ch:List Addr}(I:Inv X pins σ H s)
 (hch:∀ b∈ch,(b∈X.ex∨X.s₀.heap.objs.size≤b)∧b≠X.env.locals∧(∀ x c,X.env.cells.lookup x=some c→c≠b)∧∀ p∈X.pn++pins,p.1≠b)
 (keep:∀ b o,b≠X.env.locals→b∉X.fs→b∉ch→s.heap.get? b=some o→H b=none→h'.get? b=some o)
 (slot:∀ b o,b≠X.env.locals→b∈X.fs→b∉ch→s.heap.get? b=some o→H b=none→∃ sl,h'.get? b=some { o with slots:=sl }) (free:∀ b o,b∉ch→s.heap.get? b=some o→H b=none→H' b=none)
 (there:∀ b o,b∉ch→s.heap.get? b=some o→∃ o',h'.get? b=some o')
 (tups:∀ b xs,H b=some (.tup xs)→H' b=some (.tup xs)) (Ed:∀ b o u,H b=some (.frz o u)→H' b=some (.frz o u)) (DG:∀ b w ps,H b=some (.tbl w ps)→∃ more,H' b=some (.tbl w (ps++more)))
 (ns:∀ m,s.heap.Ns X.env.locals m→h'.Ns X.env.locals m) (hok:uy X.prog X.w H' h') (hg:AllBare g') :
 Inv X pins σ H' { s with heap:=h',gens:=g',drawn:=d',toks:=t' }:=by
 have neL:∀ b o,X.s₀.heap.get? b=some o→b≠X.env.locals:=fun b o e=>Nat.ne_of_lt (Nat.lt_of_lt_of_le (Heap.lt_size e) I.ok.above)
 have neC:∀ b o,X.s₀.heap.get? b=some o→b∉X.ex→b∉ch:=fun b o e hx hb=>by
  rcases (hch b hb).1 with z|z
  ·exact hx z
  ·exact absurd (Nat.lt_of_lt_of_le (Heap.lt_size e) z) (Nat.lt_irrefl _)
 have cellK:∀ x c,X.env.cells.lookup x=some c→∀ v,s.heap.IsCell c v→h'.IsCell c v:=fun x c e v ⟨o,ho,hd⟩=>by
  have nch:c∉ch:=fun z=>(hch c z).2.2.1 x c e rfl
  by_cases hc:c∈X.fs
  ·obtain⟨sl,q⟩:=slot c o (I.cne x c e) hc nch ho (I.pY x c e)
   exact⟨_,q,hd⟩
  ·exact⟨o,keep c o (I.cne x c e) hc nch ho (I.pY x c e),hd⟩
 refine⟨I.ok,I.os,hg,⟨fun b o e n hb hx=>?_,fun b o e n hb hx=>?_,fun b o e n hx=>?_,fun b o e hx=>?_,fun b xs e=>tups b xs (I.base.tups b xs e),fun b o xs e=>Ed b o xs (I.base.Ed b o xs e),fun b w ps e=>?_⟩,?_,fun x c e=>?_,?_,fun x c e=>?_,fun p hp=>?_,hok,I.len⟩
 ·exact keep b o (neL b o e) hb (neC b o e hx) (I.base.keep b o e n hb hx) (I.base.free b o e n hx)
 ·obtain⟨sl,e1⟩:=I.base.slot b o e n hb hx
  obtain⟨sl',e2⟩:=slot b _ (neL b o e) hb (neC b o e hx) e1 (I.base.free b o e n hx)
  exact⟨sl',e2⟩
 ·obtain⟨o',e1⟩:=I.base.there b o e hx
  exact free b o' (neC b o e hx) e1 (I.base.free b o e n hx)
 ·obtain⟨o',e1⟩:=I.base.there b o e hx
  exact there b o' (neC b o e hx) e1
 ·obtain⟨m1,e1⟩:=I.base.DG b w ps e
  obtain⟨m2,e2⟩:=DG b w _ e1
  exact⟨m1++m2,by rw[e2,Array.append_assoc]⟩
 ·obtain⟨m,hn,hl⟩:=I.loc
  refine⟨m,ns m hn,fun i x v e1 e2 e3=>?_⟩
  obtain⟨u,r,l⟩:=hl i x v e1 e2 e3
  refine⟨u,r,?_⟩
  rcases l with l|⟨k,c,e,z⟩
  ·exact .inl l
  ·exact .inr ⟨k,c,e,cellK x c e _ z⟩
 ·obtain⟨v,z⟩:=I.cell x c e
  exact⟨v,cellK x c e v z⟩
 ·obtain⟨m,⟨o,_,_,ho,_⟩,_⟩:=I.loc
  exact free _ o (fun z=>(hch _ z).2.1 rfl) ho I.free
 ·obtain⟨v,o,ho,hd⟩:=I.cell x c e
  exact free c o (fun z=>(hch c z).2.2.1 x c e rfl) ho (I.pY x c e)
 ·obtain⟨e,n,ne,nf,d⟩:=I.pin p hp
  have nch:p.1∉ch:=fun z=>(hch p.1 z).2.2.2 p hp rfl
  exact⟨keep p.1 p.2 ne nf nch e n,free p.1 p.2 nch e n,ne,nf,d⟩
theorem Inv.un{t':Nat}(I:Inv X pins σ H s)(u:Un X.fs [] H H' s.heap h')(hok:uy X.prog X.w H' h'):Inv X pins σ H' { s with heap:=h',toks:=t' }:=by
 obtain⟨m,⟨o,es,ep,ho,r⟩,_⟩:=id I.loc
 obtain⟨sl,hL⟩:=u.any ho I.free (by simp)
 exact I.step (g':=s.gens) (d':=s.drawn) (ch:=[]) (fun _ z=>nomatch z) (fun b o _ hb _ e n=>u.keep b o e n hb (by simp)) (fun b o _ hb _ e n=>u.slot b o e n hb (by simp)) (fun b o _ e n=>u.free b o e n (by simp)) (fun b o _ e=>u.there b o e (by simp)) u.tups u.Ed u.DG (fun m' hm=>by
  obtain⟨o',es',ep',ho',r'⟩:=hm
  rw[ho] at ho';cases ho'
  exact⟨_,es',ep',hL,r'⟩) hok I.bare
theorem Inv.call{g':Array GenState}{t':Nat}{d':Drawn}{ch:List Addr}(I:Inv X pins σ H s)(u:Un (frs X.stack) ch H H' s.heap h')(hok:uy X.prog X.w H' h')(hg:AllBare g')
 (hch:∀ b∈ch,(b∈X.ex∨X.s₀.heap.objs.size≤b)∧b≠X.env.locals∧(∀ x c,X.env.cells.lookup x=some c→c≠b)∧∀ p∈X.pn++pins,p.1≠b) :
 Inv X pins σ H' { s with heap:=h',gens:=g',drawn:=d',toks:=t' }:=by
 obtain⟨m,⟨o,es,ep,ho,r⟩,_⟩:=id I.loc
 obtain⟨sl,hL⟩:=u.any ho I.free fun z=>(hch _ z).2.1 rfl
 exact I.step (ch:=ch) hch (fun b o hL hb hc e n=>u.keep b o e n (fun z=>(List.mem_cons.mp (I.GK b z)).elim hL hb) hc) (fun b o _ _ hc e n=>u.any e n hc) (fun b o hc e n=>u.free b o e n hc) (fun b o hc e=>u.there b o e hc) u.tups u.Ed u.DG (fun m' hm=>by
  obtain⟨o',es',ep',ho',r'⟩:=hm
  rw[ho] at ho';cases ho'
  exact⟨_,es',ep',hL,r'⟩) hok hg
theorem Inv.turned{t':Nat}{it:Addr}(I:Inv X pins σ H s)(k:∀ b o,b≠it→s.heap.get? b=some o→h'.get? b=some o)(hn:H it=none)(hL:it≠X.env.locals)
 (h1:it∈X.ex∨X.s₀.heap.objs.size≤it) (h2:∀ x c,X.env.cells.lookup x=some c→c≠it) (h3:∀ p∈X.pn++pins,p.1≠it):Inv X pins σ H { s with heap:=h',toks:=t' }:=by
 have nit:∀ b u,H b=some u→b≠it:=fun b u e z=>by rw[z,hn] at e;cases e
 refine I.step (g':=s.gens) (d':=s.drawn) (ch:=[it]) (fun b hb=>?_) (fun b o _ _ hc e _=>k b o (fun z=>hc (by simp[z])) e) (fun b o _ _ hc e _=>⟨o.slots,k b o (fun z=>hc (by simp[z])) e⟩) (fun _ _ _ _ n=>n)
  (fun b o hc e=>⟨o,k b o (fun z=>hc (by simp[z])) e⟩) (fun _ _ e=>e) (fun _ _ _ e=>e) (fun b w ps e=>⟨#[],by rw[e];simp⟩) (fun m hm=>?_) (fun b u e=>?_) I.bare
 ·have e:b=it:=by simpa using hb
  subst e
  exact⟨h1,hL,h2,h3⟩
 ·obtain⟨o,es,ep,ho,r⟩:=hm
  exact⟨o,es,ep,k _ o (Ne.symm hL) ho,r⟩
 ·refine(I.hok b u e).stay (fun c v hc q=>k c v ?_ q) (fun _ q=>q) fun _ _ q=>q
  rcases hc with z|z
  ·rw[z];exact nit b u e
  ·exact nit c _ z
theorem Inv.tok(I:Inv X pins σ H s)(t:Nat):Inv X pins σ H { s with toks:=t }:=I.un (h':=s.heap) (t':=t) Un.refl I.hok
theorem Inv.kept{t':Nat}(I:Inv X pins σ H s)(k:∀ b u,s.heap.get? b=some u→h'.get? b=some u):Inv X pins σ H { s with heap:=h',toks:=t' }:=I.un (Un.kept k) (I.hok.kept k)
theorem Inv.laid{a:Addr}{o:HO}{t':Nat}(I:Inv X pins σ H s)(k:∀ b u,s.heap.get? b=some u→h'.get? b=some u)(hp:s.heap.objs.size≤a)(new:bW X.prog X.w (upd H a o) h' a o) :
 Inv X pins σ (upd H a o) { s with heap:=h',toks:=t' }:=I.un (Un.laid k hp (I.hok.fresh hp)) (I.hok.laid k hp new)
theorem Inv.write{x e:Addr}{o:HO}{t':Nat}(I:Inv X pins σ H s)(mu:Mut (H x))(he:e=x∨H e=some (.own x))(k:∀ b u,b≠e→s.heap.get? b=some u→h'.get? b=some u)(heo:∃ u,h'.get? e=some u)
 (new:bW X.prog X.w (upd H x o) h' x o):Inv X pins σ (upd H x o) { s with heap:=h',toks:=t' }:=I.un (Un.write mu he k heo) (I.hok.write mu he k heo new)
theorem Inv.weak{σ':List (Option V)}(I:Inv X pins σ H s)(hl:σ'.length = σ.length)(w:∀ (i:Nat) v,σ'[i]? = some (some v)→σ[i]? = some (some v)):Inv X pins σ' H s :=
 ⟨I.ok,I.os,I.bare,I.base,let ⟨m,hn,hl'⟩:=I.loc;⟨m,hn,fun i x v e1 e2 e3=>hl' i x v e1 (w i v e2) e3⟩,I.cell,I.free,I.pY,I.pin,I.hok,hl.trans I.len⟩
theorem Inv.G8{Ew:List (Addr×Obj)}(I:Inv X pins σ H s)(h:∀ p∈Ew,s.heap.get? p.1=some p.2∧H p.1=none∧p.1≠X.env.locals∧p.1∉X.fs∧∀ v,p.2.data≠.cell v):Inv X Ew σ H s :=
 ⟨I.ok,I.os,I.bare,I.base,I.loc,I.cell,I.free,I.pY,fun p hp=>(List.mem_append.mp hp).elim (fun z=>I.pin p (List.mem_append_left _ z)) (h p),I.hok,I.len⟩
theorem J0{N:List Str}(hN:N.Nodup){i j:Nat}{x:Str}(a:N[i]? = some x)(b:N[j]? = some x):i=j:=by
 obtain⟨h1,e1⟩:=List.getElem?_eq_some_iff.mp a
 obtain⟨h2,e2⟩:=List.getElem?_eq_some_iff.mp b
 exact(List.getElem_inj hN).mp (e1.trans e2.symm)
theorem En{M:Model}{A:Around}{E:Value→Shared→Prop}{i:Nat}{x:Str}{v:V}{u:Value}{Q:Unit→Shared→Prop}(I:Inv X pins σ H s)(hN:X.N.Nodup)(hi:X.N[i]? = some x)(hx:Loc X.env.scope x)(r:RelV v u)
 (h:∀ s',Inv X pins (σ.set i (some v)) H s'→(∃ a,Heap.SameBut a s.heap s'.heap∧(a=X.env.locals∨X.env.cells.lookup x=some a))→Q () s') (hf:X.fn x=true∨X.env.scope.names.lookup x=some .local:=by first|exact .inl rfl|exact .inr rfl|assumption):wpAny M A (storeName X.env x u) Q E s:=by
 obtain⟨m,hn,hl⟩:=id I.loc
 have hcls:(X.env.scope.kind == .class || (X.env.scope.kind == .module && X.env.locals != X.env.globals))=false:=by rw[I.ok.kind];rfl
 have hiσ : i < σ.length:=by rw[I.len];exact(List.getElem?_eq_some_iff.mp hi).1
 have cne:=I.cne
 have tracked:∀ {a:Addr} {h':Heap},(∃ o,s.heap.get? a=some o∧H a=none)→Heap.SameBut a s.heap h'→uy X.prog X.w H h':=fun {a h'} ha hs b ob e=>by
  obtain⟨_,_,hfree⟩:=ha
  refine(I.hok b ob e).stay (fun c w' hc q=>(hs.2 c ?_).trans q) (fun _ q=>q) fun _ _ q=>q
  rintro rfl
  rcases hc with rfl|hc
  ·rw[hfree] at e;cases e
  ·rw[hfree] at hc;cases hc
 rcases hx with hk|hk
 ·refine wpAny_storeName_local hk hn (fun h' hn' hs=>?_) hcls
  obtain⟨oL,_,_,hoL,_⟩:=id hn
  refine h _ ⟨I.ok,I.os,I.bare,⟨fun b o e n hb hx=>?_,fun b o e n hb hx=>?_,I.base.free,fun b o e hx=>?_,I.base.tups,I.base.Ed,I.base.DG⟩,⟨_,hn',fun j y v' e1 e2 e3=>?_⟩,fun y c e=>?_,I.free,I.pY,fun p hp=>?_,tracked ⟨oL,hoL,I.free⟩ hs,by simpa using I.len⟩ ⟨_,hs,.inl rfl⟩
  ·exact(hs.2 b (Nat.ne_of_lt (Nat.lt_of_lt_of_le (Heap.lt_size e) I.ok.above))).trans (I.base.keep b o e n hb hx)
  ·obtain⟨sl,e1⟩:=I.base.slot b o e n hb hx
   exact⟨sl,(hs.2 b (Nat.ne_of_lt (Nat.lt_of_lt_of_le (Heap.lt_size e) I.ok.above))).trans e1⟩
  ·obtain⟨o',e1⟩:=I.base.there b o e hx
   exact⟨o',(hs.2 b (Nat.ne_of_lt (Nat.lt_of_lt_of_le (Heap.lt_size e) I.ok.above))).trans e1⟩
  ·by_cases hj:j=i
   ·subst hj
    rw[hi] at e1;cases e1
    rw[List.getElem?_set_self hiσ] at e2
    cases e2
    exact⟨u,r,.inl ⟨hk,by simp⟩⟩
   ·rw[List.getElem?_set_ne (Ne.symm hj)] at e2
    obtain⟨u',r',q⟩:=hl j y v' e1 e2 e3
    refine⟨u',r',?_⟩
    rcases q with ⟨k,e⟩|⟨k,c,e,z⟩
    ·refine .inl ⟨k,?_⟩
     have:y≠x:=fun e=>hj (J0 hN e1 (e ▸ hi))
     simp[this,e]
    ·exact .inr ⟨k,c,e,z.sameBut hs (cne y c e)⟩
  ·obtain⟨w',z⟩:=I.cell y c e
   exact⟨w',z.sameBut hs (cne y c e)⟩
  ·obtain⟨e,n,ne,nf,d⟩:=I.pin p hp
   exact⟨(hs.2 p.1 ne).trans e,n,ne,nf,d⟩
 ·have hfn:X.fn x=true:=by
   rcases hf with z|z
   ·exact z
   ·rw[z] at hk;cases hk
  obtain⟨c,hc⟩:=I.ok.has x (.inl hk)
  obtain⟨w',z⟩:=I.cell x c hc
  refine wpAny_storeName_cell I.ok.kind hk hc z (fun h' hc' hs=>?_)
  obtain⟨oc,hoc,adT⟩:=id z
  refine h { s with heap:=h' } ⟨I.ok,I.os,I.bare,⟨fun b o e n hb hx=>?_,fun b o e n hb hx=>?_,I.base.free,fun b o e hx=>?_,I.base.tups,I.base.Ed,I.base.DG⟩,⟨m,hn.sameBut hs (Ne.symm (cne x c hc)),fun j y v' e1 e2 e3=>?_⟩,fun y c' e=>?_,I.free,I.pY,fun p hp=>?_,tracked ⟨oc,hoc,I.pY x c hc⟩ hs,by simpa using I.len⟩ ⟨c,hs,.inr hc⟩
  ·exact(hs.2 b (Nat.ne_of_lt (Nat.lt_of_lt_of_le (Heap.lt_size e) (I.ok.cab x c hfn hc)))).trans (I.base.keep b o e n hb hx)
  ·obtain⟨sl,e1⟩:=I.base.slot b o e n hb hx
   exact⟨sl,(hs.2 b (Nat.ne_of_lt (Nat.lt_of_lt_of_le (Heap.lt_size e) (I.ok.cab x c hfn hc)))).trans e1⟩
  ·obtain⟨o',e1⟩:=I.base.there b o e hx
   exact⟨o',(hs.2 b (Nat.ne_of_lt (Nat.lt_of_lt_of_le (Heap.lt_size e) (I.ok.cab x c hfn hc)))).trans e1⟩
  ·by_cases hj:j=i
   ·subst hj
    rw[hi] at e1;cases e1
    rw[List.getElem?_set_self hiσ] at e2
    cases e2
    exact⟨u,r,.inr ⟨.inl hk,c,hc,hc'⟩⟩
   ·rw[List.getElem?_set_ne (Ne.symm hj)] at e2
    obtain⟨u',r',q⟩:=hl j y v' e1 e2 e3
    refine⟨u',r',?_⟩
    rcases q with q|⟨k,c',e,z'⟩
    ·exact .inl q
    ·refine .inr ⟨k,c',e,z'.sameBut hs ?_⟩
     rintro rfl
     exact hj (J0 hN e1 (I.ok.inj _ _ _ e hc ▸ hi))
  ·by_cases hcc:c'=c
   ·subst hcc;exact⟨_,hc'⟩
   ·obtain⟨w2,z2⟩:=I.cell y c' e
    exact⟨w2,z2.sameBut hs hcc⟩
  ·obtain⟨e,n,ne,nf,d⟩:=I.pin p hp
   refine⟨(hs.2 p.1 ?_).trans e,n,ne,nf,d⟩
   intro q
   rw[q,hoc] at e
   have q':oc=p.2:=Option.some.inj e
   exact d w' (by rw[← q'];exact adT)
theorem Js{M:Model}{A:Around}{E:Value→Shared→Prop}{i:Nat}{x:Str}{v:V}{u:Value}{Q:Unit→Shared→Prop}(I:Inv X pins σ H s)(hN:X.N.Nodup)(hi:X.N[i]? = some x)(hx:Loc X.env.scope x)(r:RelV v u)
 (h:∀ s',Inv X pins (σ.set i (some v)) H s'→Q () s') (hf:X.fn x=true∨X.env.scope.names.lookup x=some .local:=by first|exact .inl rfl|exact .inr rfl|assumption):wpAny M A (storeName X.env x u) Q E s :=
 En I hN hi hx r (fun s' I' _=>h s' I') hf
theorem Inv.call'{s':Shared}{ch:List Addr}(I:Inv X pins σ H s)(ho:s'.os=s.os)(u:Un (frs X.stack) ch H H' s.heap s'.heap)(hok:uy X.prog X.w H' s'.heap)(hg:AllBare s'.gens)
 (hch:∀ b∈ch,(b∈X.ex∨X.s₀.heap.objs.size≤b)∧b≠X.env.locals∧(∀ x c,X.env.cells.lookup x=some c→c≠b)∧∀ p∈X.pn++pins,p.1≠b):Inv X pins σ H' s':=by
 obtain⟨h',g',d',t',o'⟩:=s'
 have e:o'=s.os:=ho
 subst e
 exact I.call (g':=g') (t':=t') (d':=d') u hok hg hch
end
abbrev XK:=Value→Option Addr→Hp→Prop
abbrev St:=List (Option V)
abbrev VK:=V→Hp→Prop
abbrev TE:=St→Hp→VK→Prop
abbrev TT:=St→Hp→(Bool→Hp→Prop)→Prop
abbrev TA:=St→Hp→(List V→Hp→Prop)→Prop
structure Ends where
 nx:St→Hp→Prop
 rt:VK
 bk:St→Hp→Prop:=fun _ _=>False
 ct:St→Hp→Prop:=fun _ _=>False
abbrev TS:=Ends→St→Hp→Prop
def EP(X:Cx)(pins:List (Addr×Obj))(σ : St)(Q:VK)(u:Value)(s':Shared):Prop:=∃ v H',Inv X pins σ H' s'∧RelV v u∧Q v H'
def TP(X:Cx)(pins:List (Addr×Obj))(σ : St)(Q:Bool→Hp→Prop)(b:Bool)(s':Shared):Prop:=∃ H',Inv X pins σ H' s'∧Q b H'
def AP(X:Cx)(pins:List (Addr×Obj))(σ : St)(Q:List V→Hp→Prop)(us:List Value)(s':Shared):Prop:=∃ vs H',Inv X pins σ H' s'∧Vals vs us∧Q vs H'
def SP(X:Cx)(pins:List (Addr×Obj))(D:Ends)(f:Flow)(s':Shared):Prop :=
 match f with
 | .next=>∃ σ' H',Inv X pins σ' H' s'∧D.nx σ' H'
 | .brk=>∃ σ' H',Inv X pins σ' H' s'∧D.bk σ' H'
 | .cont=>∃ σ' H',Inv X pins σ' H' s'∧D.ct σ' H'
 | .ret u=>∃ v σ' H',Inv X pins σ' H' s'∧RelV v u∧D.rt v H'
def PE(X:Cx)(e:Expr)(t:TE):Prop :=
 ∀ (pins:List (Addr×Obj)) (s:Shared) (σ : St) (H:Hp) (Q:VK),Inv X pins σ H s→t σ H Q→wpAny (model X.prog X.w) X.A (eval e X.env) (EP X pins σ Q) X.xe s
def PT(X:Cx)(e:Expr)(t:TT):Prop :=
 ∀ (pins:List (Addr×Obj)) (s:Shared) (σ : St) (H:Hp) (Q:Bool→Hp→Prop),Inv X pins σ H s→t σ H Q→wpAny (model X.prog X.w) X.A (isTrue e X.env (eval e X.env)) (TP X pins σ Q) X.xe s
def PW(X:Cx)(e:Expr)(t:TT):Prop :=
 ∀ (whole:Sem Value) (pins:List (Addr×Obj)) (s:Shared) (σ : St) (H:Hp) (Q:Bool→Hp→Prop),Inv X pins σ H s→t σ H Q→wpAny (model X.prog X.w) X.A (isTrue e X.env whole) (TP X pins σ Q) X.xe s
theorem PW.pt{X:Cx}{e:Expr}{t:TT}(h:PW X e t):PT X e t:=h _
def PA(X:Cx)(es:List Expr)(t:TA):Prop :=
 ∀ (pos:Pos) (pins:List (Addr×Obj)) (s:Shared) (σ : St) (H:Hp) (Q:List V→Hp→Prop),Inv X pins σ H s→t σ H Q→wpAny (model X.prog X.w) X.A (spliced (backTo pos (starEach es X.env))) (AP X pins σ Q) X.xe s
def PS(X:Cx)(st:Stmt)(t:TS):Prop :=
 ∀ (pins:List (Addr×Obj)) (s:Shared) (σ : St) (H:Hp) (D:Ends),Inv X pins σ H s→t D σ H→wpAny (model X.prog X.w) X.A (exec st X.env) (SP X pins D) X.xe s
def QJ(X:Cx)(st:List Stmt)(t:TS):Prop :=
 ∀ (pins:List (Addr×Obj)) (s:Shared) (σ : St) (H:Hp) (D:Ends),Inv X pins σ H s→t D σ H→wpAny (model X.prog X.w) X.A (execs st X.env) (SP X pins D) X.xe s
theorem eU{α : Type}{t:Sem α}{Q Q':α→Shared→Prop}{M:Model}{A:Around}{E:Value→Shared→Prop}{s:Shared}(h:wpAny M A t Q E s)(hQ:∀ a s,Q a s→Q' a s):wpAny M A t Q' E s:=wpAny_mono h hQ fun _ _ x=>x
end L2
namespace L2
open PySem PySem.Spec PyProof.Rows
section
variable{X:Cx}
def pA(i:Nat):TE:=fun σ H Q=>∃ v,σ[i]? = some (some v)∧Q v H
def tC(v:V):TE:=fun _ H Q=>Q v H
theorem aav{i:Nat}{x:Str}{pos:Pos}(hN:X.N[i]? = some x)(hv:Vis X.env.scope x)(hd:(x == ("__debug__" : Str))=false:=by decide)(hcd:(x == ("__classdict__" : Str))=false:=by decide):PE X (.Name x pos) (pA i):=by
 intro pins s σ H Q I h
 obtain⟨v,e,h⟩:=h
 obtain⟨m,hn,hl⟩:=I.loc
 obtain⟨u,r,l⟩:=hl i x v hN e hv
 have fin:EP X pins σ Q u s:=⟨v,H,I,r,h⟩
 rcases l with ⟨hk,hm⟩|⟨hk,c,hc,hcell⟩
 ·exact wpAny_Name (wpAny_loadName_local I.ok.kind hk hn hm fin) hd
 ·rcases hk with hk|hk
  ·exact wpAny_Name (wpAny_loadName_cell I.ok.kind hk hc hcell fin) hd
  ·exact wpAny_Name (wpAny_loadName_free I.ok.kind hk hc hcell fin hcd) hd
theorem aM{i j pos}:PE X (.Constant (.int i) j pos) (tC (.int i)):=fun _ _ _ H _ I h=>wpAny_Constant_int ⟨.int i,H,I.tok _,⟨_,rfl⟩,h⟩
theorem pL{b j pos}:PE X (.Constant (.bool b) j pos) (tC (.bl b)):=fun _ _ _ H _ I h=>Constant_bool ⟨.bl b,H,I,rfl,h⟩
theorem Mw{j pos}:PE X (.Constant .none j pos) (tC .non):=fun _ _ _ H _ I h=>Constant_none ⟨.non,H,I,rfl,h⟩
theorem fB{x j pos}:PE X (.Constant (.str x) j pos) (tC (.str x)):=fun _ _ _ H _ I h=>Calls.Constant_str ⟨.str x,H,I.tok _,⟨_,rfl⟩,h⟩
def Gl(X:Cx)(x:Str):Prop:=X.env.kindOf x=some .globalImplicit
theorem PB{E:Value→Shared→Prop}{pins:List (Addr×Obj)}{s:Shared}{σ : St}{H:Hp}{x:Str}{u:Value}{pos:Pos}{Q:Value→Shared→Prop}(I:Inv X pins σ H s)(hg:Gl X x)(hm:X.mg x=some u)(h:Q u s)
 (hd:(x == ("__debug__" : Str))=false:=by decide):wpAny (model X.prog X.w) X.A (eval (.Name x pos) X.env) Q E s :=
 Calls.Name_function_global I.ok.kind hg (Calls.loadGlobal_global (by rw[I.ok.glob];exact I.mod.glob.keeps I.bk) hm h) hd
theorem vB{E:Value→Shared→Prop}{pins:List (Addr×Obj)}{s:Shared}{σ : St}{H:Hp}{x:Str}{u:Value}{pos:Pos}{Q:Value→Shared→Prop}(I:Inv X pins σ H s)(hg:Gl X x)(hm:X.mg x=none)(hv:bootBuiltins x=some u)(h:Q u s)
 (hn:x ≠ "__name__" := by decide) (hd:(x == ("__debug__" : Str))=false:=by decide):wpAny (model X.prog X.w) X.A (eval (.Name x pos) X.env) Q E s:=by
 obtain⟨mb,h1,h2⟩:=I.mod.blt
 exact Calls.Name_function_global I.ok.kind hg (Calls.loadGlobal_builtin (by rw[I.ok.glob];exact I.mod.glob.keeps I.bk) hm (by rw[I.ok.blt];exact h1.keeps I.bk) ((h2 x hn).trans hv) h) hd
theorem qH{x:Str}{v:V}{u:Value}{pos:Pos}(hg:Gl X x)(hm:X.mg x=some u)(r:RelV v u)(hd:(x == ("__debug__" : Str))=false:=by decide):PE X (.Name x pos) (tC v) :=
 fun _ _ _ H _ I h=>PB I hg hm ⟨v,H,I,r,h⟩ hd
theorem Xn{x:Str}{v:V}{u:Value}{pos:Pos}(hg:Gl X x)(hm:X.mg x=none)(hv:bootBuiltins x=some u)(r:RelV v u)(hn:x ≠ "__name__" := by decide)(hd:(x == ("__debug__" : Str))=false:=by decide):PE X (.Name x pos) (tC v) :=
 fun _ _ _ H _ I h=>vB I hg hm hv ⟨v,H,I,r,h⟩ hn hd
variable{a b:Expr}{ta tb:TE}{pos:Pos}
def PC(X:Cx)(op:CmpOp)(a b:Expr)(t:TE):Prop :=
 ∀ (pins:List (Addr×Obj)) (s:Shared) (σ : St) (H:Hp) (Q:VK),Inv X pins σ H s→t σ H Q →
  wpAny (model X.prog X.w) X.A (eval a X.env) (fun v s₁=>wpAny (model X.prog X.w) X.A (eval b X.env) (fun u s₂=>wpAny (model X.prog X.w) X.A (compareOp op v u) (EP X pins σ Q) X.xe s₂) X.xe s₁) X.xe s
def tB(t:TE):TT:=fun σ H Q=>t σ H fun x H1=>∃ c,x=.bl c∧Q c H1
theorem Us{op:CmpOp}{t:TE}(h:PC X op a b t)(h1:behindInMarks op b=false:=by first|exact Va _ (by decide) (by decide)|rfl):PE X (.Compare a [op] [b] pos) t:=fun pins s σ H Q I hw=>wpAny_Compare1 (h pins s σ H Q I hw) h1
theorem qG{op:CmpOp}{t:TE}(h:PC X op a b t)(h1:behindInMarks op b=false:=by first|exact Va _ (by decide) (by decide)|rfl):PT X (.Compare a [op] [b] pos) (tB t):=by
 intro pins s σ H Q I hw
 refine wpAny_isTrue_Compare1 (eU (h pins s σ H _ I hw) fun v s1 h1=>eU h1 fun u s2 h2=>eU h2 fun c s3 ⟨x,H1,I1,r1,q1⟩=>?_) h1
 obtain⟨d,rfl,q⟩:=q1
 cases r1
 exact wpAny_truthy_bool ⟨H1,I1,q⟩
theorem gH{e:Expr}{t:TE}(h:PE X e t)(he:∀ whole,isTrue e X.env whole=(do let v ← whole;standAt e.pos;holding [v] (truthy v)):=by intro _;rfl):PT X e (tB t):=by
 intro pins s σ H Q I hw
 refine isTrue_plain (eU (h pins s σ H _ I hw) fun v s1 ⟨x,H1,I1,r1,q1⟩=>?_) (he _)
 obtain⟨d,rfl,q⟩:=q1
 cases r1
 exact wpAny_truthy_bool ⟨H1,I1,q⟩
variable{tA tB':TT}{rest:List Expr}
def abK(t u:TT):TT:=fun σ H Q=>t σ H fun c H1=>if c=true then u σ H1 Q else Q false H1
def tOr(t u:TT):TT:=fun σ H Q=>t σ H fun c H1=>if c=true then Q true H1 else u σ H1 Q
def abD(t:TT):TT:=fun σ H Q=>t σ H fun c H1=>Q (!c) H1
theorem pw_and1(ha:PT X a tA):PW X (.BoolOp .And [a] pos) tA:=by
 intro wh pins s σ H Q I h
 refine isTrue_and (eU (ha pins s σ H Q I h) fun c s1 e=>?_)
 cases c with
 | true=>exact isTrue_and_nil e
 | false=>exact e
theorem pw_or1(ha:PT X a tA):PW X (.BoolOp .Or [a] pos) tA:=by
 intro wh pins s σ H Q I h
 refine isTrue_or (eU (ha pins s σ H Q I h) fun c s1 e=>?_)
 cases c with
 | false=>exact isTrue_or_nil e
 | true=>exact e
theorem pw_and(ha:PT X a tA)(hb:PW X (.BoolOp .And (b::rest) pos) tB'):PW X (.BoolOp .And (a::b::rest) pos) (abK tA tB'):=by
 intro wh pins s σ H Q I h
 refine isTrue_and (eU (ha pins s σ H _ I h) fun c s1 ⟨H1,I1,q1⟩=>?_)
 cases c with
 | true=>exact hb wh pins s1 σ H1 Q I1 q1
 | false=>exact⟨H1,I1,q1⟩
theorem pw_or(ha:PT X a tA)(hb:PW X (.BoolOp .Or (b::rest) pos) tB'):PW X (.BoolOp .Or (a::b::rest) pos) (tOr tA tB'):=by
 intro wh pins s σ H Q I h
 refine isTrue_or (eU (ha pins s σ H _ I h) fun c s1 ⟨H1,I1,q1⟩=>?_)
 cases c with
 | true=>exact⟨H1,I1,q1⟩
 | false=>exact hb wh pins s1 σ H1 Q I1 q1
theorem jL(ha:PT X a tA):PT X (.UnaryOp .Not a pos) (abD tA):=by
 intro pins s σ H Q I h
 exact isTrue_not (ha pins s σ H (fun c H1=>Q (!c) H1) I h)
def Zf(ta tb:TE):TE:=fun σ H Q=>ta σ H fun x H1=>∃ c,x=.bl c∧if c=true then tb σ H1 Q else Q (.bl false) H1
def abB(ta tb:TE):TE:=fun σ H Q=>ta σ H fun x H1=>∃ c,x=.bl c∧if c=true then Q (.bl true) H1 else tb σ H1 Q
theorem xR{op}{t:TE}(h:PE X a t):PE X (.BoolOp op [a] pos) t:=fun pins s σ H Q I hw=>BoolOp_one (h pins s σ H Q I hw)
theorem xT(ha:PE X a ta)(hb:PE X (.BoolOp .And (b::rest) pos) tb):PE X (.BoolOp .And (a::b::rest) pos) (Zf ta tb):=by
 intro pins s σ H Q I h
 refine BoolOp_and (eU (ha pins s σ H _ I h) fun v s1 ⟨x,H1,I1,r1,q1⟩=>?_)
 obtain⟨c,rfl,q1⟩:=q1
 cases r1
 refine wpAny_truthy_bool ?_
 cases c with
 | true=>exact hb pins s1 σ H1 Q I1 q1
 | false=>exact⟨.bl false,H1,I1,rfl,q1⟩
theorem ace(ha:PE X a ta)(hb:PE X (.BoolOp .Or (b::rest) pos) tb):PE X (.BoolOp .Or (a::b::rest) pos) (abB ta tb):=by
 intro pins s σ H Q I h
 refine BoolOp_or (eU (ha pins s σ H _ I h) fun v s1 ⟨x,H1,I1,r1,q1⟩=>?_)
 obtain⟨c,rfl,q1⟩:=q1
 cases r1
 refine wpAny_truthy_bool ?_
 cases c with
 | false=>exact hb pins s1 σ H1 Q I1 q1
 | true=>exact⟨.bl true,H1,I1,rfl,q1⟩
end
end L2
namespace L2
open PySem PySem.Spec PyProof.Rows
def zH(K:PySem.W.Frag)(H:Hp)(a:Addr)(xs:List V):Prop :=
 Rd H a (.lst xs) ∨
  ∃ (o:Obj) (its:Array Value) (n:Nat),K.lookup a=some o∧o.cls=.type "list" ∧ o.dict=none∧o.data=.seq its n∧its.size≤sizeLine∧Vals xs its.toList
def zG(K:PySem.W.Frag)(H:Hp)(a:Addr)(xs:List V):Prop :=
 Rd H a (.tup xs) ∨
  ∃ (o:Obj) (its:Array Value) (n:Nat),K.lookup a=some o∧o.cls=.type "tuple" ∧ o.data=.seq its n∧its.size≤sizeLine∧Vals xs its.toList
def ad9:Value→Option V
 | .none=>some .non
 | .bool b=>some (.bl b)
 | .int i _=>some (.int i)
 | .str x _=>some (.str x)
 | .bytes b _=>some (.byt b)
 | .float b _=>some (.flt b)
 | .ref a=>some (.ref a)
 | .type n=>some (.ty n)
 | _=>none
theorem RelV.abs{x:V}{u:Value}(r:RelV x u):ad9 u=some x:=by
 cases x with
 | non=>cases r;rfl
 | bl _=>cases r;rfl
 | int _=>obtain⟨t,rfl⟩:=r;rfl
 | str _=>obtain⟨t,rfl⟩:=r;rfl
 | byt _=>obtain⟨t,rfl⟩:=r;rfl
 | flt _=>obtain⟨t,rfl⟩:=r;rfl
 | ref _=>cases r;rfl
 | ty _=>cases r;rfl
theorem RelV.inj{x y:V}{u:Value}(r:RelV x u)(q:RelV y u):x=y:=Option.some.inj (r.abs.symm.trans q.abs)
theorem Vals.inj:∀ {xs ys:List V} {us:List Value},Vals xs us→Vals ys us→xs=ys
 | _,_,_,.nil,.nil=>rfl
 | _,_,_,.cons r t,.cons r' t'=>by rw[r.inj r',Vals.inj t t']
section
variable{X:Cx}{pins:List (Addr×Obj)}{σ : St}{H:Hp}{s:Shared}{a:Addr}{xs ys:List V}
theorem Inv.list(I:Inv X pins σ H s)(h:zH X.K H a xs):∃ its:List Value,Vals xs its∧PlainL s.heap a its.toArray∧xs.length≤sizeLine:=by
 rcases h with h|⟨o,its,n,hk,hc,hd,hs,hz,r⟩
 ·obtain⟨z,its,n,r,e⟩:=h.ok I.hok
  exact⟨its,r,⟨_,n,e,rfl,rfl,rfl⟩,z⟩
 ·refine⟨its.toList,r,⟨o,n,I.Jc a o hk,hc,hd,by simpa using hs⟩,?_⟩
  have e:=r.length
  simp only[Array.length_toList] at e
  omega
theorem Inv.tuple(I:Inv X pins σ H s)(h:zG X.K H a xs):∃ its:List Value,Vals xs its∧IsTup s.heap a its.toArray∧xs.length≤sizeLine:=by
 rcases h with h|⟨o,its,n,hk,hc,hs,hz,r⟩
 ·obtain⟨z,its,r,p⟩:=h.ok I.hok
  exact⟨its,r,p.tup,z⟩
 ·refine⟨its.toList,r,⟨o,I.Jc a o hk,hc,n,by simpa using hs⟩,?_⟩
  have e:=r.length
  simp only[Array.length_toList] at e
  omega
theorem Inv.BJ(I:Inv X pins σ H s)(h:zH X.K H a xs)(h':zH X.K H a ys):xs=ys:=by
 obtain⟨its,r,⟨o,n,e,_,_,d⟩,_⟩:=I.list h
 obtain⟨its',r',⟨o',n',e',_,_,d'⟩,_⟩:=I.list h'
 rw[e] at e';cases e'
 rw[d] at d'
 injection d' with d1 _
 have:its=its':=by simpa using congrArg Array.toList d1
 subst this
 exact r.inj r'
theorem Inv.xG(I:Inv X pins σ H s)(h:zG X.K H a xs)(h':zG X.K H a ys):xs=ys:=by
 obtain⟨its,r,⟨o,e,_,n,d⟩,_⟩:=I.tuple h
 obtain⟨its',r',⟨o',e',_,n',d'⟩,_⟩:=I.tuple h'
 rw[e] at e';cases e'
 rw[d] at d'
 injection d' with d1 _
 have:its=its':=by simpa using congrArg Array.toList d1
 subst this
 exact r.inj r'
end
abbrev Cx.wish(X:Cx)(E:Value→Shared→Prop):Cx:={ X with xe:=E }
abbrev Cx.nox(X:Cx):Cx:=X.wish fun _ _=>False
theorem Cx.Ok.wish{X:Cx}(ok:X.Ok)(E:Value→Shared→Prop):(X.wish E).Ok :=
 ⟨ok.mod,ok.kind,ok.glob,ok.blt,ok.above,ok.inj,ok.has,ok.cab,ok.hd,ok.frames,ok.stk,ok.exf,ok.bs,ok.bsz,ok.U9,ok.Ym,ok.Ci,ok.frf⟩
theorem Cx.Ok.rQ{X:Cx}{E:Value→Shared→Prop}(ok:(X.wish E).Ok):X.Ok :=
 ⟨ok.mod,ok.kind,ok.glob,ok.blt,ok.above,ok.inj,ok.has,ok.cab,ok.hd,ok.frames,ok.stk,ok.exf,ok.bs,ok.bsz,ok.U9,ok.Ym,ok.Ci,ok.frf⟩
section
variable{X:Cx}{pins:List (Addr×Obj)}{σ : St}{H:Hp}{s:Shared}{E:Value→Shared→Prop}
theorem Inv.wish(I:Inv X pins σ H s)(E:Value→Shared→Prop):Inv (X.wish E) pins σ H s:=⟨I.ok.wish E,I.os,I.bare,I.base,I.loc,I.cell,I.free,I.pY,I.pin,I.hok,I.len⟩
theorem Inv.rQ(I:Inv (X.wish E) pins σ H s):Inv X pins σ H s:=⟨I.ok.rQ,I.os,I.bare,I.base,I.loc,I.cell,I.free,I.pY,I.pin,I.hok,I.len⟩
theorem SP.rQ{D:Ends}{f:Flow}{s':Shared}(h:SP (X.wish E) pins D f s'):SP X pins D f s':=by
 cases f with
 | next=>obtain⟨σ',H',I,q⟩:=h;exact⟨σ',H',I.rQ,q⟩
 | brk=>obtain⟨σ',H',I,q⟩:=h;exact⟨σ',H',I.rQ,q⟩
 | cont=>obtain⟨σ',H',I,q⟩:=h;exact⟨σ',H',I.rQ,q⟩
 | ret u=>obtain⟨v,σ',H',I,r,q⟩:=h;exact⟨v,σ',H',I.rQ,r,q⟩
theorem QJ.nox{st:List Stmt}{t:TS}(h:QJ X.nox st t):QJ X st t:=fun pins s σ H D I hw =>
 wpAny_mono (h pins s σ H D (I.wish _) hw) (fun _ _ q=>q.rQ) fun _ _ z=>False.elim z
end
section
variable{X:Cx}{st:Stmt}{rest:List Stmt}{t u:TS}{e:Expr}{te:TE}{pos:Pos}
def Zd:TS:=fun D σ H=>D.nx σ H
def abA(t u:TS):TS:=fun D σ H=>t { D with nx:=u D } σ H
theorem bL:QJ X [] Zd:=fun _ _ σ H _ I h=>wpAny_execs_nil ⟨σ,H,I,h⟩
theorem aC(h1:PS X st t)(h2:QJ X rest u):QJ X (st::rest) (abA t u):=by
 intro pins s σ H D I h
 refine wpAny_execs_cons (eU (h1 pins s σ H { D with nx:=u D } I h) fun f s1 q=>?_)
 cases f with
 | next =>
  obtain⟨σ',H',I',q⟩:=q
  exact h2 pins s1 σ' H' D I' q
 | ret v=>exact q
 | brk=>exact q
 | cont=>exact q
theorem aG(h1:PS X st t):QJ X [st] t:=by
 intro pins s σ H D I h
 refine wpAny_execs_cons (eU (h1 pins s σ H D I h) fun f s1 q=>?_)
 cases f with
 | next=>exact wpAny_execs_nil q
 | ret v=>exact q
 | brk=>exact q
 | cont=>exact q
theorem Inv.quiet{pins:List (Addr×Obj)}{σ : St}{H:Hp}{s:Shared}(I:Inv X pins σ H s):interactive X.env=false:=by simp[interactive,I.ok.kind]
def Em(te:TE):TS:=fun D σ H=>te σ H fun _ H1=>D.nx σ H1
theorem fM(he:PE X e te)(hs:swapsWith e none pos.line X.env=pure false:=by rfl):PS X (.Expr e pos) (Em te):=by
 intro pins s σ H D I h
 exact wpAny_Expr_any (eU (he pins s σ H _ I h) fun v s1 ⟨x,H1,I1,r1,q1⟩=>⟨σ,H1,I1,q1⟩) I.quiet hs
def Ma(te:TE):TS:=fun D σ H=>te σ H D.rt
theorem bG(he:PE X e te):PS X (.Return (some e) pos) (Ma te):=by
 intro pins s σ H D I h
 exact wpAny_Return_some (eU (he pins s σ H _ I h) fun v s1 ⟨x,H1,I1,r1,q1⟩=>⟨x,σ,H1,I1,r1,q1⟩)
def abF(c:TT)(t u:TS):TS:=fun D σ H=>c σ H fun b H1=>if b=true then t D σ H1 else u D σ H1
theorem dR{c:Expr}{a b:List Stmt}{tc:TT}(hc:PT X c tc)(ha:QJ X a t)(hb:QJ X b u):PS X (.If c a b pos) (abF tc t u):=by
 intro pins s σ H D I h
 refine wpAny_If (eU (hc pins s σ H _ I h) fun d s1 ⟨H1,I1,q1⟩=>?_)
 cases d with
 | true=>exact ha pins s1 σ H1 D I1 q1
 | false=>exact hb pins s1 σ H1 D I1 q1
def Tn:TS:=fun _ _ _=>False
theorem jh:PS X st Tn:=fun _ _ _ _ _ _ h=>h.elim
end
abbrev TG:=V→St→Hp→(St→Hp→Prop)→Prop
abbrev SJ:=List V→St→Hp→(St→Hp→Prop)→Prop
def PG(X:Cx)(target:Expr)(t:TG):Prop :=
 ∀ (pins:List (Addr×Obj)) (s:Shared) (σ : St) (H:Hp) (v:V) (u:Value) (Q:St→Hp→Prop),Inv X pins σ H s→RelV v u→t v σ H Q →
  wpAny (model X.prog X.w) X.A (assign target X.env u) (fun _ s'=>∃ σ' H',Inv X pins σ' H' s'∧Q σ' H') X.xe s
def PGs(X:Cx)(ts:List Expr)(t:SJ):Prop :=
 ∀ (pins:List (Addr×Obj)) (s:Shared) (σ : St) (H:Hp) (vs:List V) (us:List Value) (Q:St→Hp→Prop),Inv X pins σ H s→Vals vs us→t vs σ H Q →
  wpAny (model X.prog X.w) X.A (assignInOrder ((assignEach ts X.env).map (·.2)) us) (fun _ s'=>∃ σ' H',Inv X pins σ' H' s'∧Q σ' H') X.xe s
section
variable{X:Cx}{pos:Pos}
def pX(i:Nat):TG:=fun v σ H Q=>Q (σ.set i (some v)) H
theorem aN{i:Nat}{x:Str}(hN:X.N.Nodup)(hi:X.N[i]? = some x)(hx:Loc X.env.scope x)(hf:X.fn x=true∨X.env.scope.names.lookup x=some .local:=by first|exact .inl rfl|exact .inr rfl|assumption):PG X (.Name x pos) (pX i):=by
 intro pins s σ H v u Q I r h
 exact wpAny_assign_Name (Js I hN hi hx r (fun s' I'=>⟨_,H,I',h⟩) hf)
def Vz:SJ:=fun vs σ H Q=>vs=[]∧Q σ H
def Ko(t:TG)(u:SJ):SJ:=fun vs σ H Q=>∃ v r,vs=v::r∧t v σ H fun σ' H'=>u r σ' H' Q
theorem d9:PGs X [] Vz:=by
 intro pins s σ H vs us Q I r h
 obtain⟨e,h⟩:=h
 subst e
 cases r
 exact assignInOrder_nil ⟨σ,H,I,h⟩
theorem bh{e:Expr}{es:List Expr}{t:TG}{u:SJ}(h1:PG X e t)(h2:PGs X es u)
 (hs:(assignEach (e::es) X.env).map (·.2)=assign e X.env::(assignEach es X.env).map (·.2):=by rfl):PGs X (e::es) (Ko t u):=by
 intro pins s σ H vs us Q I r h
 obtain⟨v,vr,e1,h⟩:=h
 subst e1
 cases r with
 | cons r rr =>
  rw[hs]
  refine assignInOrder_cons (eU (h1 pins s σ H _ _ _ I r h) fun _ s1 ⟨σ1,H1,I1,q1⟩=>?_)
  exact h2 pins s1 σ1 H1 _ _ Q I1 rr q1
def aaY(K:PySem.W.Frag)(n:Nat)(t:SJ):TG:=fun v σ H Q=>∃ a xs,v=.ref a∧zG K H a xs∧xs.length=n∧t xs σ H Q
theorem fY{es:List Expr}{k:Nat}{t:SJ}{n:Nat}(hc:X.calm=true)(h:PGs X es t)
 (hn:(assignEach es X.env).length=n:=by rfl) (hst:(assignEach es X.env).findIdx? (·.1)=none:=by rfl):PG X (.Tuple es k pos) (aaY X.K n t):=by
 intro pins s σ H v u Q I r hw
 obtain⟨a,xs,e1,hq,hl,hw⟩:=hw
 subst e1
 cases r
 obtain⟨its,rv,ht,hz⟩:=I.tuple hq
 refine assign_Tuple_tuple (I.ok.hd hc) ht (by simp[hn,← hl,rv.length]) hst fun h' hx=>?_
 have I1:Inv X pins σ H { s with heap:=h' }:=I.kept (t':=s.toks) fun b o e=>hx b o (Nat.ne_of_lt (Heap.lt_size e)) e
 exact h pins _ σ H xs _ Q I1 (by simpa using rv) hw
def Jr(te:TE)(g:TG):TS:=fun D σ H=>te σ H fun x H1=>g x σ H1 D.nx
theorem Mu{tg e:Expr}{te:TE}{g:TG}(he:PE X e te)(hg:PG X tg g)(hs:swapsWithSole [tg] e pos.line X.env=pure false:=by rfl)(hw:swappedStores [tg] e X.env=pure none:=by rfl)
 (h1:(assignEach [tg] X.env).map (·.2)=[assign tg X.env]:=by rfl):PS X (.Assign [tg] e pos) (Jr te g):=by
 intro pins s σ H D I h
 refine wpAny_Assign_stores (eU (he pins s σ H _ I h) fun v s1 ⟨x,H1,I1,r1,q1⟩=>?_) hs hw
 rw[h1]
 exact eU (hg pins s1 σ H1 x v _ I1 r1 q1) fun _ s2 q=>q
theorem bz{i:Nat}{x:Str}{e:Expr}{te:TE}{pos':Pos}(hN:X.N.Nodup)(hi:X.N[i]? = some x)(hx:Loc X.env.scope x)(he:PE X e te)(hs:swapsWith e (some (.Name x pos')) pos.line X.env=pure false:=by rfl)(hf:X.fn x=true∨X.env.scope.names.lookup x=some .local:=by first|exact .inl rfl|exact .inr rfl|assumption) :
 PS X (.Assign [.Name x pos'] e pos) (Jr te (pX i)):=by
 intro pins s σ H D I h
 refine wpAny_Assign_Name (eU (he pins s σ H _ I h) fun v s1 ⟨y,H1,I1,r1,q1⟩=>?_) hs
 exact Js I1 hN hi hx r1 (fun s2 I2=>⟨_,H1,I2,q1⟩) hf
end
section
variable{X:Cx}{pos:Pos}
def Th(c:TT)(tb:TS):TS:=fun D σ H=>∃ W:Nat→St→Hp→Prop,(∃ m,W m σ H)∧∀ m σ H,W m σ H →
 c σ H fun b H1=>if b=true then ∃ N:St→Hp→Prop,(∀ σ' H',N σ' H'→∃ m',m' < m∧W m' σ' H')∧tb { D with nx:=N,ct:=N,bk:=D.nx } σ H1 else D.nx σ H1
theorem JH{c:Expr}{body:List Stmt}{tc:TT}{tb:TS}(hp:PassesOwn (model X.prog X.w) X.A X.env X.xe)(hc:PT X c tc)(hb:QJ X body tb):PS X (.While c body [] pos) (Th tc tb):=by
 intro pins s σ H D I h
 obtain⟨W,⟨m0,w0⟩,turn⟩:=h
 refine wpAny_While (codeAny_whileLoop (fun n s'=>∃ σ' H',Inv X pins σ' H' s'∧W n σ' H') ?_ m0 ⟨σ,H,I,w0⟩)
 rintro n s1 ⟨σ1,H1,I1,w1⟩
 refine wpAny_passesOwn hp (eU (hc pins s1 σ1 H1 _ I1 (turn n σ1 H1 w1)) fun b s2 ⟨H2,I2,q2⟩=>?_)
 cases b with
 | true =>
  obtain⟨N,hN,q2⟩:=q2
  rw[if_pos rfl]
  refine wpAny_passesOwn hp (eU (hb pins s2 σ1 H2 _ I2 q2) fun f s3 q3=>?_)
  cases f with
  | next =>
   obtain⟨σ3,H3,I3,n3⟩:=q3
   obtain⟨m',hm,w3⟩:=hN σ3 H3 n3
   exact⟨m',hm,σ3,H3,I3,w3⟩
  | cont =>
   obtain⟨σ3,H3,I3,n3⟩:=q3
   obtain⟨m',hm,w3⟩:=hN σ3 H3 n3
   exact⟨m',hm,σ3,H3,I3,w3⟩
  | brk=>exact q3
  | ret v=>exact q3
 | false =>
  rw[if_neg Bool.false_ne_true]
  exact wpAny_execs_nil ⟨σ1,H2,I2,q2⟩
end
structure It where
 go:Nat→Hp→Prop
 yld:Nat→Hp→V→Hp→Prop
 stop:Nat→Hp→Prop
def ql(X:Cx)(pins:List (Addr×Obj))(H:Hp)(b:Addr):Prop :=
 H b=none∧b≠X.env.locals∧b∉X.fs∧(b∈X.ex∨X.s₀.heap.objs.size≤b)∧(∀ x c,X.env.cells.lookup x=some c→c≠b)∧∀ p∈X.pn++pins,p.1≠b
theorem Inv.vD{X:Cx}{pins:List (Addr×Obj)}{σ : St}{H H':Hp}{s:Shared}{b:Addr}(I:Inv X pins σ H s)(hb:s.heap.objs.size≤b)(hn:H' b=none):ql X pins H' b:=by
 refine⟨hn,Nat.ne_of_gt (Nat.lt_of_lt_of_le I.lt hb),I.adH hb,.inr (Nat.le_trans I.sz hb),fun x c e z=>?_,fun p hp z=>?_⟩
 ·obtain⟨v,q⟩:=I.cell x c e
  exact absurd (Nat.lt_of_lt_of_le q.lt (by rw[z];exact hb)) (Nat.lt_irrefl _)
 ·exact absurd (Nat.lt_of_lt_of_le (Heap.lt_size (I.pin p hp).1) (by rw[z];exact hb)) (Nat.lt_irrefl _)
structure Turn(P:Program)(w:World)(K:PySem.W.Frag)(tg:Expr)(J:It)(fp:List Addr)(it:Addr)(tn:Nat→Heap→Prop):Prop where
 mem:it∈fp
 obj:∀ i h,tn i h→∀ b∈fp,∃ o,h.get? b=some o∧∀ v,o.data≠.cell v
 keep:∀ i h h',tn i h→(∀ b∈fp,∀ o,h.get? b=some o→h'.get? b=some o)→tn i h'
 item:∀ (X:Cx),X.prog=P→X.w=w→X.K=K→X.calm=true→∀ (i:Nat) (pins:List (Addr×Obj)) (s:Shared) (σ : St) (H:Hp) (E:Value→Shared→Prop),Inv X pins σ H s→(∀ b∈fp,ql X pins H b)→tn i s.heap→J.go i H →
  wpAny (model P w) X.A (pyNext (.ref it)) (fun r s1=>∃ u,r=some u ∧
   wpAny (model P w) X.A (letOwnedTupleGo tg (.ref it) u) (fun _ s2=>∃ x H',Inv X pins σ H' s2∧RelV x u∧J.yld i H x H'∧tn (i+1) s2.heap∧∀ b∈fp,H' b=none) E s1) E s
 done:∀ (X:Cx),X.prog=P→X.w=w→X.K=K→X.calm=true→∀ (i:Nat) (pins:List (Addr×Obj)) (s:Shared) (σ : St) (H:Hp) (E:Value→Shared→Prop),Inv X pins σ H s→(∀ b∈fp,ql X pins H b)→tn i s.heap→J.stop i H →
  wpAny (model P w) X.A (pyNext (.ref it)) (fun r s1=>r=none∧Inv X pins σ H s1) E s
 self:∀ (A:Around) (i:Nat) (s:Shared) (Q:Value→Shared→Prop) (E:Value→Shared→Prop),tn i s.heap→Q (.ref it) s→wpAny (model P w) A (pyIter (.ref it)) Q E s
abbrev TI:=St→Hp→(It→Hp→Prop)→Prop
def PIE(X:Cx)(pins:List (Addr×Obj))(σ : St)(tg:Expr)(R:It→Hp→Prop)(itv:Value)(s2:Shared):Prop :=
 ∃ (it:Addr) (fp:List Addr) (tn:Nat→Heap→Prop) (J:It) (H':Hp),itv=.ref it∧Inv X pins σ H' s2∧Turn X.prog X.w X.K tg J fp it tn∧tn 0 s2.heap∧(∀ b∈fp,ql X pins H' b)∧R J H'
def PI(X:Cx)(tg iter:Expr)(wi:TI):Prop :=
 ∀ (pins:List (Addr×Obj)) (s:Shared) (σ : St) (H:Hp) (R:It→Hp→Prop),Inv X pins σ H s→wi σ H R →
  wpAny (model X.prog X.w) X.A (eval iter X.env) (fun v s1=>wpAny (model X.prog X.w) X.A (pyIter v) (PIE X pins σ tg R) X.xe s1) X.xe s
theorem Km{M:Model}{A:Around}{E:Value→Shared→Prop}{s:Shared}{tg:Expr}{it:Addr}{u:Value}{o:Obj}{n:String}{vs:Array Value}{Q:Unit→Shared→Prop}(ho:s.heap.get? it=some o)(hc:o.cls=.type n)(hd:o.data=.fields vs)
 (hn:["enumerate", "zip", "dict_itemiterator", "dict_reverseitemiterator", "odict_iterator", "itertools.zip_longest", "itertools.pairwise"].contains n=false) (hQ:Q () s):wpAny M A (letOwnedTupleGo tg (.ref it) u) Q E s:=by
 unfold letOwnedTupleGo
 cases tg<;>first
  | exact wpAny_pure hQ
  | (cases u<;>first
   | exact wpAny_pure hQ
   | (refine wpAny_bind (wpAny_load ho ?_)
      rw[hc,hd]
      show wpAny M A (if (["enumerate", "zip", "dict_itemiterator", "dict_reverseitemiterator", "odict_iterator", "itertools.zip_longest", "itertools.pairwise"].contains n && vs[0]? == some (rawInt _))=true then _ else _) Q E s
      rw[if_neg (by intro h;rw[hn,Bool.false_and] at h;cases h)]
      exact wpAny_pure hQ))
def Itl(K:PySem.W.Frag)(a:Addr):It :=
 ⟨fun i H=>∃ xs x,zH K H a xs∧xs[i]? = some x,fun i H x H'=>H'=H∧∀ xs,zH K H a xs→xs[i]? = some x,fun i H=>∃ xs,zH K H a xs∧xs.length≤i⟩
def Itt(K:PySem.W.Frag)(a:Addr):It :=
 ⟨fun i H=>∃ xs x,zG K H a xs∧xs[i]? = some x,fun i H x H'=>H'=H∧∀ xs,zG K H a xs→xs[i]? = some x,fun i H=>∃ xs,zG K H a xs∧xs.length≤i⟩
def Itr(lo:Int)(n:Nat):It:=⟨fun i _=>i < n,fun i H x H'=>H'=H∧x=.int (lo+i),fun i _=>n≤i⟩
theorem QM{P:Program}{w:World}{K:PySem.W.Frag}{tg:Expr}(a it:Addr):Turn P w K tg (Itl K a) [it] it (fun i h=>h.IsListIter it a i) where
 mem:=by simp
 obj:=fun i h st b hb=>by
  have e:b=it:=by simpa using hb
  subst e
  obtain⟨o,e,c,d⟩:=st
  exact⟨o,e,fun v z=>by rw[d] at z;cases z⟩
 keep:=fun i h h' st k=>st.at fun o e=>k it (by simp) o e
 item:=by
  intro X hP hw hK hc i pins s σ H E I hf st hg
  subst hP hw hK
  obtain⟨xs,x,hq,hx⟩:=hg
  obtain⟨its,rv,p,hz⟩:=I.list hq
  obtain⟨u,hu,ru⟩:=rv.get hx
  obtain⟨f0,f1,f2,f3,f4,f5⟩:=hf it (by simp)
  refine wpAny_pyNext_list_item st p.isList (x:=u) (by simpa using hu) fun h' st' sb=>?_
  have I1:Inv X pins σ H { s with heap:=h' }:=I.turned (t':=s.toks) (fun b o hb e=>(sb.2 b hb).trans e) f0 f1 f3 f4 f5
  obtain⟨o,e,c,d⟩:=id st'
  exact⟨u,rfl,Km (s:={ s with heap:=h' }) e c d (by decide) ⟨x,H,I1,ru,⟨rfl,fun ys hy=>by rw[I.BJ hy hq];exact hx⟩,st',fun b hb=>(hf b hb).1⟩⟩
 done:=by
  intro X hP hw hK hc i pins s σ H E I hf st hg
  subst hP hw hK
  obtain⟨xs,hq,hx⟩:=hg
  obtain⟨its,rv,p,hz⟩:=I.list hq
  obtain⟨f0,f1,f2,f3,f4,f5⟩:=hf it (by simp)
  have hl:=rv.length
  exact wpAny_pyNext_list_end (I.ok.hd hc) st p.isList (by simp;omega) fun h' eb=>⟨rfl,I.turned (t':=s.toks) (fun b o hb e=>eb b o hb e) f0 f1 f3 f4 f5⟩
 self:=fun _ _ _ _ _ st h=>wpAny_pyIter_listiter st h
theorem LC{P:Program}{w:World}{K:PySem.W.Frag}{tg:Expr}(a it:Addr):Turn P w K tg (Itt K a) [it] it (fun i h=>h.IsTupleIter it a i) where
 mem:=by simp
 obj:=fun i h st b hb=>by
  have e:b=it:=by simpa using hb
  subst e
  obtain⟨o,e,c,d⟩:=st
  exact⟨o,e,fun v z=>by rw[d] at z;cases z⟩
 keep:=fun i h h' st k=>st.at fun o e=>k it (by simp) o e
 item:=by
  intro X hP hw hK hc i pins s σ H E I hf st hg
  subst hP hw hK
  obtain⟨xs,x,hq,hx⟩:=hg
  obtain⟨its,rv,p,hz⟩:=I.tuple hq
  obtain⟨u,hu,ru⟩:=rv.get hx
  obtain⟨f0,f1,f2,f3,f4,f5⟩:=hf it (by simp)
  refine wpAny_pyNext_tuple_item st (show s.heap.IsTuple a its.toArray from p) (x:=u) (by simpa using hu) fun h' st' sb=>?_
  have I1:Inv X pins σ H { s with heap:=h' }:=I.turned (t':=s.toks) (fun b o hb e=>(sb.2 b hb).trans e) f0 f1 f3 f4 f5
  obtain⟨o,e,c,d⟩:=id st'
  exact⟨u,rfl,Km (s:={ s with heap:=h' }) e c d (by decide) ⟨x,H,I1,ru,⟨rfl,fun ys hy=>by rw[I.xG hy hq];exact hx⟩,st',fun b hb=>(hf b hb).1⟩⟩
 done:=by
  intro X hP hw hK hc i pins s σ H E I hf st hg
  subst hP hw hK
  obtain⟨xs,hq,hx⟩:=hg
  obtain⟨its,rv,p,hz⟩:=I.tuple hq
  obtain⟨f0,f1,f2,f3,f4,f5⟩:=hf it (by simp)
  have hl:=rv.length
  exact wpAny_pyNext_tuple_end (I.ok.hd hc) st (show s.heap.IsTuple a its.toArray from p) (by simp;omega) fun h' eb=>⟨rfl,I.turned (t':=s.toks) (fun b o hb e=>eb b o hb e) f0 f1 f3 f4 f5⟩
 self:=fun _ _ _ _ _ st h=>wpAny_pyIter_tupleiter st h
theorem LK{P:Program}{w:World}{K:PySem.W.Frag}{tg:Expr}(it:Addr)(lo:Int)(n:Nat):Turn P w K tg (Itr lo n) [it] it (fun i h=>IsRangeIter h it (lo+(i:Nat) * 1) ((n:Int) - (i:Nat)) 1) where
 mem:=by simp
 obj:=fun i h st b hb=>by
  have e:b=it:=by simpa using hb
  subst e
  exact⟨_,st,fun v z=>by
   have z':Data.fields _=Data.cell v:=z
   cases z'⟩
 keep:=fun i h h' st k=>k it (by simp) _ st
 item:=by
  intro X hP hw hK hc i pins s σ H E I hf st hg
  subst hP hw hK
  obtain⟨f0,f1,f2,f3,f4,f5⟩:=hf it (by simp)
  have W:=Walks.range (prog:=X.prog) (w:=X.w) (I.ok.hd hc) it lo 1 n
  refine W.item i s _ _ hg st fun v h' tk hv st' kk=>?_
  obtain⟨t,rfl⟩:=hv
  have I1:Inv X pins σ H { s with heap:=h',toks:=tk }:=I.turned (fun b o hb e=>kk b o (by simpa using hb) e) f0 f1 f3 f4 f5
  refine⟨_,rfl,Km (s:={ s with heap:=h',toks:=tk }) (n := "range_iterator") st' rfl rfl (by decide) ⟨.int (lo+i),H,I1,⟨t,?_⟩,⟨rfl,rfl⟩,st',fun b hb=>(hf b hb).1⟩⟩
  rw[Int.mul_one]
 done:=by
  intro X hP hw hK hc i pins s σ H E I hf st hg
  subst hP hw hK
  obtain⟨f0,f1,f2,f3,f4,f5⟩:=hf it (by simp)
  exact wpAny_pyNext_range_end (I.ok.hd hc) st (by have:n≤i:=hg;omega) fun h' eb=>⟨rfl,I.turned (t':=s.toks) (fun b o hb e=>eb b o hb e) f0 f1 f3 f4 f5⟩
 self:=fun _ _ _ _ _ st h=>wpAny_pyIter_rangeiter st h
end L2
namespace L2
open PySem PySem.Spec PyProof.Rows
section
variable{X:Cx}{tg:Expr}
def ZG(K:PySem.W.Frag)(tl:TE):TI:=fun σ H R=>tl σ H fun x H1=>∃ a,x=.ref a∧(∃ xs,zH K H1 a xs)∧R (Itl K a) H1
def acB(K:PySem.W.Frag)(tl:TE):TI:=fun σ H R=>tl σ H fun x H1=>∃ a,x=.ref a∧(∃ xs,zG K H1 a xs)∧R (Itt K a) H1
theorem Xk{l:Expr}{tl:TE}(hl:PE X l tl):PI X tg l (ZG X.K tl):=by
 intro pins s σ H R I h
 refine eU (hl pins s σ H _ I h) fun v s1 ⟨x,H1,I1,r1,q1⟩=>?_
 obtain⟨a,e,⟨xs,hq⟩,q⟩:=q1
 subst e
 cases r1
 obtain⟨its,rv,p,hz⟩:=I1.list hq
 refine wpAny_pyIter_list p.isList ?_
 refine⟨s1.heap.objs.size,[s1.heap.objs.size],_,_,H1,rfl,I1.kept (t':=s1.toks) fun b o e=>Heap.get?_push_of_some _ e,QM a _,⟨_,Heap.get?_push_size _ rfl,rfl,rfl⟩,fun b hb=>?_,q⟩
 have e:b=s1.heap.objs.size:=by simpa using hb
 subst e
 exact I1.vD (Nat.le_refl _) (I1.hok.fresh (Nat.le_refl _))
theorem aat{l:Expr}{tl:TE}(hl:PE X l tl):PI X tg l (acB X.K tl):=by
 intro pins s σ H R I h
 refine eU (hl pins s σ H _ I h) fun v s1 ⟨x,H1,I1,r1,q1⟩=>?_
 obtain⟨a,e,⟨xs,hq⟩,q⟩:=q1
 subst e
 cases r1
 obtain⟨its,rv,p,hz⟩:=I1.tuple hq
 refine wpAny_pyIter_tuple (show s1.heap.IsTuple a its.toArray from p) ?_
 refine⟨s1.heap.objs.size,[s1.heap.objs.size],_,_,H1,rfl,I1.kept (t':=s1.toks) fun b o e=>Heap.get?_push_of_some _ e,LC a _,⟨_,Heap.get?_push_size _ rfl,rfl,rfl⟩,fun b hb=>?_,q⟩
 have e:b=s1.heap.objs.size:=by simpa using hb
 subst e
 exact I1.vD (Nat.le_refl _) (I1.hok.fresh (Nat.le_refl _))
theorem Ua{pins:List (Addr×Obj)}{σ : St}{H:Hp}{s:Shared}{R:It→Hp→Prop}{E:Value→Shared→Prop}{lo hi:Int}{t u v:Tok}{tk:Nat}(I:Inv X pins σ H s)(h1:-(2 ^ 62)≤lo)(h2:lo < 2 ^ 62)(h3:-(2 ^ 62)≤hi)(h4:hi < 2 ^ 62)
 (q:R (Itr lo (hi - lo).toNat) H):wpAny (model X.prog X.w) X.A (pyIter (.ref s.heap.objs.size)) (PIE X pins σ tg R) E { s with heap:=s.heap.push { cls:=.type "range", data:=.fields #[.int lo t,.int hi u,.int 1 v] },toks:=tk }:=by
 refine wpAny_pyIter_range (IsRange.new ..) (small_one h1 h2 h3 h4) ?_
 have I1:Inv X pins σ H { s with heap:=s.heap.push { cls:=.type "range", data:=.fields #[.int lo t,.int hi u,.int 1 v] },toks:=tk }:=I.kept fun b o e=>Heap.get?_push_of_some _ e
 refine⟨(s.heap.push { cls:=.type "range", data:=.fields #[.int lo t,.int hi u,.int 1 v] }).objs.size,[(s.heap.push { cls:=.type "range", data:=.fields #[.int lo t,.int hi u,.int 1 v] }).objs.size],_,_,H,rfl,
  I1.kept (t':=tk) fun b o e=>Heap.get?_push_of_some _ e,LK _ lo (hi - lo).toNat,?_,fun b hb=>?_,q⟩
 ·have e1:lo+((0:Nat):Int) * 1=lo:=by simp
  have e2:(((hi - lo).toNat:Nat):Int) - ((0:Nat):Int)=Builtin.Range.rangeSize lo hi 1:=by rw[rangeSize_one];split<;>omega
  show IsRangeIter _ _ (lo+((0:Nat):Int) * 1) ((((hi - lo).toNat:Nat):Int) - ((0:Nat):Int)) 1
  rw[e1,e2]
  exact Heap.get?_push_size _ rfl
 ·have e:b=(s.heap.push { cls:=.type "range", data:=.fields #[.int lo t,.int hi u,.int 1 v] }).objs.size:=by simpa using hb
  subst e
  exact I1.vD (Nat.le_refl _) (I1.hok.fresh (Nat.le_refl _))
def ZF(ta:TA):TI:=fun σ H R=>ta σ H fun vs H1=>∃ j:Int,vs=[.int j]∧-(2 ^ 62)≤j∧j < 2 ^ 62∧R (Itr 0 j.toNat) H1
theorem iJ{a:Expr}{ta:TA}{p pos:Pos}(hg:Gl X "range")(hm:X.mg "range" = none)(ha:PA X [a] ta)(hs:starEach [a] X.env=[(false,eval a X.env)]:=by rfl):PI X tg (.Call (.Name "range" p) [a] [] pos) (ZF ta):=by
 intro pins s σ H R I h
 refine Call_ (vB I hg hm boot_range (PyProof.Rows.callWith_type1 (eU (ha pos pins s σ H _ I h) fun us s1 ⟨vs,H1,I1,r1,q1⟩=>?_) hs rfl))
 obtain⟨j,e,q1,q2,q⟩:=q1
 subst e
 cases r1 with
 | cons r rr =>
  cases rr
  obtain⟨t,rfl⟩:=r
  exact call_range_1 (Ua I1 (by omega) (by omega) q1 q2 (by simpa using q))
def abH(wi:TI)(g:TG)(tb:TS):TS:=fun D σ H=>wi σ H fun J H1=>∃ W:Nat→Nat→St→Hp→Prop,(∃ m,W 0 m σ H1)∧∀ i m σ H,W i m σ H →
 (J.stop i H∧D.nx σ H)∨(J.go i H∧∃ N:St→Hp→Prop,(∀ σ' H',N σ' H'→∃ m',m' < m∧W (i+1) m' σ' H')∧∀ x H',J.yld i H x H'→g x σ H' fun σ2 H2=>tb { D with nx:=N,ct:=N,bk:=D.nx } σ2 H2)
def G9(fp:List Addr)(h:Heap):List (Addr×Obj):=fp.filterMap fun b=>(h.get? b).map fun o=>(b,o)
theorem kZ{fp:List Addr}{h:Heap}{b:Addr}{o:Obj}(hb:b∈fp)(e:h.get? b=some o):(b,o)∈G9 fp h:=List.mem_filterMap.mpr ⟨b,hb,by rw[e];rfl⟩
theorem Rg{fp:List Addr}{h:Heap}{p:Addr×Obj}(hp:p∈G9 fp h):p.1∈fp∧h.get? p.1=some p.2:=by
 obtain⟨b,hb,e⟩:=List.mem_filterMap.mp hp
 cases q:h.get? b with
 | none=>rw[q] at e;cases e
 | some o =>
  rw[q] at e
  have e':(b,o)=p:=Option.some.inj e
  subst e'
  exact⟨hb,q⟩
theorem Inv.pinned{pins:List (Addr×Obj)}{σ : St}{H:Hp}{s:Shared}{fp:List Addr}(I:Inv X pins σ H s)(hf:∀ b∈fp,ql X pins H b)(ho:∀ b∈fp,∃ o,s.heap.get? b=some o∧∀ v,o.data≠.cell v):Inv X (pins++G9 fp s.heap) σ H s :=
 I.G8 fun p hp=>(List.mem_append.mp hp).elim (fun z=>I.pin p (List.mem_append_right _ z)) fun z=>by
  obtain⟨hb,e⟩:=Rg z
  obtain⟨f0,f1,f2,_⟩:=hf p.1 hb
  obtain⟨o,e',d⟩:=ho p.1 hb
  rw[e] at e';cases e'
  exact⟨e,f0,f1,f2,d⟩
theorem Inv.ph{pins pl:List (Addr×Obj)}{σ : St}{H:Hp}{s:Shared}(I:Inv X (pins++pl) σ H s):Inv X pins σ H s:=I.G8 fun p hp=>I.pin p (List.mem_append_right _ (List.mem_append_left _ hp))
theorem gY{iter:Expr}{body:List Stmt}{wi:TI}{g:TG}{tb:TS}{pos:Pos}(hp:PassesOwn (model X.prog X.w) X.A X.env X.xe)(hc:X.calm=true)(hi:PI X tg iter wi)(hg:PG X tg g)(hb:QJ X body tb)
 (hs:∀ x,foldedSetIterable iter X.env x=pure x:=by intro _;rfl):PS X (.For tg iter body [] pos) (abH wi g tb):=by
 intro pins s σ H D I h
 refine wpAny_For (eU (hi pins s σ H _ I h) fun v s1 h1=>eU h1 fun itv s2 h2=>?_) hs
 obtain⟨it,fp,tn,J,H2,e,I2,T,st2,f2,W,⟨m0,w0⟩,turn⟩:=h2
 subst e
 have stat:∀ {H':Hp},(∀ b∈fp,H' b=none)→∀ b∈fp,ql X pins H' b:=fun hn b hb=>⟨hn b hb,(f2 b hb).2⟩
 refine codeAny_forLoop_any (fun n s'=>∃ i σ' H',Inv X pins σ' H' s'∧tn i s'.heap∧(∀ b∈fp,H' b=none)∧W i n σ' H') ?_ m0 ⟨0,σ,H2,I2,st2,fun b hb=>(f2 b hb).1,w0⟩
 rintro n s3 ⟨i,σ3,H3,I3,st3,fr3,w3⟩
 rcases turn i n σ3 H3 w3 with ⟨stop,qn⟩|⟨go,N,hN,step⟩
 ·refine wpAny_passesOwn hp (eU (T.done X rfl rfl rfl hc i pins s3 σ3 H3 X.xe I3 (stat fr3) st3 stop) fun r s4 ⟨hr,I4⟩=>?_)
  subst hr
  exact wpAny_execs_nil ⟨σ3,H3,I4,qn⟩
 ·refine wpAny_passesOwn hp (eU (T.item X rfl rfl rfl hc i pins s3 σ3 H3 X.xe I3 (stat fr3) st3 go) fun r s4 ⟨u,hr,h4⟩=>?_)
  subst hr
  refine wpAny_passesOwn hp (eU h4 fun _ s5 ⟨x,H5,I5,r5,y5,st5,fr5⟩=>?_)
  have I5':=I5.pinned (stat fr5) (T.obj _ _ st5)
  refine wpAny_passesOwn hp (eU (hg _ s5 σ3 H5 x u _ I5' r5 (step x H5 y5)) fun _ s6 ⟨σ6,H6,I6,q6⟩=>?_)
  refine wpAny_passesOwn hp (eU (hb _ s6 σ6 H6 _ I6 q6) fun f s7 q7=>?_)
  have again:∀ {σ7:St} {H7:Hp},Inv X (pins++G9 fp s5.heap) σ7 H7 s7→N σ7 H7→∃ m,m < n∧∃ i σ' H',Inv X pins σ' H' s7∧tn i s7.heap∧(∀ b∈fp,H' b=none)∧W i m σ' H':=fun {σ7 H7} I7 n7=>by
   obtain⟨m',hm,w7⟩:=hN σ7 H7 n7
   refine⟨m',hm,i+1,σ7,H7,I7.ph,T.keep _ _ _ st5 fun b hb o e=>(I7.pin (b,o) (List.mem_append_right _ (List.mem_append_right _ (kZ hb e)))).1,fun b hb=>?_,w7⟩
   obtain⟨o,e,d⟩:=T.obj _ _ st5 b hb
   exact(I7.pin (b,o) (List.mem_append_right _ (List.mem_append_right _ (kZ hb e)))).2.1
  cases f with
  | next=>obtain⟨σ7,H7,I7,n7⟩:=q7;exact again I7 n7
  | cont=>obtain⟨σ7,H7,I7,n7⟩:=q7;exact again I7 n7
  | brk=>obtain⟨σ7,H7,I7,q7⟩:=q7;exact⟨σ7,H7,I7.ph,q7⟩
  | ret v=>obtain⟨x7,σ7,H7,I7,r7,q7⟩:=q7;exact⟨x7,σ7,H7,I7.ph,r7,q7⟩
end
end L2
namespace L2
open PySem PySem.Spec PyProof.Rows
abbrev R2:=V→V→Hp→VK→Prop
def qt(X:Cx)(f:Value→Value→Sem Value)(r:R2):Prop :=
 ∀ (pins:List (Addr×Obj)) (s:Shared) (σ : St) (H:Hp) (x y:V) (v u:Value) (Q:VK),Inv X pins σ H s→RelV x v→RelV y u→r x y H Q →
  wpAny (model X.prog X.w) X.A (f v u) (EP X pins σ Q) X.xe s
def jo(X:Cx)(f:Value)(r:List V→Hp→VK→Prop):Prop :=
 ∀ (pins:List (Addr×Obj)) (s:Shared) (σ : St) (H:Hp) (xs:List V) (us:List Value) (Q:VK),Inv X pins σ H s→Vals xs us→r xs H Q →
  wpAny (model X.prog X.w) X.A (call f us) (EP X pins σ Q) X.xe s
def aeb(X:Cx)(r:V→Hp→(Bool→Hp→Prop)→Prop):Prop :=
 ∀ (pins:List (Addr×Obj)) (s:Shared) (σ : St) (H:Hp) (x:V) (v:Value) (Q:Bool→Hp→Prop),Inv X pins σ H s→RelV x v→r x H Q →
  wpAny (model X.prog X.w) X.A (truthy v) (TP X pins σ Q) X.xe s
def tOp(r:R2)(ta tb:TE):TE:=fun σ H Q=>ta σ H fun x H1=>tb σ H1 fun y H2=>r x y H2 Q
def rI(C:Int→Int→Prop)(g:Int→Int→V):R2:=fun x y H Q=>∃ i j,x=.int i∧y=.int j∧C i j∧Q (g i j) H
def Sw(g:Int→Int→V):R2:=fun x y H Q=>∃ i j,x=.int i∧y=.int j∧Q (g i j) H
section
variable{X:Cx}{a b c:Expr}{ta tb tc:TE}{pos:Pos}
theorem aa9(ha:PE X a ta)(hb:PE X b tb){pins:List (Addr×Obj)}{s:Shared}{σ : St}{H:Hp}{R:V→V→Hp→Prop}(I:Inv X pins σ H s)
 (h:ta σ H fun x H1=>tb σ H1 fun y H2=>R x y H2) {Q:Value→Shared→Prop} {f:Value→Value→Sem Value}
 (hf:∀ v u s2 x y H2,Inv X pins σ H2 s2→RelV x v→RelV y u→R x y H2→wpAny (model X.prog X.w) X.A (f v u) Q X.xe s2) :
 wpAny (model X.prog X.w) X.A (eval a X.env) (fun v s₁=>wpAny (model X.prog X.w) X.A (eval b X.env) (fun u s₂=>wpAny (model X.prog X.w) X.A (f v u) Q X.xe s₂) X.xe s₁) X.xe s:=by
 refine eU (ha pins s σ H _ I h) fun v s1 ⟨x,H1,I1,r1,q1⟩=>?_
 refine eU (hb pins s1 σ H1 _ I1 q1) fun u s2 ⟨y,H2,I2,r2,q2⟩=>?_
 exact hf v u s2 x y H2 I2 r1 r2 q2
theorem bj{op:Operator}{r:R2}(ho:qt X (binaryOp op) r)(ha:PE X a ta)(hb:PE X b tb):PE X (.BinOp a op b pos) (tOp r ta tb):=by
 intro pins s σ H Q I h
 exact wpAny_BinOp (aa9 ha hb I h fun v u s2 x y H2 I2 rx ry q=>ho pins s2 σ H2 x y v u Q I2 rx ry q)
theorem opI{f:Value→Value→Sem Value}{C:Int→Int→Prop}{g:Int→Int→Int}
 (rule:∀ (i j:Int) (t u:Tok) (s:Shared) (Q:Value→Shared→Prop) (E:Value→Shared→Prop),C i j→Q (.int (g i j) s.toks) { s with toks:=s.toks+1 }→wpAny (model X.prog X.w) X.A (f (.int i t) (.int j u)) Q E s) :
 qt X f (rI C fun i j=>.int (g i j)):=by
 intro pins s σ H x y v u Q I rx ry h
 obtain⟨i,j,rfl,rfl,hc,q⟩:=h
 obtain⟨t,rfl⟩:=rx
 obtain⟨t',rfl⟩:=ry
 exact rule i j t t' s _ _ hc ⟨.int (g i j),H,I.tok _,⟨_,rfl⟩,q⟩
theorem ach{f:Value→Value→Sem Value}{g:Int→Int→Int}
 (rule:∀ (i j:Int) (t u:Tok) (s:Shared) (Q:Value→Shared→Prop) (E:Value→Shared→Prop),Q (.int (g i j) s.toks) { s with toks:=s.toks+1 }→wpAny (model X.prog X.w) X.A (f (.int i t) (.int j u)) Q E s) :
 qt X f (Sw fun i j=>.int (g i j)):=by
 intro pins s σ H x y v u Q I rx ry h
 obtain⟨i,j,rfl,rfl,q⟩:=h
 obtain⟨t,rfl⟩:=rx
 obtain⟨t',rfl⟩:=ry
 exact rule i j t t' s _ _ ⟨.int (g i j),H,I.tok _,⟨_,rfl⟩,q⟩
theorem aaD{f:Value→Value→Sem Value}{g:Int→Int→Bool}
 (rule:∀ (i j:Int) (t u:Tok) (s:Shared) (Q:Value→Shared→Prop) (E:Value→Shared→Prop),Q (.bool (g i j)) s→wpAny (model X.prog X.w) X.A (f (.int i t) (.int j u)) Q E s) :
 qt X f (Sw fun i j=>.bl (g i j)):=by
 intro pins s σ H x y v u Q I rx ry h
 obtain⟨i,j,rfl,rfl,q⟩:=h
 obtain⟨t,rfl⟩:=rx
 obtain⟨t',rfl⟩:=ry
 exact rule i j t t' s _ _ ⟨.bl (g i j),H,I,rfl,q⟩
def Y6(i j:Int):Prop:=(-(2 ^ 64) < i∧i < 2 ^ 64)∨(-(2 ^ 64) < j∧j < 2 ^ 64)
theorem Y6.ok{i j:Int}(h:Y6 i j):IntMulOk i j:=by
 rcases h with ⟨h1,h2⟩|⟨h1,h2⟩
 ·exact .of_left (intBits_le_64 h1 h2)
 ·exact .of_right (intBits_le_64 h1 h2)
theorem aaC:qt X (binaryOp .Add) (Sw fun i j=>.int (i+j)):=ach fun _ _ _ _ _ _ _ q=>add_int q
theorem Uz:qt X (binaryOp .Sub) (Sw fun i j=>.int (i - j)):=ach fun _ _ _ _ _ _ _ q=>sub_int q
theorem kW:qt X (binaryOp .Mult) (rI Y6 fun i j=>.int (i * j)):=opI fun _ _ _ _ _ _ _ hc q=>mul_int q hc.ok
theorem ig:qt X (binaryOp .Mod) (rI (fun _ j=>0 < j) fun i j=>.int (i % j)):=opI fun i j _ _ _ _ _ hc q=>by
 have h1:(0:Int) < j:=hc
 exact mod_int' (by omega) (by rw[Int.fmod_eq_emod_of_nonneg i (by omega)];exact q)
end
section
variable{X:Cx}{a b c:Expr}{ta tb tc:TE}{pos:Pos}
theorem HX{pins:List (Addr×Obj)}{σ : St}{H:Hp}{s:Shared}{Q:VK}{k k':Bool}(I:Inv X pins σ H s)(q:Q (.bl k) H)(e:k=k'):EP X pins σ Q (.bool k') s:=by
 subst e
 exact⟨.bl k,H,I,rfl,q⟩
theorem acf:qt X (compareOp .Lt) (Sw fun i j=>.bl (decide (i < j))):=aaD fun _ _ _ _ _ _ _ q=>lt_int q
theorem Ph:qt X (compareOp .LtE) (Sw fun i j=>.bl (decide (i≤j))):=aaD fun _ _ _ _ _ _ _ q=>le_int q
theorem acg:qt X (compareOp .Gt) (Sw fun i j=>.bl (decide (j < i))):=aaD fun _ _ _ _ _ _ _ q=>gt_int q
theorem Q9:qt X (compareOp .Lt) (fun x y H Q=>∃ i j,x=.str i∧y=.str j∧Q (.bl (decide (i.cps.toList < j.cps.toList))) H):=by
 intro pins s σ H x y v u Q I rx ry h
 obtain⟨i,j,rfl,rfl,q⟩:=h
 obtain⟨t,rfl⟩:=rx
 obtain⟨t',rfl⟩:=ry
 exact lt_str (HX I q rfl)
theorem Ra:qt X (compareOp .In) (fun x y H Q=>∃ i j,x=.str i∧y=.str j∧Q (.bl (!(Builtin.Str.occurrences j i 0 j.length 1).isEmpty)) H):=by
 intro pins s σ H x y v u Q I rx ry h
 obtain⟨i,j,rfl,rfl,q⟩:=h
 obtain⟨t,rfl⟩:=rx
 obtain⟨t',rfl⟩:=ry
 exact in_str (HX I q rfl)
theorem Xu:qt X (compareOp .IsNot) (fun x y H Q=>y=.non∧Q (.bl (!decide (x=.non))) H):=by
 intro pins s σ H x y v u Q I rx ry h
 obtain⟨rfl,q⟩:=h
 cases ry
 refine isnot_none_gen (HX I q ?_)
 cases x<;>first
  | (cases rx;rfl)
  | (obtain⟨t,rfl⟩:=rx;rfl)
theorem qt.or{f:Value→Value→Sem Value}{r r':R2}(h:qt X f r)(h':qt X f r'):qt X f (fun x y H Q=>r x y H Q∨r' x y H Q):=by
 intro pins s σ H x y v u Q I rx ry q
 rcases q with q|q
 ·exact h pins s σ H x y v u Q I rx ry q
 ·exact h' pins s σ H x y v u Q I rx ry q
theorem fZ(b:Expr){op:CmpOp}(h:op≠.In:=by decide)(h2:op≠.NotIn:=by decide):behindInMarks op b=false:=by
 have e1:(op == CmpOp.In)=false:=by cases op<;>first|rfl|exact absurd rfl h
 have e2:(op == CmpOp.NotIn)=false:=by cases op<;>first|rfl|exact absurd rfl h2
 cases b<;>simp[behindInMarks,e1,e2]
theorem uf{op:CmpOp}{r:R2}(ho:qt X (compareOp op) r)(ha:PE X a ta)(hb:PE X b tb)(hm:behindInMarks op b=false):PE X (.Compare a [op] [b] pos) (tOp r ta tb):=by
 intro pins s σ H Q I h
 exact wpAny_Compare1 (aa9 ha hb I h fun v u s2 x y H2 I2 rx ry q=>ho pins s2 σ H2 x y v u Q I2 rx ry q) hm
def Ti(t:TE):TT:=fun σ H Q=>t σ H fun x H'=>∃ k,x=.bl k∧Q k H'
theorem cg{op:CmpOp}{r:R2}(ho:qt X (compareOp op) r)(ha:PE X a ta)(hb:PE X b tb)(hm:behindInMarks op b=false):PT X (.Compare a [op] [b] pos) (Ti (tOp r ta tb)):=by
 intro pins s σ H Q I h
 refine wpAny_isTrue_Compare1 (eU (ha pins s σ H _ I h) fun v s1 ⟨x,H1,I1,r1,q1⟩=>eU (hb pins s1 σ H1 _ I1 q1) fun u s2 ⟨y,H2,I2,r2,q2⟩ =>
  eU (ho pins s2 σ H2 x y v u _ I2 r1 r2 q2) fun c s3 ⟨z,H3,I3,r3,k,e,q3⟩=>?_) hm
 subst e
 cases r3
 exact wpAny_truthy_bool ⟨H3,I3,q3⟩
def Mf(r r':R2)(ta tb tc:TE):TE:=fun σ H Q=>ta σ H fun x H1=>tb σ H1 fun y H2=>r x y H2 fun z H3=>∃ k,z=.bl k ∧
 (if k=true then tc σ H3 fun w' H4=>r' y w' H4 Q else Q (.bl false) H3)
theorem Ut{op op':CmpOp}{r r':R2}(ho:qt X (compareOp op) r)(ho':qt X (compareOp op') r')(ha:PE X a ta)(hb:PE X b tb)(hc:PE X c tc)
 (hm:lastMarks [op,op'] [b,c]=false:=by with_unfolding_all rfl):PE X (.Compare a [op,op'] [b,c] pos) (Mf r r' ta tb tc):=by
 intro pins s σ H Q I h
 refine Compare_chain (eU (ha pins s σ H _ I h) fun v s1 ⟨x,H1,I1,r1,q1⟩=>chain_link (eU (hb pins s1 σ H1 _ I1 q1) fun u s2 ⟨y,H2,I2,r2,q2⟩ =>
  eU (ho pins s2 σ H2 x y v u _ I2 r1 r2 q2) fun d s3 ⟨z,H3,I3,r3,k,e,q3⟩=>?_)) hm
 subst e
 cases r3
 refine wpAny_truthy_bool ?_
 cases k with
 | false=>exact ite_ff ⟨.bl false,H3,I3,rfl,q3⟩
 | true=>exact ite_tt (chain_last (eU (hc pins s3 σ H3 _ I3 q3) fun w' s4 ⟨z',H4,I4,r4,q4⟩=>ho' pins s4 σ H4 y z' u w' Q I4 r2 r4 q4))
theorem Ui{op op':CmpOp}{r r':R2}(ho:qt X (compareOp op) r)(ho':qt X (compareOp op') r')(ha:PE X a ta)(hb:PE X b tb)(hc:PE X c tc)
 (hm:lastMarks [op,op'] [b,c]=false:=by with_unfolding_all rfl):PT X (.Compare a [op,op'] [b,c] pos) (Ti (Mf r r' ta tb tc)):=by
 intro pins s σ H Q I h
 refine isTrue_chain (eU (ha pins s σ H _ I h) fun v s1 ⟨x,H1,I1,r1,q1⟩=>test_link (eU (hb pins s1 σ H1 _ I1 q1) fun u s2 ⟨y,H2,I2,r2,q2⟩ =>
  eU (ho pins s2 σ H2 x y v u _ I2 r1 r2 q2) fun d s3 ⟨z,H3,I3,r3,k,e,q3⟩=>?_)) hm
 subst e
 cases r3
 refine wpAny_truthy_bool ?_
 cases k with
 | false =>
  obtain⟨k',e',q'⟩:=q3
  cases e'
  exact ite_ff ⟨H3,I3,q'⟩
 | true =>
  refine ite_tt (test_last (eU (hc pins s3 σ H3 _ I3 q3) fun w' s4 ⟨z',H4,I4,r4,q4⟩=>eU (ho' pins s4 σ H4 y z' u w' _ I4 r2 r4 q4) fun d' s5 ⟨z2,H5,I5,r5,k2,e2,q5⟩=>?_))
  subst e2
  cases r5
  exact wpAny_truthy_bool ⟨H5,I5,q5⟩
def abh(K:PySem.W.Frag)(x:V)(H:Hp)(k:Bool):Prop :=
 match x with
 | .non=>k=false
 | .bl b=>k=b
 | .int i=>k=(i != 0)
 | .str y=>y.length≤sizeLine∧k=((y.length:Int) != 0)
 | .byt y=>y.size≤sizeLine∧k=((y.size:Int) != 0)
 | .ref p=>(∃ xs,zH K H p xs∧k = !xs.isEmpty)∨(∃ xs,zG K H p xs∧k = !xs.isEmpty)∨∃ kvs,H p=some (.dK kvs)∧k = !kvs.isEmpty
 | _=>False
theorem Nf{κ : Type}{kvs:List (κ×V)}{vs:List (κ×Value)}(r:KV kvs vs):(!vs.isEmpty) = !kvs.isEmpty:=by
 cases r<;>rfl
theorem BW{xs:List V}{its:List Value}(r:Vals xs its):(!its.toArray.isEmpty) = !xs.isEmpty:=by
 cases r<;>simp
theorem BK:(sizeLine:Nat) < 2 ^ 63:=by rw[sizeLine_eq];decide
theorem Z6:aeb X (fun x H Q=>∃ k,abh X.K x H k∧Q k H):=by
 intro pins s σ H x v Q I rx h
 obtain⟨k,e,q⟩:=h
 have hl:=BK
 have hs:sizeLine=16777216:=sizeLine_eq
 cases x with
 | non =>
  cases rx
  have e':k=false:=e
  subst e'
  exact truthy_none ⟨H,I,q⟩
 | bl b =>
  cases rx
  have e':k=b:=e
  subst e'
  exact wpAny_truthy_bool ⟨H,I,q⟩
 | int i =>
  obtain⟨t,rfl⟩:=rx
  have e':k=(i != 0):=e
  subst e'
  exact PySem.P.truthy_int ⟨H,I,q⟩
 | str y =>
  obtain⟨t,rfl⟩:=rx
  obtain⟨hy,e'⟩ : y.length≤sizeLine∧k=((y.length:Int) != 0):=e
  subst e'
  exact PySem.P.truthy_str (by omega) ⟨H,I.tok _,q⟩
 | byt y =>
  obtain⟨t,rfl⟩:=rx
  obtain⟨hy,e'⟩ : y.size≤sizeLine∧k=((y.size:Int) != 0):=e
  subst e'
  exact PySem.W.truthy_bytes (by omega) ⟨H,I.tok _,q⟩
 | ref p =>
  cases rx
  have e':(∃ xs,zH X.K H p xs∧k = !xs.isEmpty)∨(∃ xs,zG X.K H p xs∧k = !xs.isEmpty)∨∃ kvs,H p=some (.dK kvs)∧k = !kvs.isEmpty:=e
  rcases e' with ⟨xs,hx,e'⟩|⟨xs,hx,e'⟩|⟨kvs,hx,e'⟩
  ·subst e'
   obtain⟨its,r,pl,hz⟩:=I.list hx
   have hlen:=r.length
   exact wpAny_truthy_list pl.isList (by simp only[List.size_toArray];omega) ⟨H,I.tok _,by rw[BW r];exact q⟩
  ·subst e'
   obtain⟨its,r,pl,hz⟩:=I.tuple hx
   have hlen:=r.length
   exact truthy_tuple pl (by simp only[List.size_toArray];omega) ⟨H,I.tok _,by rw[BW r];exact q⟩
  ·subst e'
   obtain⟨hz,hS,vs,r,m⟩ : kvs.length≤sizeLine∧(p == sysModules)=false∧∃ vs,KV kvs vs∧s.heap.DictOf (gO X.prog X.w) p vs:=I.hok p _ hx
   have hlen:kvs.length=vs.length:=Paired.length r
   exact wpAny_truthy_dict hS m (by omega) ⟨H,I.tok _,by rw[Nf r];exact q⟩
 | _=>exact(show False from e).elim
theorem Bg(ha:PE X a ta)(he:∀ whole,isTrue a X.env whole=(do let v ← whole;standAt a.pos;holding [v] (truthy v))) :
 PT X a (fun σ H Q=>ta σ H fun x H'=>∃ k,abh X.K x H' k∧Q k H'):=by
 intro pins s σ H Q I h
 exact isTrue_plain (eU (ha pins s σ H _ I h) fun v s1 ⟨x,H1,I1,r1,q1⟩=>Z6 pins s1 σ H1 x v Q I1 r1 q1) (he _)
theorem Mz:qt X (binaryOp .Add) (fun x y H Q=>∃ i j,x=.str i∧y=.str j∧i.length+j.length≤sizeLine∧Q (.str (i++j)) H):=by
 intro pins s σ H x y v u Q I rx ry h
 obtain⟨i,j,rfl,rfl,hz,q⟩:=h
 obtain⟨t,rfl⟩:=rx
 obtain⟨t',rfl⟩:=ry
 exact add_str (fun t' tk=>⟨.str (i++j),H,I.tok _,⟨_,rfl⟩,q⟩) hz
theorem vals1{x:V}{us:List Value}(r:Vals [x] us):∃ u,us=[u]∧RelV x u:=by
 cases r with
 | cons r1 r2=>cases r2;exact⟨_,rfl,r1⟩
theorem vals2{x y:V}{us:List Value}(r:Vals [x,y] us):∃ u w',us=[u,w']∧RelV x u∧RelV y w':=by
 cases r with
 | cons r1 r2 =>
  cases r2 with
  | cons r3 r4=>cases r4;exact⟨_,_,rfl,r1,r3⟩
theorem R5(hc:X.calm=true):jo X (.builtin "max") (fun xs H Q=>∃ i j,xs=[.int i,.int j]∧Q (.int (if j > i then j else i)) H):=by
 intro pins s σ H xs us Q I r h
 obtain⟨i,j,rfl,q⟩:=h
 obtain⟨u,w',rfl,⟨t,rfl⟩,⟨t',rfl⟩⟩:=vals2 r
 refine max_two_ints (I.ok.hd hc) fun h' tk k=>⟨_,H,I.kept k,?_,q⟩
 by_cases hj:j > i
 ·rw[if_pos hj,if_pos hj];exact⟨_,rfl⟩
 ·rw[if_neg hj,if_neg hj];exact⟨_,rfl⟩
theorem R4(hc:X.calm=true):jo X (.builtin "min") (fun xs H Q=>∃ i j,xs=[.int i,.int j]∧Q (.int (if j < i then j else i)) H):=by
 intro pins s σ H xs us Q I r h
 obtain⟨i,j,rfl,q⟩:=h
 obtain⟨u,w',rfl,⟨t,rfl⟩,⟨t',rfl⟩⟩:=vals2 r
 refine min_two_ints (I.ok.hd hc) fun h' tk k=>⟨_,H,I.kept k,?_,q⟩
 by_cases hj:j < i
 ·rw[if_pos hj,if_pos hj];exact⟨_,rfl⟩
 ·rw[if_neg hj,if_neg hj];exact⟨_,rfl⟩
def ac3(K:PySem.W.Frag)(x:V)(H:Hp)(n:Nat):Prop :=
 match x with
 | .str y=>y.length≤sizeLine∧n=y.length
 | .byt y=>y.size≤sizeLine∧n=y.size
 | .ref p=>(∃ xs,zH K H p xs∧n=xs.length)∨∃ xs,zG K H p xs∧n=xs.length
 | _=>False
theorem Wb:jo X (.builtin "len") (fun xs H Q=>∃ x n,xs=[x]∧ac3 X.K x H n∧Q (.int n) H):=by
 intro pins s σ H xs us Q I r h
 obtain⟨x,n,rfl,e,q⟩:=h
 obtain⟨u,rfl,rx⟩:=vals1 r
 have hl:=BK
 have hs:sizeLine=16777216:=sizeLine_eq
 cases x with
 | str y =>
  obtain⟨t,rfl⟩:=rx
  obtain⟨hy,e'⟩ : y.length≤sizeLine∧n=y.length:=e
  subst e'
  exact len_str (by omega) ⟨.int _,H,I.tok _,⟨_,rfl⟩,q⟩
 | byt y =>
  obtain⟨t,rfl⟩:=rx
  obtain⟨hy,e'⟩ : y.size≤sizeLine∧n=y.size:=e
  subst e'
  exact PySem.W.len_bytes (by omega) ⟨.int _,H,I.tok _,⟨_,rfl⟩,q⟩
 | ref p =>
  cases rx
  have e':(∃ xs,zH X.K H p xs∧n=xs.length)∨∃ xs,zG X.K H p xs∧n=xs.length:=e
  rcases e' with ⟨xs,hx,e'⟩|⟨xs,hx,e'⟩
  ·subst e'
   obtain⟨its,r',pl,hz⟩:=I.list hx
   have hlen:=r'.length
   exact Calls.call_len_list pl.isList (by simp only[List.size_toArray];omega) ⟨.int xs.length,H,I.tok _,⟨_,by simp only[List.size_toArray];rw[hlen]⟩,q⟩
  ·subst e'
   obtain⟨its,r',pl,hz⟩:=I.tuple hx
   have hlen:=r'.length
   exact len_tuple pl (by simp only[List.size_toArray];omega) ⟨.int xs.length,H,I.tok _,⟨_,by simp only[List.size_toArray];rw[hlen]⟩,q⟩
 | _=>exact(show False from e).elim
end
end L2
namespace L2
open PySem PySem.Spec PyProof.Rows
structure abk(h:Heap)(x dx C:Addr)(mA:Str→Option Value):Prop where
 obj:h.get? x=some (PySem.W.instObj C dx)
 ns:h.Ns1 dx mA
 ne:dx≠x
theorem Rn{h:Heap}{dx:Addr}{mA:Str→Option Value}(n:h.Ns1 dx mA):∃ od,h.get? dx=some od∧∀ name,PySem.W.lookIn name od=some (mA name):=by
 obtain⟨o,es,ep,ho,hd,hk,_,hm⟩:=n
 refine⟨o,ho,fun name=>?_⟩
 have e:=hm name
 unfold nsFind findBy at e
 rw[← Array.find?_toList] at e
 unfold PySem.W.lookIn
 rw[hd]
 dsimp only
 split
 ·rename_i y q
  rw[q] at e
  exact congrArg some e
 ·rename_i q
  rw[q] at e
  have a:es.toList.any (·.refKey)=false:=by
   rw[List.any_eq_false]
   intro y hy
   obtain⟨z,t,hkey⟩:=hk y (Array.mem_toList_iff.mp hy)
   simp[DictEntry.refKey,hkey]
  have a':¬ es.toList.any (·.refKey)=true:=by rw[a];exact Bool.false_ne_true
  rw[if_neg a']
  exact congrArg some e
theorem abk.look{h:Heap}{x dx C:Addr}{mA:Str→Option Value}(I:abk h x dx C mA):∃ od,PySem.W.InstAt h x (PySem.W.instObj C dx) C (some od)∧∀ name,PySem.W.lookIn name od=some (mA name) :=
 let ⟨od,ho,hl⟩:=Rn I.ns
 ⟨od,⟨I.obj,rfl,rfl,ho⟩,hl⟩
section
variable{P:Program}{w:World}{H H':Hp}{h h':Heap}{a C dx:Addr}{fs fs':List (Str×V)}
theorem Qc(hok:uy P w H h)(e:H a=some (.ins C dx fs)):∃ mA,abk h a dx C mA∧(∀ f,Oq (fs.lookup f) (mA f))∧PySem.Within mA (fs.map (·.1))∧fs.length≤1000∧H dx=some (.own a):=by
 obtain⟨d,z,ne,ob,mA,n,r,q⟩:=(show bW P w H h a (.ins C dx fs) from hok a _ e)
 exact⟨mA,⟨ob,n,ne⟩,r,q,z,d⟩
end
structure Cls(K:PySem.W.Frag)(C:Addr):Prop where
 pg:PySem.W.plainGet K C Str.empty=true
 hd:PySem.W.hasDictIn K C=true
 po:PySem.W.plainOver K C=true
 sa:PySem.W.findIn K (.ref C) "__setattr__" = some (some (.builtin "object.__setattr__"))
theorem Cls.get{K:PySem.W.Frag}{C:Addr}(c:Cls K C)(f:Str):PySem.W.plainGet K C f=true:=c.pg
section
variable{X:Cx}{pins:List (Addr×Obj)}{σ : St}{H:Hp}{s:Shared}{A:Around}{E:Value→Shared→Prop}{Q:Value→Shared→Prop}{c:Value}{b:Bool}
inductive uD(K:PySem.W.Frag)(H:Hp):V→Value→Prop where
 | non:uD K H .non (.type "NoneType")
 | bl (x:Bool):uD K H (.bl x) (.type "bool")
 | int (i:Int):uD K H (.int i) (.type "int")
 | str (x:Str):uD K H (.str x) (.type "str")
 | flt (x:UInt64):uD K H (.flt x) (.type "float")
 | lst {a:Addr} {xs:List V} (e:H a=some (.lst xs)):uD K H (.ref a) (.type "list")
 | frz {a:Addr} {o:Obj} {xs:List V} (e:H a=some (.frz o (.lst xs))):uD K H (.ref a) (.type "list")
 | tup {a:Addr} {xs:List V} (e:H a=some (.tup xs)):uD K H (.ref a) (.type "tuple")
 | dK {a:Addr} {kvs:List (Key×V)} (e:H a=some (.dK kvs)):uD K H (.ref a) (.type "dict")
 | dT {a:Addr} {kvs:List (List Key×V)} (e:H a=some (.dT kvs)):uD K H (.ref a) (.type "dict")
 | ins {a C dx:Addr} {fs:List (Str×V)} (e:H a=some (.ins C dx fs)) (cl:Cls K C) (ha:PySem.W.findIn K (.ref C) "__class__" = some (some (.builtin "object.__class__")))
  (hn:PySem.W.specialIn K (.builtin "object.__class__") "__get__" = some (some (.builtin "getset_descriptor.__get__"))) (htk:PySem.W.takesIn K (.builtin "object.__class__")=some true)
  (hm:PySem.W.mroIn K C (.type "object")=some true):uD K H (.ref a) (.ref C)
theorem Rx{x:V}{u t:Value}(I:Inv X pins σ H s)(rx:RelV x u)(ty:uD X.K H x t)(e:PySem.W.kitOne X.K t c=some b)(h:∀ tk,Q (.bool b) { s with toks:=tk }) :
 wpAny (model X.prog X.w) A (call (.builtin "isinstance") [u,c]) Q E s:=by
 cases ty with
 | non=>cases (show u=Value.none from rx);exact PySem.W.kia_one PySem.W.kitx_none I.Jc True.intro e (fun z=>nomatch z) h
 | bl y=>cases (show u=Value.bool y from rx);exact PySem.W.kia_one PySem.W.kitx_bool I.Jc True.intro e (fun z=>nomatch z) h
 | int i=>obtain⟨t,q⟩:=(show ∃ t,u=Value.int i t from rx);cases q;exact PySem.W.kia_one PySem.W.kitx_int I.Jc True.intro e (fun z=>nomatch z) h
 | str y=>obtain⟨t,q⟩:=(show ∃ t,u=Value.str y t from rx);cases q;exact PySem.W.kia_one PySem.W.kitx_str I.Jc True.intro e (fun z=>nomatch z) h
 | flt y=>obtain⟨t,q⟩:=(show ∃ t,u=Value.float y t from rx);cases q;exact PySem.W.kia_one PySem.W.kitx_float I.Jc True.intro e (fun z=>nomatch z) h
 | @lst a xs ea =>
  cases (show u=Value.ref a from rx)
  obtain⟨_,_,n,_,h1⟩:=(show bW X.prog X.w H s.heap a (.lst xs) from I.hok a _ ea)
  exact PySem.W.kia_one PySem.W.kitx_list I.Jc ⟨_,h1,rfl⟩ e (fun z=>nomatch z) h
 | @frz a ob xs ea =>
  cases (show u=Value.ref a from rx)
  obtain⟨_,_,_,n,_,h1⟩:=(show bW X.prog X.w H s.heap a (.frz ob (.lst xs)) from I.hok a _ ea)
  exact PySem.W.kia_one PySem.W.kitx_list I.Jc ⟨_,h1,rfl⟩ e (fun z=>nomatch z) h
 | @tup a xs ea =>
  cases (show u=Value.ref a from rx)
  obtain⟨_,_,_,p⟩:=(show bW X.prog X.w H s.heap a (.tup xs) from I.hok a _ ea)
  obtain⟨o,h1,h2,_⟩:=p
  exact PySem.W.kia_one PySem.W.kitx_tuple I.Jc ⟨o,h1,h2⟩ e (fun z=>nomatch z) h
 | @dK a kvs ea =>
  cases (show u=Value.ref a from rx)
  obtain⟨_,_,vs,_,p⟩:=(show bW X.prog X.w H s.heap a (.dK kvs) from I.hok a _ ea)
  obtain⟨o,es,ep,h1,h2,_⟩:=p
  exact PySem.W.kia_one PySem.W.kitx_dict I.Jc ⟨o,h1,h2.1⟩ e (fun z=>nomatch z) h
 | @dT a kvs ea =>
  cases (show u=Value.ref a from rx)
  obtain⟨_,_,xs,_,o,es,ep,h1,h2,_⟩:=(show bW X.prog X.w H s.heap a (.dT kvs) from I.hok a _ ea)
  exact PySem.W.kia_one PySem.W.kitx_dict I.Jc ⟨o,h1,h2.1⟩ e (fun z=>nomatch z) h
 | @ins a C dx fs ea cl ha hn htk hm =>
  cases (show u=Value.ref a from rx)
  obtain⟨mA,O,_⟩:=Qc I.hok ea
  obtain⟨od,J,_⟩:=O.look
  exact PySem.W.kia_one (PySem.W.kitx_own (cl.get _) cl.hd ha hn htk hm) I.Jc J e (fun z=>nomatch z) h
end
end L2
namespace L2
open PySem PySem.Spec PyProof.Rows
structure lC(k:Nat)(A:Around):Prop where
 hd:A.handled=none
 dp:A.depth+3 * k+5 < recursionLimit
 un:A.units+16 * k+200 < cLine
theorem lC.mono{j k:Nat}{A:Around}(r:lC k A)(h:j≤k):lC j A:=⟨r.hd,by have:=r.dp;omega,by have:=r.un;omega⟩
theorem lC.deeper{k:Nat}{A:Around}(r:lC (k+1) A)(env:Env):lC k (A.deeper env) :=
 ⟨r.hd,by have:=r.dp;show A.depth+1+3 * k+5 < _;omega,by have:=r.un;show A.units+3+16 * k+200 < _;omega⟩
theorem lC.in1{k:Nat}{A:Around}(r:lC (k+1) A):lC k A.in1 :=
 ⟨r.hd,by have:=r.dp;show A.depth+3 * k+5 < _;omega,by have:=r.un;show A.units+1+16 * k+200 < _;omega⟩
theorem lC.depth{k:Nat}{A:Around}(r:lC k A):A.depth < recursionLimit:=by have:=r.dp;omega
theorem lC.units{k:Nat}{A:Around}(r:lC k A):A.units+64 < cLine:=by have:=r.un;omega
def pB:TA:=fun _ H Q=>Q [] H
def iW(ta:TE)(tr:TA):TA:=fun σ H Q=>ta σ H fun x H1=>tr σ H1 fun xs H2=>Q (x::xs) H2
section
variable{X:Cx}{e:Expr}{es:List Expr}{te:TE}{t:TA}{pos:Pos}
theorem az:PA X [] pB:=fun _ _ _ _ H Q I h=>Calls.spliced_nil ⟨[],H,I,.nil,h⟩
theorem aj(ha:PE X e te)(hr:PA X es t)(hs:starEach (e::es) X.env=(false,eval e X.env)::starEach es X.env:=by rfl):PA X (e::es) (iW te t):=by
 intro pos pins s σ H Q I h
 rw[hs]
 show wpAny _ _ (spliced ((false,eval e X.env)::backTo pos (starEach es X.env))) _ _ s
 refine Calls.spliced_cons (eU (ha pins s σ H _ I h) fun u s1 ⟨x,H1,I1,r1,q1⟩=>?_)
 exact eU (hr pos pins s1 σ H1 _ I1 q1) fun us s2 ⟨xs,H2,I2,r2,q2⟩=>⟨x::xs,H2,I2,.cons r1 r2,q2⟩
def Z9(t:TA):TE:=fun σ H Q=>t σ H fun xs H1=>xs.length≤sizeLine∧∀ p,H1 p=none→Q (.ref p) (upd H1 p (.tup xs))
def abE(t:TA):TE:=fun σ H Q=>t σ H fun xs H1=>xs.length≤sizeLine∧∀ p,H1 p=none→Q (.ref p) (upd H1 p (.lst xs))
theorem bJ{x1}(h:PA X es t):PE X (.Tuple es x1 pos) (Z9 t):=by
 intro pins s σ H Q I hq
 refine wpAny_Tuple_spliced (eU (h pos pins s σ H _ I hq) fun us s1 ⟨xs,H1,I1,r,z,q⟩=>⟨by rw[← r.length];exact z,?_⟩)
 have hf:H1 s1.heap.objs.size=none:=I1.hok.fresh (Nat.le_refl _)
 refine⟨.ref s1.heap.objs.size,upd H1 s1.heap.objs.size (.tup xs),I1.laid (t':=s1.toks) (fun b u e=>Heap.get?_push_of_some _ e) (Nat.le_refl _) ?_,rfl,q _ hf⟩
 exact⟨z,us,r,⟨_,Heap.get?_push_size _ rfl,rfl,rfl,_,rfl⟩⟩
theorem mq(h:PA X es t):PE X (.List es pos) (abE t):=by
 intro pins s σ H Q I hq
 refine wpAny_List_spliced (eU (h pos pins s σ H _ I hq) fun us s1 ⟨xs,H1,I1,r,z,q⟩=>⟨by rw[← r.length];exact z,?_⟩)
 have hf:H1 s1.heap.objs.size=none:=I1.hok.fresh (Nat.le_refl _)
 refine⟨.ref s1.heap.objs.size,upd H1 s1.heap.objs.size (.lst xs),I1.laid (t':=s1.toks) (fun b u e=>Heap.get?_push_of_some _ e) (Nat.le_refl _) ?_,rfl,q _ hf⟩
 exact⟨z,us,0,r,Heap.get?_push_size _ rfl⟩
end
abbrev Sp:=List V→Hp→VK→XK→Prop
abbrev Lr:=List Env→Hp→Shared→XK→Value→Shared→Prop
structure Y5(P:Program)(w:World)(K:PySem.W.Frag)(mg:Str→Option Value)(base:Heap)(A:Around)(outer:List Env)(s:Shared)(H:Hp):Prop where
 frames:A.frames=some outer
 mod:Mod K mg base
 bs:∀ b o,base.get? b=some o→s.heap.get? b=some o∧H b=none
 bsz:base.objs.size≤s.heap.objs.size
 Ci:s.heap.FunFrames base outer
 frf:∀ b∈frs outer,H b=none
 hok:uy P w H s.heap
 bare:AllBare s.gens
def CE(outer:List Env)(P:Program)(w:World)(H:Hp)(s:Shared)(Q:VK)(u:Value)(s':Shared):Prop :=
 ∃ v H',s'.os=s.os∧AllBare s'.gens∧Un (frs outer) [] H H' s.heap s'.heap∧uy P w H' s'.heap∧RelV v u∧Q v H'
def CR(CX:Lr)(outer:List Env)(P:Program)(w:World)(H:Hp)(s:Shared)(Q:VK)(E:XK)(r:Result)(s':Shared):Prop :=
 match r with
 | .ok (.ret u)=>CE outer P w H s Q u s'
 | .ok _=>False
 | .error e=>CX outer H s E e s'
structure cW(P:Program)(w:World)(K:PySem.W.Frag)(mg:Str→Option Value)(base:Heap)(CX:Lr)(k:Nat)(f:Addr)(fd:FuncData)(ps:List Str)(sp:Sp):Prop where
 len:∀ vs H Q E,sp vs H Q E→vs.length=ps.length
 run:∀ (A:Around) (outer:List Env) (s:Shared) (H:Hp) (args:Args) (us:List Value) (vs:List V) (Q:VK) (E:XK),lC k A→Y5 P w K mg base A outer s H→BindsTo s fd args (ps.zip us)→Vals vs us→sp vs H Q E →
  codeAny (model P w) A (.call (.ref f) args) (CR CX outer P w H s Q E) s
theorem cW.imp{P:Program}{w:World}{K:PySem.W.Frag}{mg:Str→Option Value}{base:Heap}{CX:Lr}{k:Nat}{f:Addr}{fd:FuncData}{ps:List Str}{sp sp':Sp}(F:cW P w K mg base CX k f fd ps sp)
 (h:∀ vs H Q E,sp' vs H Q E→sp vs H Q E):cW P w K mg base CX k f fd ps sp' :=
 ⟨fun vs H Q E q=>F.len vs H Q E (h _ _ _ _ q),fun A outer s H args us vs Q E hr he hb hv hs=>F.run A outer s H args us vs Q E hr he hb hv (h _ _ _ _ hs)⟩
section
variable{X:Cx}{pins:List (Addr×Obj)}{σ : St}{H:Hp}{s s':Shared}
theorem Inv.env0(I:Inv X pins σ H s):Y5 X.prog X.w X.K X.mg X.base X.A X.stack s H :=
 ⟨I.ok.frames,I.ok.mod,I.bs,Nat.le_trans I.ok.bsz I.sz,I.stack,I.GP,I.hok,I.bare⟩
theorem Inv.after{Q:VK}{u:Value}(I:Inv X pins σ H s)(h:CE X.stack X.prog X.w H s Q u s'):EP X pins σ Q u s':=by
 obtain⟨v,H',os,bare,un,hok,r,q⟩:=h
 obtain⟨hh,g,d,t,os'⟩:=s'
 obtain rfl:os'=s.os:=os
 exact⟨v,H',I.call (h':=hh) (g':=g) (d':=d) (t':=t) (ch:=[]) un hok bare (fun b z=>absurd z (by simp)),r,q⟩
end
def yx(sp:Sp)(dvs:List V)(E:XK)(t:TA):TE:=fun σ H Q=>t σ H fun vs H1=>sp (vs++dvs) H1 Q E
def Binds(K:PySem.W.Frag)(fd:FuncData)(ps:List Str)(ds:List Value):Prop :=
 ∀ (s:Shared) (us:List Value),K.In s.heap→(us++ds).length=ps.length→BindsTo s fd ⟨us,[]⟩ (ps.zip (us++ds))
theorem Binds.all{K:PySem.W.Frag}{fd:FuncData}{ps:List Str}(h:∀ us:List Value,us.length=ps.length→bindArgs fd ⟨us,[]⟩=pure (ps.zip us)):Binds K fd ps []:=fun s us _ hl=>by
 rw[List.append_nil] at hl ⊢
 exact .of_eq (h us hl)
def IV(CX:Lr)(X:Cx)(E:XK):Prop:=∀ (pins:List (Addr×Obj)) (σ : St) (H:Hp) (s:Shared) (e:Value) (s':Shared),Inv X pins σ H s→CX X.stack H s E e s'→X.xe e s'
section
variable{X:Cx}{CX:Lr}{k:Nat}{f C:Addr}{fd:FuncData}{ps:List Str}{sp:Sp}{dvs:List V}{ds:List Value}{E:XK}{x m:Str}{p pos apos:Pos}{e o:Expr}{es:List Expr}{ta:TE}{t:TA}
theorem aak{pins:List (Addr×Obj)}{σ : St}{H:Hp}{s:Shared}{Q:VK}{us:List Value}{vs:List V}(F:cW X.prog X.w X.K X.mg X.base CX k f fd ps sp)(hr:lC k X.A)(hb:Binds X.K fd ps ds)(hd:Vals dvs ds)(hx:IV CX X E)
 (I:Inv X pins σ H s) (r:Vals vs us) (h:sp (vs++dvs) H Q E):wpAny (model X.prog X.w) X.A (call (.ref f) us) (EP X pins σ Q) X.xe s:=by
 have r2:Vals (vs++dvs) (us++ds):=r.append hd
 have hl:(us++ds).length=ps.length:=by rw[← r2.length];exact F.len _ _ _ _ h
 refine wpAny_call (codeAny_mono (F.run X.A X.stack s H ⟨us,[]⟩ (us++ds) (vs++dvs) Q E hr I.env0 (hb s us I.Jc hl) r2 h) fun r s' hq=>?_)
 cases r with
 | error e=>exact hx pins σ H s e s' I hq
 | ok fl =>
  cases fl with
  | ret u=>exact I.after hq
  | next=>exact False.elim hq
  | brk=>exact False.elim hq
  | cont=>exact False.elim hq
theorem Xm(F:cW X.prog X.w X.K X.mg X.base CX k f fd ps sp)(hr:lC k X.A)(hg:Gl X x)(hm:X.mg x=some (.ref f))(hk:PySem.W.keepIn X.K (.ref f)=true)(hb:Binds X.K fd ps ds)(hd:Vals dvs ds)(hx:IV CX X E)
 (ha:PA X (e::es) t) (hdb:(x == ("__debug__" : Str))=false:=by decide) (he:starEach (e::es) X.env=(false,eval e X.env)::starEach es X.env:=by rfl) (hpl:(backTo pos (starEach es X.env)).any (·.1)=false:=by rfl) :
 PE X (.Call (.Name x p) (e::es) [] pos) (yx sp dvs E t):=by
 intro pins s σ H Q I h
 refine wpAny_Call_Name_kw (PB I hg hm ?_ hdb)
 refine PySem.W.callWith_K (h₀:=X.base) I.ok.mod.kin hk (eU (ha pos pins s σ H _ I h) fun us s1 ⟨vs,H1,I1,r,q⟩=>⟨I1.Jc,?_⟩) he hpl
 exact aak F hr hb hd hx I1 r q
end
structure bB(N P:List Str)(sc:Scope):Prop where
 kind:sc.kind=.function
 co:sc.isCoroutine=false
 gen:sc.isGenerator=false
 nd:N.Nodup
 pre:N.take P.length=P
 par:∀ x∈P,sc.names.lookup x=some .local∨sc.names.lookup x=some .cell
 aaG:∀ y∈sc.names,y.2≠.free
theorem Fq{kindOf:Str→Option NameKind}{x:Str}:∀ {binds:List (Str×Value)} {m:Str→Option Value},(∀ v,(x,v)∉binds)→bindL kindOf binds m x=m x
 | [],_,_=>rfl
 | (n,v)::r,m,h=>by
  unfold bindL
  rw[Fq fun w hw=>h w (List.mem_cons_of_mem _ hw)]
  split
  ·have:x≠n:=by rintro rfl;exact h v List.mem_cons_self
   simp[this]
  ·rfl
theorem Fv{kindOf:Str→Option NameKind}{x:Str}:∀ {binds:List (Str×Value)} {m:Str→Option Value},(∀ v,(x,v)∉binds)→bindC kindOf binds m x=m x
 | [],_,_=>rfl
 | (n,v)::r,m,h=>by
  unfold bindC
  rw[Fv fun w hw=>h w (List.mem_cons_of_mem _ hw)]
  split
  ·rfl
  ·have:x≠n:=by rintro rfl;exact h v List.mem_cons_self
   simp[this]
theorem Ft{kindOf:Str→Option NameKind}{x:Str}{v:Value}:∀ {P:List Str} {vs:List Value} {i:Nat} {m:Str→Option Value},P.Nodup→P[i]? = some x→vs[i]? = some v→kindOf x=some .local →
 bindL kindOf (P.zip vs) m x=some v
 | [],_,_,_,_,h,_,_=>by simp at h
 | _::_,[],_,_,_,_,h,_=>by simp at h
 | p::P,w::vs,0,m,nd,h1,h2,hk=>by
  simp at h1 h2;subst h1;subst h2
  show bindL kindOf ((p,w)::P.zip vs) m p=_
  unfold bindL
  rw[Fq fun v hv=>(List.nodup_cons.mp nd).1 (List.of_mem_zip hv).1,if_pos hk]
  simp
 | p::P,w::vs,i+1,m,nd,h1,h2,hk=>by
  show bindL kindOf ((p,w)::P.zip vs) m x=_
  unfold bindL
  exact Ft (i:=i) (List.nodup_cons.mp nd).2 (by simpa using h1) (by simpa using h2) hk
theorem Fw{kindOf:Str→Option NameKind}{x:Str}{v:Value}:∀ {P:List Str} {vs:List Value} {i:Nat} {m:Str→Option Value},P.Nodup→P[i]? = some x→vs[i]? = some v→kindOf x≠some .local →
 bindC kindOf (P.zip vs) m x=some v
 | [],_,_,_,_,h,_,_=>by simp at h
 | _::_,[],_,_,_,_,h,_=>by simp at h
 | p::P,w::vs,0,m,nd,h1,h2,hk=>by
  simp at h1 h2;subst h1;subst h2
  show bindC kindOf ((p,w)::P.zip vs) m p=_
  unfold bindC
  rw[Fv fun v hv=>(List.nodup_cons.mp nd).1 (List.of_mem_zip hv).1,if_neg hk]
  simp
 | p::P,w::vs,i+1,m,nd,h1,h2,hk=>by
  show bindC kindOf ((p,w)::P.zip vs) m x=_
  unfold bindC
  exact Fw (i:=i) (List.nodup_cons.mp nd).2 (by simpa using h1) (by simpa using h2) hk
def start(N:List Str)(vs:List V):St:=vs.map some++List.replicate (N.length - vs.length) none
def NK(CX:Lr)(P:Program)(w:World)(K:PySem.W.Frag)(mg:Str→Option Value)(base:Heap)(N:List Str)(qual:Str)(scope:Scope)(f:Addr)(cd:Value)(A:Around)(outer:List Env)(s:Shared)(H:Hp)(E:XK):Cx where
 prog:=P
 w:=w
 K:=K
 mg:=mg
 base:=base
 A:=A.deeper (envOfC qual scope s.heap.objs.size f cd)
 N:=N
 s₀:=s
 H₀:=H
 env:=envOfC qual scope s.heap.objs.size f cd
 outer:=outer
 stack:=envOfC qual scope s.heap.objs.size f cd::outer
 ex:=[]
 calm:=true
 fn:=fun _=>true
 pn:=[]
 xe:=fun e s'=>wpAny (model P w) (A.deeper (envOfC qual scope s.heap.objs.size f cd)) (leaving (envOfC qual scope s.heap.objs.size f cd) e) (fun _ s''=>CX outer H s E e s'') (fun e' s''=>CX outer H s E e' s'') s'
theorem K3{sc:Scope}{n:Nat}{x:Str}(h:sc.names.lookup x=some .cell):∃ c,(cellsFrom n sc.names []).lookup x=some c:=by
 have q:=PySem.W.cellsFrom_some sc.names n [] (.inl h)
 exact Option.isSome_iff_exists.mp q
theorem Rz{CX:Lr}{P:Program}{w:World}{K:PySem.W.Frag}{mg:Str→Option Value}{base:Heap}{N ps:List Str}{qual:Str}{scope:Scope}{f:Addr}{cd:Value}{A:Around}{outer:List Env}{s s1:Shared}{H:Hp}{E:XK}{us:List Value}{vs:List V}
 (S:bB N ps scope) (hd:A.handled=none) (e0:Y5 P w K mg base A outer s H) (hl:vs.length=ps.length) (r:Vals vs us)
 (x:InCallC s s.heap.objs.size (bindL (envOfC qual scope s.heap.objs.size f cd).kindOf (ps.zip us) fun _=>none) (cellsFrom (s.heap.objs.size+1) scope.names []) (bindC (envOfC qual scope s.heap.objs.size f cd).kindOf (ps.zip us) fun _=>none) s1) :
 Inv (NK CX P w K mg base N qual scope f cd A outer s H E) [] (start N vs) H s1:=by
 have hpl:ps.length≤N.length:=by have:=congrArg List.length S.pre;rw[List.length_take] at this;omega
 obtain⟨h1,tk,rfl,hk⟩:=x.done
 have noA:∀ b:Addr,b∉(NK CX P w K mg base N qual scope f cd A outer s H E).ex:=fun b z=>absurd (show b∈([]:List Addr) from z) (by simp)
 refine⟨⟨e0.mod,S.kind,rfl,rfl,Nat.le_refl _,fun y z c h1 h2=>?_,fun y hy=>?_,fun y c _ h=>?_,fun _=>hd,Around.frames_deeper e0.frames,.inr ⟨rfl,rfl⟩,fun b z=>absurd z (noA b),e0.bs,e0.bsz,fun b _ _=>noA b,fun b z=>absurd z (noA b),e0.Ci,e0.frf⟩,
  rfl,e0.bare,Un.kept hk,⟨_,x.toInCall.ns,fun i y v h1 h2 h3=>?_⟩,fun y c h=>⟨_,x.cell y c h⟩,e0.hok.fresh (Nat.le_refl _),fun y c h=>?_,fun p hp=>absurd (show p∈([]:List (Addr×Obj)) from hp) (by simp),e0.hok.kept hk,?_⟩
 ·exact name_of_addr x.apart (PySem.mem_of_lookup h1) (PySem.mem_of_lookup h2)
 ·have hy:scope.names.lookup y=some .cell∨scope.names.lookup y=some .free:=hy
  rcases hy with hy|hy
  ·exact K3 hy
  ·exact absurd rfl (S.aaG _ (PySem.mem_of_lookup hy))
 ·exact Nat.le_of_lt (x.above y c (PySem.mem_of_lookup h))
 ·have hi:i < vs.length:=by
   unfold start at h2
   by_cases hi:i < vs.length
   ·exact hi
   ·rw[List.getElem?_append_right (by simpa using hi)] at h2
    rw[List.getElem?_replicate] at h2
    split at h2<;>cases h2
  have ha:vs[i]? = some v:=by
   unfold start at h2
   rw[List.getElem?_append_left (by simpa using hi),List.getElem?_map] at h2
   cases e:vs[i]? with
   | none=>rw[e] at h2;cases h2
   | some a=>rw[e] at h2;cases h2;rfl
  obtain⟨u,hu,rv⟩:=r.get ha
  have hp:ps[i]? = some y:=by
   rw[← S.pre,List.getElem?_take_of_lt (by omega)];exact h1
  have ndP:ps.Nodup:=by rw[← S.pre];exact S.nd.sublist (List.take_sublist _ _)
  refine⟨u,rv,?_⟩
  rcases S.par y (List.mem_of_getElem? hp) with k|k
  ·exact .inl ⟨k,Ft ndP hp hu k⟩
  ·obtain⟨c,e⟩:=K3 (n:=s.heap.objs.size+1) k
   refine .inr ⟨.inl k,c,e,?_⟩
   have q:=x.cell y c e
   rw[Fw ndP hp hu (by show scope.names.lookup y≠_;rw[k];decide)] at q
   exact q
 ·exact e0.hok.fresh (Nat.le_of_lt (x.above y c (PySem.mem_of_lookup h)))
 ·unfold start
  show _=N.length
  rw[List.length_append,List.length_map,List.length_replicate]
  omega
theorem ZK{CX:Lr}{P:Program}{w:World}{K:PySem.W.Frag}{mg:Str→Option Value}{base:Heap}{k:Nat}{f:Addr}{name qual:Str}{params:Arguments}{body:List Stmt}{scope:Scope}{dV kV doc pm cdv ct oc:Value}{an od:Option Addr}
 {osl:Array (Option Value)} {N ps:List Str} {sp:Sp} (lk:K.lookup f=some ⟨oc,od,.func (PySem.W.fnOf name qual params body scope dV kV doc pm an cdv ct),osl⟩) (hcd:PySem.W.codeIn K cdv qual=true) (S:bB N ps scope)
 (len:∀ vs H Q E,sp vs H Q E→vs.length=ps.length)
 (hbody:∀ (A:Around) (outer:List Env) (s:Shared) (H:Hp) (vs:List V) (Q:VK) (E:XK),lC k (A.deeper (envOfC qual scope s.heap.objs.size f cdv))→sp vs H Q E →
  ∃ t,QJ (NK CX P w K mg base N qual scope f cdv A outer s H E) body t∧t { nx:=fun _ H'=>Q .non H',rt:=Q } (start N vs) H) :
 cW P w K mg base CX (k+1) f (PySem.W.fnOf name qual params body scope dV kV doc pm an cdv ct) ps sp:=by
 refine⟨len,fun A outer s H args us vs Q E hr e0 hb r hsp=>?_⟩
 have hl:=len _ _ _ _ hsp
 have KX:K.In s.heap:=e0.mod.kin.keeps fun b o e=>(e0.bs b o e).1
 have lim:s.heap.NoLimit:=e0.mod.nolimit.keeps fun b o e=>(e0.bs b o e).1
 have hkind:∀ y∈ps.zip us,scope.names.lookup y.1=some .local∨(scope.names.lookup y.1=some .cell∧((cellsFrom (s.heap.objs.size+1) scope.names []).lookup y.1).isSome=true):=fun ⟨n,v⟩ hy=>by
  rcases S.par n (List.of_mem_zip hy).1 with q|q
  ·exact .inl q
  ·exact .inr ⟨q,PySem.W.cellsFrom_some _ _ _ (.inl q)⟩
 refine codeAny_call_function hr.depth (KX _ _ lk) rfl S.co S.gen rfl (PySem.W.codeRec_of KX hcd) (hb _ _ _ _ ?_)
 refine wpAny_newFunctionEnv_cells S.kind hkind fun env he s1 x=>?_
 subst he
 refine⟨lim.keeps x.toInCall.keep,codeAny_func ?_⟩
 obtain⟨t,ht,hq⟩:=hbody A outer s H vs Q E (hr.deeper _) hsp
 have I:Inv (NK CX P w K mg base N qual scope f cdv A outer s H E) [] (start N vs) H s1:=Rz S hr.hd e0 hl r x
 refine wpAny_mono (ht [] s1 (start N vs) H _ I hq) (fun fl s' hs=>?_) fun e s' hs=>hs
 have fin:∀ {σ':St} {H':Hp} {v:V} {u:Value},Inv (NK CX P w K mg base N qual scope f cdv A outer s H E) [] σ' H' s'→RelV v u→Q v H'→CE outer P w H s Q u s' :=
  fun {σ' H' v u} J rv q=>⟨v,H',J.os,J.bare,J.base,J.hok,rv,q⟩
 cases fl with
 | ret u =>
  obtain⟨v,σ',H',J,rv,q⟩:=hs
  exact fin J rv q
 | next =>
  obtain⟨σ',H',J,q⟩:=hs
  exact fin (v:=V.non) (u:=Value.none) J rfl q
 | brk =>
  obtain⟨_,_,_,q⟩:=hs
  exact False.elim q
 | cont =>
  obtain⟨_,_,_,q⟩:=hs
  exact False.elim q
end L2
namespace L2
open PySem PySem.Spec PyProof.Rows
section
variable{X:Cx}{x:Str}{p pos:Pos}{e:Expr}{es:List Expr}{t:TA}{id T:String}{r:List V→Hp→VK→Prop}
def WN(r:List V→Hp→VK→Prop)(t:TA):TE:=fun σ H Q=>t σ H fun vs H1=>r vs H1 Q
theorem bH(hc:jo X (.builtin id) r)(hg:Gl X x)(hm:X.mg x=none)(hv:bootBuiltins x=some (.builtin id))(ha:PA X (e::es) t)(hn:x ≠ "__name__" := by decide)(hdb:(x == ("__debug__" : Str))=false:=by decide)
 (he:starEach (e::es) X.env=(false,eval e X.env)::starEach es X.env:=by rfl) (hpl:(backTo pos (starEach es X.env)).any (·.1)=false:=by rfl):PE X (.Call (.Name x p) (e::es) [] pos) (WN r t):=by
 intro pins s σ H Q I h
 refine wpAny_Call_Name_kw (vB I hg hm hv ?_ hn hdb)
 exact PyProof.Rows.callWith_builtin1 (eU (ha pos pins s σ H _ I h) fun us s1 ⟨vs,H1,I1,r1,q1⟩=>hc pins s1 σ H1 vs us Q I1 r1 q1) he hpl
theorem dG(hc:jo X (.type T) r)(hg:Gl X x)(hm:X.mg x=none)(hv:bootBuiltins x=some (.type T))(ha:PA X (e::es) t)(hn:x ≠ "__name__" := by decide)(hdb:(x == ("__debug__" : Str))=false:=by decide)
 (he:starEach (e::es) X.env=(false,eval e X.env)::starEach es X.env:=by rfl) (hpl:(backTo pos (starEach es X.env)).any (·.1)=false:=by rfl):PE X (.Call (.Name x p) (e::es) [] pos) (WN r t):=by
 intro pins s σ H Q I h
 refine wpAny_Call_Name_kw (vB I hg hm hv ?_ hn hdb)
 exact PyProof.Rows.callWith_type1 (eU (ha pos pins s σ H _ I h) fun us s1 ⟨vs,H1,I1,r1,q1⟩=>hc pins s1 σ H1 vs us Q I1 r1 q1) he hpl
end
end L2
namespace HT
open PySem PyProof.Rows
section
variable{prog:Program}{w:World}{A:Around}{E:Value→Shared→Prop}{s:Shared}
def uA(n d:Nat):Option Int→Nat
 | none=>d
 | some v=>if v < 0 then (v+(n:Int)).toNat else min v.toNat n
theorem TV(n d:Nat)(hd:d≤n)(o:Option Int):uA n d o≤n:=by
 cases o with
 | none=>exact hd
 | some v =>
  show (if v < 0 then (v+(n:Int)).toNat else min v.toNat n)≤n
  by_cases hv:v < 0
  ·rw[if_pos hv];omega
  ·rw[if_neg hv];exact Nat.min_le_right _ _
end
end HT
namespace L2
open PySem PySem.Spec PyProof.Rows
abbrev TO:=St→Hp→(Option Int→Hp→Prop)→Prop
def PO(X:Cx)(e:Option Expr)(t:TO):Prop :=
 ∀ (pins:List (Addr×Obj)) (s:Shared) (σ : St) (H:Hp) (Q:Option Int→Hp→Prop),Inv X pins σ H s→t σ H Q →
  wpAny (model X.prog X.w) X.A (evalPart e X.env) (fun u s'=>∃ o H',Inv X pins σ H' s'∧IsPart u o∧Q o H') X.xe s
def Oz:TO:=fun _ H Q=>Q none H
def Zc(t:TE):TO:=fun σ H Q=>t σ H fun x H1=>∃ i,x=.int i∧Q (some i) H1
section
variable{X:Cx}{e:Expr}{te:TE}{lo hi:Option Expr}{tl th:TO}{pos p2:Pos}
theorem jN:PO X none Oz:=by
 intro pins s σ H Q I h
 rw[evalPart_none]
 exact wpAny_pure ⟨none,H,I,.none,h⟩
theorem jM(h:PE X e te):PO X (some e) (Zc te):=by
 intro pins s σ H Q I hw
 rw[evalPart_some]
 refine eU (h pins s σ H _ I hw) fun u s1 ⟨x,H1,I1,r1,q1⟩=>?_
 obtain⟨i,rfl,q⟩:=q1
 obtain⟨t,rfl⟩:=r1
 exact⟨some i,H1,I1,.int i t,q⟩
def WL(X:Cx)(r:V→Option Int→Option Int→Hp→VK→Prop):Prop :=
 ∀ (pins:List (Addr×Obj)) (s:Shared) (σ : St) (H:Hp) (x:V) (v vl vu:Value) (lo hi:Option Int) (sl:Addr) (Q:VK),Inv X pins σ H s→RelV x v→s.heap.IsSliceOf sl vl vu .none→IsPart vl lo→IsPart vu hi→r x lo hi H Q →
  ∃ T id,typeLookup (.type T) "__getitem__" = pure (some (.builtin id))∧s.TypeIs v T∧wpAny (model X.prog X.w) X.A (getItem v (.ref sl)) (EP X pins σ Q) X.xe s
theorem WL.or{r r':V→Option Int→Option Int→Hp→VK→Prop}(h:WL X r)(h':WL X r'):WL X (fun x lo hi H Q=>r x lo hi H Q∨r' x lo hi H Q):=by
 intro pins s σ H x v vl vu lo hi sl Q I rx hs pl pu q
 rcases q with q|q
 ·exact h pins s σ H x v vl vu lo hi sl Q I rx hs pl pu q
 ·exact h' pins s σ H x v vl vu lo hi sl Q I rx hs pl pu q
def tSl(r:V→Option Int→Option Int→Hp→VK→Prop)(te:TE)(tl th:TO):TE:=fun σ H Q=>te σ H fun x H1=>tl σ H1 fun l H2=>th σ H2 fun u H3=>r x l u H3 Q
theorem gZ{r:V→Option Int→Option Int→Hp→VK→Prop}(hr:WL X r)(he:PE X e te)(hl:PO X lo tl)(hu:PO X hi th):PE X (.Subscript e (.Slice lo hi none p2) pos) (tSl r te tl th):=by
 intro pins s σ H Q I h
 refine Subscript_ (eU (he pins s σ H _ I h) fun v s1 ⟨x,H1,I1,r1,q1⟩=>?_)
 refine wpAny_Slice (eU (hl pins s1 σ H1 _ I1 q1) fun vl s2 ⟨l,H2,I2,pl,q2⟩=>eU (hu pins s2 σ H2 _ I2 q2) fun vu s3 ⟨u,H3,I3,pu,q3⟩=>?_)
 rw[evalPart_none]
 refine wpAny_pure ?_
 have I4:Inv X pins σ H3 { s3 with heap:=s3.heap.push { cls:=.type "slice", data:=.fields #[vl,vu,.none] } }:=I3.kept (t':=s3.toks) fun b ob q=>Heap.get?_push_of_some _ q
 obtain⟨T,id,hT,ht,hg⟩:=hr pins { s3 with heap:=s3.heap.push { cls:=.type "slice", data:=.fields #[vl,vu,.none] } } σ H3 x v vl vu l u s3.heap.objs.size Q I4 r1 (Heap.IsSliceOf.new ..) pl pu q3
 show wpAny (model X.prog X.w) X.A (subscriptTail e (.Slice lo hi none p2) v (.ref s3.heap.objs.size)) (EP X pins σ Q) X.xe { s3 with heap:=s3.heap.push { cls:=.type "slice", data:=.fields #[vl,vu,.none] } }
 exact tail_any (ops:=[.ref s3.heap.objs.size,v]) ht hT hg (by with_unfolding_all rfl)
def RV(xs:List V)(lo hi:Option Int):List V:=(xs.drop (HT.uA xs.length 0 lo)).take (HT.uA xs.length xs.length hi - HT.uA xs.length 0 lo)
theorem KN(xs:List V)(lo hi:Option Int):(RV xs lo hi).length≤xs.length:=by
 unfold RV
 rw[List.length_take,List.length_drop]
 omega
end
end L2
namespace L2
open PySem PySem.Spec PyProof.Rows
def Jd(n:Nat)(i:Int):Option Nat:=if 0≤i then (if i < n then some i.toNat else none) else if -(n:Int)≤i then some (i+n).toNat else none
def uU{α : Type}(xs:List α)(i:Int):Option α:=(Jd xs.length i).bind fun j=>xs[j]?
theorem X6{n:Nat}{i:Int}{j:Nat}(h:Jd n i=some j):seqIndex? i n=some j∧j < n∧-(n:Int)≤i∧i < n:=by
 unfold Jd at h
 by_cases h0:0≤i
 ·rw[if_pos h0] at h
  by_cases h1:i < n
  ·rw[if_pos h1] at h
   have e:i.toNat=j:=Option.some.inj h
   exact⟨by rw[seqIndex_of h0 h1,e],by omega,by omega,h1⟩
  ·rw[if_neg h1] at h;cases h
 ·rw[if_neg h0] at h
  by_cases h1:-(n:Int)≤i
  ·rw[if_pos h1] at h
   have e:(i+n).toNat=j:=Option.some.inj h
   exact⟨by rw[seqIndex_neg (by omega) h1,e],by omega,h1,by omega⟩
  ·rw[if_neg h1] at h;cases h
theorem Il{α : Type}{xs:List α}{i:Int}{v:α}(h:uU xs i=some v):∃ j,seqIndex? i xs.length=some j∧xs[j]? = some v∧j < xs.length∧-(xs.length:Int)≤i∧i < xs.length:=by
 unfold uU at h
 cases e:Jd xs.length i with
 | none=>rw[e] at h;cases h
 | some j =>
  rw[e] at h
  obtain⟨h1,h2,h3,h4⟩:=X6 e
  exact⟨j,h1,h,h2,h3,h4⟩
def YZ(b:Expr):Prop:=∀ o i,subscripted b false o i=operate [o,i] (getItem o i)
def Y0(X:Cx)(r:R2):Prop :=
 ∀ (value slice:Expr) (pins:List (Addr×Obj)) (s:Shared) (σ : St) (H:Hp) (x y:V) (v u:Value) (Q:VK),Inv X pins σ H s→RelV x v→RelV y u→r x y H Q →
  subscripted slice false v u=operate [v,u] (getItem v u)→wpAny (model X.prog X.w) X.A (subscriptTail value slice v u) (EP X pins σ Q) X.xe s
def SM(X:Cx)(id:String)(r:V→List V→Hp→VK→Prop):Prop :=
 ∀ (pins:List (Addr×Obj)) (s:Shared) (σ : St) (H:Hp) (x:V) (xs:List V) (v:Value) (us:List Value) (Q:VK),Inv X pins σ H s→RelV x v→Vals xs us→r x xs H Q →
  wpAny (model X.prog X.w) X.A (call (.builtin id) (v::us)) (EP X pins σ Q) X.xe s
section
variable{X:Cx}{a b:Expr}{ta tb:TE}{pos:Pos}
theorem Y0.or{r r':R2}(h:Y0 X r)(h':Y0 X r'):Y0 X (fun x y H Q=>r x y H Q∨r' x y H Q):=by
 intro value slice pins s σ H x y v u Q I rx ry q hs
 rcases q with q|q
 ·exact h value slice pins s σ H x y v u Q I rx ry q hs
 ·exact h' value slice pins s σ H x y v u Q I rx ry q hs
theorem eV{r:R2}(hr:Y0 X r)(ha:PE X a ta)(hb:PE X b tb)(hs:YZ b):PE X (.Subscript a b pos) (tOp r ta tb):=by
 intro pins s σ H Q I h
 exact Subscript_ (aa9 ha hb I h fun v u s2 x y H2 I2 rx ry q=>hr a b pins s2 σ H2 x y v u Q I2 rx ry q (hs _ _))
def ab4(K:PySem.W.Frag):R2:=fun x y H Q=>∃ p xs i v,x=.ref p∧y=.int i∧zH K H p xs∧uU xs i=some v∧Q v H
def ab2(K:PySem.W.Frag):R2:=fun x y H Q=>∃ p xs i v,x=.ref p∧y=.int i∧zG K H p xs∧uU xs i=some v∧Q v H
def ab3:R2:=fun x y H Q=>∃ z i c,x=.str z∧y=.int i∧z.length≤sizeLine∧uU z.cps.toList i=some c∧Q (.str ⟨#[c]⟩) H
theorem X5:Y0 X (ab4 X.K):=by
 intro value slice pins s σ H x y v u Q I rx ry h hs
 obtain⟨p,xs,i,z,rfl,rfl,hq,he,q⟩:=h
 cases rx
 obtain⟨t,rfl⟩:=ry
 obtain⟨its,r,pl,hz⟩:=I.list hq
 obtain⟨j,h1,h2,h3,h4,h5⟩:=Il he
 obtain⟨w,ew,rw'⟩:=r.get h2
 have hl:=r.length
 have hn:=BK
 have fin:EP X pins σ Q w s:=⟨z,H,I,rw',q⟩
 by_cases h0:0≤i
 ·have hj:i.toNat=j:=by
   rw[seqIndex_of h0 h5] at h1
   exact Option.some.inj h1
  exact item_listR pl.isList h0 (by omega) (by rw[hj];simpa using ew) fin hs
 ·have hj:(i+(its.toArray.size:Int)).toNat=j:=by
   rw[seqIndex_neg (by omega) h4] at h1
   rw[List.size_toArray,← hl]
   exact Option.some.inj h1
  exact subscriptTail_builtinR (x:=w) pl.isList.typeIs slot_list_getitem.lookup
   (wpAny_getItem_list_neg (Q:=fun r s'=>r=w∧EP X pins σ Q r s') pl.isList (by omega) (by rw[List.size_toArray]<;>omega) (by omega) (by rw[hj];simpa using ew) ⟨rfl,fin⟩) hs
theorem aaS:Y0 X (ab2 X.K):=by
 intro value slice pins s σ H x y v u Q I rx ry h hs
 obtain⟨p,xs,i,z,rfl,rfl,hq,he,q⟩:=h
 cases rx
 obtain⟨t,rfl⟩:=ry
 obtain⟨its,r,pl,hz⟩:=I.tuple hq
 obtain⟨j,h1,h2,h3,h4,h5⟩:=Il he
 obtain⟨w,ew,rw'⟩:=r.get h2
 have hl:=r.length
 have hn:=BK
 have fin:EP X pins σ Q w s:=⟨z,H,I,rw',q⟩
 exact subscriptTail_builtinR (x:=w) pl.typeIs slot_tuple_getitem.lookup
  (getItem_tuple (j:=j) (Q:=fun r s'=>r=w∧EP X pins σ Q r s') pl (by omega) (by omega) (by rw[List.size_toArray,← hl];exact h1) (by simpa using ew) ⟨rfl,fin⟩) hs
theorem aaT:Y0 X ab3:=by
 intro value slice pins s σ H x y v u Q I rx ry h hs
 obtain⟨z,i,c,rfl,rfl,hz,he,q⟩:=h
 obtain⟨t,rfl⟩:=rx
 obtain⟨t',rfl⟩:=ry
 obtain⟨j,h1,h2,h3,h4,h5⟩:=Il he
 have hl:z.cps.toList.length=z.length:=by simp[Str.length]
 rw[hl] at h1 h4 h5
 have hn:=BK
 exact tail_any (typeIs_str s z t) slot_str_getitem.lookup (getItem_str (c:=c) (by
  have e1:decide (i < -(2 ^ 63:Int))=false:=decide_eq_false (by omega)
  have e2:decide (i ≥ 2 ^ 63)=false:=decide_eq_false (by omega)
  rw[e1,e2,Bool.or_false]) (by rw[h1];simpa using h2) ⟨.str ⟨#[c]⟩,H,I.tok _,⟨_,rfl⟩,q⟩) hs
def rIx(K:PySem.W.Frag):R2:=fun x y H Q=>ab4 K x y H Q∨ab2 K x y H Q∨ab3 x y H Q
theorem cJ:Y0 X (rIx X.K):=X5.or (aaS.or aaT)
theorem GX(lo hi:Option Int)(n:Nat):(sliceBounds lo hi none n).1=((HT.uA n 0 lo:Nat):Int)∧(sliceBounds lo hi none n).2.1=((HT.uA n n hi:Nat):Int)∧(sliceBounds lo hi none n).2.2=1:=by
 refine⟨?_,?_,rfl⟩
 ·cases lo with
  | none=>simp[sliceBounds,HT.uA]
  | some i =>
   simp only[sliceBounds,HT.uA,Option.getD_none,show (1:Int) > 0 by decide,if_true]
   by_cases h:i < 0
   ·simp only[h,if_true]<;>omega
   ·simp only[h,if_false]<;>omega
 ·cases hi with
  | none=>simp[sliceBounds,HT.uA]
  | some i =>
   simp only[sliceBounds,HT.uA,Option.getD_none,show (1:Int) > 0 by decide,if_true]
   by_cases h:i < 0
   ·simp only[h,if_true]<;>omega
   ·simp only[h,if_false]<;>omega
theorem DK(its:List Value)(lo hi:Option Int):slicePick its.toArray lo hi none=((its.drop (HT.uA its.length 0 lo)).take (HT.uA its.length its.length hi - HT.uA its.length 0 lo)).toArray:=by
 obtain⟨h1,h2,h3⟩:=GX lo hi its.toArray.size
 unfold slicePick
 rw[h1,h2,h3]
 simp only[sliceRange_one,pick_run,List.size_toArray]<;>rfl
def aaq(K:PySem.W.Frag):V→Option Int→Option Int→Hp→VK→Prop:=fun x lo hi H Q=>∃ a xs,x=.ref a∧zH K H a xs∧∀ p,H p=none→Q (.ref p) (upd H p (.lst (RV xs lo hi)))
theorem O2:WL X (aaq X.K):=by
 intro pins s σ H x v vl vu lo hi sl Q I rx hs pl pu h
 obtain⟨a,xs,rfl,hx,q⟩:=h
 cases rx
 obtain⟨its,r,ht,hz⟩:=I.list hx
 have hlen:=r.length
 refine⟨"list", _,slot_list_getitem.lookup,ht.isList.typeIs,?_⟩
 refine wpAny_getItem_list_slice ht.isList hs pl pu .none (by simp) ?_ (by rw[List.size_toArray]<;>omega)
 rw[DK,← hlen]
 refine⟨.ref s.heap.objs.size,_,I.laid (t':=s.toks) (o:=.lst (RV xs lo hi)) (fun b ob q=>Heap.get?_push_of_some _ q) (Nat.le_refl _) ?_,rfl,q _ (I.hok.fresh (Nat.le_refl _))⟩
 exact⟨Nat.le_trans (KN xs lo hi) hz,_,0,(r.drop (HT.uA xs.length 0 lo)).take (HT.uA xs.length xs.length hi - HT.uA xs.length 0 lo),Heap.get?_push_size _ rfl⟩
def VD:V→Bool
 | .non=>true
 | .bl _=>true
 | .int _=>true
 | .str _=>true
 | _=>false
def eqV:V→V→Bool
 | .non,.non=>true
 | .bl a,.bl b=>a == b
 | .bl a,.int b=>(if a then 1 else 0) == b
 | .int a,.bl b=>a == (if b then 1 else 0)
 | .int a,.int b=>a == b
 | .str a,.str b=>a == b
 | _,_=>false
theorem aaZ{A:Around}{s:Shared}{y x:V}{u v:Value}(ry:RelV y u)(rx:RelV x v)(fy:VD y=true)(fx:VD x=true):SeqAt.EqAt A s u v (eqV y x):=by
 cases y with
 | non =>
  cases ry
  cases x with
  | non=>cases rx;exact SeqAt.EqAt.same _
  | bl b=>cases rx;exact SeqAt.EqAt.none_bool b
  | int b=>obtain⟨t,rfl⟩:=rx;exact SeqAt.EqAt.none_int b t
  | str b=>obtain⟨t,rfl⟩:=rx;exact SeqAt.EqAt.none_str b t
  | _=>exact absurd (show false=true from fx) Bool.false_ne_true
 | bl a =>
  cases ry
  cases x with
  | non=>cases rx;exact SeqAt.EqAt.bool_none a
  | bl b=>cases rx;exact SeqAt.EqAt.bool_bool a b
  | int b=>obtain⟨t,rfl⟩:=rx;exact SeqAt.EqAt.bool_int a b t
  | str b=>obtain⟨t,rfl⟩:=rx;exact SeqAt.EqAt.bool_str a b t
  | _=>exact absurd (show false=true from fx) Bool.false_ne_true
 | int a =>
  obtain⟨t',rfl⟩:=ry
  cases x with
  | non=>cases rx;exact SeqAt.EqAt.int_none a t'
  | bl b=>cases rx;exact SeqAt.EqAt.int_bool a t' b
  | int b=>obtain⟨t,rfl⟩:=rx;exact SeqAt.EqAt.int_int a t' b t
  | str b=>obtain⟨t,rfl⟩:=rx;exact SeqAt.EqAt.int_str a t' b t
  | _=>exact absurd (show false=true from fx) Bool.false_ne_true
 | str a =>
  obtain⟨t',rfl⟩:=ry
  cases x with
  | non=>cases rx;exact SeqAt.EqAt.str_none a t'
  | bl b=>cases rx;exact SeqAt.EqAt.str_bool a t' b
  | int b=>obtain⟨t,rfl⟩:=rx;exact SeqAt.EqAt.str_int a t' b t
  | str b=>obtain⟨t,rfl⟩:=rx;exact SeqAt.EqAt.str_str a t' b t
  | _=>exact absurd (show false=true from fx) Bool.false_ne_true
 | _=>exact absurd (show false=true from fy) Bool.false_ne_true
theorem Ii:jo X (.type "list") (fun xs H Q=>∃ p ys,xs=[.ref p]∧(zH X.K H p ys∨zG X.K H p ys)∧∀ l,H l=none→Q (.ref l) (upd H l (.lst ys))):=by
 intro pins s σ H xs us Q I r h
 obtain⟨p,ys,rfl,hq,q⟩:=h
 obtain⟨u,rfl,rx⟩:=vals1 r
 cases rx
 have fin:∀ (its:List Value),Vals ys its→ys.length≤sizeLine→∀ (h':Heap) (c':Nat),(∀ b o',s.heap.get? b=some o'→h'.get? b=some o') →
  h'.get? s.heap.objs.size=some { cls:=.type "list", dict:=none,data:=.seq its.toArray c',slots:=#[] }→EP X pins σ Q (.ref s.heap.objs.size) { s with heap:=h' }:=fun its r' hz h' c' kp e =>
  ⟨.ref s.heap.objs.size,_,I.laid (t':=s.toks) kp (Nat.le_refl _) (show bW X.prog X.w _ h' _ (.lst ys) from ⟨hz,its,c',r',e⟩),rfl,q _ (I.hok.fresh (Nat.le_refl _))⟩
 rcases hq with hq|hq
 ·obtain⟨its,r',pl,hz⟩:=I.list hq
  have hlen:=r'.length
  obtain⟨o,ho,hc,n,hd⟩:=pl.isList
  exact call_list_seq p (.inl rfl) ho hc hd (fun h' c' kp e=>fin its r' hz h' c' kp e) (by simp only[List.size_toArray]<;>omega)
 ·obtain⟨its,r',pl,hz⟩:=I.tuple hq
  have hlen:=r'.length
  obtain⟨o,ho,hc,n,hd⟩:=pl
  exact call_list_seq p (.inr rfl) ho hc hd (fun h' c' kp e=>fin its r' hz h' c' kp e) (by simp only[List.size_toArray]<;>omega)
theorem Eg:jo X (.type "tuple") (fun xs H Q=>∃ p ys,xs=[.ref p]∧((zH X.K H p ys∧∀ l,H l=none→Q (.ref l) (upd H l (.tup ys)))∨(zG X.K H p ys∧Q (.ref p) H))):=by
 intro pins s σ H xs us Q I r h
 obtain⟨p,ys,rfl,h⟩:=h
 obtain⟨u,rfl,rx⟩:=vals1 r
 cases rx
 rcases h with ⟨hq,q⟩|⟨hq,q⟩
 ·obtain⟨its,r',pl,hz⟩:=I.list hq
  have hlen:=r'.length
  refine call_tuple_list pl.isList (fun h' kp=>?_) (by simp only[List.size_toArray]<;>omega)
  have I1:Inv X pins σ H { s with heap:=h' }:=I.kept (t':=s.toks) kp
  have I2:Inv X pins σ (upd H h'.objs.size (.tup ys)) { s with heap:=h'.push { cls:=.type "tuple", data:=.seq its.toArray } } :=
   I1.laid (t':=s.toks) (fun b o e=>Heap.get?_push_of_some _ e) (Nat.le_refl _) (show bW X.prog X.w _ _ _ (.tup ys) from ⟨hz,its,r',Li.new _ _⟩)
  exact⟨.ref h'.objs.size,_,I2,rfl,q _ (I1.hok.fresh (Nat.le_refl _))⟩
 ·obtain⟨its,r',pl,hz⟩:=I.tuple hq
  exact call_tuple_same pl ⟨.ref p,H,I,rfl,q⟩
def tyV(K:PySem.W.Frag)(T:String)(x:V)(H:Hp):Prop:=match x with
 | .str _=>T = "str"
 | .int _=>T = "int"
 | .ref p=>(T = "list" ∧ ∃ xs,zH K H p xs)∨(T = "tuple" ∧ ∃ o,K.lookup p=some o∧o.cls=.type "tuple" ∧ o.dict=none) ∨
  (T = "dict" ∧ ((∃ kvs,H p=some (.dK kvs))∨∃ kvs,H p=some (.dT kvs)))∨(T = "set" ∧ ∃ S n,H p=some (.set S n))
 | _=>False
theorem Ly{pins:List (Addr×Obj)}{σ : St}{H:Hp}{s:Shared}{T:String}{x:V}{v:Value}(I:Inv X pins σ H s)(r:RelV x v)(ty:tyV X.K T x H) :
 s.TypeIs v T∧∀ a,v=.ref a→∃ ob,s.heap.get? a=some ob∧ob.dict=none:=by
 cases x with
 | str z =>
  obtain⟨t,rfl⟩:=r
  cases (show T = "str" from ty)
  exact⟨typeIs_str s z t,fun _ e=>nomatch e⟩
 | int i =>
  obtain⟨t,rfl⟩:=r
  cases (show T = "int" from ty)
  exact⟨typeIs_int s i t,fun _ e=>nomatch e⟩
 | ref p =>
  cases r
  rcases ty with ⟨rfl,xs,hq⟩|⟨rfl,o,hk,hc,hd⟩|⟨rfl,hk⟩|⟨rfl,S,n,hk⟩
  ·obtain⟨its,_,pl,_⟩:=I.list hq
   refine⟨pl.isList.typeIs,fun a e=>?_⟩
   cases e
   obtain⟨o,n,e,c,hd,_⟩:=pl
   exact⟨o,e,hd⟩
  ·refine⟨⟨o,I.Jc p o hk,hc⟩,fun a e=>?_⟩
   cases e
   exact⟨o,I.Jc _ o hk,hd⟩
  ·have z:∃ o,s.heap.get? p=some o∧o.ExactDict:=by
    rcases hk with ⟨kvs,hk⟩|⟨kvs,hk⟩
    ·obtain⟨_,_,_,_,o,_,_,e,ex,_⟩:=I.hok p _ hk
     exact⟨o,e,ex⟩
    ·obtain⟨_,_,_,_,o,_,_,e,ex,_⟩:=I.hok p _ hk
     exact⟨o,e,ex⟩
   obtain⟨o,e,ex⟩:=z
   refine⟨⟨o,e,ex.1⟩,fun a e2=>?_⟩
   cases e2
   exact⟨o,e,ex.2.1⟩
  ·obtain⟨o,_,_,_,e,ex,_⟩:=I.hok p _ hk
   refine⟨⟨o,e,ex.1⟩,fun a e2=>?_⟩
   cases e2
   exact⟨o,e,ex.2.1⟩
 | _=>exact False.elim ty
def aaa(K:PySem.W.Frag)(T:String)(r:V→List V→Hp→VK→Prop)(to:TE):TE:=fun σ H Q=>to σ H fun x H1=>tyV K T x H1∧r x [] H1 Q
def Ze(K:PySem.W.Frag)(T:String)(r:V→List V→Hp→VK→Prop)(to:TE)(t:TA):TE:=fun σ H Q=>to σ H fun x H1=>tyV K T x H1∧t σ H1 fun xs H2=>r x xs H2 Q
variable{o e:Expr}{es:List Expr}{to:TE}{t:TA}{name:Str}{apos cpos:Pos}{T id:String}{r:V→List V→Hp→VK→Prop}
theorem Uv(pa:PlainAttrs T)(slot:Slot T name id)(hty:typeOf (.builtin id)=pure (.type "method_descriptor"))(hm:SM X id r)(ho:PE X o to)
 (hbase:attributeBase o name X.env (eval o X.env)=eval o X.env:=by rfl) (hline:(apos.endLine == cpos.line)=true:=by rfl):PE X (.Call (.Attribute o name apos) [] [] cpos) (aaa X.K T r to):=by
 intro pins s σ H Q I h
 refine wpAny_Call_method0_late hbase hline (eU (ho pins s σ H _ I h) fun v s1 ⟨x,H1,I1,r1,ty,q1⟩=>?_)
 obtain⟨h1,h2⟩:=Ly I1 r1 ty
 exact⟨T,id,pa,slot,hty,h1,h2,Calls.callWith_builtin rfl (PySem.evalArgs_none (hm pins s1 σ H1 x [] v [] Q I1 r1 .nil q1))⟩
theorem mH(pa:PlainAttrs T)(slot:Slot T name id)(hty:typeOf (.builtin id)=pure (.type "method_descriptor"))(hm:SM X id r)(ho:PE X o to)(ha:PA X (e::es) t)
 (hbase:attributeBase o name X.env (eval o X.env)=eval o X.env:=by rfl)
 (hfew:((backTo cpos (starEach (e::es) X.env)).all (fun x=>!x.1) && (backToKw cpos (keywordEach [] X.env)).all (fun x=>x.1.isSome)
  && decide ((e::es).length+([]:List Keyword).length+(if ([]:List Keyword).isEmpty then 0 else 1) < 30))=true:=by rfl)
 (hline:(apos.endLine == cpos.line)=true:=by rfl) (hs:starEach (e::es) X.env=(false,eval e X.env)::starEach es X.env:=by rfl) (hplain:(backTo cpos (starEach es X.env)).any (·.1)=false:=by rfl) :
 PE X (.Call (.Attribute o name apos) (e::es) [] cpos) (Ze X.K T r to t):=by
 intro pins s σ H Q I h
 refine wpAny_Call_method_late hbase hfew hline rfl (eU (ho pins s σ H _ I h) fun v s1 ⟨x,H1,I1,r1,ty,q1⟩=>?_)
 obtain⟨h1,h2⟩:=Ly I1 r1 ty
 refine⟨T,id,pa,slot,hty,h1,h2,?_⟩
 have hA:=ha cpos pins s1 σ H1 _ I1 q1
 rw[hs] at hA ⊢
 refine Calls.callWith_builtin (by show (false || (backTo cpos (starEach es X.env)).any (·.1))=false;rw[hplain]<;>rfl) (Calls.evalArgs_plain ?_)
 exact eU hA fun us s2 ⟨vs,H2,I2,r2,q2⟩=>hm pins s2 σ H2 x vs v us Q I2 r1 r2 q2
end
end L2
namespace L2
open PySem PySem.Spec PyProof.Rows
def MtM(X:Cx)(id:String)(r:V→List V→Hp→VK→Prop):Prop :=
 ∀ (pins:List (Addr×Obj)) (s:Shared) (σ : St) (H:Hp) (x:V) (xs:List V) (v:Value) (us:List Value) (Q:VK),Inv X pins σ H s→RelV x v→Vals xs us→r x xs H Q →
  wpAny (model X.prog X.w) X.A (call (.builtin id) (v::us)) (EP X pins σ Q) X.xe s
theorem Vals.one:∀ {x:V} {us:List Value},Vals [x] us→∃ u,us=[u]∧RelV x u
 | _,_,.cons r .nil=>⟨_,rfl,r⟩
theorem Vals.zero:∀ {us:List Value},Vals [] us→us=[]
 | _,.nil=>rfl
theorem Vals.eraseIdx:∀ {xs:List V} {us:List Value} (i:Nat),Vals xs us→Vals (xs.eraseIdx i) (us.eraseIdx i)
 | _,_,_,.nil=>.nil
 | _,_,0,.cons _ t=>t
 | _,_,i+1,.cons r t=>.cons r (Vals.eraseIdx i t)
theorem Vals.reverse{xs:List V}{us:List Value}(h:Vals xs us):Vals xs.reverse us.reverse:=by
 induction h with
 | nil=>exact .nil
 | cons r t ih=>rw[List.reverse_cons,List.reverse_cons];exact Vals.append ih (.cons r .nil)
theorem EY{α : Type}:∀ (l:List α) (i:Nat),(l.eraseIdx i).length≤l.length
 | [],_=>Nat.le_refl _
 | _::_,0=>Nat.le_succ _
 | _::r,i+1=>Nat.succ_le_succ (EY r i)
section
variable{X:Cx}{pins:List (Addr×Obj)}{σ : St}{H:Hp}{s:Shared}{l b:Addr}{xs ys zs:List V}
theorem Inv.XN{its its':List Value}{n:Nat}{f:Array Value→Array Value}{t':Nat}(I:Inv X pins σ H s)(hH:H l=some (.lst xs))
 (e:s.heap.get? l=some { cls:=.type "list", data:=.seq its.toArray n }) (hf:f its.toArray=its'.toArray) (hv:Vals ys its') (hz:ys.length≤sizeLine) :
 Inv X pins σ (upd H l (.lst ys)) { s with heap:=s.heap.update l (Obj.mapSeq f),toks:=t' }:=by
 have q:=PySem.IsL.update e f
 rw[hf] at q
 refine I.write (x:=l) (e:=l) (by rw[hH];exact trivial) (.inl rfl) (fun b' u hb hu=>(Heap.get?_update_other s.heap (Obj.mapSeq f) (Ne.symm hb)).trans hu) ⟨_,q⟩ ?_
 exact⟨hz,its',_,hv,q⟩
theorem Inv.adJ{its:List Value}{t':Nat}(I:Inv X pins σ H s)(hv:Vals ys its)(hz:ys.length≤sizeLine) :
 Inv X pins σ (upd H s.heap.objs.size (.lst ys)) { s with heap:=s.heap.push { cls:=.type "list", data:=.seq its.toArray },toks:=t' } :=
 I.laid (fun _ _ q=>Heap.get?_push_of_some _ q) (Nat.le_refl _) ⟨hz,its,0,hv,Heap.get?_push_size _ rfl⟩
theorem Inv.fresh(I:Inv X pins σ H s):H s.heap.objs.size=none:=I.hok.fresh (Nat.le_refl _)
theorem Inv.XM(I:Inv X pins σ H s)(hH:H l=some (.lst xs)):xs.length≤sizeLine∧∃ (its:List Value) (n:Nat),Vals xs its∧xs.length=its.length∧s.heap.get? l=some { cls:=.type "list", data:=.seq its.toArray n }:=by
 obtain⟨z,its,n,r,e⟩:=I.hok l _ hH
 exact⟨z,its,n,r,r.length,e⟩
theorem JZ{n:Nat}(h:n≤sizeLine):Builtin.List.listTooLong n=false:=by
 unfold Builtin.List.listTooLong
 exact decide_eq_false (by omega)
end
section
variable{X:Cx}
def G7:V→List V→Hp→VK→Prop:=fun x vs H Q=>∃ l xs y,x=.ref l∧vs=[y]∧H l=some (.lst xs)∧xs.length < sizeLine∧Q .non (upd H l (.lst (xs++[y])))
theorem kY:MtM X "list.append" G7:=by
 intro pins s σ H x vs v us Q I rx rv h
 obtain⟨l,xs,y,rfl,rfl,hH,hz,q⟩:=h
 cases rx
 obtain⟨u,rfl,ru⟩:=rv.one
 obtain⟨z,its,n,r,hl,e⟩:=I.XM hH
 refine call_meets F.slot_list_append ⟨_,e,rfl⟩ F.entry_list_append (F.args_list_append_2 _ _) (PySem.list_append l its.toArray n u (by rw[List.size_toArray];omega)) ⟨e,?_⟩
 refine⟨.non,_,I.XN (its':=its++[u]) hH e (by simp) (r.append (.cons ru .nil)) ?_,rfl,q⟩
 rw[List.length_append,List.length_singleton]
 omega
def Ud:V→List V→Hp→VK→Prop:=fun x vs H Q=>∃ l xs i k y,x=.ref l∧vs=[.int i]∧H l=some (.lst xs)∧-(2 ^ 63)≤i∧i < 2 ^ 63∧seqIndex? i xs.length=some k∧xs[k]? = some y∧Q y (upd H l (.lst (xs.eraseIdx k)))
theorem Vf:MtM X "list.pop" Ud:=by
 intro pins s σ H x vs v us Q I rx rv h
 obtain⟨l,xs,i,k,y,rfl,rfl,hH,h1,h2,hk,hy,q⟩:=h
 cases rx
 obtain⟨u,rfl,ru⟩:=rv.one
 obtain⟨t,rfl⟩:=ru
 obtain⟨z,its,n,r,hl,e⟩:=I.XM hH
 obtain⟨w,hw,rw'⟩:=r.get hy
 refine call_meets F.slot_list_pop ⟨_,e,rfl⟩ F.entry_list_pop (F.args_list_pop_2 _ _)
  (MeetsSeq.list_pop_at l its.toArray n i t k w (fitsIndex_both h1 h2) (by rw[List.size_toArray,← hl];exact hk) (by rw[← Array.getElem?_toList];exact hw) (by rw[List.size_toArray];omega)) ⟨e,?_⟩
 refine⟨y,_,I.XN (its':=its.eraseIdx k) hH e ?_ (r.eraseIdx k) ?_,rw',q⟩
 ·show its.toArray.eraseIdxIfInBounds k=(its.eraseIdx k).toArray
  rw[List.eraseIdxIfInBounds_toArray]
 ·have:=EY xs k
  omega
def JD:V→List V→Hp→VK→Prop:=fun x vs H Q=>∃ l xs,x=.ref l∧vs=[]∧H l=some (.lst xs)∧Q .non (upd H l (.lst xs.reverse))
theorem M6:MtM X "list.reverse" JD:=by
 intro pins s σ H x vs v us Q I rx rv h
 obtain⟨l,xs,rfl,rfl,hH,q⟩:=h
 cases rx
 have hus:=rv.zero
 subst hus
 obtain⟨z,its,n,r,hl,e⟩:=I.XM hH
 refine call_meets F.slot_list_reverse ⟨_,e,rfl⟩ F.entry_list_reverse (F.args_list_reverse_1 _) (AutoSeq1.list_reverse_list_0 l its.toArray n (by rw[List.size_toArray];omega)) ⟨e,?_⟩
 refine⟨.non,_,I.XN (its':=its.reverse) hH e (by simp) r.reverse ?_,rfl,q⟩
 rw[List.length_reverse]
 omega
end
end L2
namespace L2
open PySem PySem.Spec PyProof.Rows
section
variable{κ : Type}[DecidableEq κ]
def u0(kvs:List (κ×V))(k:κ):Option V:=(kvs.find? fun kv=>decide (kv.1=k)).map (·.2)
def putK(kvs:List (κ×V))(k:κ)(v:V):List (κ×V) :=
 if (kvs.any fun kv=>decide (kv.1=k))=true then kvs.map (fun kv=>if kv.1=k then (kv.1,v) else kv) else kvs++[(k,v)]
theorem Af{p:κ×V}{r:List (κ×V)}{k:κ}(e:p.1=k):u0 (p::r) k=some p.2:=by simp[u0,List.find?_cons,e]
theorem Ag{p:κ×V}{r:List (κ×V)}{k:κ}(e:¬ p.1=k):u0 (p::r) k=u0 r k:=by simp[u0,List.find?_cons,e]
theorem Jo(k:κ):∀ kvs:List (κ×V),(kvs.any fun kv=>decide (kv.1=k))=(u0 kvs k).isSome
 | []=>rfl
 | p::r=>by
  rw[List.any_cons]
  by_cases e:p.1=k
  ·simp only[Af e,decide_eq_true e,Bool.true_or,Option.isSome_some]
  ·rw[Ag e,decide_eq_false e,Bool.false_or];exact Jo k r
theorem yK(kvs:List (κ×V))(k:κ)(v:V):(putK kvs k v).length≤kvs.length+1:=by
 unfold putK
 split
 ·rw[List.length_map];omega
 ·rw[List.length_append,List.length_cons,List.length_nil];omega
theorem Oq.pU{o:Option V}{u:Option Value}(r:Oq o u):o.isSome=u.isSome:=by
 cases o with
 | none=>cases u with
  | none=>rfl
  | some _=>exact(show False from r).elim
 | some _=>cases u with
  | none=>exact(show False from r).elim
  | some _=>rfl
theorem KV.val{kvs:List (κ×V)}{vs:List (κ×Value)}(r:KV kvs vs)(k:κ):Oq (u0 kvs k) (valueAt vs k):=by
 unfold KV at r
 induction r with
 | nil=>exact True.intro
 | @cons p q ps qs h t ih =>
  obtain⟨h1,h2⟩:=h
  by_cases e:p.1=k
  ·have e':q.1=k:=h1.symm.trans e
   have b:valueAt (q::qs) k=some q.2:=by simp[valueAt,List.find?_cons,e']
   rw[Af e,b];exact h2
  ·have e':¬ q.1=k:=fun z=>e (h1.trans z)
   have b:valueAt (q::qs) k=valueAt qs k:=by simp[valueAt,List.find?_cons,e']
   rw[Ag e,b];exact ih
theorem KV.any{kvs:List (κ×V)}{vs:List (κ×Value)}(r:KV kvs vs)(k:κ):(kvs.any fun kv=>decide (kv.1=k))=vs.any fun kv=>decide (kv.1=k):=by
 unfold KV at r
 induction r with
 | nil=>rfl
 | cons h t ih=>rw[List.any_cons,List.any_cons,ih,h.1]
theorem KV.repl{kvs:List (κ×V)}{vs:List (κ×Value)}(r:KV kvs vs)(k:κ){y:V}{u:Value}(ry:RelV y u) :
 KV (kvs.map fun kv=>if kv.1=k then (kv.1,y) else kv) (vs.map fun kv=>if kv.1=k then (kv.1,u) else kv):=by
 unfold KV at r ⊢
 induction r with
 | nil=>exact .nil
 | @cons p q ps qs h t ih =>
  rw[List.map_cons,List.map_cons]
  refine .cons ?_ ih
  obtain⟨h1,h2⟩:=h
  by_cases e:p.1=k
  ·rw[if_pos e,if_pos (h1.symm.trans e)];exact⟨h1,ry⟩
  ·rw[if_neg e,if_neg (fun z=>e (h1.trans z))];exact⟨h1,h2⟩
theorem KV.put{kvs:List (κ×V)}{vs:List (κ×Value)}(r:KV kvs vs)(k:κ){y:V}{u:Value}(ry:RelV y u):KV (putK kvs k y) (stored vs k u):=by
 unfold putK stored
 rw[r.any k]
 by_cases e:(vs.any fun kv=>decide (kv.1=k))=true
 ·rw[if_pos e,if_pos e];exact r.repl k ry
 ·rw[if_neg e,if_neg e];exact Paired.snoc r ⟨rfl,ry⟩
theorem KV.length{kvs:List (κ×V)}{vs:List (κ×Value)}(r:KV kvs vs):kvs.length=vs.length:=Paired.length r
end
theorem PN{P:Program}{w:World}{k:Key}{u:Value}(r:RelV (kV k) u):(gO P w).is k u=true:=by
 cases k with
 | inl i=>obtain⟨t,e⟩:=(show ∃ t,u=Value.int i t from r);subst e;exact J3 P w i t
 | inr x=>obtain⟨t,e⟩:=(show ∃ t,u=Value.str x t from r);subst e;exact J2 P w x t
theorem Fe{P:Program}{w:World}:∀ {ks:List Key} {us:List Value},Vals (ks.map kV) us→ItemsAre (gO P w) ks us
 | [],_,r=>by rw[List.map_nil] at r;cases r;exact .nil
 | k::ks,_,r=>by
  rw[List.map_cons] at r
  cases r with
  | cons h t=>exact .cons (PN h) (Fe t)
abbrev KT(H:Hp):List (List Key×V)→List (List Key×Addr×Value)→Prop:=Paired fun p q=>p.1=q.1∧H q.2.1=some (.tup (p.1.map kV))∧RelV p.2 q.2.2
theorem KT.val{H:Hp}{kvs:List (List Key×V)}{xs:List (List Key×Addr×Value)}(r:KT H kvs xs)(k:List Key):Oq (u0 kvs k) ((atKey xs k).map (·.2)):=by
 induction r with
 | nil=>exact True.intro
 | @cons p q ps qs h t ih =>
  obtain⟨h1,_,h2⟩:=h
  by_cases e:p.1=k
  ·have e':q.1=k:=h1.symm.trans e
   have b:atKey (q::qs) k=some q.2:=by simp[atKey,List.find?_cons,e']
   rw[Af e,b];exact h2
  ·have e':¬ q.1=k:=fun z=>e (h1.trans z)
   have b:atKey (q::qs) k=atKey qs k:=by simp[atKey,List.find?_cons,e']
   rw[Ag e,b];exact ih
theorem KT.repl{H:Hp}{kvs:List (List Key×V)}{xs:List (List Key×Addr×Value)}(r:KT H kvs xs)(k:List Key){y:V}{u:Value}(ry:RelV y u) :
 KT H (kvs.map fun kv=>if kv.1=k then (kv.1,y) else kv) (xs.map (putAt k u)):=by
 induction r with
 | nil=>exact .nil
 | @cons p q ps qs h t ih =>
  rw[List.map_cons,List.map_cons]
  refine .cons ?_ ih
  obtain⟨h1,h2,h3⟩:=h
  unfold putAt
  by_cases e:p.1=k
  ·rw[if_pos e,if_pos (h1.symm.trans e)];exact⟨h1,h2,ry⟩
  ·rw[if_neg e,if_neg (fun z=>e (h1.trans z))];exact⟨h1,h2,h3⟩
theorem KT.put{H:Hp}{kvs:List (List Key×V)}{xs:List (List Key×Addr×Value)}(r:KT H kvs xs)(k:List Key){b:Addr}{y:V}{u:Value}(hb:H b=some (.tup (k.map kV)))(ry:RelV y u) :
 KT H (putK kvs k y) (storedH xs k b u):=by
 have e:(kvs.any fun kv=>decide (kv.1=k))=(atKey xs k).isSome:=by
  rw[Jo,(r.val k).pU,Option.isSome_map]
 unfold putK storedH
 rw[e]
 by_cases q:(atKey xs k).isSome=true
 ·rw[if_pos q,if_pos q];exact r.repl k ry
 ·rw[if_neg q,if_neg q];exact Paired.snoc r ⟨rfl,hb,ry⟩
theorem KT.keeps{H H':Hp}{kvs:List (List Key×V)}{xs:List (List Key×Addr×Value)}(r:KT H kvs xs)(ht:∀ b ys,H b=some (.tup ys)→H' b=some (.tup ys)):KT H' kvs xs :=
 Paired.aaJ r fun _ _ z=>⟨z.1,ht _ _ z.2.1,z.2.2⟩
section
variable{P:Program}{w:World}{H:Hp}{h:Heap}{a:Addr}
theorem Zg{u:HO}(ok:uy P w H h)(e:Rd H a u):bW P w H h a u:=e.ok ok
theorem VR{kvs:List (Key×V)}(ok:uy P w H h)(e:Rd H a (.dK kvs)):kvs.length≤sizeLine∧(a == sysModules)=false∧∃ vs,KV kvs vs∧h.DictOf (gO P w) a vs :=
 show bW P w H h a (.dK kvs) from Zg ok e
theorem acO{kvs:List (Key×V)}(ok:uy P w H h)(e:H a=some (.dK kvs)):kvs.length≤sizeLine∧(a == sysModules)=false∧∃ vs,KV kvs vs∧h.DictOf (gO P w) a vs:=VR ok (.inl e)
theorem HB{ks:List Key}(ok:uy P w H h)(e:H a=some (.tup (ks.map kV))):(tupleKind (gO P w)).is h ks a:=by
 obtain⟨_,its,r,o,h1,h2,_,n,h3⟩:=(show bW P w H h a (.tup (ks.map kV)) from ok a _ e)
 exact⟨o,its.toArray,n,h1,h2,h3,by simpa using Fe r⟩
theorem VG{kvs:List (List Key×V)}(ok:uy P w H h)(e:Rd H a (.dT kvs)):kvs.length≤sizeLine∧(a == sysModules)=false ∧
 ∃ xs,KT H kvs xs∧h.DictOfH (tupleKind (gO P w)) a xs:=by
 obtain⟨z,y,xs,r,o,es,ep,h1,h2,h3,h4,h5⟩:=(show bW P w H h a (.dT kvs) from Zg ok e)
 refine⟨z,y,xs,r,o,es,ep,h1,h2,h3,h4,fun x hx=>?_,h5⟩
 have all:∀ {l:List (List Key×V)} {m:List (List Key×Addr×Value)},KT H l m→∀ x∈m,(tupleKind (gO P w)).is h x.1 x.2.1:=by
  intro l m q
  induction q with
  | nil=>intro x hx;exact nomatch hx
  | @cons p q ps qs hq t ih =>
   intro x hx
   rcases List.mem_cons.mp hx with e|hx
   ·subst e
    exact HB ok (by rw[← hq.1];exact hq.2.1)
   ·exact ih x hx
 exact all r x hx
theorem acN{kvs:List (List Key×V)}(ok:uy P w H h)(e:H a=some (.dT kvs)):kvs.length≤sizeLine∧(a == sysModules)=false ∧
 ∃ xs,KT H kvs xs∧h.DictOfH (tupleKind (gO P w)) a xs:=VG ok (.inl e)
end
def Dy(H:Hp)(a:Addr)(y:V)(r:Option V):Prop :=
 (∃ kvs k,Rd H a (.dK kvs)∧y=kV k∧r=u0 kvs k)∨∃ kvs k b,Rd H a (.dT kvs)∧y=.ref b∧H b=some (.tup (k.map kV))∧r=u0 kvs k
def Lp(H:Hp)(a:Addr)(y v:V)(H':Hp):Prop :=
 (∃ kvs k,H a=some (.dK kvs)∧y=kV k∧kvs.length < sizeLine∧H'=upd H a (.dK (putK kvs k v))) ∨
 ∃ kvs k b,H a=some (.dT kvs)∧y=.ref b∧H b=some (.tup (k.map kV))∧kvs.length < sizeLine∧H'=upd H a (.dT (putK kvs k v))
theorem Dy.k{H:Hp}{a:Addr}{kvs:List (Key×V)}{k:Key}(e:H a=some (.dK kvs)):Dy H a (kV k) (u0 kvs k):=.inl ⟨kvs,k,.inl e,rfl,rfl⟩
theorem Dy.t{H:Hp}{a b:Addr}{kvs:List (List Key×V)}{k:List Key}(e:H a=some (.dT kvs))(eb:H b=some (.tup (k.map kV))):Dy H a (.ref b) (u0 kvs k):=.inr ⟨kvs,k,b,.inl e,rfl,eb,rfl⟩
theorem Lp.k{H:Hp}{a:Addr}{kvs:List (Key×V)}{k:Key}{v:V}(e:H a=some (.dK kvs))(hl:kvs.length < sizeLine):Lp H a (kV k) v (upd H a (.dK (putK kvs k v))):=.inl ⟨kvs,k,e,rfl,hl,rfl⟩
theorem Lp.t{H:Hp}{a b:Addr}{kvs:List (List Key×V)}{k:List Key}{v:V}(e:H a=some (.dT kvs))(eb:H b=some (.tup (k.map kV)))(hl:kvs.length < sizeLine) :
 Lp H a (.ref b) v (upd H a (.dT (putK kvs k v))):=.inr ⟨kvs,k,b,e,rfl,eb,hl,rfl⟩
section
variable{X:Cx}{pins:List (Addr×Obj)}{σ : St}{H:Hp}{s:Shared}{a:Addr}{y v:V}{u r:Value}{o:Option V}{A:Around}{E:Value→Shared→Prop}
theorem Inv.big(I:Inv X pins σ H s):sysModules < s.heap.objs.size:=by
 have h:mainGlobals < s.heap.objs.size:=(I.mod.glob.keeps I.bk).lt
 exact Nat.lt_trans (by decide) h
theorem ad0{Q:Value→Shared→Prop}(hu:A.units+1 < cLine)(I:Inv X pins σ H s)(g:Dy H a y o)(ry:RelV y u)(h:∀ s',Inv X pins σ H s'→Q (.bool o.isSome) s') :
 wpAny (model X.prog X.w) A (compareOp .In u (.ref a)) Q E s:=by
 rcases g with ⟨kvs,k,e,ey,l⟩|⟨kvs,k,b,e,ey,eb,l⟩
 ·subst ey
  obtain⟨z,hd,vs,rel,dd⟩:=VR I.hok e
  refine wpAny_in_of (PN ry) hd dd.mapOf ?_
  rw[← (rel.val k).pU,← l]
  exact h _ (I.tok _)
 ·subst ey
  cases (show u=Value.ref b from ry)
  obtain⟨z,hd,xs,rel,dd⟩:=VG I.hok e
  refine wpAny_in_heap (tupleKind_room_in1 hu) (HB I.hok eb) hd dd ?_
  have q:=(rel.val k).pU
  rw[Option.isSome_map] at q
  rw[← q,← l]
  exact h _ (I.tok _)
theorem Yo{Q:Value→Shared→Prop}(hu:A.units+1 < cLine)(I:Inv X pins σ H s)(g:Dy H a y o)(ry:RelV y u)(h:∀ s',Inv X pins σ H s'→Q (.bool (!o.isSome)) s') :
 wpAny (model X.prog X.w) A (compareOp .NotIn u (.ref a)) Q E s:=by
 rcases g with ⟨kvs,k,e,ey,l⟩|⟨kvs,k,b,e,ey,eb,l⟩
 ·subst ey
  obtain⟨z,hd,vs,rel,dd⟩:=VR I.hok e
  refine wpAny_notIn_of (PN ry) hd dd.mapOf ?_
  rw[← (rel.val k).pU,← l]
  exact h _ (I.tok _)
 ·subst ey
  cases (show u=Value.ref b from ry)
  obtain⟨z,hd,xs,rel,dd⟩:=VG I.hok e
  refine wpAny_notIn_heap (tupleKind_room_in1 hu) (HB I.hok eb) hd dd ?_
  have q:=(rel.val k).pU
  rw[Option.isSome_map] at q
  rw[← q,← l]
  exact h _ (I.tok _)
theorem Qm{h':Heap}{t':Nat}{ob:HO}(I:Inv X pins σ H s)(mu:Mut (H a))(hs:Heap.SameBut a s.heap h')(he:∃ q,h'.get? a=some q)(new:bW X.prog X.w (upd H a ob) h' a ob) :
 Inv X pins σ (upd H a ob) { s with heap:=h',toks:=t' } :=
 I.write (x:=a) (e:=a) mu (.inl rfl) (fun b q hb z=>(hs.2 b hb).trans z) he new
theorem aa2{P:Program}{w:World}{H':Hp}{h':Heap}{kvs:List (Key×V)}{vs:List (Key×Value)}(z:kvs.length≤sizeLine)(hd:(a == sysModules)=false)(rel:KV kvs vs)(dd:h'.DictOf (gO P w) a vs) :
 bW P w H' h' a (.dK kvs):=⟨z,hd,vs,rel,dd⟩
theorem RP{H':Hp}{Q:Unit→Shared→Prop}(hu:A.units+1 < cLine)(I:Inv X pins σ H s)(g:Lp H a y v H')(ry:RelV y u)(rv:RelV v r)(h:∀ s',Inv X pins σ H' s'→Q () s') :
 wpAny (model X.prog X.w) A (setItem (.ref a) u r) Q E s:=by
 rcases g with ⟨kvs,k,e,ey,l,eH⟩|⟨kvs,k,b,e,ey,eb,l,eH⟩
 ·subst ey eH
  obtain⟨z,hd,vs,rel,dd⟩:=acO I.hok e
  have hz:vs.length≤sizeLine:=by rw[← rel.length];exact z
  have hl:(putK kvs k v).length≤sizeLine:=by have:=yK kvs k v;omega
  refine wpAny_setItem_pairs (hsz:=hz) (PN ry) dd fun h' dd' hs=>h _ ?_
  have he:∃ q,h'.get? a=some q:=let ⟨q,_,_,hq,_⟩:=dd';⟨q,hq⟩
  exact Qm I (by rw[e];exact True.intro) hs he (aa2 hl hd (rel.put k rv) dd')
 ·subst ey eH
  cases (show u=Value.ref b from ry)
  obtain⟨z,hd,xs,rel,dd⟩:=acN I.hok e
  have hz:xs.length≤sizeLine:=by rw[← Paired.length rel];exact z
  have hl:(putK kvs k v).length≤sizeLine:=by have:=yK kvs k v;omega
  refine wpAny_setItem_heap (hsz:=hz) (tupleKind_room_in1 hu) (HB I.hok eb) dd fun h' dd' hs=>h _ ?_
  obtain⟨q,es,ep,hq,h2,h3,h4,_,h5⟩:=dd'
  refine Qm I (by rw[e];exact True.intro) hs ⟨q,hq⟩ ⟨hl,hd,_,(rel.put k eb rv).keeps fun c ys ec=>?_,q,es,ep,hq,h2,h3,h4,h5⟩
  rw[aF (aco ec e (fun z=>nomatch z))]
  exact ec
end
def abI(ty td:TE):TE:=fun σ H Q=>ty σ H fun y H1=>td σ H1 fun x H2=>∃ a o,x=.ref a∧Dy H2 a y o∧Q (.bl o.isSome) H2
def OD(ty td:TE):TE:=fun σ H Q=>ty σ H fun y H1=>td σ H1 fun x H2=>∃ a o,x=.ref a∧Dy H2 a y o∧Q (.bl (!o.isSome)) H2
def gK(td ty tv:TE):TS:=fun D σ H=>tv σ H fun v H1=>td σ H1 fun x H2=>ty σ H2 fun y H3=>∃ a H4,x=.ref a∧Lp H3 a y v H4∧D.nx σ H4
section
variable{X:Cx}{o i e value:Expr}{pos pos' tpos:Pos}{td ty tv:TE}
theorem sO(hu:X.A.units+1 < cLine)(hi:PE X i ty)(ho:PE X o td):PC X .In i o (abI ty td):=by
 intro pins s σ H Q I h
 refine eU (hi pins s σ H _ I h) fun iv s1 ⟨y,H1,I1,ry,q1⟩=>eU (ho pins s1 σ H1 _ I1 q1) fun u s2 ⟨x,H2,I2,rx,a,ov,ex,g,q2⟩=>?_
 subst ex
 obtain rfl:u=Value.ref a:=rx
 exact ad0 hu I2 g ry fun s3 I3=>⟨.bl ov.isSome,H2,I3,rfl,q2⟩
theorem xU(hu:X.A.units+1 < cLine)(hi:PE X i ty)(ho:PE X o td):PC X .NotIn i o (OD ty td):=by
 intro pins s σ H Q I h
 refine eU (hi pins s σ H _ I h) fun iv s1 ⟨y,H1,I1,ry,q1⟩=>eU (ho pins s1 σ H1 _ I1 q1) fun u s2 ⟨x,H2,I2,rx,a,ov,ex,g,q2⟩=>?_
 subst ex
 obtain rfl:u=Value.ref a:=rx
 exact Yo hu I2 g ry fun s3 I3=>⟨.bl (!ov.isSome),H2,I3,rfl,q2⟩
theorem uc(hu:X.A.units+1 < cLine)(ho:PE X o td)(hi:PE X i ty)(hv:PE X value tv)(hs:swapsWith value (some (.Subscript o i pos')) pos.line X.env=pure false) :
 PS X (.Assign [.Subscript o i pos'] value pos) (gK td ty tv):=by
 intro pins s σ H D I h
 refine wpAny_Assign_Subscript (eU (hv pins s σ H _ I h) fun r s1 ⟨v,H1,I1,rv,q1⟩=>eU (ho pins s1 σ H1 _ I1 q1) fun u s2 ⟨x,H2,I2,rx,q2⟩=>eU (hi pins s2 σ H2 _ I2 q2) fun iv s3 ⟨y,H3,I3,ry,a,H4,ex,g,q3⟩=>?_) hs
 subst ex
 obtain rfl:u=Value.ref a:=rx
 exact RP hu I3 g ry rv fun s4 I4=>⟨σ,H4,I4,q3⟩
end
theorem VV{P:Program}{w:World}{H:Hp}(h:Heap)(hb:sysModules < h.objs.size):bW P w H (h.push { cls:=.type "dict", data:=.dict #[] }) h.objs.size (.dK []) :=
 ⟨Nat.zero_le _,beq_eq_false_iff_ne.mpr (Ne.symm (Nat.ne_of_lt hb)),[],.nil,Heap.DictOf.new h⟩
theorem VH{P:Program}{w:World}{H:Hp}(h:Heap)(hb:sysModules < h.objs.size):bW P w H (h.push { cls:=.type "dict", data:=.dict #[] }) h.objs.size (.dT []) :=
 ⟨Nat.zero_le _,beq_eq_false_iff_ne.mpr (Ne.symm (Nat.ne_of_lt hb)),[],.nil,_,#[],0,Heap.get?_push_size _ rfl,⟨rfl,rfl,rfl⟩,rfl,rfl,List.nodup_nil⟩
def Tq:TE:=fun _ H Q=>∀ p,H p=none→Q (.ref p) (upd H p (.dK []))
def Tp:TE:=fun _ H Q=>∀ p,H p=none→Q (.ref p) (upd H p (.dT []))
section
variable{X:Cx}{pos:Pos}
theorem Ur:PE X (.Dict [] [] pos) Tq:=fun pins s σ H Q I h =>
 wpAny_Dict_empty ⟨.ref s.heap.objs.size,_,I.laid (a:=s.heap.objs.size) (o:=.dK []) (t':=s.toks) (fun _ _ q=>Heap.get?_push_of_some _ q) (Nat.le_refl _) (VV s.heap I.big),rfl,h _ (I.hok.fresh (Nat.le_refl _))⟩
theorem Bk:PE X (.Dict [] [] pos) Tp:=fun pins s σ H Q I h =>
 wpAny_Dict_empty ⟨.ref s.heap.objs.size,_,I.laid (a:=s.heap.objs.size) (o:=.dT []) (t':=s.toks) (fun _ _ q=>Heap.get?_push_of_some _ q) (Nat.le_refl _) (VH s.heap I.big),rfl,h _ (I.hok.fresh (Nat.le_refl _))⟩
end
end L2
namespace Att
open PySem PySem.W PySem.Calls PyProof.Rows
theorem zy{P:Params}{h:Heap}:∀ (ns:List Int) (vs:List Value),WellAll P h vs (ns.map WData.int)→IntsAre vs ns:=by
 intro ns
 induction ns with
 | nil =>
  intro vs w
  rw[List.map_nil] at w
  cases w
  exact .nil
 | cons n ns ih =>
  intro vs w
  rw[List.map_cons] at w
  cases w with
  | cons a b =>
   cases a
   exact .cons _ _ (ih _ b)
theorem QX{l:OpenLaw}{n:Nat}(hn:l.most=some n){P:Params}{h:Heap}{args:List WData}{vals:List Value}
 (hpre:l.row.toRowW.claim.pre args=true) (hwl:WellAll P h vals args) :
 ∃ a vs ns,vals=[Value.ref a]∧args=[WData.list (ns.map WData.int)]∧h.get? a=some { cls:=.type "list", data:=.seq vs.toArray }∧IntsAre vs ns∧ns.length≤n:=by
 have hsh:WShape.hasAll [] args [.list .int]=true:=(pre_splitW hpre).1
 have hc:l.pre.holds [] { args:=args }=true:=(pre_splitW hpre).2
 obtain⟨d,r,rfl,h1,h2⟩:=hasAllW_cons hsh
 obtain rfl:=hasAllW_nil h2
 obtain⟨xs,rfl,h3⟩:=hasW_list h1
 obtain⟨ns,rfl⟩:=items_int h3
 have hlen:ns.length≤n:=by
  unfold OpenLaw.pre at hc
  have h4:(WTm.not (.lt (.lit (.int (n:Int))) (.len (.arg 0)))).holds [] { args:=[.list (ns.map .int)] }=true:=by
   have h4:=(holds_andW hc).1
   rw[hn] at h4
   exact h4
  have h5:=condW_of h4 (w_not (w_lt w_lit (w_len_list (w_arg rfl))))
  rw[List.length_map] at h5
  refine Nat.le_of_not_lt fun q=>?_
  have q':(n:Int) < ((ns.length:Nat):Int):=by omega
  first
   | (rw[decide_eq_true q'] at h5;exact absurd h5 (by decide))
   | (simp at h5;omega)
 cases hwl with
 | cons w1 w2 =>
  cases w2
  cases w1 with
  | list ho hall=>exact⟨_,_,ns,rfl,rfl,ho,zy ns _ hall,hlen⟩
theorem Q4(l:OpenLaw)(args:List WData):l.row.toRowW.claim.post args (.bool true) args=true :=
 postW_of (r:=l.row.toRowW) (X:=(true == true))
  (show WShape.has [] (.bool true) .bool=true by first|rfl|decide|simp[WShape.has,WShape.arms,WShape.armsAll])
  (show (WTm.eq .res (.lit (.bool true))).value [] { args:=args,res:=some (.bool true),after:=args }=some (.bool (true == true)) from w_eq_bool (w_res rfl) w_lit) rfl
theorem La{l:OpenLaw}{n:Nat}{q:Program}{loose:List Str}{XP:(Str→Option Value)→Heap→Prop}{YP:World→Heap→Prop}{d:DefRec}
 (hn:l.most=some n) (hdf:d.params.defaults=[])
 (call:∀ (w:World) (s₀ s₁:Shared) (mg mb:Str→Option Value) (fa:Addr) (o:Obj) (pm cd doc:Value) (a:Addr) (vs:List Value) (ns:List Int),
  Ground q loose [] XP w s₀ mg mb s₁.heap→YP w s₁.heap →
  s₁.heap.get? fa=some o→o.data=.func (docDef d.name d.params d.body d.scope pm cd doc)→s₁.heap.CodeRec cd d.name→mg d.name=some (.ref fa) →
  s₁.heap.get? a=some { cls:=.type "list", data:=.seq vs.toArray }→IntsAre vs ns→ns.length≤n→s₁.gens = #[] →
  codeAny (model l.prog w) callerA (.call (.ref fa) ⟨[.ref a],[]⟩) (fun r s'=>r=.ok (.ret (.bool true))∧OldK s₁.heap s'.heap∧s'.os=s₁.os∧AllBare s'.gens) s₁) :
 WalkO q loose XP YP l.row.toRowW d [] (fun f vs=>PySem.call f vs):=by
 intro w s₀ s₁ mg mb G Y fa o pm cd doc dV kV ho hd hcd hD hmg hg args vals as hpre hlay hrd hwl hlo
 obtain rfl:dV=.none:=Dflts.none hD hdf
 obtain rfl:kV=.none:=Dflts.noKw hD
 obtain⟨a,vs,ns,rfl,rfl,hobj,hints,hlen⟩:=QX hn hpre hwl
 refine enter_call (codeAny_mono (call w s₀ s₁ mg mb fa o pm cd doc a vs ns G Y ho (fd_plain hd) hcd hmg hobj hints hlen hg) fun r s' hq=>?_)
 obtain⟨rfl,h2,h3,h4⟩:=hq
 exact⟨.inl ⟨.bool true,.bool true,[],rfl,fun _=>rfl,.bool true,Q4 l _,fun _=>⟨List.Pairwise.nil,fun _ hm=>(nomatch hm)⟩⟩,h2,h3,h4⟩
end Att
namespace L2
open PySem PySem.Spec PyProof.Rows
theorem Ej:∀ {vs:List Value} {ns:List Int},IntsAre vs ns→Vals (ns.map V.int) vs
 | _,_,.nil=>.nil
 | _,_,.cons n t h=>.cons ⟨t,rfl⟩ (Ej h)
end L2
namespace L2
open PySem PySem.Spec PyProof.Rows
end L2
namespace L2
open PySem PySem.Spec PyProof.Rows
def mW(s:Stmt):Arguments:=match s with
 | .FunctionDef _ a _ _ _ _ _ _ _ _=>a
 | _=>{ posonlyargs:=[],args:=[],vararg:=none,kwonlyargs:=[],kw_defaults:=[],kwarg:=none,defaults:=[] }
def jV(s:Stmt):List Stmt:=match s with
 | .FunctionDef _ _ b _ _ _ _ _ _ _=>b
 | _=>[]
def aW(s:Stmt):Scope:=match s with
 | .FunctionDef _ _ _ _ _ _ sc _ _ _=>sc
 | _=>{ kind:=.function,names:=[],isGenerator:=false,isCoroutine:=false }
abbrev cD:Lr:=fun _ _ _ _ _ _=>False
abbrev E0:XK:=fun _ _ _=>False
theorem bA{X:Cx}:IV cD X E0:=fun _ _ _ _ _ _ _ h=>h.elim
structure oV(K:PySem.W.Frag)(x qual:Str)(st:Stmt)(f:Addr)(fd:FuncData):Prop where
 ex:∃ (oc:Value) (od:Option Addr) (kV doc pm:Value) (an:Option Addr) (cdv ct:Value) (osl:Array (Option Value)),
  fd=PySem.W.fnOf x qual (mW st) (jV st) (aW st) .none kV doc pm an cdv ct∧K.lookup f=some ⟨oc,od,.func fd,osl⟩∧PySem.W.codeIn K cdv qual=true
 kp:PySem.W.keepIn K (.ref f)=true
section
variable{P:Program}{w:World}{K:PySem.W.Frag}{mg:Str→Option Value}{base:Heap}
theorem oV.ok{x qual:Str}{st:Stmt}{f:Addr}{fd:FuncData}{N ps:List Str}{k:Nat}{sp:Sp}(F:oV K x qual st f fd)(S:bB N ps (aW st))(len:∀ vs H Q E,sp vs H Q E→vs.length=ps.length)
 (hbody:∀ (cdv:Value) (A:Around) (outer:List Env) (s:Shared) (H:Hp) (vs:List V) (Q:VK) (E:XK),lC k (A.deeper (envOfC qual (aW st) s.heap.objs.size f cdv))→sp vs H Q E →
  ∃ t,QJ (NK cD P w K mg base N qual (aW st) f cdv A outer s H E).nox (jV st) t∧t { nx:=fun _ H'=>Q .non H',rt:=Q } (start N vs) H):cW P w K mg base cD (k+1) f fd ps sp:=by
 obtain⟨oc,od,kV,doc,pm,an,cdv,ct,osl,rfl,lk,hcd⟩:=F.ex
 refine ZK lk hcd S len fun A outer s H vs Q E hr hsp=>?_
 obtain⟨t,h,q⟩:=hbody cdv A outer s H vs Q E hr hsp
 exact⟨t,h.nox,q⟩
theorem oV.binds{x qual:Str}{st:Stmt}{f:Addr}{fd:FuncData}{ps:List Str}(F:oV K x qual st f fd)
 (h:∀ (kV doc pm:Value) (an:Option Addr) (cdv ct:Value) (us:List Value),us.length=ps.length→bindArgs (PySem.W.fnOf x qual (mW st) (jV st) (aW st) .none kV doc pm an cdv ct) ⟨us,[]⟩=pure (ps.zip us)):Binds K fd ps []:=by
 obtain⟨oc,od,kV,doc,pm,an,cdv,ct,osl,rfl,lk,hcd⟩:=F.ex
 exact .all (h kV doc pm an cdv ct)
theorem VB{x qual:Str}{st:Stmt}{f:Addr}{oc:Value}{od an:Option Addr}{osl:Array (Option Value)}{kV doc pm cdv ct:Value}(l:K.lookup f=some ⟨oc,od,.func (PySem.W.fnOf x qual (mW st) (jV st) (aW st) .none kV doc pm an cdv ct),osl⟩)
 (c:PySem.W.codeIn K cdv qual=true) (k:PySem.W.keepIn K (.ref f)=true):oV K x qual st f (PySem.W.fnOf x qual (mW st) (jV st) (aW st) .none kV doc pm an cdv ct):=⟨⟨oc,od,kV,doc,pm,an,cdv,ct,osl,rfl,l,c⟩,k⟩
end
theorem dC{A:Around}{k:Nat}(hr:lC k A):A.units+1 < cLine:=Nat.lt_of_le_of_lt (Nat.add_le_add_left (by decide:1≤64) _) hr.units
section
variable{X:Cx}
theorem pv(i:Nat){x:Str}{pos:Pos}(hN:X.N[i]? = some x:=by rfl)(hv:Vis X.env.scope x:=by first|exact Or.inl rfl|exact Or.inr (Or.inl rfl)|exact Or.inr (Or.inr rfl))(hd:(x == ("__debug__" : Str))=false:=by decide)
 (hcd:(x == ("__classdict__" : Str))=false:=by decide):PE X (.Name x pos) (pA i):=aav hN hv hd hcd
end
theorem HH{A B:Prop}(h:B):if false=true then A else B:=by
 rw[if_neg Bool.false_ne_true]
 exact h
theorem HF{A B:Prop}(h:A):if true=true then A else B:=by
 rw[if_pos rfl]
 exact h
def gR(H H':Hp):Prop:=∀ b o,H b=some o→H' b=some o
theorem gR.refl(H:Hp):gR H H:=fun _ _ h=>h
theorem gR.trans{H H1 H2:Hp}(a:gR H H1)(b:gR H1 H2):gR H H2:=fun c o h=>b c o (a c o h)
theorem gR.free{H H':Hp}(e:gR H H'){l:Addr}(h:H' l=Option.none):H l=Option.none:=by
 cases q:H l with
 | none=>rfl
 | some o =>
  rw[e l o q] at h
  cases h
end L2
namespace L2
open PySem PySem.Spec PyProof.Rows
section
variable{prog:Program}{w:World}{A:Around}{R:Result→Shared→Prop}{s:Shared}
theorem Ih{elt target iter:Expr}{ifs:List Expr}{scope:Scope}{pos:Pos}{it acc:Value}{env:Env}(I:Nat→Shared→Prop)
 (turn:∀ n s,I n s→wpAny (model prog w) A (pyNext it) (fun r s₁=>match r with
  | none=>R (.ok .next) s₁
  | some v=>wpAny (model prog w) A (letOwnedTupleGo target it v) (fun _ s₂=>wpAny (model prog w) A (assign target env v) (fun _ s₃ =>
   wpAny (model prog w) A (forIn ifs true fun c r=>if r=true then do let ok ← isTrue c env (eval c env);pure (ForInStep.yield ok) else pure (ForInStep.yield r)) (fun ok s₄ =>
    if ok=true then wpAny (model prog w) A (eval elt env) (fun x s₅ =>
     wpAny (model prog w) A (call (.builtin "list.append") [acc,x]) (fun _ s₆=>∃ m,m < n∧I m s₆) (fun _ _=>False) s₅) (fun _ _=>False) s₄
    else ∃ m,m < n∧I m s₄) (fun _ _=>False) s₃) (fun _ _=>False) s₂) (fun _ _=>False) s₁) (fun _ _=>False) s)
 (n:Nat) (h:I n s) :
 codeAny (model prog w) A (.compLoop (.ListComp elt [⟨target,iter,ifs,0⟩] scope pos) 0 it acc env) R s:=by
 refine codeAny_loop rfl I (fun n s hI=>?_) n h
 show wpAny _ A ((compTurn (.ListComp elt [⟨target,iter,ifs,0⟩] scope pos) 0 it acc env).onRaise (fun x=>do noteFrame x env;theTreesLotGoes x)) _ _ s
 refine wpAny_noted (wpAny_mono (E:=fun _ _=>False) ?_ (fun _ _ q=>q) fun _ _ q=>q.elim)
 rw[compTurn_list]
 refine wpAny_bind (wpAny_standAt (wpAny_bind (eU (turn n s hI) fun r s₁ h₁=>?_)))
 cases r with
 | none=>exact wpAny_pure h₁
 | some v =>
  refine wpAny_bind (eU h₁ fun _ s₂ h₂=>wpAny_bind (eU h₂ fun _ s₃ h₃=>wpAny_bind (eU h₃ fun ok s₄ h₄=>?_)))
  cases ok with
  | false=>exact wpAny_pure ⟨rfl,h₄⟩
  | true=>exact wpAny_bind (wpAny_bind (eU h₄ fun x s₅ h₅=>wpAny_bind (eU h₅ fun _ s₆ h₆=>wpAny_pure (wpAny_pure ⟨rfl,h₆⟩))))
end
theorem uy.track{P:Program}{w:World}{H:Hp}{h:Heap}{a:Addr}{o:HO}(x:uy P w H h)(hn:H a=none)(new:bW P w (upd H a o) h a o):uy P w (upd H a o) h:=fun b u e=>by
 by_cases hb:b=a
 ·subst hb;rw[aV] at e;cases e;exact new
 ·rw[aF hb] at e
  exact(x b u e).stay (fun c v _ q=>q) (fun c q=>by rw[aF (aX q hn)];exact q) fun c xs q=>by rw[aF (aX q hn)];exact q
theorem lookup_mem{α : Type}:∀ {l:List (Str×α)} {x:Str} {k:α},l.lookup x=some k→(x,k)∈l
 | [],_,_,h=>by simp at h
 | (n,k')::r,x,k,h=>by
  rw[List.lookup_cons] at h
  cases hx:x == n with
  | true =>
   rw[hx] at h
   have:x=n:=by simpa using hx
   cases h;subst this;exact List.mem_cons_self
  | false=>rw[hx] at h;exact List.mem_cons_of_mem _ (lookup_mem h)
theorem jR{env:Env}:∀ {names:List (Str×NameKind)} {x:Str} {k:NameKind},
 (names.map fun (n,k)=>if (k == NameKind.free && env.scope.kind == .function && env.kindOf n == some .cell) then (n,NameKind.cell) else (n,k)).lookup x=some k →
 ∃ k',names.lookup x=some k'∧(k=k'∨(k'=.free∧k=.cell))
 | [],_,_,h=>by simp at h
 | (n,k0)::r,x,k,h=>by
  have ih:=@jR env r x k
  have h':List.lookup x ((if (k0 == NameKind.free && env.scope.kind == .function && env.kindOf n == some .cell)=true then (n,NameKind.cell) else (n,k0)) ::
   (r.map fun (n,k)=>if (k == NameKind.free && env.scope.kind == .function && env.kindOf n == some .cell) then (n,NameKind.cell) else (n,k)))=some k:=h
  by_cases hc:(k0 == NameKind.free && env.scope.kind == .function && env.kindOf n == some .cell)=true
  ·rw[if_pos hc,List.lookup_cons] at h'
   rw[List.lookup_cons]
   cases hx:x == n with
   | true =>
    rw[hx] at h';cases h'
    simp only[Bool.and_eq_true] at hc
    exact⟨k0,rfl,.inr ⟨by simpa using hc.1.1,rfl⟩⟩
   | false=>rw[hx] at h';exact ih h'
  ·rw[if_neg hc,List.lookup_cons] at h'
   rw[List.lookup_cons]
   cases hx:x == n with
   | true=>rw[hx] at h';cases h';exact⟨_,rfl,.inl rfl⟩
   | false=>rw[hx] at h';exact ih h'
theorem vG{env:Env}{f:(Str×NameKind)→List (Str×Addr)→Sem (ForInStep (List (Str×Addr)))}
 (hf:∀ n k r,f (n,k) r=if (k == NameKind.free)=true then (cellOf env n >>= fun a=>pure (ForInStep.yield ((n,a)::r))) else pure (ForInStep.yield r)) :
 ∀ (names:List (Str×NameKind)) (acc:List (Str×Addr)),(∀ y∈names,y.2=.free→∃ c,env.cells.lookup y.1=some c)→(∀ x c,acc.lookup x=some c→env.cells.lookup x=some c) →
  ∃ cl,forIn names acc f=pure cl∧(∀ x c,cl.lookup x=some c→env.cells.lookup x=some c)∧(∀ x,(∃ c,acc.lookup x=some c)→∃ c,cl.lookup x=some c)∧∀ x,(x,NameKind.free)∈names→∃ c,cl.lookup x=some c
 | [],acc,_,hacc=>⟨acc,rfl,hacc,fun _ h=>h,fun _ h=>by simp at h⟩
 | (n,k)::r,acc,hn,hacc=>by
  have hr:∀ y∈r,y.2=.free→∃ c,env.cells.lookup y.1=some c:=fun y hy=>hn y (List.mem_cons_of_mem _ hy)
  by_cases hk:(k == NameKind.free)=true
  ·have hk':k=.free:=by simpa using hk
   obtain⟨c,hc⟩:=hn (n,k) List.mem_cons_self hk'
   obtain⟨cl,e,h1,h2,h3⟩:=vG hf r ((n,c)::acc) hr (fun x c' h=>by
    rw[List.lookup_cons] at h
    cases hx:x == n with
    | true => rw [hx] at h; cases h; have : x = n := by simpa using hx
              subst this;exact hc
    | false=>rw[hx] at h;exact hacc x c' h)
   refine⟨cl,?_,h1,fun x ⟨c',hx⟩=>h2 x ?_,fun x hx=>?_⟩
   ·rw[List.forIn_cons,hf,if_pos hk]
    have:cellOf env n=pure c:=by unfold cellOf;rw[hc]
    rw[this]
    exact e
   ·rw[List.lookup_cons]
    cases x == n with
    | true=>exact⟨_,rfl⟩
    | false=>exact⟨c',hx⟩
   ·rcases List.mem_cons.mp hx with e|hx
    ·cases e
     exact h2 _ ⟨c,by rw[List.lookup_cons];simp⟩
    ·exact h3 x hx
  ·obtain⟨cl,e,h1,h2,h3⟩:=vG hf r acc hr hacc
   refine⟨cl,?_,h1,h2,fun x hx=>?_⟩
   ·rw[List.forIn_cons,hf,if_neg hk]
    exact e
   ·rcases List.mem_cons.mp hx with e|hx
    ·cases e
     exact absurd rfl hk
    ·exact h3 x hx
theorem Yv{sc:Scope}{env:Env}(h:∀ y∈sc.names,y.2=.free→∃ c,env.cells.lookup y.1=some c) :
 ∃ cl,closureFor sc env=pure cl∧(∀ x c,cl.lookup x=some c→env.cells.lookup x=some c)∧∀ x,(x,NameKind.free)∈sc.names→∃ c,cl.lookup x=some c:=by
 obtain⟨cl,e,h1,_,h3⟩:=vG (env:=env) (f:=fun x r=>match x with|(name,kind)=>if (kind == NameKind.free)=true then (cellOf env name >>= fun a=>pure (ForInStep.yield ((name,a)::r))) else pure (ForInStep.yield r))
  (fun n k r=>rfl) sc.names [] h (fun _ _ h=>by simp at h)
 refine⟨cl,?_,h1,h3⟩
 unfold closureFor
 refine Eq.trans ?_ e
 exact bind_pure _
def pick(ρ : List (Option Nat))(σ : St):St:=ρ.map fun o=>o.bind fun j=>(σ[j]?).join
def Fg(X:Cx)(N':List Str)(sc:Scope)(cl:List (Str×Addr))(C:Addr)(s:Shared)(H:Hp)(fp:List Addr):Cx :=
 { X with N:=N',s₀:=s,H₀:=H,env:=compEnvC sc cl C X.env,outer:=X.stack,ex:=fp,fn:=fun _=>false,xe:=fun _ _=>False }
structure cH(X:Cx)(N':List Str)(ρ : List (Option Nat))(sc:Scope):Prop where
 kind:sc.kind=.function
 Bt:∀ y∈sc.names,y.2≠.cell
 names:∀ y∈sc.names,y.2=.local→sc.names.lookup y.1=some .local
 free:∀ y∈sc.names,y.2=.free→(X.env.kindOf y.1=some .cell∨X.env.kindOf y.1=some .free)
 len:ρ.length=N'.length
 ix:∀ (i j:Nat),ρ[i]? = some (some j)→∃ x,N'[i]? = some x∧X.N[j]? = some x∧sc.names.lookup x=some .free
def PTs(X:Cx)(ifs:List Expr)(t:TT):Prop :=
 ∀ (pins:List (Addr×Obj)) (s:Shared) (σ : St) (H:Hp) (Q:Bool→Hp→Prop),Inv X pins σ H s→t σ H Q →
  wpAny (model X.prog X.w) X.A (forIn ifs true fun c r=>if r=true then do let ok ← isTrue c X.env (eval c X.env);pure (ForInStep.yield ok) else pure (ForInStep.yield r)) (TP X pins σ Q) X.xe s
def abz:TT:=fun _ H Q=>Q true H
theorem d8{X:Cx}:PTs X [] abz:=fun _ _ _ H _ I h=>wpAny_tests_nil ⟨H,I,h⟩
theorem qF{X:Cx}{c:Expr}{t:TT}(h:PT X c t):PTs X [c] t:=fun pins s σ H Q I hw=>wpAny_tests_one (h pins s σ H Q I hw)
def Lj(ρ : List (Option Nat))(g:TG):Prop:=∀ v σ H Q,g v σ H Q→g v σ H fun σ2 H2=>(σ2.length = σ.length∧∀ (i j:Nat),ρ[i]? = some (some j)→σ2[i]? = σ[i]?)∧Q σ2 H2
def I9(ρ : List (Option Nat))(g:SJ):Prop:=∀ v σ H Q,g v σ H Q→g v σ H fun σ2 H2=>(σ2.length = σ.length∧∀ (i j:Nat),ρ[i]? = some (some j)→σ2[i]? = σ[i]?)∧Q σ2 H2
theorem eQ{ρ : List (Option Nat)}{i:Nat}(h:ρ[i]? = some none):Lj ρ (pX i):=fun v σ H Q q=>by
 refine⟨⟨List.length_set,fun k j e=>?_⟩,q⟩
 have:i≠k:=by intro z;subst z;rw[h] at e;cases e
 rw[List.getElem?_set_ne this]
theorem tD{ρ : List (Option Nat)}:I9 ρ Vz:=fun v σ H Q ⟨e,q⟩=>⟨e,⟨rfl,fun _ _ _=>rfl⟩,q⟩
theorem dD{ρ : List (Option Nat)}{i:Nat}{u:SJ}(h:ρ[i]? = some none)(hu:I9 ρ u)(mu:∀ v σ H Q Q',(∀ a b,Q a b→Q' a b)→u v σ H Q→u v σ H Q'):I9 ρ (Ko (pX i) u):=fun vs σ H Q ⟨v,r,e,q⟩=>by
 refine⟨v,r,e,?_⟩
 refine mu _ _ _ _ _ (fun a b ⟨⟨l,k⟩,z⟩=>⟨⟨l.trans List.length_set,fun i' j' e'=>(k i' j' e').trans ?_⟩,z⟩) (hu _ _ _ _ q)
 have:i≠i':=by intro z;subst z;rw[h] at e';cases e'
 rw[List.getElem?_set_ne this]
theorem iB:∀ v σ H Q Q',(∀ a b,Q a b→Q' a b)→Vz v σ H Q→Vz v σ H Q':=fun _ _ _ _ _ m ⟨e,q⟩=>⟨e,m _ _ q⟩
theorem lH{i:Nat}{u:SJ}(mu:∀ v σ H Q Q',(∀ a b,Q a b→Q' a b)→u v σ H Q→u v σ H Q'):∀ v σ H Q Q',(∀ a b,Q a b→Q' a b)→Ko (pX i) u v σ H Q→Ko (pX i) u v σ H Q' :=
 fun _ _ _ _ _ m ⟨v,r,e,q⟩=>⟨v,r,e,mu _ _ _ _ _ m q⟩
theorem tu{ρ : List (Option Nat)}{K:PySem.W.Frag}{n:Nat}{u:SJ}(hu:I9 ρ u):Lj ρ (aaY K n u):=fun v σ H Q ⟨a,xs,e,hq,hl,q⟩=>⟨a,xs,e,hq,hl,hu _ _ _ _ q⟩
def ac8(J:It)(ρ : List (Option Nat))(g:TG)(tc:TT)(te:TE)(σ : St)(H1:Hp)(Q:VK):Prop:=∃ W:Nat→Nat→List V→Hp→Prop,(∃ m,W 0 m [] H1)∧∀ i m acc H,W i m acc H →
 (J.stop i H∧∀ p,H p=none→Q (.ref p) (upd H p (.lst acc))) ∨
 (J.go i H∧acc.length < sizeLine∧∃ N:List V→Hp→Prop,(∀ acc' H',N acc' H'→∃ m',m' < m∧W (i+1) m' acc' H') ∧
  ∀ x H',J.yld i H x H'→g x (pick ρ σ) H' fun σ2 H2=>tc σ2 H2 fun b H3=>if b=true then te σ2 H3 fun y H4=>N (acc++[y]) H4 else N acc H3)
def OJ(wi:TI)(ρ : List (Option Nat))(g:TG)(tc:TT)(te:TE):TE:=fun σ H Q=>wi σ H fun J H1=>ac8 J ρ g tc te σ H1 Q
section
variable{X:Cx}{elt tg iter:Expr}{ifs:List Expr}{sc:Scope}{pos cpos:Pos}{N':List Str}{ρ : List (Option Nat)}{wi:TI}{g:TG}{tc:TT}{te:TE}
theorem Fi(hcalm:X.calm=true)(S:cH X N' ρ sc)(hi:PI X tg iter wi)
 (hg:∀ cl C s H fp,PG (Fg X N' sc cl C s H fp) tg g) (gk:Lj ρ g) (hc:∀ cl C s H fp,PTs (Fg X N' sc cl C s H fp) ifs tc) (he:∀ cl C s H fp,PE (Fg X N' sc cl C s H fp) elt te)
 (hs:∀ x,foldedSetIterable iter X.env x=pure x)
 (use:Option (Value→Sem Unit)) {R:Value→Shared→Prop} {pins:List (Addr×Obj)} {s:Shared} {σ : St} {H:Hp} {Q:VK} (I:Inv X pins σ H s) (h:OJ wi ρ g tc te σ H Q)
 (hR:∀ s' D C H',Inv X pins σ H' s'→Q (.ref D) H'→(∃ m,s'.heap.Ns C m)→ql X pins H' C→compPost (model X.prog X.w) X.A X.xe use R (.ref D) C (.ok .next) s') :
 wpAny (model X.prog X.w) X.A (comprehension (.ListComp elt [⟨tg,iter,ifs,0⟩] sc pos) sc X.env cpos (newList []) false (eval iter X.env) use) R X.xe s:=by
 obtain⟨cl,hcl,hsub,hall⟩:=Yv (sc:=sc) (env:=X.env) fun y hy hf=>I.ok.has y.1 (S.free y hy hf)
 refine wpAny_comprehension_free rfl hs hcl S.kind S.names (eU (hi pins s σ H _ I h) fun v s1 h1=>eU h1 fun itv s2 h2=>?_)
 obtain⟨it,fp,tn,J,H2,e,I2,T,st2,f2,W,⟨m0,w0⟩,turn⟩:=h2
 subst e
 refine wpAny_newList (items:=[]) ?_
 refine wpAny_newFunctionEnv S.Bt (by intro y hy;simp at hy) (fun h₁ hns hsb=>?_) S.kind
 dsimp only at hns hsb ⊢
 generalize hH2:s2.heap.push { cls:=.type "list", data:=.seq ([]:List Value).toArray }=Hh at hns hsb ⊢
 have hCs:Hh.objs.size=s2.heap.objs.size+1:=by rw[← hH2,Heap.size_push]
 generalize hD:s2.heap.objs.size=D at *
 generalize hCC:Hh.objs.size=C at *
 have hDC:D≠C:=by omega
 have ltC:∀ b:Nat,b < s2.heap.objs.size→b≠C∧b≠D∧b < D:=fun b h=>by omega
 have ltD:∀ b:Nat,b < D→b≠C∧b≠D:=fun b h=>by omega
 have old:∀ b o,s2.heap.get? b=some o→h₁.get? b=some o:=fun b o e=>hsb.extBut b o (ltC b (Heap.lt_size e)).1 (Heap.get?_push_of_some _ (by rw[← hH2];exact Heap.get?_push_of_some _ e))
 have newD:h₁.get? D=some { cls:=.type "list", data:=.seq ([]:List Value).toArray }:=hsb.extBut _ _ hDC (Heap.get?_push_of_some _ (by rw[← hH2,← hD];exact Heap.get?_push_size _ rfl))
 have ltb:∀ b∈fp,b < D:=fun b hb=>by
  obtain⟨o,e,_⟩:=T.obj _ _ st2 b hb
  exact(ltC b (Heap.lt_size e)).2.2
 have fD:ql X pins H2 D:=I2.vD (by omega) (I2.hok.fresh (by omega))
 have fC:ql X pins H2 C:=I2.vD (by omega) (I2.hok.fresh (by omega))
 have nst:∀ b,b≠X.env.locals→b∉X.fs→b∉frs X.stack:=fun b h1 h2 hb=>by
  rcases List.mem_cons.mp (I2.GK b hb) with e|e
  ·exact h1 e
  ·exact h2 e
 have ok':(Fg X N' sc cl C s2 H2 fp).Ok:=by
  refine⟨I2.ok.mod,S.kind,I2.ok.glob,I2.ok.blt,(by show s2.heap.objs.size≤C;omega),fun x y c e1 e2=>I2.ok.inj x y c (hsub _ _ e1) (hsub _ _ e2),fun x hx=>?_,fun x c z=>(by cases z),I2.ok.hd,I2.ok.frames,.inl rfl,
   fun b hb=>⟨(ltD b (ltb b hb)).1,fun x c e=>(f2 b hb).2.2.2.2.1 x c (hsub _ _ e)⟩,I2.bs,(by show X.base.objs.size≤s2.heap.objs.size;exact Nat.le_trans I2.ok.bsz I2.sz),fun b o e hb=>?_,fun b hb=>nst b (f2 b hb).2.1 (f2 b hb).2.2.1,I2.stack,I2.GP⟩
  ·have hx':∃ k',sc.names.lookup x=some k'∧(k'=.cell∨k'=.free):=by
    rcases hx with hx|hx
    ·obtain⟨k',e1,e2⟩:=jR (env:=X.env) (names:=sc.names) hx
     rcases e2 with e2|⟨e2,_⟩
     ·exact⟨k',e1,.inl e2.symm⟩
     ·exact⟨k',e1,.inr e2⟩
    ·obtain⟨k',e1,e2⟩:=jR (env:=X.env) (names:=sc.names) hx
     rcases e2 with e2|⟨e2,_⟩
     ·exact⟨k',e1,.inr e2.symm⟩
     ·exact⟨k',e1,.inr e2⟩
   obtain⟨k',e1,e2⟩:=hx'
   have hm:=lookup_mem e1
   rcases e2 with e2|e2
   ·exact absurd e2 (S.Bt _ hm)
   ·subst e2;exact hall x hm
  ·rcases (f2 b hb).2.2.2.1 with z|z
   ·exact I2.ok.U9 b o e z
   ·exact absurd (Nat.lt_of_lt_of_le (Heap.lt_size e) (Nat.le_trans I2.ok.bsz z)) (Nat.lt_irrefl _)
 have Um:∀ p∈X.pn++pins,p.1 < D:=fun p hp=>(ltC p.1 (Heap.lt_size (I2.pin p hp).1)).2.2
 have aa7:∀ x c,cl.lookup x=some c→c < D:=fun x c e=>by
  obtain⟨v,q⟩:=I2.cell x c (hsub _ _ e)
  exact(ltC c q.lt).2.2
 have I':∀ tk,Inv (Fg X N' sc cl C s2 H2 fp) (pins++[(D,{ cls:=.type "list", data:=.seq ([]:List Value).toArray })]) (pick ρ σ) H2 { s2 with heap:=h₁,toks:=tk }:=fun tk=>by
  refine⟨ok',rfl,I2.bare,Un.kept old,⟨_,hns,fun i x v e1 e2 e3=>?_⟩,fun x c e=>?_,fC.1,fun x c e=>I2.pY x c (hsub _ _ e),fun p hp=>?_,I2.hok.kept old,?_⟩
  ·have e2':∃ j,ρ[i]? = some (some j)∧σ[j]? = some (some v):=by
    unfold pick at e2
    rw[List.getElem?_map] at e2
    cases hr:ρ[i]? with
    | none=>rw[hr] at e2;cases e2
    | some o =>
     rw[hr] at e2
     cases o with
     | none=>cases e2
     | some j =>
      refine⟨j,rfl,?_⟩
      have e2:(σ[j]?).join=some v:=Option.some.inj e2
      cases hq:σ[j]? with
      | none=>rw[hq] at e2;cases e2
      | some o' => rw [hq] at e2; have e2 : o' = some v := e2
                   rw[e2]
   obtain⟨j,hj,hv⟩:=e2'
   obtain⟨y,ey,eN,ef⟩:=S.ix i j hj
   have e1':N'[i]? = some x:=e1
   rw[ey] at e1';cases e1'
   obtain⟨m,hn,hl⟩:=I2.loc
   have hm:=lookup_mem ef
   have kX:=S.free _ hm rfl
   obtain⟨u,ru,lk⟩:=hl j x v eN hv (by rcases kX with k|k;exact .inr (.inl k);exact .inr (.inr k))
   refine⟨u,ru,.inr ⟨?_,?_⟩⟩
   ·show (relabel sc X.env).names.lookup x=some .cell∨(relabel sc X.env).names.lookup x=some .free
    rcases e3 with e3|e3|e3
    ·obtain⟨k',q1,q2⟩:=jR (env:=X.env) (names:=sc.names) e3
     rw[ef] at q1;cases q1
     rcases q2 with q2|⟨_,q2⟩<;>cases q2
    ·exact .inl e3
    ·exact .inr e3
   ·obtain⟨c,hc'⟩:=hall x hm
    refine⟨c,hc',?_⟩
    rcases lk with ⟨k,_⟩|⟨_,c',ec,z⟩
    ·rcases kX with k'|k'<;>(rw[k] at k';cases k')
    ·rw[hsub _ _ hc'] at ec;cases ec
     obtain⟨o,ho,hd⟩:=z
     exact⟨o,old _ _ ho,hd⟩
  ·obtain⟨v,o,ho,hd⟩:=I2.cell x c (hsub _ _ e)
   exact⟨v,o,old _ _ ho,hd⟩
  ·have hp':p∈X.pn++pins∨p=(D,{ cls:=.type "list", data:=.seq ([]:List Value).toArray }):=by
    rcases List.mem_append.mp hp with z|z
    ·exact .inl (List.mem_append_left _ z)
    ·rcases List.mem_append.mp z with z|z
     ·exact .inl (List.mem_append_right _ z)
     ·exact .inr (by simpa using z)
   rcases hp' with z|z
   ·obtain⟨q1,q2,q3,q4,q5⟩:=I2.pin p z
    exact⟨old _ _ q1,q2,(ltD p.1 (Um p z)).1,nst _ q3 q4,q5⟩
   ·subst z
    exact⟨newD,fD.1,hDC,nst _ fD.2.1 fD.2.2.1,fun v z=>by cases z⟩
  ·show (pick ρ σ).length=N'.length
   unfold pick;rw[List.length_map];exact S.len
 have stat:∀ {H':Hp} {o:Obj},(∀ b∈fp,H' b=none)→∀ b∈fp,ql (Fg X N' sc cl C s2 H2 fp) (pins++[(D,o)]) H' b:=fun {H' o} hn b hb=>by
  refine⟨hn b hb,(ltD b (ltb b hb)).1,nst b (f2 b hb).2.1 (f2 b hb).2.2.1,.inl hb,fun x c e=>(f2 b hb).2.2.2.2.1 x c (hsub _ _ e),fun p hp=>?_⟩
  rcases List.mem_append.mp hp with z|z
  ·exact(f2 b hb).2.2.2.2.2 p (List.mem_append_left _ z)
  ·rcases List.mem_append.mp z with z|z
   ·exact(f2 b hb).2.2.2.2.2 p (List.mem_append_right _ z)
   ·have e:p=(D,o):=by simpa using z
    subst e
    exact Ne.symm (ltD b (ltb b hb)).2
 have loop:∀ tk,codeAny (model X.prog X.w) X.A (.compLoop (.ListComp elt [⟨tg,iter,ifs,0⟩] sc pos) 0 (.ref it) (.ref D) (compEnvC sc cl C X.env)) (compPost (model X.prog X.w) X.A X.xe use R (.ref D) C) { s2 with heap:=h₁,toks:=tk }:=fun tk=>by
  refine Ih (fun n s'=>∃ (i:Nat) (acc:List V) (its:List Value) (k:Nat) (H':Hp),Inv (Fg X N' sc cl C s2 H2 fp) (pins++[(D,{ cls:=.type "list", data:=.seq its.toArray k })]) (pick ρ σ) H' s'∧Vals acc its∧acc.length≤sizeLine∧tn i s'.heap∧(∀ b∈fp,H' b=none)∧W i n acc H')
   ?_ m0 ⟨0,[],[],0,H2,I' tk,.nil,Nat.zero_le _,T.keep _ _ _ st2 fun b hb o e=>old b o e,fun b hb=>(f2 b hb).1,w0⟩
  rintro n s3 ⟨i,acc,its,k,H3,I3,va,hz0,st3,fr3,w3⟩
  rcases turn i n acc H3 w3 with ⟨stop,qn⟩|⟨go,hz,Nn,hN,step⟩
  ·refine eU (T.done (Fg X N' sc cl C s2 H2 fp) rfl rfl rfl hcalm i _ s3 _ H3 (fun _ _=>False) I3 (stat fr3) st3 stop) fun r s4 ⟨hr,I4⟩=>?_
   subst hr
   obtain⟨p1,p2,p3,p4,p5⟩:=I4.pin (D,{ cls:=.type "list", data:=.seq its.toArray k }) (by simp)
   have p1:s4.heap.get? D=some { cls:=.type "list", data:=.seq its.toArray k }:=p1
   have p2:H3 D=none:=p2
   have B:=I4.base
   have upn:∀ b o,H3 b=some o→upd H3 D (.lst acc) b=some o:=fun b o e=>by rw[aF (aX e p2)];exact e
   have IX:Inv X pins σ (upd H3 D (.lst acc)) s4:=by
    refine I2.call' (ch:=fp) I4.os ⟨fun b o q1 q2 q3 q4=>B.keep b o q1 q2 q3 q4,fun b o q1 q2 q3 q4=>B.slot b o q1 q2 q3 q4,fun b o q1 q2 q3=>?_,fun b o q1 q2=>B.there b o q1 q2,
     fun b xs q=>upn _ _ (B.tups b xs q),fun b o u q=>upn _ _ (B.Ed b o u q),fun b w ps q=>?_⟩ (I4.hok.track p2 ⟨hz0,its,k,va,p1⟩) I4.bare fun b hb=>⟨(f2 b hb).2.2.2.1,(f2 b hb).2.1,(f2 b hb).2.2.2.2.1,(f2 b hb).2.2.2.2.2⟩
    ·rw[aF (ltC b (Heap.lt_size q1)).2.1]
     exact B.free b o q1 q2 q3
    ·obtain⟨more,q'⟩:=B.DG b w ps q
     exact⟨more,upn _ _ q'⟩
   obtain⟨m,hm,_⟩:=I4.loc
   refine hR s4 D C _ IX (qn D p2) ⟨m,hm⟩ (I2.vD (by omega) ?_)
   rw[aF (Ne.symm hDC)]
   exact I4.free
  ·refine eU (T.item (Fg X N' sc cl C s2 H2 fp) rfl rfl rfl hcalm i _ s3 _ H3 (fun _ _=>False) I3 (stat fr3) st3 go) fun r s4 ⟨u,hr,h4⟩=>?_
   subst hr
   refine eU h4 fun _ s5 ⟨x,H5,I5,r5,y5,st5,fr5⟩=>?_
   have I5':=I5.pinned (stat fr5) (T.obj _ _ st5)
   refine eU (hg cl C s2 H2 fp _ s5 _ H5 x u _ I5' r5 (gk _ _ _ _ (step x H5 y5))) fun _ s6 ⟨σ6,H6,I6,⟨l6,k6⟩,q6⟩=>?_
   refine eU (hc cl C s2 H2 fp _ s6 σ6 H6 _ I6 q6) fun ok s7 ⟨H7,I7,q7⟩=>?_
   have wk:∀ {Ew:List (Addr×Obj)} {H':Hp} {s':Shared},Inv (Fg X N' sc cl C s2 H2 fp) Ew σ6 H' s'→Inv (Fg X N' sc cl C s2 H2 fp) Ew (pick ρ σ) H' s':=fun {Ew H' s'} J' =>
    J'.weak l6.symm fun j v e=>by
     have:∃ j',ρ[j]? = some (some j'):=by
      unfold pick at e
      rw[List.getElem?_map] at e
      cases hr:ρ[j]? with
      | none=>rw[hr] at e;cases e
      | some o =>
       rw[hr] at e
       cases o with
       | none=>cases e
       | some j'=>exact⟨j',rfl⟩
     obtain⟨j',hj'⟩:=this
     rw[k6 j j' hj'];exact e
   cases ok with
   | false =>
    have q7:Nn acc H7:=by simpa using q7
    rw[if_neg Bool.false_ne_true]
    obtain⟨m',hm,w7⟩:=hN acc H7 q7
    refine⟨m',hm,i+1,acc,its,k,H7,wk I7.ph,va,hz0,T.keep _ _ _ st5 fun b hb o e=>(I7.pin (b,o) (List.mem_append_right _ (List.mem_append_right _ (kZ hb e)))).1,fun b hb=>?_,w7⟩
    obtain⟨o,e,d⟩:=T.obj _ _ st5 b hb
    exact(I7.pin (b,o) (List.mem_append_right _ (List.mem_append_right _ (kZ hb e)))).2.1
   | true =>
    have q7:te σ6 H7 fun y H4=>Nn (acc++[y]) H4:=by simpa using q7
    rw[if_pos rfl]
    refine eU (he cl C s2 H2 fp _ s7 σ6 H7 _ I7 q7) fun xv s8 ⟨y,H8,I8,r8,n8⟩=>?_
    obtain⟨p1,p2,p3,p4,p5⟩:=I8.pin (D,{ cls:=.type "list", data:=.seq its.toArray k }) (by simp)
    have p1:s8.heap.get? D=some { cls:=.type "list", data:=.seq its.toArray k }:=p1
    have p2:H8 D=none:=p2
    refine wpAny_list_append_plain ⟨k,p1⟩ (fun h' pl sb=>?_) (by rw[List.size_toArray,← va.length];omega)
    obtain⟨k',pl⟩:=pl
    obtain⟨m',hm,w8⟩:=hN _ _ n8
    have Ia:Inv (Fg X N' sc cl C s2 H2 fp) pins σ6 H8 s8:=I8.ph.ph
    have Ib:Inv (Fg X N' sc cl C s2 H2 fp) pins σ6 H8 { s8 with heap:=h' }:=Ia.turned (t':=s8.toks) (it:=D) (fun b o hb e=>(sb.2 b hb).trans e) p2 hDC (.inr (by show s2.heap.objs.size≤D;omega)) (fun x c e=>(ltD c (aa7 x c e)).2) fun p hp=>(ltD p.1 (Um p hp)).2
    have pl':h'.get? D=some { cls:=.type "list", data:=.seq (its++[xv]).toArray k' }:=by rw[pl];simp
    have Ic:Inv (Fg X N' sc cl C s2 H2 fp) (pins++[(D,{ cls:=.type "list", data:=.seq (its++[xv]).toArray k' })]) σ6 H8 { s8 with heap:=h' }:=Ib.G8 fun p hp=>by
     rcases List.mem_append.mp hp with z|z
     ·exact Ib.pin p (List.mem_append_right _ z)
     ·have e:p=(D,{ cls:=.type "list", data:=.seq (its++[xv]).toArray k' }):=by simpa using z
      subst e
      exact⟨pl',p2,p3,p4,fun v z=>by cases z⟩
    refine⟨m',hm,i+1,acc++[y],its++[xv],k',H8,wk Ic,va.append (.cons r8 .nil),(by rw[List.length_append,List.length_singleton];omega),T.keep _ _ _ st5 fun b hb o e=>?_,fun b hb=>?_,w8⟩
    ·exact(sb.2 b (ltD b (ltb b hb)).2).trans (I8.pin (b,o) (List.mem_append_right _ (List.mem_append_right _ (kZ hb e)))).1
    ·obtain⟨o,e,d⟩:=T.obj _ _ st5 b hb
     exact(I8.pin (b,o) (List.mem_append_right _ (List.mem_append_right _ (kZ hb e)))).2.1
 refine codeAny_compStart_list (loop _) (T.self X.A 0 _ _ _ (T.keep _ _ _ st2 fun b hb o e=>old b o e) (loop _))
theorem eG(hcalm:X.calm=true)(S:cH X N' ρ sc)(hi:PI X tg iter wi)
 (hg:∀ cl C s H fp,PG (Fg X N' sc cl C s H fp) tg g) (gk:Lj ρ g) (hc:∀ cl C s H fp,PTs (Fg X N' sc cl C s H fp) ifs tc) (he:∀ cl C s H fp,PE (Fg X N' sc cl C s H fp) elt te)
 (hs:∀ x,foldedSetIterable iter X.env x=pure x:=by intro _;rfl) :
 PE X (.ListComp elt [⟨tg,iter,ifs,0⟩] sc pos) (OJ wi ρ g tc te):=by
 intro pins s σ H Q I h
 rw[eval_ListComp]
 refine Fi hcalm S hi hg gk hc he hs none I h fun s' D C H' I' q ⟨m,hm⟩ f=>⟨m,hm,fun h' sb=>?_⟩
 exact⟨.ref D,H',I'.turned (t':=s'.toks) (it:=C) (fun b o hb e=>(sb.2 b hb).trans e) f.1 f.2.1 f.2.2.2.1 f.2.2.2.2.1 f.2.2.2.2.2,rfl,q⟩
theorem oh{i:Nat}{x:Str}{px:Pos}(hcalm:X.calm=true)(hN:X.N.Nodup)(hix:X.N[i]? = some x)(hx:Loc X.env.scope x)(S:cH X N' ρ sc)(hi:PI X tg iter wi)
 (hg:∀ cl C s H fp,PG (Fg X N' sc cl C s H fp) tg g) (gk:Lj ρ g) (hc:∀ cl C s H fp,PTs (Fg X N' sc cl C s H fp) ifs tc) (he:∀ cl C s H fp,PE (Fg X N' sc cl C s H fp) elt te)
 (hsw:swapsWith (.ListComp elt [⟨tg,iter,ifs,0⟩] sc pos) (some (.Name x px)) cpos.line X.env=pure true:=by rfl)
 (hs:∀ x,foldedSetIterable iter X.env x=pure x:=by intro _;rfl)
 (hf:X.fn x=true∨X.env.scope.names.lookup x=some .local:=by first|exact .inl rfl|exact .inr rfl|assumption) :
 PS X (.Assign [.Name x px] (.ListComp elt [⟨tg,iter,ifs,0⟩] sc pos) cpos) (Jr (OJ wi ρ g tc te) (pX i)):=by
 intro pins s σ H D I h
 rw[exec_Assign_Name_used _ _ _ _ hsw]
 refine wpAny_bind (wpAny_standAt (wpAny_bind ?_))
 show wpAny _ X.A (do let _ ← comprehension (.ListComp elt [⟨tg,iter,ifs,0⟩] sc pos) sc X.env _ (newList []) false (eval iter X.env) (some (assign (.Name x px) X.env))) _ _ s
 refine wpAny_bind (eU (Fi (Q:=fun y H1=>D.nx (σ.set i (some y)) H1) (R:=fun _ s'=>SP X pins D .next s') hcalm S hi hg gk hc he hs (some (assign (.Name x px) X.env)) I h fun s' Da C H' I' q ⟨m,hm⟩ f=>?_) fun _ s' hq=>wpAny_pure (wpAny_pure hq))
 show wpAny _ X.A (assign (.Name x px) X.env (.ref Da)) _ _ _
 refine wpAny_assign_Name (En I' hN hix hx (v:=.ref Da) rfl (fun s2 I2 ⟨a,sb,ha⟩=>⟨m,hm.sameBut sb ?_,fun h' sb2=>?_⟩) hf)
 ·rcases ha with e|e
  ·subst e;exact f.2.1
  ·exact fun z=>f.2.2.2.2.1 x a e z.symm
 ·exact⟨_,H',I2.turned (t':=s2.toks) (it:=C) (fun b o hb e=>(sb2.2 b hb).trans e) f.1 f.2.1 f.2.2.2.1 f.2.2.2.2.1 f.2.2.2.2.2,q⟩
end
structure It.Of(J:It)(Ok:Hp→Prop)(xs:List V):Prop where
 go:∀ i H,Ok H→i < xs.length→J.go i H
 yld:∀ i H x H',Ok H→i < xs.length→J.yld i H x H'→H'=H∧xs[i]? = some x
 stop:∀ H,Ok H→J.stop xs.length H
theorem Pk{K:PySem.W.Frag}{a:Addr}{xs:List V}:(Itl K a).Of (fun H=>zH K H a xs) xs :=
 ⟨fun i H h hi=>⟨xs,xs[i],h,by simp[hi]⟩,fun i H x H' h _ y=>⟨y.1,y.2 xs h⟩,fun H h=>⟨xs,h,Nat.le_refl _⟩⟩
theorem UW{K:PySem.W.Frag}{a:Addr}{xs:List V}:(Itt K a).Of (fun H=>zG K H a xs) xs :=
 ⟨fun i H h hi=>⟨xs,xs[i],h,by simp[hi]⟩,fun i H x H' h _ y=>⟨y.1,y.2 xs h⟩,fun H h=>⟨xs,h,Nat.le_refl _⟩⟩
def Mq(lo:Int)(n:Nat):List V:=(List.range n).map fun i=>V.int (lo+(i:Nat))
theorem Bd(lo:Int)(n:Nat):(Mq lo n).length=n:=by simp[Mq]
theorem T4{lo:Int}{n i:Nat}(h:i < n):(Mq lo n)[i]? = some (.int (lo+i)):=by simp[Mq,h]
theorem U4{lo:Int}{n:Nat}:(Itr lo n).Of (fun _=>True) (Mq lo n) :=
 ⟨fun i H _ hi=>by rw[Bd] at hi;exact hi,fun i H x H' _ hi y=>⟨y.1,by rw[Bd] at hi;rw[y.2];exact T4 hi⟩,fun H _=>by rw[Bd];exact Nat.le_refl _⟩
end L2
namespace L2
open PySem PySem.Spec PyProof.Rows
def sgn(c:Nat):V:=.str ⟨#[c]⟩
def Ml(x:Str):List V:=x.cps.toList.map sgn
theorem Jy(x:Str):(Ml x).length=x.length:=by simp[Ml,Str.length]
def Its(x:Str):It:=⟨fun i _=>i < x.length,fun i H y H'=>H'=H∧(Ml x)[i]? = some y,fun i _=>i=x.length⟩
theorem U0{x:Str}:(Its x).Of (fun _=>True) (Ml x) :=
 ⟨fun i H _ hi=>by rw[Jy] at hi;exact hi,fun i H y H' _ _ h=>h,fun H _=>Jy x⟩
theorem Jp{P:Program}{w:World}{K:PySem.W.Frag}{tg:Expr}(it:Addr)(x:Str)(t:Tok)(ty:String)
 (hty:["enumerate", "zip", "dict_itemiterator", "dict_reverseitemiterator", "odict_iterator", "itertools.zip_longest", "itertools.pairwise"].contains ty=false)
 (W:∀ A':Around,A'.handled=none→Walks P w A' it [it] [it] x.cps.size (SignAt x) (fun i h=>h.IsStrIter it ty x t i))
 (sf:∀ (A:Around) (i:Nat) (s:Shared) (Q:Value→Shared→Prop) (E:Value→Shared→Prop),s.heap.IsStrIter it ty x t i→Q (.ref it) s→wpAny (model P w) A (pyIter (.ref it)) Q E s) :
 Turn P w K tg (Its x) [it] it (fun i h=>h.IsStrIter it ty x t i) where
 mem:=by simp
 obj:=fun i h st b hb=>by
  have e:b=it:=by simpa using hb
  subst e
  obtain⟨o,e,c,d⟩:=st
  exact⟨o,e,fun v z=>by rw[d] at z;cases z⟩
 keep:=fun i h h' st k=>let ⟨o,ho,r⟩:=st;⟨o,k it (by simp) o ho,r⟩
 item:=by
  intro X hP hw hK hc i pins s σ H E I hf st hg
  subst hP hw hK
  obtain⟨f0,f1,f2,f3,f4,f5⟩:=hf it (by simp)
  refine(W X.A (I.ok.hd hc)).item i s _ _ hg st fun v h' tk hv st' kk=>?_
  obtain⟨c,u,e,rfl⟩:=hv
  have I1:Inv X pins σ H { s with heap:=h',toks:=tk }:=I.turned (fun b o hb e=>kk b o (by simpa using hb) e) f0 f1 f3 f4 f5
  obtain⟨o,e',c',d'⟩:=id st'
  refine⟨_,rfl,Km (s:={ s with heap:=h',toks:=tk }) e' c' d' hty ⟨sgn c,H,I1,⟨u,rfl⟩,⟨rfl,?_⟩,st',fun b hb=>(hf b hb).1⟩⟩
  unfold Ml
  rw[List.getElem?_map,Array.getElem?_toList,e]
  rfl
 done:=by
  intro X hP hw hK hc i pins s σ H E I hf st hg
  subst hP hw hK
  obtain⟨f0,f1,f2,f3,f4,f5⟩:=hf it (by simp)
  have hg:i=x.length:=hg
  subst hg
  exact(W X.A (I.ok.hd hc)).done s _ _ st fun h' tk kk=>⟨rfl,I.turned (fun b o hb e=>kk b o (by simpa using hb) e) f0 f1 f3 f4 f5⟩
 self:=sf
section
variable{X:Cx}{tg:Expr}
def acC(tl:TE):TI:=fun σ H R=>tl σ H fun x H1=>∃ z,x=.str z∧R (Its z) H1
theorem aau{l:Expr}{tl:TE}(hl:PE X l tl):PI X tg l (acC tl):=by
 intro pins s σ H R I h
 refine eU (hl pins s σ H _ I h) fun v s1 ⟨x,H1,I1,r1,q1⟩=>?_
 obtain⟨z,e,q⟩:=q1
 subst e
 obtain⟨t,rfl⟩:=r1
 cases ha:z.cps.all (· < 128)
 ·refine wpAny_pyIter_wide ha ?_
  refine⟨s1.heap.objs.size,[s1.heap.objs.size],_,Its z,H1,rfl,I1.kept (t':=s1.toks) fun b o e=>Heap.get?_push_of_some _ e,Jp _ z t "str_iterator" (by decide) (fun A' hA=>Walks.strWide hA _ z t) (fun _ _ _ _ _ st hQ=>wpAny_pyIter_striter_wide st hQ),⟨_,Heap.get?_push_size _ rfl,rfl,rfl⟩,fun b hb=>?_,q⟩
  have e:b=s1.heap.objs.size:=by simpa using hb
  subst e
  exact I1.vD (Nat.le_refl _) (I1.hok.fresh (Nat.le_refl _))
 ·refine wpAny_pyIter_ascii ha ?_
  refine⟨s1.heap.objs.size,[s1.heap.objs.size],_,Its z,H1,rfl,I1.kept (t':=s1.toks) fun b o e=>Heap.get?_push_of_some _ e,Jp _ z t "str_ascii_iterator" (by decide) (fun A' hA=>Walks.strAscii hA _ z t) (fun _ _ _ _ _ st hQ=>wpAny_pyIter_striter_ascii st hQ),⟨_,Heap.get?_push_size _ rfl,rfl,rfl⟩,fun b hb=>?_,q⟩
  have e:b=s1.heap.objs.size:=by simpa using hb
  subst e
  exact I1.vD (Nat.le_refl _) (I1.hok.fresh (Nat.le_refl _))
theorem Ow:∀ {bs:List Bool} {us:List Value},Vals (bs.map V.bl) us→us=bs.map Value.bool
 | [],_,.nil=>rfl
 | b::r,_,.cons q t=>by rw[Ow t,show _=Value.bool b from q];rfl
theorem range_all(bs:List Bool):(List.range bs.length).all (fun i=>bs.getD i false)=bs.all id:=by
 induction bs with
 | nil=>rfl
 | cons b r ih =>
  rw[List.length_cons,List.range_succ_eq_map,List.all_cons,List.all_map,List.all_cons]
  congr 1
def aca(K:PySem.W.Frag)(f:List Bool→Bool):List V→Hp→VK→Prop:=fun xs H Q=>∃ a bs,xs=[.ref a]∧zH K H a (bs.map V.bl)∧Q (.bl (f bs)) H
theorem Tc{P:Program}{w:World}{A:Around}(bs:List Bool):TruthOf P w A (fun i v=>(bs.map Value.bool).toArray[i]? = some v) (fun i=>bs.getD i false):=by
 intro i v s Q E hv hq
 have:v=.bool (bs.getD i false):=by
  rw[List.getElem?_toArray,List.getElem?_map] at hv
  cases hb:bs[i]? with
  | none=>rw[hb] at hv;cases hv
  | some b =>
   rw[hb] at hv
   rw[List.getD_eq_getElem?_getD,hb]
   exact(Option.some.inj hv).symm
 subst this
 exact wpAny_truthy_bool hq
theorem wR(hc:X.calm=true):jo X (.builtin "all") (aca X.K (·.all id)):=by
 intro pins s σ H xs us Q I r h
 obtain⟨a,bs,rfl,hq,q⟩:=h
 obtain⟨u,rfl,ru⟩:=vals1 r
 cases ru
 obtain⟨its,rv,p,hz⟩:=I.list hq
 have e:=Ow rv
 subst e
 have hlt:a < s.heap.objs.size:=by obtain⟨o,n,e,_⟩:=p;exact Heap.lt_size e
 refine call_all_walk (wpAny_pyIter_list p.isList ⟨_,_,_,_,_,_,fun i=>bs.getD i false,rfl,Walks.list (A:=X.A.in1) (I.ok.hd hc) _ a (Nat.ne_of_lt hlt) (bs.map Value.bool).toArray,⟨⟨_,Heap.get?_push_size _ rfl,rfl,rfl⟩,(p.keeps fun b o e=>Heap.get?_push_of_some _ e).isList⟩,Tc bs,fun h' tk kk=>?_⟩)
 refine⟨.bl (bs.all id),H,I.kept fun b o e=>kk b o (by simpa using Nat.ne_of_lt (Heap.lt_size e)) (Heap.get?_push_of_some _ e),?_,q⟩
 show Value.bool _=Value.bool _
 rw[← range_all]
 simp
theorem Rb:qt X (compareOp .Gt) (fun x y H Q=>∃ i j,x=.str i∧y=.str j∧Q (.bl (decide (j.cps.toList < i.cps.toList))) H):=by
 intro pins s σ H x y v u Q I rx ry h
 obtain⟨i,j,rfl,rfl,q⟩:=h
 obtain⟨t,rfl⟩:=rx
 obtain⟨t',rfl⟩:=ry
 exact PySem.P.gt_str (HX I q rfl)
def RW(x:Str)(lo hi:Option Int):Str:=⟨((x.cps.toList.drop (HT.uA x.length 0 lo)).take (HT.uA x.length x.length hi - HT.uA x.length 0 lo)).toArray⟩
theorem Tu(lo hi:Option Int)(n:Nat):Builtin.Str.strSliceIndices lo hi 1 n=(List.range (HT.uA n n hi - HT.uA n 0 lo)).map (fun k=>HT.uA n 0 lo+k):=by
 have h1:∀ (v:Option Int) (d:Nat),d≤n→(match v with|none=>(d:Int)|some i=>max 0 (min (if i < 0 then i+(n:Int) else i) (n:Int)))=((HT.uA n d v:Nat):Int):=by
  intro v d hd
  cases v with
  | none=>rfl
  | some i =>
   show max 0 (min (if i < 0 then i+(n:Int) else i) (n:Int))=(((if i < 0 then (i+(n:Int)).toNat else min i.toNat n):Nat):Int)
   by_cases hv:i < 0
   ·simp only[if_pos hv];omega
   ·simp only[if_neg hv];omega
 have fin:∀ (p q:Int) (a b:Nat),p=(a:Int)→q=(b:Int)→sliceRange p q 1=(List.range (b - a)).map (fun k=>a+k):=by
  intro p q a b e1 e2
  subst e1 e2
  unfold sliceRange
  simp only[show ((1:Int) > 0)=True from by simp,if_true]
  by_cases hlt:(a:Int) < b
  ·have e3:(((b:Int) - a+1 - 1) / 1).toNat=b - a:=by first|omega|(simp;done)|(simp;omega)
   simp only[hlt,if_true,e3]
   refine List.map_congr_left fun k _=>?_
   omega
  ·have:b - a=0:=by omega
   simp[hlt,this]
 unfold Builtin.Str.strSliceIndices
 refine fin _ _ _ _ ?_ ?_
 ·have:=h1 lo 0 (Nat.zero_le _)
  cases lo with
  | none=>exact this
  | some i=>exact this
 ·have:=h1 hi n (Nat.le_refl _)
  cases hi with
  | none=>exact this
  | some i=>exact this
theorem QV(x:Str)(lo hi:Option Int):Txt.slice x lo hi=RW x lo hi:=by
 have hle:HT.uA x.length x.length hi≤x.length:=HT.TV _ _ (Nat.le_refl _) hi
 have ha:HT.uA x.length 0 lo≤x.length:=HT.TV _ _ (Nat.zero_le _) lo
 unfold Txt.slice RW
 rw[Tu]
 generalize HT.uA x.length 0 lo=a at *
 generalize HT.uA x.length x.length hi=b at *
 have hp:((List.range (b - a)).map (fun k=>a+k)).filterMap (fun i=>x.cps[i]?)=(x.cps.toList.drop a).take (b - a):=by
  have h:=StrLaws.picks x.cps.toList (b - a) a (by simp[Str.length] at hle ha ⊢;omega)
  simpa using h
 split
 ·rename_i h
  simp only[List.length_map,List.length_range,beq_self_eq_true,Bool.true_and,beq_iff_eq] at h
  have e:a=0∨x.length=0:=by omega
  have e2:(x.cps.toList.drop a).take (b - a)=x.cps.toList:=by
   rw[h]
   rcases e with e|e
   ·subst e
    rw[List.drop_zero]
    exact List.take_of_length_le (by simp[Str.length])
   ·have:x.cps.toList=[]:=List.eq_nil_of_length_eq_zero (by simpa [Str.length] using e)
    rw[this];simp
  rw[e2]
 ·rw[hp]
def abU:V→Option Int→Option Int→Hp→VK→Prop:=fun x lo hi H Q=>∃ z,x=.str z∧z.length≤sizeLine∧Q (.str (RW z lo hi)) H
theorem aae:WL X abU:=by
 intro pins s σ H x v vl vu lo hi sl Q I rx hs pl pu h
 obtain⟨z,rfl,hz,q⟩:=h
 obtain⟨t,rfl⟩:=rx
 have fin:∀ (l u:Option (Int×Tok)),vl=partValue l→vu=partValue u→lo=l.map (·.1)→hi=u.map (·.1) →
  wpAny (model X.prog X.w) X.A (getItem (.str z t) (.ref sl)) (EP X pins σ Q) X.xe s:=by
  intro l u e1 e2 e3 e4
  subst e1 e2 e3 e4
  refine wpAny_getItem_str_slice (l:=l) (u:=u) (st:=none) hs rfl ?_
  refine post_val_or_str ⟨Nat.le_trans (Txt.slice_le z _ _) hz,fun t' k=>?_⟩
  refine⟨.str (RW z _ _),H,I.tok k,⟨t',?_⟩,q⟩
  show Value.str (Txt.slice z _ _) t'=_
  rw[QV]
 refine⟨"str", _,F.slot_str_getitem.lookup,typeIs_str _ _ _,?_⟩
 cases pl with
 | none=>cases pu with
  | none=>exact fin none none rfl rfl rfl rfl
  | int j tj=>exact fin none (some (j,tj)) rfl rfl rfl rfl
 | int i ti=>cases pu with
  | none=>exact fin (some (i,ti)) none rfl rfl rfl rfl
  | int j tj=>exact fin (some (i,ti)) (some (j,tj)) rfl rfl rfl rfl
def ab8(neg:Bool):R2:=fun x y H Q=>∃ c z,x=sgn c∧y=.str z∧Q (.bl (if neg then !decide (c∈z.cps.toList) else decide (c∈z.cps.toList))) H
theorem aaA:qt X (compareOp .In) (ab8 false):=by
 intro pins s σ H x y v u Q I rx ry h
 obtain⟨c,z,rfl,rfl,q⟩:=h
 refine Ra pins s σ H _ _ v u Q I rx ry ⟨_,z,rfl,rfl,?_⟩
 rw[StrLaws.found_one];exact q
def ab5(K:PySem.W.Frag):List V→Hp→VK→Prop:=fun xs H Q=>∃ x t T b,xs=[x,.ty T]∧uD K H x t∧PySem.W.kitOne K t (.type T)=some b∧Q (.bl b) H
theorem jW:jo X (.builtin "isinstance") (ab5 X.K):=by
 intro pins s σ H xs us Q I r h
 obtain⟨x,t,T,b,rfl,ty,e,q⟩:=h
 obtain⟨u,w',rfl,rx,rt⟩:=vals2 r
 cases (show w'=Value.type T from rt)
 exact Rx I rx ty e fun tk=>⟨.bl b,H,I.tok tk,rfl,q⟩
end
end L2
namespace L2
open PySem PySem.Spec PyProof.Rows
def V8(osc:Scope)(N N':List Str)(ρ : List (Option Nat))(sc:Scope):Bool :=
 sc.names.all (fun y=>!(decide (y.2=.cell))) && sc.names.all (fun y=>!(decide (y.2=.local)) || decide (sc.names.lookup y.1=some .local)) &&
 sc.names.all (fun y=>!(decide (y.2=.free)) || (decide (osc.names.lookup y.1=some .cell) || decide (osc.names.lookup y.1=some .free))) &&
 decide (ρ.length=N'.length) && (List.range ρ.length).all fun i=>match ρ[i]? with
  | some (some j)=>(match N'[i]? with|some x=>decide (N[j]? = some x) && decide (sc.names.lookup x=some .free)|none=>false)
  | _=>true
theorem cH.of{X:Cx}{N':List Str}{ρ : List (Option Nat)}{sc:Scope}(hk:sc.kind=.function)(h:V8 X.env.scope X.N N' ρ sc=true):cH X N' ρ sc:=by
 unfold V8 at h
 simp only[Bool.and_eq_true,List.all_eq_true,Bool.or_eq_true,Bool.not_eq_true',decide_eq_true_eq,decide_eq_false_iff_not] at h
 obtain⟨⟨⟨⟨h1,h2⟩,h3⟩,h4⟩,h5⟩:=h
 refine⟨hk,fun y hy=>h1 y hy,fun y hy e=>(h2 y hy).resolve_left (fun z=>z e),fun y hy e=>(h3 y hy).resolve_left (fun z=>z e),h4,fun i j e=>?_⟩
 have hi:i < ρ.length:=(List.getElem?_eq_some_iff.mp e).1
 have q:=h5 i (List.mem_range.mpr hi)
 rw[e] at q
 cases hN:N'[i]? with
 | none=>rw[hN] at q;cases q
 | some x =>
  rw[hN] at q
  simp only[Bool.and_eq_true,decide_eq_true_eq] at q
  exact⟨x,rfl,q.1,q.2⟩
structure kE(P:Program)(w:World)(K:PySem.W.Frag)(mg:Str→Option Value)(base:Heap)(CX:Lr)(k:Nat)(x:Str)(ps:List Str)(sp:Sp):Prop where
 ex:∃ (f:Addr) (fd:FuncData),mg x=some (.ref f)∧PySem.W.keepIn K (.ref f)=true∧Binds K fd ps []∧cW P w K mg base CX k f fd ps sp
theorem aY{X:Cx}{CX:Lr}{k:Nat}{x:Str}{ps:List Str}{sp:Sp}{E:XK}{e:Expr}{es:List Expr}{t:TA}{p pos:Pos}(C:kE X.prog X.w X.K X.mg X.base CX k x ps sp)(hr:lC k X.A)(hg:Gl X x)(hx:IV CX X E)
 (ha:PA X (e::es) t) (hdb:(x == ("__debug__" : Str))=false:=by decide) (he:starEach (e::es) X.env=(false,eval e X.env)::starEach es X.env:=by rfl) (hpl:(backTo pos (starEach es X.env)).any (·.1)=false:=by rfl) :
 PE X (.Call (.Name x p) (e::es) [] pos) (yx sp [] E t):=by
 obtain⟨f,fd,hm,hk,hb,F⟩:=C.ex
 exact Xm F hr hg hm hk hb .nil hx ha hdb he hpl
theorem pK{X:Cx}{x:Str}{T:String}{pos:Pos}(hg:Gl X x)(hm:X.mg x=none)(hv:bootBuiltins x=some (.type T))(hn:x ≠ "__name__" := by decide)(hd:(x == ("__debug__" : Str))=false:=by decide):PE X (.Name x pos) (tC (.ty T)) :=
 Xn hg hm hv rfl hn hd
structure qm(K:PySem.W.Frag)(mg:Str→Option Value)(x:Str)(st:Stmt)(ps:List Str):Prop where
 ex:∃ (f:Addr) (fd:FuncData),mg x=some (.ref f)∧PySem.W.keepIn K (.ref f)=true∧Binds K fd ps []∧(∀ (s:Shared) (us:List Value),us.length=ps.length→BindsTo s fd ⟨us,[]⟩ (ps.zip us))∧oV K x x st f fd
theorem Cj{K:PySem.W.Frag}{h:Heap}{mg:Str→Option Value}{x:Str}{st:Stmt}{ps:List Str}{f:Addr}{oc:Value}{od an:Option Addr}{osl:Array (Option Value)}{kV doc pm cdv ct:Value}(X:K.In h)(G:h.Ns mainGlobals mg)
 (hb:∀ (kV doc pm:Value) (an:Option Addr) (cdv ct:Value) (us:List Value),us.length=ps.length→bindArgs (PySem.W.fnOf x x (mW st) (jV st) (aW st) .none kV doc pm an cdv ct) ⟨us,[]⟩=pure (ps.zip us))
 (a:PySem.W.nsIn K mainGlobals x=some (some (.ref f))) (l:K.lookup f=some ⟨oc,od,.func (PySem.W.fnOf x x (mW st) (jV st) (aW st) .none kV doc pm an cdv ct),osl⟩)
 (c:PySem.W.codeIn K cdv x=true) (k:PySem.W.keepIn K (.ref f)=true):qm K mg x st ps:=by
 have F:=VB (st:=st) l c k
 exact⟨f,_,PySem.W.mg_of X G a,k,F.binds hb,fun s us hl=>.of_eq (hb kV doc pm an cdv ct us hl),F⟩
theorem qm.cal{P:Program}{w:World}{K:PySem.W.Frag}{mg:Str→Option Value}{base:Heap}{CX:Lr}{k:Nat}{x:Str}{st:Stmt}{ps:List Str}{sp:Sp}(F:qm K mg x st ps)(h:∀ f fd,oV K x x st f fd→cW P w K mg base CX k f fd ps sp) :
 kE P w K mg base CX k x ps sp:=by
 obtain⟨f,fd,h1,h2,h3,_,h4⟩:=F.ex
 exact⟨f,fd,h1,h2,h3,h f fd h4⟩
end L2
namespace Mi
open PySem
inductive D where
 | non|bl (b:Bool)|int (i:Int)|str (x:Str)|lst (ds:List D)|tup (ds:List D)
mutual
def D.dep:D→Nat
 | .lst ds=>cU ds+1
 | .tup ds=>cU ds+1
 | _=>0
def cU:List D→Nat
 | []=>0
 | d::r=>max d.dep (cU r)
end
mutual
/-- Python's == -/
def cX:D→D→Bool
 | .non,.non=>true
 | .bl a,.bl b=>a == b
 | .bl a,.int b=>(if a then 1 else 0) == b
 | .int a,.bl b=>a == (if b then 1 else 0)
 | .int a,.int b=>a == b
 | .str a,.str b=>a == b
 | .lst a,.lst b=>pI a b
 | .tup a,.tup b=>pI a b
 | _,_=>false
def pI:List D→List D→Bool
 | [],[]=>true
 | a::r,b::s=>cX a b && pI r s
 | _,_=>false
end
mutual
/-- no list in it -/
def RC:D→Bool
 | .lst _=>false
 | .tup ds=>Ca ds
 | _=>true
def Ca:List D→Bool
 | []=>true
 | d::r=>RC d && Ca r
end
def Jd(n:Nat)(i:Int):Option Nat:=if 0≤i then (if i < n then some i.toNat else none) else if -(n:Int)≤i then some (i+n).toNat else none
def uU{α : Type}(xs:List α)(i:Int):Option α:=(Jd xs.length i).bind fun j=>xs[j]?
def uA(n d:Nat):Option Int→Nat
 | none=>d
 | some v=>if v < 0 then (v+(n:Int)).toNat else min v.toNat n
def wN{α : Type}(xs:List α)(lo hi:Option Int):List α:=(xs.drop (uA xs.length 0 lo)).take (uA xs.length xs.length hi - uA xs.length 0 lo)
abbrev Ky:=Sum Int Str
inductive W where
 | d (x:D)|dk (kvs:List (Ky×D))|dt (kvs:List (List Ky×D))|df (kvs:List (List Ky×D))|ex (c:String)
abbrev Env:=List (Option W)
structure Z1 where
 cls:String
 val:List D
inductive Rs(α : Type) where
 | ok (a:α)|ex (x:Z1)|no
def Rs.bind{α β : Type}:Rs α→(α→Rs β)→Rs β
 | .ok a,f=>f a
 | .ex x,_=>.ex x
 | .no,_=>.no
@[simp] theorem aB {α β : Type} (a:α) (f:α→Rs β):(Rs.ok a).bind f=f a:=rfl
@[simp] theorem adm {α β : Type} (x:Z1) (f:α→Rs β):(Rs.ex x).bind f=.ex x:=rfl
@[simp] theorem adl {α β : Type} (f:α→Rs β):(Rs.no).bind f=.no:=rfl
def Fin{α : Type}(r:Rs α)(k:α→Prop):Prop:=match r with
 | .ok a=>k a
 | _=>False
theorem aq{α β : Type}{r:Rs α}{f:α→Rs β}{k:β→Prop}:Fin (r.bind f) k↔Fin r fun a=>Fin (f a) k:=by cases r<;>exact Iff.rfl
theorem Fin.mono{α : Type}{r:Rs α}{k k':α→Prop}(h:Fin r k)(m:∀ a,k a→k' a):Fin r k':=by
 cases r with
 | ok a=>exact m a h
 | ex x=>exact h
 | no=>exact h
theorem yM{α : Type}{r s:Rs α}{k:α→Prop}(h:Fin (if true=true then r else s) k):Fin r k:=by simpa using h
theorem yN{α : Type}{r s:Rs α}{k:α→Prop}(h:Fin (if false=true then r else s) k):Fin s k:=by simpa using h
theorem gf{α : Type}{a:α}{k:α→Prop}(h:Fin (.ok a) k):k a:=h
def uC{α : Type}:Option α→Rs α
 | some a=>.ok a
 | none=>.no
def aO{α : Type}(c:Prop)[Decidable c](r:Rs α):Rs α:=if c then r else .no
theorem au{α : Type}{c:Prop}[Decidable c]{r:Rs α}(h:c):aO c r=r:=if_pos h
theorem aR{α : Type}{c:Prop}[Decidable c]{r:Rs α}{k:α→Prop}(h:Fin (aO c r) k):c∧Fin r k:=by
 unfold aO at h
 split at h
 ·exact⟨‹_›,h⟩
 ·exact h.elim
abbrev E:=Env→Rs D
abbrev C:=Env→Rs Bool
def mC(d:D):E:=fun _=>.ok d
def mV(i:Nat):E:=fun e=>match e[i]? with
 | some (some (.d x))=>.ok x
 | _=>.no
def m1(f:D→Rs D)(a:E):E:=fun e=>(a e).bind f
def m2(f:D→D→Rs D)(a b:E):E:=fun e=>(a e).bind fun x=>(b e).bind fun y=>f x y
def fV:List E→Env→Rs (List D)
 | [],_=>.ok []
 | a::r,e=>(a e).bind fun x=>(fV r e).bind fun xs=>.ok (x::xs)
def mN(f:List D→Rs D)(as:List E):E:=fun e=>(fV as e).bind f
def dTup(ds:List D):Rs D:=aO (ds.length≤16777216) (.ok (.tup ds))
def oR(ds:List D):Rs D:=aO (ds.length≤16777216) (.ok (.lst ds))
def asB:D→Rs Bool
 | .bl b=>.ok b
 | _=>.no
def DX(a b:E):E:=fun e=>(a e).bind fun x=>(asB x).bind fun c=>if c=true then b e else .ok (.bl false)
def mOr(a b:E):E:=fun e=>(a e).bind fun x=>(asB x).bind fun c=>if c=true then .ok (.bl true) else b e
def yc(f g:D→D→Rs D)(a b c:E):E:=fun e=>(a e).bind fun x=>(b e).bind fun y=>(f x y).bind fun z=>(asB z).bind fun k=>if k=true then (c e).bind fun w=>g y w else .ok (.bl false)
def asI:D→Rs Int
 | .int i=>.ok i
 | _=>.no
def pQ:Option E→Env→Rs (Option Int)
 | none,_=>.ok none
 | some a,e=>(a e).bind fun x=>(asI x).bind fun i=>.ok (some i)
def tH(x:Str)(lo hi:Option Int):Str:=⟨(wN x.cps.toList lo hi).toArray⟩
def Qn(x:D)(lo hi:Option Int):Rs D:=match x with
 | .lst ds=>.ok (.lst (wN ds lo hi))
 | .str z=>aO (z.length≤16777216) (.ok (.str (tH z lo hi)))
 | _=>.no
def gq(f:D→Option Int→Option Int→Rs D)(a:E)(lo hi:Option E):E:=fun e=>(a e).bind fun x=>(pQ lo e).bind fun l=>(pQ hi e).bind fun h=>f x l h
def cB(a:E):C:=fun e=>(a e).bind asB
def nO(a b:C):C:=fun e=>(a e).bind fun c=>if c=true then b e else .ok false
def Fp(a b:C):C:=fun e=>(a e).bind fun c=>if c=true then .ok true else b e
def jf(a:C):C:=fun e=>(a e).bind fun c=>.ok (!c)
def ad1:D→Rs Bool
 | .non=>.ok false
 | .bl b=>.ok b
 | .int i=>.ok (i != 0)
 | .str y=>aO (y.length≤16777216) (.ok ((y.length:Int) != 0))
 | .lst ds=>.ok (!ds.isEmpty)
 | .tup ds=>.ok (!ds.isEmpty)
def K4(a:E):C:=fun e=>(a e).bind ad1
abbrev I:=Env→Rs (List D)
def H9:D→Rs (List D)
 | .lst ds=>.ok ds
 | .tup ds=>.ok ds
 | .str x=>.ok (x.cps.toList.map fun c=>.str ⟨#[c]⟩)
 | _=>.no
def lY(a:E):I:=fun e=>(a e).bind H9
def dO(lo hi:Int):List D:=(List.range (hi - lo).toNat).map fun k=>.int (lo+(k:Nat))
def okR(i:Int):Prop:=-(2 ^ 62)≤i∧i < 2 ^ 62
instance (i:Int):Decidable (okR i):=inferInstanceAs (Decidable (_∧_))
def iR(a:E):I:=fun e=>(a e).bind fun x=>(asI x).bind fun j=>aO (okR j) (.ok (dO 0 j))
def uO(k:Nat):List D→List D
 | []=>[]
 | d::r=>.tup [.int k,d]::uO (k+1) r
def Ff:D→Rs (List D)
 | .lst ds=>.ok ds
 | _=>.no
def qb:List D→List D→List D
 | a::r,b::s=>.tup [a,b]::qb r s
 | _,_=>[]
inductive Tg where
 | n (i:Nat)|t (is:List Nat)
def xH:List Nat→List D→Env→Rs Env
 | [],[],e=>.ok e
 | i::is,d::ds,e=>xH is ds (e.set i (some (.d d)))
 | _,_,_=>.no
def Tg.put:Tg→D→Env→Rs Env
 | .n i,d,e=>.ok (e.set i (some (.d d)))
 | .t is,.tup ds,e=>xH is ds e
 | _,_,_=>.no
def ou(ρ : List (Option Nat))(e:Env):Env:=ρ.map fun o=>o.bind fun j=>(e[j]?).join
def dJ(tg:Tg)(c:C)(a:E)(e:Env):List D→Rs (List D)
 | []=>.ok []
 | x::r=>(tg.put x e).bind fun e1=>(c e1).bind fun k=>if k=true then (a e1).bind fun y=>(dJ tg c a e r).bind fun ys=>.ok (y::ys) else dJ tg c a e r
def dX:C:=fun _=>.ok true
def cF(ρ : List (Option Nat))(it:I)(tg:Tg)(c:C)(a:E):E:=fun e=>(it e).bind fun xs=>aO (xs.length≤16777216) ((dJ tg c a (ou ρ e) xs).bind fun ys=>.ok (.lst ys))
abbrev Fn:=List W→Rs W
abbrev EW:=Env→Rs W
def wD(a:E):EW:=fun e=>(a e).bind fun x=>.ok (.d x)
def wV(i:Nat):EW:=fun e=>match e[i]? with
 | some (some w)=>.ok w
 | _=>.no
def bO:List EW→Env→Rs (List W)
 | [],_=>.ok []
 | a::r,e=>(a e).bind fun x=>(bO r e).bind fun xs=>.ok (x::xs)
def jG(f:Fn)(as:List EW):EW:=fun e=>(bO as e).bind f
def asD:W→Rs D
 | .d x=>.ok x
 | _=>.no
def aQ(f:Fn)(as:List EW):E:=fun e=>(jG f as e).bind asD
def Wu:W→Rs D
 | .d x=>aO (RC x=true) (.ok x)
 | _=>.no
def sV(f:Fn)(as:List EW):E:=fun e=>(jG f as e).bind Wu
inductive Out where
 | nx (e:Env)|rt (w:W)|bk (e:Env)|ct (e:Env)
abbrev S:=Env→Rs Out
def bK:S:=fun e=>.ok (.nx e)
def bc(s t:S):S:=fun e=>(s e).bind fun o=>match o with
 | .nx e'=>t e'
 | o=>.ok o
def uL(i:Nat)(a:EW):S:=fun e=>(a e).bind fun w=>.ok (.nx (e.set i (some w)))
def bV(i:Nat)(a:E):S:=fun e=>(a e).bind fun d=>.ok (.nx (e.set i (some (.d d))))
def W4(tg:Tg)(a:E):S:=fun e=>(a e).bind fun d=>(tg.put d e).bind fun e'=>.ok (.nx e')
def sI(a:E):S:=fun e=>(a e).bind fun _=>.ok (.nx e)
def c7(a:EW):S:=fun e=>(a e).bind fun w=>.ok (.rt w)
def jE(c:C)(s t:S):S:=fun e=>(c e).bind fun k=>if k=true then s e else t e
def gW:S:=fun _=>.no
def tE(tg:Tg)(body:S):List D→Env→Rs Out
 | [],e=>.ok (.nx e)
 | x::r,e=>(tg.put x e).bind fun e1=>(body e1).bind fun o=>match o with
  | .nx e2=>tE tg body r e2
  | .ct e2=>tE tg body r e2
  | .bk e2=>.ok (.nx e2)
  | .rt w=>.ok (.rt w)
def mj(it:I)(tg:Tg)(body:S):S:=fun e=>(it e).bind fun xs=>tE tg body xs e
def gG(c:C)(body:S):Nat→Env→Rs Out
 | 0,_=>.no
 | n+1,e=>(c e).bind fun k=>if k=true then (body e).bind fun o=>match o with
  | .nx e2=>gG c body n e2
  | .ct e2=>gG c body n e2
  | .bk e2=>.ok (.nx e2)
  | .rt w=>.ok (.rt w)
  else .ok (.nx e)
def Bb(n:Nat)(c:C)(body:S):S:=gG c body n
def getL(e:Env)(i:Nat):Rs (List D):=match e[i]? with
 | some (some (.d (.lst ds)))=>.ok ds
 | _=>.no
def putL(e:Env)(i:Nat)(ds:List D):Env:=e.set i (some (.d (.lst ds)))
def dj(i:Nat)(a:E):S:=fun e=>(a e).bind fun d=>(getL e i).bind fun ds=>aO (ds.length < 16777216) (.ok (.nx (putL e i (ds++[d]))))
def nZ(i:Nat)(a:E):S:=fun e=>(a e).bind fun d=>(getL e i).bind fun ds=>match d with
 | .lst xs=>aO (ds.length+xs.length≤16777216) (.ok (.nx (putL e i (ds++xs))))
 | _=>.no
def Bc(i:Nat):S:=fun e=>(getL e i).bind fun ds=>.ok (.nx (putL e i ds.reverse))
def O7(ds:List D)(i:Int):Rs (D×List D):=aO (-(2 ^ 63)≤i∧i < 2 ^ 63) ((uC (Jd ds.length i)).bind fun k=>(uC ds[k]?).bind fun d=>.ok (d,ds.eraseIdx k))
def qC(x y:Nat)(k:E):S:=fun e=>(k e).bind fun z=>(asI z).bind fun i=>(getL e y).bind fun ds=>(O7 ds i).bind fun p=>(getL (putL e y p.2) x).bind fun es =>
 aO (es.length < 16777216) (.ok (.nx (putL (putL e y p.2) x (es++[p.1]))))
def RT:D→Option Ky
 | .int i=>some (.inl i)
 | .str x=>some (.inr x)
 | _=>none
def wL:List D→Option (List Ky)
 | []=>some []
 | d::r=>match RT d,wL r with
  | some k,some ks=>some (k::ks)
  | _,_=>none
def uz{κ : Type}[DecidableEq κ](kvs:List (κ×D))(k:κ):Option D:=(kvs.find? fun kv=>decide (kv.1=k)).map (·.2)
def V1(w:W)(k:D):Rs (Option D):=match w with
 | .dk kvs=>(uC (RT k)).bind fun k=>.ok (uz kvs k)
 | .dt kvs=>match k with
  | .tup ds=>(uC (wL ds)).bind fun k=>.ok (uz kvs k)
  | _=>.no
 | .df kvs=>match k with
  | .tup ds=>(uC (wL ds)).bind fun k=>.ok (uz kvs k)
  | _=>.no
 | _=>.no
def putK{κ : Type}[DecidableEq κ](k:κ)(v:D)(kvs:List (κ×D)):List (κ×D) :=
 if (kvs.any fun kv=>decide (kv.1=k))=true then kvs.map (fun kv=>if kv.1=k then (kv.1,v) else kv) else kvs++[(k,v)]
def RQ(w:W)(k v:D):Rs W:=match w with
 | .dk kvs=>aO (kvs.length < 16777216) ((uC (RT k)).bind fun k=>.ok (.dk (putK k v kvs)))
 | .dt kvs=>match k with
  | .tup ds=>aO (kvs.length < 16777216) ((uC (wL ds)).bind fun k=>.ok (.dt (putK k v kvs)))
  | _=>.no
 | _=>.no
def j7(i:Nat)(k:E):E:=fun e=>(k e).bind fun d=>(wV i e).bind fun w=>(V1 w d).bind fun o=>.ok (.bl o.isSome)
def mR(i:Nat)(k:E):E:=fun e=>(k e).bind fun d=>(wV i e).bind fun w=>(V1 w d).bind fun o=>.ok (.bl (!o.isSome))
def gK(i:Nat)(k v:E):S:=fun e=>(v e).bind fun x=>(k e).bind fun d=>(wV i e).bind fun w=>(RQ w d x).bind fun w'=>.ok (.nx (e.set i (some w')))
def wJ:Out→Rs W
 | .rt w=>.ok w
 | .nx _=>.ok (.d .non)
 | _=>.no
def vH(k n:Nat)(body:S):Fn:=fun ws=>aO (ws.length=k) ((body (ws.map some++List.replicate (n - ws.length) none)).bind wJ)
def nJ:Out→Rs W
 | .rt w=>.ok w
 | _=>.no
def Je(k n:Nat)(body:S):Fn:=fun ws=>aO (ws.length=k) ((body (ws.map some++List.replicate (n - ws.length) none)).bind nJ)
def fnZ:Fn:=fun _=>.no
def wj(i j:Int):Prop:=(-(2 ^ 64) < i∧i < 2 ^ 64)∨(-(2 ^ 64) < j∧j < 2 ^ 64)
instance (i j:Int):Decidable (wj i j):=inferInstanceAs (Decidable (_∨_))
def wu(j:Int):Prop:=0 < j∧j.natAbs.log2 < 9000
instance (j:Int):Decidable (wu j):=inferInstanceAs (Decidable (_∧_))
def aci(i j:Int):Prop:=0≤j∧j≤1000000∧i.natAbs < 2 ^ 64
instance (i j:Int):Decidable (aci i j):=inferInstanceAs (Decidable (_∧_))
def bQ:D→D→Rs D
 | .int i,.int j=>.ok (.int (i+j))
 | .str i,.str j=>aO (i.length+j.length≤16777216) (.ok (.str (i++j)))
 | .lst i,.lst j=>aO (i.length+j.length≤16777216) (.ok (.lst (i++j)))
 | _,_=>.no
def HY:D→D→Rs D
 | .int i,.int j=>.ok (.int (i - j))
 | _,_=>.no
def dI:D→D→Rs D
 | .int i,.int j=>aO (wj i j) (.ok (.int (i * j)))
 | _,_=>.no
def lu:D→D→Rs D
 | .int i,.int j=>aO (wu j) (.ok (.int (i / j)))
 | _,_=>.no
def fJ:D→D→Rs D
 | .int i,.int j=>aO (0 < j) (.ok (.int (i % j)))
 | _,_=>.no
def Jf:D→D→Rs D
 | .int i,.int j=>.ok (.bl (decide (i < j)))
 | .str i,.str j=>.ok (.bl (decide (i.cps.toList < j.cps.toList)))
 | _,_=>.no
def dGt:D→D→Rs D
 | .int i,.int j=>.ok (.bl (decide (j < i)))
 | .str i,.str j=>.ok (.bl (decide (j.cps.toList < i.cps.toList)))
 | _,_=>.no
def Yr:D→D→Rs D
 | .int i,.int j=>.ok (.bl (decide (i≤j)))
 | _,_=>.no
def Jg(x y:D):Rs D:=aO (x.dep≤16) (.ok (.bl (cX x y)))
def KD(x y:D):Rs D:=aO (x.dep≤16) (.ok (.bl (!cX x y)))
def Ka:D→Bool
 | .non=>true
 | _=>false
def Cv(x y:D):Rs D:=match y with
 | .non=>.ok (.bl (!Ka x))
 | _=>.no
def Ie(x y:D):Rs D:=match y with
 | .lst ds=>aO (cU ds≤16) (.ok (.bl (ds.any fun e=>cX e x)))
 | .tup ds=>aO (cU ds≤16) (.ok (.bl (ds.any fun e=>cX e x)))
 | .str z=>match x with
  | .str s=>aO (s.length=1) (.ok (.bl (decide (s.cps.getD 0 0∈z.cps.toList))))
  | _=>.no
 | _=>.no
def gh(x y:D):Rs D:=match y with
 | .lst ds=>aO (cU ds≤16) (.ok (.bl (!ds.any fun e=>cX e x)))
 | .tup ds=>aO (cU ds≤16) (.ok (.bl (!ds.any fun e=>cX e x)))
 | _=>.no
def gA(x y:D):Rs D:=match x,y with
 | .lst ds,.int i=>uC (uU ds i)
 | .tup ds,.int i=>uC (uU ds i)
 | .str z,.int i=>aO (z.length≤16777216) ((uC (uU z.cps.toList i)).bind fun c=>.ok (.str ⟨#[c]⟩))
 | _,_=>.no
def mY:List D→Rs D
 | [.lst ds]=>.ok (.int ds.length)
 | [.tup ds]=>.ok (.int ds.length)
 | [.str z]=>aO (z.length≤16777216) (.ok (.int z.length))
 | _=>.no
def yl:List D→Rs D
 | [.int i,.int j]=>.ok (.int (max i j))
 | _=>.no
def K9:List D→Rs D
 | [.int i,.int j]=>.ok (.int (min i j))
 | _=>.no
def Io:List D→Option (List Bool)
 | []=>some []
 | .bl b::r=>(Io r).map (b :: ·)
 | _=>none
def CZ:List D→Rs D
 | [.lst ds]=>(uC (Io ds)).bind fun bs=>.ok (.bl (bs.all id))
 | _=>.no
def CW:List D→Rs D
 | [.lst ds]=>.ok (.lst ds)
 | [.tup ds]=>.ok (.lst ds)
 | _=>.no
def oU:List D→Rs D
 | [.lst ds]=>.ok (.tup ds)
 | [.tup ds]=>.ok (.tup ds)
 | _=>.no
def Ry(t:String):D→Bool
 | .non=>false
 | .bl _=>t == "bool" || t == "int"
 | .int _=>t == "int"
 | .str _=>t == "str"
 | .lst _=>t == "list"
 | .tup _=>t == "tuple"
def Lz:D→String
 | .non => "NoneType" | .bl _ => "bool" | .int _ => "int" | .str _ => "str" | .lst _ => "list" | .tup _ => "tuple"
def yZ(ts:List String)(x:D):Rs D:=.ok (.bl (ts.any fun t=>Ry t x))
def rM:List D→Option (List Str)
 | []=>some []
 | .str b::r=>(rM r).map (b :: ·)
 | _=>none
def Cr(x y:D):Rs D:=match x,y with
 | .str sep,.lst ds=>(uC (rM ds)).bind fun ys=>aO ((ys.map (·.length)).sum+ys.length * sep.length≤16777216) (.ok (.str (Str.join sep ys)))
 | _,_=>.no
def met(val:Nat→Str):Nat→List Str
 | 0=>[]
 | i+1=>if val i∈met val i then met val i else met val i++[val i]
end Mi
namespace L2
open PySem PySem.Spec PyProof.Rows
open Mi (D cU cX pI)
mutual
theorem pJ:∀ d:D,cX d d=true
 | .non=>rfl
 | .bl b=>by simp[cX]
 | .int i=>by simp[cX]
 | .str x=>by simp[cX]
 | .lst ds=>by rw[cX];exact vo ds
 | .tup ds=>by rw[cX];exact vo ds
theorem vo:∀ ds:List D,pI ds ds=true
 | []=>rfl
 | d::r=>by rw[pI,pJ d,vo r];rfl
end
theorem pG:∀ {ds es:List D},ds.length≠es.length→pI ds es=false
 | [],[],h=>absurd rfl h
 | [],_::_,_=>rfl
 | _::_,[],_=>rfl
 | d::r,e::s,h=>by rw[pI,pG (fun z=>h (by rw[List.length_cons,List.length_cons,z])),Bool.and_false]
theorem pH:∀ {ds es:List D},ds.length=es.length→pI ds es=(List.range ds.length).all fun j=>cX (ds.getD j .non) (es.getD j .non)
 | [],[],_=>rfl
 | [],_::_,h=>by simp at h
 | _::_,[],h=>by simp at h
 | d::r,e::s,h=>by
  rw[pI,pH (by simpa using h),List.length_cons,List.range_succ_eq_map,List.all_cons,List.all_map]
  rfl
mutual
/-- the value v in the heap H is the tree d -/
def Rep(K:PySem.W.Frag)(H:Hp):D→V→Prop
 | .non,v=>v=.non
 | .bl b,v=>v=.bl b
 | .int i,v=>v=.int i
 | .str x,v=>v=.str x
 | .lst ds,v=>∃ a xs,v=.ref a∧zH K H a xs∧b8 K H ds xs
 | .tup ds,v=>∃ a xs,v=.ref a∧zG K H a xs∧b8 K H ds xs
def b8(K:PySem.W.Frag)(H:Hp):List D→List V→Prop
 | [],vs=>vs=[]
 | d::ds,vs=>∃ v r,vs=v::r∧Rep K H d v∧b8 K H ds r
end
theorem b8.length{K:PySem.W.Frag}{H:Hp}:∀ {ds:List D} {vs:List V},b8 K H ds vs→ds.length=vs.length
 | [],vs,h=>by rw[b8] at h;subst h;rfl
 | d::ds,vs,h=>by
  rw[b8] at h
  obtain⟨v,r,rfl,_,q⟩:=h
  rw[List.length_cons,List.length_cons,b8.length q]
theorem b8.get{K:PySem.W.Frag}{H:Hp}:∀ {ds:List D} {vs:List V} {j:Nat} {v:V},b8 K H ds vs→vs[j]? = some v→Rep K H (ds.getD j .non) v
 | [],vs,j,v,h,e=>by rw[b8] at h;subst h;simp at e
 | d::ds,vs,0,v,h,e=>by
  rw[b8] at h
  obtain⟨v',r,rfl,p,q⟩:=h
  simp at e;subst e;exact p
 | d::ds,vs,j+1,v,h,e=>by
  rw[b8] at h
  obtain⟨v',r,rfl,p,q⟩:=h
  have:=b8.get (j:=j) (v:=v) q (by simpa using e)
  simpa using this
section
variable{X:Cx}{pins:List (Addr×Obj)}{σ : St}{H:Hp}{s:Shared}
theorem Inv.J6(I:Inv X pins σ H s){a:Addr}{xs ys:List V}(h:zH X.K H a xs)(h':zG X.K H a ys):False:=by
 obtain⟨its,_,p,_⟩:=I.list h
 obtain⟨its',_,q,_⟩:=I.tuple h'
 obtain⟨o,n,e,c,_⟩:=p
 obtain⟨o',e',c',_⟩:=q
 rw[e] at e';cases e'
 rw[c] at c'
 exact absurd (Value.type.inj c') (by decide)
mutual
theorem Rep.inj(I:Inv X pins σ H s):∀ {d e:D} {v:V},Rep X.K H d v→Rep X.K H e v→d=e
 | .non,e,v,h,h'=>by
  rw[Rep] at h;subst h
  cases e<;>rw[Rep] at h'<;>first|rfl|(obtain⟨_,_,z,_⟩:=h';cases z)|cases h'
 | .bl b,e,v,h,h'=>by
  rw[Rep] at h;subst h
  cases e<;>rw[Rep] at h'<;>first|(obtain⟨_,_,z,_⟩:=h';cases z)|(cases h';rfl)|cases h'
 | .int b,e,v,h,h'=>by
  rw[Rep] at h;subst h
  cases e<;>rw[Rep] at h'<;>first|(obtain⟨_,_,z,_⟩:=h';cases z)|(cases h';rfl)|cases h'
 | .str b,e,v,h,h'=>by
  rw[Rep] at h;subst h
  cases e<;>rw[Rep] at h'<;>first|(obtain⟨_,_,z,_⟩:=h';cases z)|(cases h';rfl)|cases h'
 | .lst ds,e,v,h,h'=>by
  rw[Rep] at h
  obtain⟨a,xs,rfl,q,r⟩:=h
  cases e with
  | lst es =>
   rw[Rep] at h'
   obtain⟨a',xs',z,q',r'⟩:=h'
   cases z
   rw[I.BJ q' q] at r'
   rw[b8.inj I r r']
  | tup es =>
   rw[Rep] at h'
   obtain⟨a',xs',z,q',r'⟩:=h'
   cases z
   exact(I.J6 q q').elim
  | _=>rw[Rep] at h';cases h'
 | .tup ds,e,v,h,h'=>by
  rw[Rep] at h
  obtain⟨a,xs,rfl,q,r⟩:=h
  cases e with
  | tup es =>
   rw[Rep] at h'
   obtain⟨a',xs',z,q',r'⟩:=h'
   cases z
   rw[I.xG q' q] at r'
   rw[b8.inj I r r']
  | lst es =>
   rw[Rep] at h'
   obtain⟨a',xs',z,q',r'⟩:=h'
   cases z
   exact(I.J6 q' q).elim
  | _=>rw[Rep] at h';cases h'
theorem b8.inj(I:Inv X pins σ H s):∀ {ds es:List D} {vs:List V},b8 X.K H ds vs→b8 X.K H es vs→ds=es
 | [],es,vs,h,h'=>by
  rw[b8] at h;subst h
  cases es with
  | nil=>rfl
  | cons e es=>rw[b8] at h';obtain⟨_,_,z,_⟩:=h';cases z
 | d::ds,es,vs,h,h'=>by
  rw[b8] at h
  obtain⟨v,r,rfl,p,q⟩:=h
  cases es with
  | nil=>rw[b8] at h';cases h'
  | cons e es =>
   rw[b8] at h'
   obtain⟨v',r',z,p',q'⟩:=h'
   cases z
   rw[Rep.inj I p p',b8.inj I q q']
end
theorem yg:∀ {ds:List D} {j:Nat},(ds.getD j .non).dep≤cU ds
 | [],j=>by simp[D.dep]
 | d::ds,0=>by simp[cU];omega
 | d::ds,j+1=>by
  have:=yg (ds:=ds) (j:=j)
  have e:(d::ds).getD (j+1) .non=ds.getD j .non:=by simp
  rw[e,cU];omega
def _root_.Mi.D.flat:D→Bool
 | .lst _=>false
 | .tup _=>false
 | _=>true
def _root_.Mi.D.toV:D→V
 | .non=>.non|.bl b=>.bl b|.int i=>.int i|.str x=>.str x|.lst _=>.non|.tup _=>.non
theorem Rep.flat{K:PySem.W.Frag}:∀ {d:D} {v:V},d.flat=true→Rep K H d v→v=d.toV∧VD v=true
 | .non,v,_,h=>by rw[Rep] at h;subst h;exact⟨rfl,rfl⟩
 | .bl b,v,_,h=>by rw[Rep] at h;subst h;exact⟨rfl,rfl⟩
 | .int b,v,_,h=>by rw[Rep] at h;subst h;exact⟨rfl,rfl⟩
 | .str b,v,_,h=>by rw[Rep] at h;subst h;exact⟨rfl,rfl⟩
 | .lst _,v,z,h=>by cases z
 | .tup _,v,z,h=>by cases z
theorem Q3:∀ {d e:D},d.flat=true→e.flat=true→cX d e=eqV d.toV e.toV:=by
 intro d e h1 h2
 cases d<;>cases e<;>first|rfl|exact absurd (show false=true from h1) Bool.false_ne_true|exact absurd (show false=true from h2) Bool.false_ne_true
open SeqAt in
theorem VF(I:Inv X pins σ H s):∀ (n:Nat) (d e:D) (A:Around) {x y:V} {u u':Value},d.dep≤n→A.units+n < cLine→Rep X.K H d x→Rep X.K H e y→RelV x u→RelV y u'→EqAt A s u u' (cX d e):=by
 intro n
 induction n using Nat.strongRecOn with
 | ind n ih =>
  intro d e A x y u u' hd hu h h' r r'
  have hu0:A.units < cLine:=by omega
  by_cases hdf:d.flat=true
  ·obtain⟨ex,fx⟩:=h.flat hdf
   subst ex
   by_cases hef:e.flat=true
   ·obtain⟨ey,fy⟩:=h'.flat hef
    subst ey
    rw[Q3 hdf hef]
    exact aaZ r r' fx fy
   ·cases e with
    | lst es =>
     rw[Rep] at h'
     obtain⟨a,xs,rfl,q,_⟩:=h'
     cases r'
     obtain⟨its,_,p,_⟩:=I.list q
     cases d with
     | non=>cases r;exact EqAt.none_list p.isList hu0
     | bl b=>cases r;exact EqAt.bool_list b p.isList hu0
     | int b=>obtain⟨t,rfl⟩:=r;exact EqAt.int_list b t p.isList hu0
     | str b=>obtain⟨t,rfl⟩:=r;exact EqAt.str_list b t p.isList hu0
     | _=>cases hdf
    | tup es =>
     rw[Rep] at h'
     obtain⟨a,xs,rfl,q,_⟩:=h'
     cases r'
     obtain⟨its,_,p,_⟩:=I.tuple q
     cases d with
     | non=>cases r;exact EqAt.none_tuple p hu0
     | bl b=>cases r;exact EqAt.bool_tuple b p hu0
     | int b=>obtain⟨t,rfl⟩:=r;exact EqAt.int_tuple b t p hu0
     | str b=>obtain⟨t,rfl⟩:=r;exact EqAt.str_tuple b t p hu0
     | _=>cases hdf
    | _=>exact absurd rfl hef
  ·by_cases hef:e.flat=true
   ·obtain⟨ey,fy⟩:=h'.flat hef
    subst ey
    cases d with
    | lst ds =>
     rw[Rep] at h
     obtain⟨a,xs,rfl,q,_⟩:=h
     cases r
     obtain⟨its,_,p,_⟩:=I.list q
     cases e with
     | non=>cases r';exact EqAt.list_none p.isList hu0
     | bl b=>cases r';exact EqAt.list_bool b p.isList hu0
     | int b=>obtain⟨t,rfl⟩:=r';exact EqAt.list_int b t p.isList hu0
     | str b=>obtain⟨t,rfl⟩:=r';exact EqAt.list_str b t p.isList hu0
     | _=>cases hef
    | tup ds =>
     rw[Rep] at h
     obtain⟨a,xs,rfl,q,_⟩:=h
     cases r
     obtain⟨its,_,p,_⟩:=I.tuple q
     cases e with
     | non=>cases r';exact EqAt.tuple_none p hu0
     | bl b=>cases r';exact EqAt.tuple_bool b p hu0
     | int b=>obtain⟨t,rfl⟩:=r';exact EqAt.tuple_int b t p hu0
     | str b=>obtain⟨t,rfl⟩:=r';exact EqAt.tuple_str b t p hu0
     | _=>cases hef
    | _=>exact absurd rfl hdf
   ·-- both are lists or tuples
    have item:∀ {ds es:List D} {xs ys:List V} {its its':List Value},cU ds+1≤n→b8 X.K H ds xs→b8 X.K H es ys→Vals xs its→Vals ys its' →
     ∀ j (h1:j < its.toArray.size) (h2:j < its'.toArray.size),EqAt A.in1 s its.toArray[j] its'.toArray[j] (cX (ds.getD j .non) (es.getD j .non)):=by
     intro ds es xs ys its its' hn q q' v v' j h1 h2
     have h1':j < its.length:=by simpa using h1
     have h2':j < its'.length:=by simpa using h2
     have e1:j < xs.length:=by rw[v.length];exact h1'
     have e2:j < ys.length:=by rw[v'.length];exact h2'
     have g1:xs[j]? = some xs[j]:=by simp[e1]
     have g2:ys[j]? = some ys[j]:=by simp[e2]
     obtain⟨w1,k1,r1⟩:=v.get g1
     obtain⟨w2,k2,r2⟩:=v'.get g2
     have t1:its.toArray[j]=w1:=by obtain⟨_,k1⟩:=List.getElem?_eq_some_iff.mp k1;simpa using k1
     have t2:its'.toArray[j]=w2:=by obtain⟨_,k2⟩:=List.getElem?_eq_some_iff.mp k2;simpa using k2
     rw[t1,t2]
     have:=yg (ds:=ds) (j:=j)
     refine ih (n - 1) (by omega) _ _ A.in1 (by omega) ?_ (q.get g1) (q'.get g2) r1 r2
     show A.units+1+(n - 1) < cLine
     omega
    cases d with
    | lst ds =>
     rw[Rep] at h
     obtain⟨a,xs,rfl,q,rr⟩:=h
     cases r
     obtain⟨its,v,p,_⟩:=I.list q
     have hn:cU ds+1≤n:=by simpa [D.dep] using hd
     cases e with
     | lst es =>
      rw[Rep] at h'
      obtain⟨b,ys,rfl,q',rr'⟩:=h'
      cases r'
      obtain⟨its',v',p',_⟩:=I.list q'
      by_cases hab:a=b
      ·subst hab
       rw[I.BJ q' q] at rr'
       rw[b8.inj I rr rr',pJ]
       exact EqAt.same _
      ·have l1:=rr.length
       have l2:=rr'.length
       have l3:=v.length
       have l4:=v'.length
       by_cases hl:ds.length=es.length
       ·rw[cX,pH hl]
        have:=RcAt.lists p.isList p'.isList (by simp;omega) hu0 (item hn rr rr' v v')
        have e:its.toArray.size=ds.length:=by simp;omega
        rw[e] at this
        exact .of_refs hab this
       ·rw[cX,pG hl]
        exact .of_refs hab (RcAt.lists_lengths p.isList p'.isList (by simp;omega) hu0)
     | tup es =>
      rw[Rep] at h'
      obtain⟨b,ys,rfl,q',_⟩:=h'
      cases r'
      obtain⟨its',_,p',_⟩:=I.tuple q'
      exact EqAt.list_tuple p.isList p' hu0
     | _=>exact absurd rfl hef
    | tup ds =>
     rw[Rep] at h
     obtain⟨a,xs,rfl,q,rr⟩:=h
     cases r
     obtain⟨its,v,p,_⟩:=I.tuple q
     have hn:cU ds+1≤n:=by simpa [D.dep] using hd
     cases e with
     | tup es =>
      rw[Rep] at h'
      obtain⟨b,ys,rfl,q',rr'⟩:=h'
      cases r'
      obtain⟨its',v',p',_⟩:=I.tuple q'
      by_cases hab:a=b
      ·subst hab
       rw[I.xG q' q] at rr'
       rw[b8.inj I rr rr',pJ]
       exact EqAt.same _
      ·have l1:=rr.length
       have l2:=rr'.length
       have l3:=v.length
       have l4:=v'.length
       have R:=RcAt.tuples p p' hu0 (item hn rr rr' v v')
       have e1:its.toArray.size=ds.length:=by simp;omega
       have e2:its'.toArray.size=es.length:=by simp;omega
       rw[e1,e2] at R
       by_cases hl:ds.length=es.length
       ·rw[cX,pH hl]
        rw[hl,Nat.min_self,beq_self_eq_true,Bool.and_true,← hl] at R
        exact .of_refs hab R
       ·rw[cX,pG hl]
        have:(ds.length == es.length)=false:=by simpa using hl
        rw[this,Bool.and_false] at R
        exact .of_refs hab R
     | lst es =>
      rw[Rep] at h'
      obtain⟨b,ys,rfl,q',_⟩:=h'
      cases r'
      obtain⟨its',_,p',_⟩:=I.list q'
      exact EqAt.tuple_list p p'.isList hu0
     | _=>exact absurd rfl hef
    | _=>exact absurd rfl hdf
def Xh(K:PySem.W.Frag)(neg:Bool):R2:=fun x y H Q=>∃ (p:Addr) (xs:List V) (d:D) (ds:List D),y=.ref p∧(zH K H p xs∨zG K H p xs)∧Rep K H d x∧b8 K H ds xs∧cU ds≤16 ∧
 Q (.bl (if neg then !ds.any (fun e=>cX e d) else ds.any (fun e=>cX e d))) H
theorem b8.main{K:PySem.W.Frag}:∀ {ds:List D} {xs:List V} {us:List Value},b8 K H ds xs→Vals xs us→∀ u∈us,∃ b∈ds,∃ y,Rep K H b y∧RelV y u
 | [],xs,us,hr,hv,u,hu=>by
  rw[b8] at hr;subst hr;cases hv;cases hu
 | b::bs,xs,us,hr,hv,u,hu=>by
  rw[b8] at hr
  obtain⟨y,r,rfl,p,q⟩:=hr
  cases hv with
  | cons ry t =>
   rcases List.mem_cons.mp hu with rfl|hu
   ·exact⟨b,List.mem_cons_self,_,p,ry⟩
   ·obtain⟨b',hb',w⟩:=b8.main q t u hu
    exact⟨b',List.mem_cons_of_mem _ hb',w⟩
theorem b8.any{K:PySem.W.Frag}{e:Value→Bool}{f:D→Bool}(key:∀ b y u,Rep K H b y→RelV y u→e u=f b):∀ {ds:List D} {xs:List V} {us:List Value},b8 K H ds xs→Vals xs us→us.any e=ds.any f
 | [],xs,us,hr,hv=>by
  rw[b8] at hr;subst hr;cases hv;rfl
 | b::bs,xs,us,hr,hv=>by
  rw[b8] at hr
  obtain⟨y,r,rfl,p,q⟩:=hr
  cases hv with
  | cons ry t=>rw[List.any_cons,List.any_cons,key b y _ p ry,b8.any key q t]
theorem Ql:∀ {ds:List D} {b:D},b∈ds→b.dep≤cU ds
 | d::ds,b,h=>by
  rw[cU]
  rcases List.mem_cons.mp h with rfl|h
  ·omega
  ·have:=Ql h;omega
open Classical in
theorem zP(I:Inv X pins σ H s){A:Around}(hu:A.units+16 < cLine){d:D}{x:V}{v:Value}(hx:Rep X.K H d x)(rx:RelV x v){ds:List D}{xs:List V}{us:List Value}(hd:cU ds≤16)(hr:b8 X.K H ds xs)(hv:Vals xs us) :
 ∃ e:Value→Bool,(∀ u∈us,SeqAt.EqAt A s u v (e u))∧us.any e=ds.any (fun b=>cX b d):=by
 have key:∀ b y u,Rep X.K H b y→RelV y u→(fun u=>decide (∃ b y,Rep X.K H b y∧RelV y u∧cX b d=true)) u=cX b d:=by
  intro b y u hb hy
  cases hp:cX b d with
  | true=>exact decide_eq_true ⟨b,y,hb,hy,hp⟩
  | false =>
   refine decide_eq_false ?_
   rintro ⟨b',y',hb',hy',hp'⟩
   have:=hy.inj hy'
   subst this
   rw[Rep.inj I hb hb',hp'] at hp
   cases hp
 refine⟨fun u=>decide (∃ b y,Rep X.K H b y∧RelV y u∧cX b d=true),fun u hu'=>?_,b8.any key hr hv⟩
 obtain⟨b,hb,y,rb,ry⟩:=b8.main hr hv u hu'
 rw[key b y u rb ry]
 exact VF I 16 b d A (Nat.le_trans (Ql hb) hd) hu rb hx ry rx
theorem aaz(hu:X.A.units+64 < cLine):qt X (compareOp .In) (Xh X.K false):=by
 intro pins s σ H x y v u Q I rx ry h
 obtain⟨p,xs,d,ds,rfl,hq,hx,hr,hd,q⟩:=h
 cases ry
 have hu1:X.A.in1.units+16 < cLine:=by show X.A.units+1+16 < cLine;omega
 rcases hq with hq|hq
 ·obtain⟨its,r,pl,hz⟩:=I.list hq
  obtain⟨e,he,ea⟩:=zP I hu1 hx rx hd hr r
  refine SeqAt.in_listAt e pl.isList (fun w hw=>he w (by simpa using hw)) ⟨.bl _,H,I,rfl,?_⟩
  rw[show its.toArray.any e=its.any e by simp,ea]
  exact q
 ·obtain⟨its,r,pl,hz⟩:=I.tuple hq
  obtain⟨e,he,ea⟩:=zP I hu1 hx rx hd hr r
  refine SeqAt.in_tupleAt e pl (fun w hw=>he w (by simpa using hw)) ⟨.bl _,H,I,rfl,?_⟩
  rw[show its.toArray.any e=its.any e by simp,ea]
  exact q
theorem kO(hu:X.A.units+64 < cLine):qt X (compareOp .NotIn) (Xh X.K true):=by
 intro pins s σ H x y v u Q I rx ry h
 obtain⟨p,xs,d,ds,rfl,hq,hx,hr,hd,q⟩:=h
 cases ry
 have hu1:X.A.in1.units+16 < cLine:=by show X.A.units+1+16 < cLine;omega
 rcases hq with hq|hq
 ·obtain⟨its,r,pl,hz⟩:=I.list hq
  obtain⟨e,he,ea⟩:=zP I hu1 hx rx hd hr r
  refine SeqAt.notIn_listAt e pl.isList (fun w hw=>he w (by simpa using hw)) ⟨.bl _,H,I,rfl,?_⟩
  rw[show its.toArray.any e=its.any e by simp,ea]
  exact q
 ·obtain⟨its,r,pl,hz⟩:=I.tuple hq
  obtain⟨e,he,ea⟩:=zP I hu1 hx rx hd hr r
  refine SeqAt.notIn_tupleAt e pl (fun w hw=>he w (by simpa using hw)) ⟨.bl _,H,I,rfl,?_⟩
  rw[show its.toArray.any e=its.any e by simp,ea]
  exact q
end
end L2
namespace L2
open PySem PySem.Spec PyProof.Rows
theorem sr{H:Hp}{p:Addr}{o:HO}(hp:H p=none):gR H (upd H p o):=fun b u e=>by rw[aF (aX e hp)];exact e
theorem Al:∀ {ys:List Str} {us:List Value},Vals (ys.map V.str) us→StrsAre us ys
 | [],_,.nil=>.nil
 | y::ys,_,.cons r t=>by
  obtain⟨tk,rfl⟩:=(show ∃ tk,_=Value.str y tk from r)
  exact .cons y tk (Al t)
section
variable{X:Cx}
def rJoin(K:PySem.W.Frag):V→List V→Hp→VK→Prop:=fun x vs H Q=>∃ (sep:Str) (p:Addr) (ys:List Str),x=.str sep∧vs=[.ref p]∧zH K H p (ys.map V.str)∧(ys.map (·.length)).sum+ys.length * sep.length≤16777216∧Q (.str (Str.join sep ys)) H
theorem zL:SM X "str.join" (rJoin X.K):=by
 intro pins s σ H x vs v us Q I rx rv h
 obtain⟨sep,p,ys,rfl,rfl,hq,hz,q⟩:=h
 obtain⟨t,rfl⟩:=rx
 obtain⟨u,rfl,ru⟩:=rv.one
 cases ru
 obtain⟨its,r,pl,_⟩:=I.list hq
 refine join_list pl.isList (by simpa using Al r) hz fun t' k=>⟨.str (Str.join sep ys),H,I.tok k,⟨t',?_⟩,q⟩
 show Value.str (Builtin.Str.glued sep ys) t'=_
 rw[StrLaws.glued_eq_join]
def Z2(i j:Int):Prop:=0 < j∧j.natAbs.log2 < 9000
theorem jO:qt X (binaryOp .FloorDiv) (rI Z2 fun i j=>.int (i / j)):=opI fun i j _ _ _ _ _ hc q=>by
 refine floordiv_int (by have:=hc.1;omega) ?_ (.inl (PyProof.noPylong_of_log2 hc.2))
 rw[Int.fdiv_eq_ediv_of_nonneg i (by have:=hc.1;omega)]
 exact q
theorem Oa(hc:X.calm=true):jo X (.builtin "max") (fun xs H Q=>∃ i j z,xs=[.int i,.int j]∧max i j=z∧Q (.int z) H):=by
 intro pins s σ H xs us Q I r ⟨i,j,z,e1,e2,q⟩
 subst e2
 refine R5 hc pins s σ H xs us Q I r ⟨i,j,e1,?_⟩
 rw[show (if j > i then j else i)=max i j by split<;>omega]
 exact q
theorem N8(hc:X.calm=true):jo X (.builtin "min") (fun xs H Q=>∃ i j z,xs=[.int i,.int j]∧min i j=z∧Q (.int z) H):=by
 intro pins s σ H xs us Q I r ⟨i,j,z,e1,e2,q⟩
 subst e2
 refine R4 hc pins s σ H xs us Q I r ⟨i,j,e1,?_⟩
 rw[show (if j < i then j else i)=min i j by split<;>omega]
 exact q
end
end L2
namespace A
open PySem L2 PyProof.Rows
open Mi (D W Rs Fin aq)
inductive P2{α β : Type}(F:α→β→Prop):List α→List β→Prop
 | nil:P2 F [] []
 | cons {a b l m}:F a b→P2 F l m→P2 F (a::l) (b::m)
section
variable{α β : Type}{F G:α→β→Prop}
theorem P2.imp(h:∀ a b,F a b→G a b):∀ {l m},P2 F l m→P2 G l m
 | _,_,.nil=>.nil
 | _,_,.cons x t=>.cons (h _ _ x) (t.imp h)
theorem P2.len:∀ {l m},P2 F l m→l.length=m.length
 | _,_,.nil=>rfl
 | _,_,.cons _ t=>by rw[List.length_cons,List.length_cons,t.len]
theorem P2.append:∀ {l m l' m'},P2 F l m→P2 F l' m'→P2 F (l++l') (m++m')
 | _,_,_,_,.nil,s=>s
 | _,_,_,_,.cons x t,s=>.cons x (t.append s)
theorem P2.get:∀ {l m} {i:Nat} {a b},P2 F l m→l[i]? = some a→m[i]? = some b→F a b
 | _,_,_,_,_,.nil,e,_=>by simp at e
 | _,_,0,_,_,.cons x _,e,e'=>by simp at e e';subst e e';exact x
 | _,_,i+1,a,b,.cons _ t,e,e'=>t.get (i:=i) (by simpa using e) (by simpa using e')
theorem P2.getL{l m}{i:Nat}{a}(t:P2 F l m)(e:l[i]? = some a):∃ b,m[i]? = some b∧F a b:=by
 have h:i < m.length:=by rw[← t.len];exact(List.getElem?_eq_some_iff.mp e).1
 exact⟨m[i],by simp[h],t.get e (by simp[h])⟩
theorem P2.aaX{l m}{i:Nat}{b}(t:P2 F l m)(e:m[i]? = some b):∃ a,l[i]? = some a∧F a b:=by
 have h:i < l.length:=by rw[t.len];exact(List.getElem?_eq_some_iff.mp e).1
 exact⟨l[i],by simp[h],t.get (by simp[h]) e⟩
theorem P2.take:∀ {l m} (n:Nat),P2 F l m→P2 F (l.take n) (m.take n)
 | _,_,0,_=>.nil
 | _,_,_+1,.nil=>.nil
 | _,_,n+1,.cons x t=>.cons x (t.take n)
theorem P2.drop:∀ {l m} (n:Nat),P2 F l m→P2 F (l.drop n) (m.drop n)
 | _,_,0,t=>t
 | _,_,_+1,.nil=>.nil
 | _,_,n+1,.cons _ t=>t.drop n
theorem P2.erase:∀ {l m} (n:Nat),P2 F l m→P2 F (l.eraseIdx n) (m.eraseIdx n)
 | _,_,_,.nil=>.nil
 | _,_,0,.cons _ t=>t
 | _,_,n+1,.cons x t=>.cons x (t.erase n)
theorem P2.rev:∀ {l m},P2 F l m→P2 F l.reverse m.reverse
 | _,_,.nil=>.nil
 | _,_,.cons x t=>by rw[List.reverse_cons,List.reverse_cons];exact t.rev.append (.cons x .nil)
end
def Lst(H:Hp)(a:Addr)(xs:List V):Prop:=H a=some (.lst xs)∨∃ o,H a=some (.frz o (.lst xs))
mutual
def Rep(H:Hp):D→V→Prop
 | .non,v=>v=.non
 | .bl b,v=>v=.bl b
 | .int i,v=>v=.int i
 | .str x,v=>v=.str x
 | .lst ds,v=>∃ a xs,v=.ref a∧Lst H a xs∧b8 H ds xs
 | .tup ds,v=>∃ a xs,v=.ref a∧H a=some (.tup xs)∧b8 H ds xs
def b8(H:Hp):List D→List V→Prop
 | [],vs=>vs=[]
 | d::ds,vs=>∃ v r,vs=v::r∧Rep H d v∧b8 H ds r
end
theorem jJ{H:Hp}:∀ {ds:List D} {vs:List V},b8 H ds vs↔P2 (Rep H) ds vs
 | [],vs=>by
  rw[b8]
  exact⟨fun h=>by subst h;exact .nil,fun h=>by cases h;rfl⟩
 | d::ds,vs=>by
  rw[b8]
  constructor
  ·rintro ⟨v,r,rfl,p,q⟩
   exact .cons p (jJ.mp q)
  ·intro h
   cases h with
   | cons p q=>exact⟨_,_,rfl,p,jJ.mpr q⟩
@[simp] theorem O5 {H:Hp} {v:V}:Rep H .non v↔v=.non:=by rw[Rep]
@[simp] theorem Bf {H:Hp} {v:V} {b:Bool}:Rep H (.bl b) v↔v=.bl b:=by rw[Rep]
@[simp] theorem n6 {H:Hp} {v:V} {b:Int}:Rep H (.int b) v↔v=.int b:=by rw[Rep]
@[simp] theorem mL {H:Hp} {v:V} {b:Str}:Rep H (.str b) v↔v=.str b:=by rw[Rep]
theorem mO{H:Hp}{v:V}{ds:List D}:Rep H (.lst ds) v↔∃ a xs,v=.ref a∧Lst H a xs∧P2 (Rep H) ds xs:=by
 rw[Rep];exact⟨fun ⟨a,xs,e,l,r⟩=>⟨a,xs,e,l,jJ.mp r⟩,fun ⟨a,xs,e,l,r⟩=>⟨a,xs,e,l,jJ.mpr r⟩⟩
theorem fL{H:Hp}{v:V}{ds:List D}:Rep H (.tup ds) v↔∃ a xs,v=.ref a∧H a=some (.tup xs)∧P2 (Rep H) ds xs:=by
 rw[Rep];exact⟨fun ⟨a,xs,e,l,r⟩=>⟨a,xs,e,l,jJ.mp r⟩,fun ⟨a,xs,e,l,r⟩=>⟨a,xs,e,l,jJ.mpr r⟩⟩
theorem Lst.same{H H':Hp}{a:Addr}{xs:List V}(s:gR H H')(h:Lst H a xs):Lst H' a xs:=by
 rcases h with h|⟨o,h⟩
 ·exact .inl (s _ _ h)
 ·exact .inr ⟨o,s _ _ h⟩
theorem Lst.sq{K:PySem.W.Frag}{H:Hp}{a:Addr}{xs:List V}(h:Lst H a xs):zH K H a xs:=.inl h
mutual
theorem lM{H H':Hp}(s:gR H H'):∀ {d:D} {v:V},Rep H d v→Rep H' d v
 | .non,v,h=>by rw[Rep] at h ⊢;exact h
 | .bl b,v,h=>by rw[Rep] at h ⊢;exact h
 | .int i,v,h=>by rw[Rep] at h ⊢;exact h
 | .str x,v,h=>by rw[Rep] at h ⊢;exact h
 | .lst ds,v,h=>by
  rw[Rep] at h ⊢
  obtain⟨a,xs,e,q,r⟩:=h
  exact⟨a,xs,e,q.same s,t7 s r⟩
 | .tup ds,v,h=>by
  rw[Rep] at h ⊢
  obtain⟨a,xs,e,q,r⟩:=h
  exact⟨a,xs,e,s _ _ q,t7 s r⟩
theorem t7{H H':Hp}(s:gR H H'):∀ {ds:List D} {vs:List V},b8 H ds vs→b8 H' ds vs
 | [],vs,h=>by rw[b8] at h ⊢;exact h
 | d::ds,vs,h=>by
  rw[b8] at h ⊢
  obtain⟨v,r,e,p,q⟩:=h
  exact⟨v,r,e,lM s p,t7 s q⟩
end
theorem cZ{H H':Hp}(s:gR H H'){ds:List D}{vs:List V}(h:P2 (Rep H) ds vs):P2 (Rep H') ds vs:=h.imp fun _ _=>lM s
mutual
theorem qD(K:PySem.W.Frag){H:Hp}:∀ {d:D} {v:V},Rep H d v→L2.Rep K H d v
 | .non,v,h=>by rw[Rep] at h;rw[L2.Rep];exact h
 | .bl b,v,h=>by rw[Rep] at h;rw[L2.Rep];exact h
 | .int i,v,h=>by rw[Rep] at h;rw[L2.Rep];exact h
 | .str x,v,h=>by rw[Rep] at h;rw[L2.Rep];exact h
 | .lst ds,v,h=>by
  rw[Rep] at h
  rw[L2.Rep]
  obtain⟨a,xs,e,q,r⟩:=h
  exact⟨a,xs,e,q.sq,zJ K r⟩
 | .tup ds,v,h=>by
  rw[Rep] at h
  rw[L2.Rep]
  obtain⟨a,xs,e,q,r⟩:=h
  exact⟨a,xs,e,.inl (.inl q),zJ K r⟩
theorem zJ(K:PySem.W.Frag){H:Hp}:∀ {ds:List D} {vs:List V},b8 H ds vs→L2.b8 K H ds vs
 | [],vs,h=>by rw[b8] at h;rw[L2.b8];exact h
 | d::ds,vs,h=>by
  rw[b8] at h
  rw[L2.b8]
  obtain⟨v,r,e,p,q⟩:=h
  exact⟨v,r,e,qD K p,zJ K q⟩
end
def NT:HO→Prop
 | .tbl _ _=>False
 | _=>True
structure Old(H H':Hp):Prop where
 nt:∀ a o,H a=some o→NT o→H' a=some o
 dom:∀ a,H' a=none→H a=none
 tb:∀ a w ps,H a=some (.tbl w ps)→∃ ps',H' a=some (.tbl w ps')
theorem Old.at{H H':Hp}(s:Old H H'){a:Addr}{o:HO}(q:H a=some o)(n:NT o:=by trivial):H' a=some o:=s.nt a o q n
theorem Old.free{H H':Hp}(s:Old H H'){a:Addr}(h:H' a=none):H a=none:=s.dom a h
theorem Old.refl(H:Hp):Old H H:=⟨fun _ _ e _=>e,fun _ e=>e,fun _ _ ps e=>⟨ps,e⟩⟩
theorem Old.trans{H H1 H2:Hp}(a:Old H H1)(b:Old H1 H2):Old H H2:=⟨fun x o e n=>b.nt x o (a.nt x o e n) n,fun x e=>a.dom x (b.dom x e),fun x w ps e=>let ⟨p1,e1⟩:=a.tb x w ps e;b.tb x w p1 e1⟩
theorem Old.of{H H':Hp}(s:gR H H'):Old H H':=⟨fun a o e _=>s a o e,fun a e=>s.free e,fun a w ps e=>⟨ps,s a _ e⟩⟩
theorem Old.tab{H H':Hp}(s:Old H H'){a:Addr}{w:Str}{ps:Array Value}{o:HO}(q:H a=some (.tbl w ps))(n:NT o):¬ H' a=some o:=fun e=>by
 obtain⟨p,z⟩:=s.tb a w ps q
 rw[e] at z;cases z;exact n
theorem Old.put{H0 H:Hp}(s:Old H0 H){p:Addr}{o u:HO}(h0:H0 p=none)(h:H p=some u):Old H0 (upd H p o) :=
 ⟨fun a v e n=>by rw[aF (aX e h0)];exact s.nt a v e n,fun a e=>by
  by_cases hp:a=p
  ·subst hp;exact h0
  ·rw[aF hp] at e;exact s.dom a e,fun a w ps e=>by rw[aF (aX e h0)];exact s.tb a w ps e⟩
def nM(c:Addr)(q:Str):Heap→Prop:=fun h=>∃ o vs t,h.get? c=some o∧o.data=.fields vs∧vs[1]? = some (.str q t)
class fK where
 l:List (Addr×Str)
 cl:String→Addr
variable[Tb:fK]
structure jz(H:Hp):Prop where
 has:∀ p∈Tb.l,∃ ps,H p.1=some (.tbl p.2 ps)
 cd:∀ T q ps,H T=some (.tbl q ps)→TriplesOk ps.toList∧∀ pos v,codeAmong pos ps.toList=some v→∃ c,v=.ref c∧H c=some (.ext (nM c q))
theorem jz.new{H:Hp}(k:jz H){p:Addr}{o:HO}(h:H p=none)(n:NT o):jz (upd H p o):=⟨fun r hr=>let ⟨ps,e⟩:=k.has r hr;⟨ps,by rw[aF (aX e h)];exact e⟩,fun T q ps e=>by
 by_cases hp:T=p
 ·subst hp;rw[aV] at e;cases e;exact n.elim
 ·rw[aF hp] at e
  obtain⟨t,r⟩:=k.cd T q ps e
  refine⟨t,fun pos v z=>?_⟩
  obtain⟨c,e1,e2⟩:=r pos v z
  exact⟨c,e1,by rw[aF (aX e2 h)];exact e2⟩⟩
def Cell:HO→Prop
 | .lst _=>True
 | .dK _=>True
 | .dT _=>True
 | .ext _=>True
 | _=>False
theorem Cell.nt:∀ {o:HO},Cell o→NT o:=fun {o} c=>by cases o<;>first|exact c.elim|trivial
def Lq:HO→Prop
 | .lst _=>True
 | .dK _=>True
 | .dT _=>True
 | _=>False
theorem Lq.cell:∀ {o:HO},Lq o→Cell o:=fun {o} c=>by cases o<;>first|exact c.elim|trivial
theorem jz.put{H:Hp}(k:jz H){p:Addr}{o u:HO}(h:H p=some u)(c:Lq u)(n:NT o):jz (upd H p o):=⟨fun r hr=>let ⟨ps,e⟩:=k.has r hr;⟨ps,by rw[aF (fun y=>by rw[y,h] at e;cases e;exact c.elim)];exact e⟩,fun T q ps e=>by
 by_cases hp:T=p
 ·subst hp;rw[aV] at e;cases e;exact n.elim
 ·rw[aF hp] at e
  obtain⟨t,r⟩:=k.cd T q ps e
  refine⟨t,fun pos v z=>?_⟩
  obtain⟨x,e1,e2⟩:=r pos v z
  refine⟨x,e1,?_⟩
  rw[aF (fun y=>by subst y;rw[h] at e2;cases e2;exact c.elim)];exact e2⟩
structure Vw(H Hv:Hp):Prop where
 sub:gR Hv H
 tup:∀ a xs,H a=some (.tup xs)→Hv a=some (.tup xs)
 frz:∀ a o u,H a=some (.frz o u)→Hv a=some (.frz o u)
 cd:jz H
 nv:∀ a o,Hv a=some o→NT o
structure cY(H Hv H' Hv':Hp):Prop where
 old:Old H H'
 vis:gR Hv Hv'
 vw:Vw H' Hv'
 hid:∀ a o,H a=some o→Hv a=none→Hv' a=none
theorem cY.refl{H Hv:Hp}(v:Vw H Hv):cY H Hv H Hv:=⟨Old.refl _,gR.refl _,v,fun _ _ _ e=>e⟩
theorem Old.some{H H':Hp}(s:Old H H'){a:Addr}{o:HO}(q:H a=some o):∃ o',H' a=some o':=by
 cases h:H' a with
 | none=>rw[s.dom a h] at q;cases q
 | some o'=>exact⟨o',rfl⟩
theorem cY.trans{H Hv H1 Hv1 H2 Hv2:Hp}(g:cY H Hv H1 Hv1)(k:cY H1 Hv1 H2 Hv2):cY H Hv H2 Hv2 :=
 ⟨g.old.trans k.old,g.vis.trans k.vis,k.vw,fun a o e n=>let ⟨o',e'⟩:=g.old.some e;k.hid a o' e' (g.hid a o e n)⟩
theorem nq{H Hv:Hp}(v:Vw H Hv){p:Addr}(h:H p=none):Hv p=none:=v.sub.free h
theorem cY.new{H Hv:Hp}(v:Vw H Hv){p:Addr}{o:HO}(h:H p=none)(nt:NT o:=by trivial):cY H Hv (upd H p o) (upd Hv p o):=by
 refine⟨.of (sr h),sr (nq v h),⟨fun b u e=>?_,fun b xs e=>?_,fun b q u e=>?_,v.cd.new h nt,fun b u e=>?_⟩,fun b u e n=>?_⟩
 ·by_cases hb:b=p
  ·subst hb;rw[aV] at e ⊢;exact e
  ·rw[aF hb] at e ⊢;exact v.sub b u e
 ·by_cases hb:b=p
  ·subst hb;rw[aV] at e ⊢;exact e
  ·rw[aF hb] at e ⊢;exact v.tup b xs e
 ·by_cases hb:b=p
  ·subst hb;rw[aV] at e ⊢;exact e
  ·rw[aF hb] at e ⊢;exact v.frz b q u e
 ·by_cases hb:b=p
  ·subst hb;rw[aV] at e;cases e;exact nt
  ·rw[aF hb] at e;exact v.nv b u e
 ·rw[aF (aX e h)];exact n
theorem cY.Ri{H Hv:Hp}(v:Vw H Hv){p:Addr}{o:HO}(c:Cell o)(h:H p=none):cY H Hv (upd H p o) Hv:=by
 refine⟨.of (sr h),gR.refl _,⟨fun b u e=>?_,fun b xs e=>?_,fun b q u e=>?_,v.cd.new h c.nt,v.nv⟩,fun b u e n=>n⟩
 ·rw[aF (aX (v.sub b u e) h)];exact v.sub b u e
 ·by_cases hb:b=p
  ·subst hb;rw[aV] at e;cases e;exact c.elim
  ·rw[aF hb] at e;exact v.tup b xs e
 ·by_cases hb:b=p
  ·subst hb;rw[aV] at e;cases e;exact c.elim
  ·rw[aF hb] at e;exact v.frz b q u e
theorem Vw.show{H Hv:Hp}(v:Vw H Hv){a:Addr}{o:HO}(h:H a=some o)(n:Hv a=none)(nt:NT o):Vw H (upd Hv a o)∧gR Hv (upd Hv a o):=by
 refine⟨⟨fun b u e=>?_,fun b xs e=>?_,fun b q u e=>?_,v.cd,fun b u e=>?_⟩,sr n⟩
 ·by_cases hb:b=a
  ·subst hb;rw[aV] at e;rw[h];exact e
  ·rw[aF hb] at e;exact v.sub b u e
 ·by_cases hb:b=a
  ·subst hb;rw[aV];rw[h] at e;exact e
  ·rw[aF hb];exact v.tup b xs e
 ·by_cases hb:b=a
  ·subst hb;rw[aV];rw[h] at e;exact e
  ·rw[aF hb];exact v.frz b q u e
 ·by_cases hb:b=a
  ·subst hb;rw[aV] at e;cases e;exact nt
  ·rw[aF hb] at e;exact v.nv b u e
theorem Lst.old{H H':Hp}{a:Addr}{xs:List V}(s:Old H H')(h:Lst H a xs):Lst H' a xs:=by
 rcases h with h|⟨o,h⟩
 ·exact .inl (s.at h)
 ·exact .inr ⟨o,s.at h⟩
mutual
theorem O6{H H':Hp}(t:∀ a xs,H a=some (.tup xs)→H' a=some (.tup xs)):∀ {d:D} {v:V},Mi.RC d=true→Rep H d v→Rep H' d v
 | .non,v,_,h=>by rw[Rep] at h ⊢;exact h
 | .bl b,v,_,h=>by rw[Rep] at h ⊢;exact h
 | .int i,v,_,h=>by rw[Rep] at h ⊢;exact h
 | .str x,v,_,h=>by rw[Rep] at h ⊢;exact h
 | .lst ds,v,z,h=>by rw[Mi.RC] at z;cases z
 | .tup ds,v,z,h=>by
  rw[Mi.RC] at z
  rw[Rep] at h ⊢
  obtain⟨a,xs,e,q,r⟩:=h
  exact⟨a,xs,e,t _ _ q,Be t z r⟩
theorem Be{H H':Hp}(t:∀ a xs,H a=some (.tup xs)→H' a=some (.tup xs)):∀ {ds:List D} {vs:List V},Mi.Ca ds=true→b8 H ds vs→b8 H' ds vs
 | [],vs,_,h=>by rw[b8] at h ⊢;exact h
 | d::ds,vs,z,h=>by
  rw[Mi.Ca,Bool.and_eq_true] at z
  rw[b8] at h ⊢
  obtain⟨v,r,e,p,q⟩:=h
  exact⟨v,r,e,O6 t z.1 p,Be t z.2 q⟩
end
def Dz{κ : Type}(H:Hp)(kvs:List (κ×D))(kv:List (κ×V)):Prop:=P2 (fun p q=>p.1=q.1∧Rep H p.2 q.2) kvs kv
theorem Dz.same{κ : Type}{H H':Hp}(s:gR H H'){kvs:List (κ×D)}{kv:List (κ×V)}(h:Dz H kvs kv):Dz H' kvs kv:=P2.imp (fun _ _ z=>⟨z.1,lM s z.2⟩) h
def eX(Hv:Hp):W→HO→Prop
 | .d (.lst ds),.lst xs=>P2 (Rep Hv) ds xs
 | .dk kvs,.dK kv=>Dz Hv kvs kv
 | .dt kvs,.dT kv=>Dz Hv kvs kv
 | _,_=>False
theorem eX.same{H H':Hp}(s:gR H H'):∀ {w:W} {o:HO},eX H w o→eX H' w o:=fun {w o} h=>by
 cases w with
 | d x =>
  cases x with
  | lst ds=>cases o with
   | lst xs=>exact cZ s h
   | _=>exact h.elim
  | _=>cases o<;>exact h.elim
 | dk kvs=>cases o with
  | dK kv=>exact Dz.same s h
  | _=>exact h.elim
 | dt kvs=>cases o with
  | dT kv=>exact Dz.same s h
  | _=>exact h.elim
 | df kvs=>exact h.elim
 | ex c=>exact h.elim
theorem eX.ZR{H:Hp}{w:W}{o:HO}(h:eX H w o):Lq o:=by
 cases w with
 | d x =>
  cases x with
  | lst ds=>cases o with
   | lst xs=>trivial
   | _=>exact h.elim
  | _=>cases o<;>exact h.elim
 | dk kvs=>cases o with
  | dK kv=>trivial
  | _=>exact h.elim
 | dt kvs=>cases o with
  | dT kv=>trivial
  | _=>exact h.elim
 | df kvs=>exact h.elim
 | ex c=>exact h.elim
theorem eX.cell{H:Hp}{w:W}{o:HO}(h:eX H w o):Cell o:=h.ZR.cell
theorem eX.nt{H:Hp}{w:W}{o:HO}(h:eX H w o):NT o:=h.cell.nt
def acL(a C:Addr):Heap→Prop:=fun h=>∃ o,h.get? a=some o∧o.cls=.ref C∧o.dict=none∧∃ vs,o.data=.fields vs
def uE(H:Hp):W→V→Prop
 | .d x,v=>Rep H x v
 | .dk kvs,v=>∃ a kv,v=.ref a∧H a=some (.dK kv)∧Dz H kvs kv
 | .dt kvs,v=>∃ a kv,v=.ref a∧H a=some (.dT kv)∧Dz H kvs kv
 | .df kvs,v=>∃ a ob kv,v=.ref a∧H a=some (.frz ob (.dT kv))∧Dz H kvs kv
 | .ex c,v=>∃ a,v=.ref a∧H a=some (.ext (acL a (Tb.cl c)))
theorem m6{H H':Hp}(s:gR H H'):∀ {w:W} {v:V},uE H w v→uE H' w v
 | .d x,v,h=>lM (d:=x) s h
 | .dk kvs,v,⟨a,kv,e,q,r⟩=>⟨a,kv,e,s _ _ q,r.same s⟩
 | .dt kvs,v,⟨a,kv,e,q,r⟩=>⟨a,kv,e,s _ _ q,r.same s⟩
 | .df kvs,v,⟨a,ob,kv,e,q,r⟩=>⟨a,ob,kv,e,s _ _ q,r.same s⟩
 | .ex c,v,⟨a,e,q⟩=>⟨a,e,s _ _ q⟩
theorem t8{H:Hp}{w:W}{a:Addr}{o:HO}(h:H a=some o)(c:eX H w o):uE H w (.ref a):=by
 cases w with
 | d x =>
  cases x with
  | lst ds=>cases o with
   | lst xs=>exact mO.mpr ⟨a,xs,rfl,.inl h,c⟩
   | _=>exact c.elim
  | _=>cases o<;>exact c.elim
 | dk kvs=>cases o with
  | dK kv=>exact⟨a,kv,rfl,h,c⟩
  | _=>exact c.elim
 | dt kvs=>cases o with
  | dT kv=>exact⟨a,kv,rfl,h,c⟩
  | _=>exact c.elim
 | df kvs=>exact c.elim
 | ex z=>exact c.elim
def Own(H Hv:Hp)(w:W)(v:V):Prop:=∃ a o,v=.ref a∧H a=some o∧Hv a=none∧eX Hv w o
def RB(H Hv:Hp)(w:W)(v:V):Prop:=uE Hv w v∨∃ a o,v=.ref a∧H a=some o∧eX Hv w o
theorem RB.grow{H Hv H' Hv':Hp}(g:cY H Hv H' Hv'){w:W}{v:V}(h:RB H Hv w v):RB H' Hv' w v:=by
 rcases h with h|⟨a,o,e,q,c⟩
 ·exact .inl (m6 g.vis h)
 ·exact .inr ⟨a,o,e,g.old.at q c.nt,c.same g.vis⟩
theorem Own.grow{H Hv H' Hv':Hp}(g:cY H Hv H' Hv'){w:W}{v:V}(h:Own H Hv w v):Own H' Hv' w v:=by
 obtain⟨a,o,e,q,n,c⟩:=h
 exact⟨a,o,e,g.old.at q c.nt,g.hid _ _ q n,c.same g.vis⟩
theorem RB.full{H Hv:Hp}(v:Vw H Hv){w:W}{x:V}(h:RB H Hv w x):uE H w x:=by
 rcases h with h|⟨a,o,rfl,q,c⟩
 ·exact m6 v.sub h
 ·exact t8 q (c.same v.sub)
abbrev RD(H Hv:Hp)(d:D)(v:V):Prop:=RB H Hv (.d d) v
theorem RD.QZ{H Hv:Hp}{d:D}{v:V}(h:RD H Hv d v)(n:∀ ds,d≠.lst ds):Rep Hv d v:=by
 rcases h with h|⟨a,o,e,q,c⟩
 ·exact h
 ·cases d with
  | lst ds=>exact absurd rfl (n ds)
  | _=>cases o<;>exact c.elim
theorem RD.lst{H Hv:Hp}(w:Vw H Hv){ds:List D}{v:V}(h:RD H Hv (.lst ds) v):∃ a xs,v=.ref a∧Lst H a xs∧P2 (Rep Hv) ds xs:=by
 rcases h with h|⟨a,o,e,q,c⟩
 ·obtain⟨a,xs,e,l,r⟩:=mO.mp h
  exact⟨a,xs,e,l.same w.sub,r⟩
 ·cases o with
  | lst xs=>exact⟨a,xs,e,.inl q,c⟩
  | _=>exact c.elim
theorem RD.tup{H Hv:Hp}(w:Vw H Hv){ds:List D}{v:V}(h:RD H Hv (.tup ds) v):∃ a xs,v=.ref a∧H a=some (.tup xs)∧Hv a=some (.tup xs)∧P2 (Rep Hv) ds xs:=by
 obtain⟨a,xs,e,l,r⟩:=fL.mp (h.QZ fun _ z=>by cases z)
 exact⟨a,xs,e,w.sub _ _ l,l,r⟩
theorem RD.int{H Hv:Hp}{i:Int}{v:V}(h:RD H Hv (.int i) v):v=.int i:=n6.mp (h.QZ fun _ z=>by cases z)
theorem RD.str{H Hv:Hp}{i:Str}{v:V}(h:RD H Hv (.str i) v):v=.str i:=mL.mp (h.QZ fun _ z=>by cases z)
theorem RD.bl{H Hv:Hp}{i:Bool}{v:V}(h:RD H Hv (.bl i) v):v=.bl i:=Bf.mp (h.QZ fun _ z=>by cases z)
theorem RD.non{H Hv:Hp}{v:V}(h:RD H Hv .non v):v=.non:=O5.mp (h.QZ fun _ z=>by cases z)
theorem RD.full{H Hv:Hp}(v:Vw H Hv){d:D}{x:V}(h:RD H Hv d x):Rep H d x:=RB.full v h
abbrev Kd:=Hp→Hp→Hp→W→V→Prop
def qP:Kd:=fun _ H' Hv' w v=>RB H' Hv' w v
def qV:Kd:=fun _ _ Hv' w v=>uE Hv' w v
def qN:Kd:=fun H H' Hv' w v=>∃ a o,v=.ref a∧H a=none∧H' a=some o∧Hv' a=none∧eX Hv' w o
theorem jK{H H' Hv':Hp}{i:Int}:qV H H' Hv' (.d (.int i)) (.int i):=(n6 (H:=Hv')).mpr rfl
theorem xQ{H H' Hv':Hp}{i:Str}:qV H H' Hv' (.d (.str i)) (.str i):=(mL (H:=Hv')).mpr rfl
theorem iY{H H' Hv':Hp}{i:Bool}:qV H H' Hv' (.d (.bl i)) (.bl i):=(Bf (H:=Hv')).mpr rfl
theorem Uh{H H' Hv':Hp}:qV H H' Hv' (.d .non) .non:=(O5 (H:=Hv')).mpr rfl
class KM (κ : Kd):Prop where
 mono:∀ {H H1 H' Hv' w v},Old H H1→κ H1 H' Hv' w v→κ H H' Hv' w v
instance:KM qP:=⟨fun _ h=>h⟩
instance:KM qV:=⟨fun _ h=>h⟩
instance:KM qN:=⟨fun s ⟨a,o,e,n,r⟩=>⟨a,o,e,s.free n,r⟩⟩
structure R0(M:Nat→Bool)(e:Mi.Env)(σ : L2.St)(H Hv:Hp):Prop where
 vw:Vw H Hv
 len:σ.length=e.length
 nob:∀ i w,e[i]? = some (some w)→M i=false→∃ v,σ[i]? = some (some v)∧uE Hv w v
 own:∀ i w,e[i]? = some (some w)→M i=true→∃ v,σ[i]? = some (some v)∧Own H Hv w v
theorem R0.grow{M:Nat→Bool}{e:Mi.Env}{σ : L2.St}{H Hv H' Hv':Hp}(r:R0 M e σ H Hv)(g:cY H Hv H' Hv'):R0 M e σ H' Hv' :=
 ⟨g.vw,r.len,fun i w h m=>let ⟨v,q,z⟩:=r.nob i w h m;⟨v,q,m6 g.vis z⟩,fun i w h m=>let ⟨v,q,z⟩:=r.own i w h m;⟨v,q,z.grow g⟩⟩
structure R1(M:Nat→Bool)(H0 Hv0:Hp)(e:Mi.Env)(σ : L2.St)(H Hv:Hp):Prop extends R0 M e σ H Hv where
 gw:cY H0 Hv0 H Hv
 fresh:∀ i w a,e[i]? = some (some w)→M i=true→σ[i]? = some (some (.ref a))→H0 a=none
 sep:∀ i j w w' a b,i≠j→e[i]? = some (some w)→e[j]? = some (some w')→M i=true→M j=true→σ[i]? = some (some (.ref a))→σ[j]? = some (some (.ref b))→a≠b
theorem R1.grow{M:Nat→Bool}{H0 Hv0:Hp}{e:Mi.Env}{σ : L2.St}{H Hv H' Hv':Hp}(r:R1 M H0 Hv0 e σ H Hv)(g:cY H Hv H' Hv'):R1 M H0 Hv0 e σ H' Hv' :=
 ⟨r.toR0.grow g,r.gw.trans g,r.fresh,r.sep⟩
end A
namespace A
open PySem L2 PyProof.Rows
open Mi (D W Rs Fin aq)
variable[Tb:fK]
abbrev Su:=Mi.Env
class KG (κ : Kd):Prop where
 go:∀ {H H1 Hv1 H2 Hv2 w v},cY H1 Hv1 H2 Hv2→κ H H1 Hv1 w v→κ H H2 Hv2 w v
instance:KG qP:=⟨fun g h=>h.grow g⟩
instance:KG qV:=⟨fun g h=>m6 g.vis h⟩
instance:KG qN:=⟨fun g ⟨a,o,e,n,q,z,c⟩=>⟨a,o,e,n,g.old.at q c.nt,g.hid _ _ q z,c.same g.vis⟩⟩
def AW(M:Nat→Bool)(κ : Kd)(t:TE)(m:Mi.EW):Prop:=∀ e σ H Hv Q,R0 M e σ H Hv→Fin (m e) (fun w=>∀ v H' Hv',cY H Hv H' Hv'→κ H H' Hv' w v→Q v H')→t σ H Q
def AE(M:Nat→Bool)(κ : Kd)(t:TE)(m:Mi.E):Prop:=∀ e σ H Hv Q,R0 M e σ H Hv→Fin (m e) (fun d=>∀ v H' Hv',cY H Hv H' Hv'→κ H H' Hv' (.d d) v→Q v H')→t σ H Q
def AT(M:Nat→Bool)(t:TT)(m:Mi.C):Prop:=∀ e σ H Hv Q,R0 M e σ H Hv→Fin (m e) (fun b=>∀ H' Hv',cY H Hv H' Hv'→Q b H')→t σ H Q
def AA(M:Nat→Bool)(κ : Kd)(t:TA)(m:Su→Rs (List D)):Prop:=∀ e σ H Hv Q,R0 M e σ H Hv→Fin (m e) (fun ds=>∀ vs H' Hv',cY H Hv H' Hv'→P2 (fun d v=>κ H H' Hv' (.d d) v) ds vs→Q vs H')→t σ H Q
def AAW(M:Nat→Bool)(κ : Kd)(t:TA)(m:Su→Rs (List W)):Prop:=∀ e σ H Hv Q,R0 M e σ H Hv→Fin (m e) (fun ws=>∀ vs H' Hv',cY H Hv H' Hv'→P2 (fun w v=>κ H H' Hv' w v) ws vs→Q vs H')→t σ H Q
def AO(M:Nat→Bool)(t:TO)(m:Su→Rs (Option Int)):Prop:=∀ e σ H Hv Q,R0 M e σ H Hv→Fin (m e) (fun o=>∀ H' Hv',cY H Hv H' Hv'→Q o H')→t σ H Q
section
variable{M:Nat→Bool}{κ : Kd}{t ta tb tc te:TE}{a b c:Mi.E}{r r':R2}{f g:D→D→Rs D}
theorem AE.w(h:AE M κ t a):AW M κ t (Mi.wD a):=fun e σ H Hv Q I q=>h e σ H Hv Q I ((aq.mp q).mono fun d z=>z)
theorem ZC{H H' Hv':Hp}{w:W}{v:V}(h:qV H H' Hv' w v):qP H H' Hv' w v:=.inl h
theorem acy{H H' Hv':Hp}{w:W}{v:V}(h:qN H H' Hv' w v):qP H H' Hv' w v:=by
 obtain⟨a,o,e,_,q,_,c⟩:=h
 exact .inr ⟨a,o,e,q,c⟩
theorem PQ{H Hv H' Hv':Hp}(g:cY H Hv H' Hv'){w:W}{v:V}(h:qN H H' Hv' w v):∃ Dp,cY H Hv H' Dp∧uE Dp w v:=by
 obtain⟨a,o,rfl,n,q,z,c⟩:=h
 obtain⟨vw,s⟩:=g.vw.show q z c.nt
 refine⟨upd Hv' a o,⟨g.old,g.vis.trans s,vw,fun b u e m=>?_⟩,t8 aV (c.same s)⟩
 rw[aF (aX e n)];exact g.hid b u e m
theorem AW.p(h:AW M qV t m):AW M qP t m:=fun e σ H Hv Q I q=>h e σ H Hv Q I (q.mono fun w z v H' Hv' g k=>z v H' Hv' g (ZC k))
theorem AW.nv(h:AW M qN t m):AW M qV t m:=fun e σ H Hv Q I q=>h e σ H Hv Q I (q.mono fun w z v H' Hv' g k=>let ⟨Dp,g',r⟩:=PQ g k;z v H' Dp g' r)
theorem AE.p(h:AE M qV t a):AE M qP t a:=fun e σ H Hv Q I q=>h e σ H Hv Q I (q.mono fun w z v H' Hv' g k=>z v H' Hv' g (ZC k))
theorem AE.np(h:AE M qN t a):AE M qP t a:=fun e σ H Hv Q I q=>h e σ H Hv Q I (q.mono fun w z v H' Hv' g k=>z v H' Hv' g (acy k))
theorem AE.nv(h:AE M qN t a):AE M qV t a:=fun e σ H Hv Q I q=>h e σ H Hv Q I (q.mono fun w z v H' Hv' g k=>let ⟨Dp,g',r⟩:=PQ g k;z v H' Dp g' r)
theorem bf{i:Int}:AE M qV (tC (.int i)) (Mi.mC (.int i)):=fun e σ H Hv Q I h=>h _ H Hv (.refl I.vw) jK
theorem gB{i:Str}:AE M qV (tC (.str i)) (Mi.mC (.str i)):=fun e σ H Hv Q I h=>h _ H Hv (.refl I.vw) xQ
theorem yo{i:Bool}:AE M qV (tC (.bl i)) (Mi.mC (.bl i)):=fun e σ H Hv Q I h=>h _ H Hv (.refl I.vw) iY
theorem WD:AE M qV (tC .non) (Mi.mC .non):=fun e σ H Hv Q I h=>h _ H Hv (.refl I.vw) Uh
theorem Vj{e:Su}{i:Nat}{k:D→Prop}(h:Fin (Mi.mV i e) k):∃ d,e[i]? = some (some (.d d))∧k d:=by
 unfold Mi.mV at h
 split at h
 ·exact⟨_,‹_›,h⟩
 ·exact h.elim
theorem vX{e:Su}{i:Nat}{k:W→Prop}(h:Fin (Mi.wV i e) k):∃ w,e[i]? = some (some w)∧k w:=by
 unfold Mi.wV at h
 split at h
 ·exact⟨_,‹_›,h⟩
 ·exact h.elim
theorem ao(i:Nat)(hm:M i=false):AE M qV (pA i) (Mi.mV i):=fun e σ H Hv Q I h=>by
 obtain⟨d,he,k⟩:=Vj h
 obtain⟨v,q,z⟩:=I.nob i _ he hm
 exact⟨v,q,k v H Hv (.refl I.vw) z⟩
theorem aaw{H Hv:Hp}{w:W}{v:V}(h:Own H Hv w v):RB H Hv w v:=by
 obtain⟨a,o,e,q,_,c⟩:=h
 exact .inr ⟨a,o,e,q,c⟩
theorem R0.any{e:Su}{σ : L2.St}{H Hv:Hp}(I:R0 M e σ H Hv){i:Nat}{w:W}(he:e[i]? = some (some w)):∃ v,σ[i]? = some (some v)∧RB H Hv w v:=by
 cases hm:M i with
 | false =>
  obtain⟨v,q,z⟩:=I.nob i w he hm
  exact⟨v,q,.inl z⟩
 | true =>
  obtain⟨v,q,z⟩:=I.own i w he hm
  exact⟨v,q,aaw z⟩
theorem Dk(i:Nat):AE M qP (pA i) (Mi.mV i):=fun e σ H Hv Q I h=>by
 obtain⟨d,he,k⟩:=Vj h
 obtain⟨v,q,z⟩:=I.any he
 exact⟨v,q,k v H Hv (.refl I.vw) z⟩
theorem ym(i:Nat)(hm:M i=false):AW M qV (pA i) (Mi.wV i):=fun e σ H Hv Q I h=>by
 obtain⟨d,he,k⟩:=vX h
 obtain⟨v,q,z⟩:=I.nob i _ he hm
 exact⟨v,q,k v H Hv (.refl I.vw) z⟩
theorem YF(i:Nat):AW M qP (pA i) (Mi.wV i):=fun e σ H Hv Q I h=>by
 obtain⟨d,he,k⟩:=vX h
 obtain⟨v,q,z⟩:=I.any he
 exact⟨v,q,k v H Hv (.refl I.vw) z⟩
def B2(κ : Kd)(r:R2)(f:D→D→Rs D):Prop:=∀ x y v u H Hv Q,Vw H Hv→RD H Hv x v→RD H Hv y u→Fin (f x y) (fun d=>∀ w H' Hv',cY H Hv H' Hv'→κ H H' Hv' (.d d) w→Q w H')→r v u H Q
def BN(κ : Kd)(r:List V→Hp→VK→Prop)(f:List D→Rs D):Prop:=∀ ds vs H Hv Q,Vw H Hv→P2 (RD H Hv) ds vs→Fin (f ds) (fun d=>∀ w H' Hv',cY H Hv H' Hv'→κ H H' Hv' (.d d) w→Q w H')→r vs H Q
theorem aJ[KM κ](hr:B2 κ r f)(ha:AE M qP ta a)(hb:AE M qP tb b):AE M κ (tOp r ta tb) (Mi.m2 f a b):=fun e σ H Hv Q I h =>
 ha e σ H Hv _ I ((aq.mp h).mono fun x hx v H1 Hv1 g1 rx=>hb e σ H1 Hv1 _ (I.grow g1) ((aq.mp hx).mono fun y hy u H2 Hv2 g2 ry =>
  hr x y v u H2 Hv2 Q g2.vw (RB.grow g2 rx) ry (hy.mono fun d hd w H3 Hv3 g3 rw=>hd w H3 Hv3 (g1.trans (g2.trans g3)) (KM.mono (g1.old.trans g2.old) rw))))
theorem Ip{x:D}{k:Bool→Prop}(h:Fin (Mi.asB x) k):∃ b,x=.bl b∧k b:=by
 cases x with
 | bl b=>exact⟨b,rfl,h⟩
 | _=>exact h.elim
theorem Oh{x:D}{k:Int→Prop}(h:Fin (Mi.asI x) k):∃ b,x=.int b∧k b:=by
 cases x with
 | int b=>exact⟨b,rfl,h⟩
 | _=>exact h.elim
theorem Ge(ha:AE M qP ta a)(hb:AE M qV tb b):AE M qV (Zf ta tb) (Mi.DX a b):=fun e σ H Hv Q I h =>
 ha e σ H Hv _ I ((aq.mp h).mono fun x hx v H1 Hv1 g1 rx=>by
  obtain⟨k,rfl,hk⟩:=Ip (aq.mp hx)
  cases RD.bl rx
  refine⟨k,rfl,?_⟩
  cases k with
  | true=>exact HF (hb e σ H1 Hv1 Q (I.grow g1) (Fin.mono (Mi.yM hk) fun d hd w H2 Hv2 g2 rw=>hd w H2 Hv2 (g1.trans g2) rw))
  | false=>exact HH ((Mi.gf (Mi.yN hk)) _ H1 Hv1 g1 iY))
theorem aea(ha:AE M qP ta a)(hb:AE M qV tb b):AE M qV (abB ta tb) (Mi.mOr a b):=fun e σ H Hv Q I h =>
 ha e σ H Hv _ I ((aq.mp h).mono fun x hx v H1 Hv1 g1 rx=>by
  obtain⟨k,rfl,hk⟩:=Ip (aq.mp hx)
  cases RD.bl rx
  refine⟨k,rfl,?_⟩
  cases k with
  | false=>exact HH (hb e σ H1 Hv1 Q (I.grow g1) (Fin.mono (Mi.yN hk) fun d hd w H2 Hv2 g2 rw=>hd w H2 Hv2 (g1.trans g2) rw))
  | true=>exact HF ((Mi.gf (Mi.yM hk)) _ H1 Hv1 g1 iY))
theorem QG(h1:B2 qV r f)(h2:B2 qV r' g)(ha:AE M qP ta a)(hb:AE M qP tb b)(hc:AE M qP tc c):AE M qV (Mf r r' ta tb tc) (Mi.yc f g a b c):=fun e σ H Hv Q I h =>
 ha e σ H Hv _ I ((aq.mp h).mono fun x hx v H1 Hv1 g1 rx=>hb e σ H1 Hv1 _ (I.grow g1) ((aq.mp hx).mono fun y hy u H2 Hv2 g2 ry =>
  h1 x y v u H2 Hv2 _ g2.vw (RB.grow g2 rx) ry ((aq.mp hy).mono fun d hd w H3 Hv3 g3 rw=>by
   obtain⟨k,rfl,hk⟩:=Ip (aq.mp hd)
   cases (Bf (H:=Hv3)).mp rw
   refine⟨k,rfl,?_⟩
   cases k with
   | false=>exact HH ((Mi.gf (Mi.yN hk)) _ H3 Hv3 (g1.trans (g2.trans g3)) iY)
   | true=>exact HF (hc e σ H3 Hv3 _ (I.grow (g1.trans (g2.trans g3))) ((aq.mp (Mi.yM hk)).mono fun z hz w4 H4 Hv4 g4 rz =>
    h2 y z u w4 H4 Hv4 Q g4.vw (RB.grow (g3.trans g4) ry) rz (hz.mono fun d hd w5 H5 Hv5 g5 r5=>hd w5 H5 Hv5 (g1.trans (g2.trans (g3.trans (g4.trans g5)))) r5))))))
theorem jZ:AO M Oz (Mi.pQ none):=fun e σ H Hv Q I h=>h H Hv (.refl I.vw)
theorem jY(ha:AE M qP ta a):AO M (Zc ta) (Mi.pQ (some a)):=fun e σ H Hv Q I h =>
 ha e σ H Hv _ I ((aq.mp h).mono fun x hx v H1 Hv1 g1 rx=>by
  obtain⟨i,rfl,hk⟩:=Oh (aq.mp hx)
  exact⟨i,RD.int rx,hk H1 Hv1 g1⟩)
def BS(κ : Kd)(r:V→Option Int→Option Int→Hp→VK→Prop)(f:D→Option Int→Option Int→Rs D):Prop:=∀ x lo hi v H Hv Q,Vw H Hv→RD H Hv x v→Fin (f x lo hi) (fun d=>∀ w H' Hv',cY H Hv H' Hv'→κ H H' Hv' (.d d) w→Q w H')→r v lo hi H Q
theorem Dl[KM κ]{r:V→Option Int→Option Int→Hp→VK→Prop}{tl th:TO}{lo hi:Option Mi.E}{f:D→Option Int→Option Int→Rs D}(hr:BS κ r f)(ha:AE M qP ta a)(hl:AO M tl (Mi.pQ lo))(hh:AO M th (Mi.pQ hi)):AE M κ (tSl r ta tl th) (Mi.gq f a lo hi):=fun e σ H Hv Q I h =>
 ha e σ H Hv _ I ((aq.mp h).mono fun x hx v H1 Hv1 g1 rx=>hl e σ H1 Hv1 _ (I.grow g1) ((aq.mp hx).mono fun l hl H2 Hv2 g2=>hh e σ H2 Hv2 _ (I.grow (g1.trans g2)) ((aq.mp hl).mono fun u hu H3 Hv3 g3 =>
  hr x l u v H3 Hv3 Q g3.vw (RB.grow (g2.trans g3) rx) (hu.mono fun d hd w H4 Hv4 g4 rw=>hd w H4 Hv4 (g1.trans (g2.trans (g3.trans g4))) (KM.mono (g1.old.trans (g2.old.trans g3.old)) rw)))))
theorem j8(ha:AE M qP ta a):AT M (tB ta) (Mi.cB a):=fun e σ H Hv Q I h =>
 ha e σ H Hv _ I ((aq.mp h).mono fun x hx v H1 Hv1 g1 rx=>by
  obtain⟨k,rfl,hk⟩:=Ip hx
  exact⟨k,RD.bl rx,hk H1 Hv1 g1⟩)
theorem bY(ha:AE M qP ta a):AT M (Ti ta) (Mi.cB a):=j8 ha
theorem Dg{K:PySem.W.Frag}(ha:AE M qP ta a):AT M (fun σ H Q=>ta σ H fun x H'=>∃ k,abh K x H' k∧Q k H') (Mi.K4 a):=fun e σ H Hv Q I h =>
 ha e σ H Hv _ I ((aq.mp h).mono fun x hx v H1 Hv1 g1 rx=>by
  cases x with
  | non=>cases RD.non rx;exact⟨false,rfl,hx H1 Hv1 g1⟩
  | bl b=>cases RD.bl rx;exact⟨b,rfl,hx H1 Hv1 g1⟩
  | int i=>cases RD.int rx;exact⟨_,rfl,hx H1 Hv1 g1⟩
  | str y =>
   cases RD.str rx
   obtain⟨hz,hq⟩:=Mi.aR hx
   exact⟨_,⟨by rw[sizeLine_eq];exact hz,rfl⟩,hq H1 Hv1 g1⟩
  | lst ds =>
   obtain⟨p,xs,rfl,l,r⟩:=RD.lst g1.vw rx
   refine⟨!xs.isEmpty,.inl ⟨xs,l.sq,rfl⟩,?_⟩
   have:ds.isEmpty=xs.isEmpty:=by cases r<;>rfl
   rw[← this];exact hx H1 Hv1 g1
  | tup ds =>
   obtain⟨p,xs,rfl,l,_,r⟩:=RD.tup g1.vw rx
   refine⟨!xs.isEmpty,.inr (.inl ⟨xs,.inl (.inl l),rfl⟩),?_⟩
   have:ds.isEmpty=xs.isEmpty:=by cases r<;>rfl
   rw[← this];exact hx H1 Hv1 g1)
variable{tt uu:TT}{k l:Mi.C}
theorem vP(ha:AT M tt k)(hb:AT M uu l):AT M (abK tt uu) (Mi.nO k l):=fun e σ H Hv Q I h =>
 ha e σ H Hv _ I ((aq.mp h).mono fun x hx H1 Hv1 g1=>by
  cases x with
  | true=>exact HF (hb e σ H1 Hv1 Q (I.grow g1) (Fin.mono (Mi.yM hx) fun b hd H2 Hv2 g2=>hd H2 Hv2 (g1.trans g2)))
  | false=>exact HH ((Mi.gf (Mi.yN hx)) H1 Hv1 g1))
theorem za(ha:AT M tt k)(hb:AT M uu l):AT M (tOr tt uu) (Mi.Fp k l):=fun e σ H Hv Q I h =>
 ha e σ H Hv _ I ((aq.mp h).mono fun x hx H1 Hv1 g1=>by
  cases x with
  | false=>exact HH (hb e σ H1 Hv1 Q (I.grow g1) (Fin.mono (Mi.yN hx) fun b hd H2 Hv2 g2=>hd H2 Hv2 (g1.trans g2)))
  | true=>exact HF ((Mi.gf (Mi.yM hx)) H1 Hv1 g1))
theorem jX(ha:AT M tt k):AT M (abD tt) (Mi.jf k):=fun e σ H Hv Q I h =>
 ha e σ H Hv _ I ((aq.mp h).mono fun x hx H1 Hv1 g1=>hx H1 Hv1 g1)
theorem gj:AT M abz Mi.dX:=fun e σ H Hv Q I h=>h H Hv (.refl I.vw)
variable{tr:TA}{as:List Mi.E}{ws:List Mi.EW}
theorem aP:AA M κ pB (Mi.fV []):=fun e σ H Hv Q I h=>h [] H Hv (.refl I.vw) .nil
theorem aA[KM κ][KG κ](ha:AE M κ ta a)(hr:AA M κ tr (Mi.fV as)):AA M κ (iW ta tr) (Mi.fV (a::as)):=fun e σ H Hv Q I h =>
 ha e σ H Hv _ I ((aq.mp h).mono fun x hx v H1 Hv1 g1 rx=>hr e σ H1 Hv1 _ (I.grow g1) ((aq.mp hx).mono fun xs hs vs H2 Hv2 g2 rs =>
  hs (v::vs) H2 Hv2 (g1.trans g2) (.cons (KG.go g2 rx) (rs.imp fun _ _ z=>KM.mono g1.old z))))
theorem aZ:AAW M κ pB (Mi.bO []):=fun e σ H Hv Q I h=>h [] H Hv (.refl I.vw) .nil
theorem aD[KM κ][KG κ]{w:Mi.EW}(ha:AW M κ ta w)(hr:AAW M κ tr (Mi.bO ws)):AAW M κ (iW ta tr) (Mi.bO (w::ws)):=fun e σ H Hv Q I h =>
 ha e σ H Hv _ I ((aq.mp h).mono fun x hx v H1 Hv1 g1 rx=>hr e σ H1 Hv1 _ (I.grow g1) ((aq.mp hx).mono fun xs hs vs H2 Hv2 g2 rs =>
  hs (v::vs) H2 Hv2 (g1.trans g2) (.cons (KG.go g2 rx) (rs.imp fun _ _ z=>KM.mono g1.old z))))
theorem lB[KM κ]{r:List V→Hp→VK→Prop}{f:List D→Rs D}(hr:BN κ r f)(ha:AA M qP tr (Mi.fV as)):AE M κ (WN r tr) (Mi.mN f as):=fun e σ H Hv Q I h =>
 ha e σ H Hv _ I ((aq.mp h).mono fun ds hx vs H1 Hv1 g1 rx=>hr ds vs H1 Hv1 Q g1.vw rx (hx.mono fun d hd w H3 Hv3 g3 rw=>hd w H3 Hv3 (g1.trans g3) (KM.mono g1.old rw)))
theorem cI(ha:AA M qV tr (Mi.fV as)):AE M qV (Z9 tr) (Mi.mN Mi.dTup as):=fun e σ H Hv Q I h =>
 ha e σ H Hv _ I ((aq.mp h).mono fun ds hx vs H1 Hv1 g1 rx=>by
  obtain⟨hz,hq⟩:=Mi.aR hx
  refine⟨by rw[← rx.len,sizeLine_eq];exact hz,fun p hp=>?_⟩
  have g2:cY H1 Hv1 (upd H1 p (.tup vs)) (upd Hv1 p (.tup vs)):=.new g1.vw hp
  exact hq _ _ _ (g1.trans g2) (fL.mpr ⟨p,vs,rfl,aV,cZ g2.vis rx⟩))
theorem rD(ha:AA M qV tr (Mi.fV as)):AE M qN (abE tr) (Mi.mN Mi.oR as):=fun e σ H Hv Q I h =>
 ha e σ H Hv _ I ((aq.mp h).mono fun ds hx vs H1 Hv1 g1 rx=>by
  obtain⟨hz,hq⟩:=Mi.aR hx
  refine⟨by rw[← rx.len,sizeLine_eq];exact hz,fun p hp=>?_⟩
  have g2:cY H1 Hv1 (upd H1 p (.lst vs)) Hv1:=.Ri g1.vw trivial hp
  exact hq _ _ _ (g1.trans g2) ⟨p,.lst vs,rfl,g1.old.free hp,aV,nq g1.vw hp,rx⟩)
def jr(f:Mi.Fn):Sp:=fun vs H Q _=>∃ Hv ws,Vw H Hv∧P2 (uE Hv) ws vs∧Fin (f ws) (fun w=>∀ v H' Hv',cY H Hv H' Hv'→qV H H' Hv' w v→Q v H')
def t6(f:Mi.Fn):Sp:=fun vs H Q _=>∃ Hv ws,Vw H Hv∧P2 (uE Hv) ws vs∧Fin (f ws) (fun w=>∀ v H' Hv',cY H Hv H' Hv'→qN H H' Hv' w v→Q v H')
variable{fn:Mi.Fn}{E:XK}
theorem YG(ha:AAW M qV tr (Mi.bO ws)):AW M qV (yx (jr fn) [] E tr) (Mi.jG fn ws):=fun e σ H Hv Q I h =>
 ha e σ H Hv _ I ((aq.mp h).mono fun ds hx vs H1 Hv1 g1 rx=>by
  rw[List.append_nil]
  exact⟨Hv1,ds,g1.vw,rx,hx.mono fun d hd w H3 Hv3 g3 rw=>hd w H3 Hv3 (g1.trans g3) rw⟩)
theorem Df(ha:AAW M qV tr (Mi.bO ws)):AW M qN (yx (t6 fn) [] E tr) (Mi.jG fn ws):=fun e σ H Hv Q I h =>
 ha e σ H Hv _ I ((aq.mp h).mono fun ds hx vs H1 Hv1 g1 rx=>by
  rw[List.append_nil]
  exact⟨Hv1,ds,g1.vw,rx,hx.mono fun d hd w H3 Hv3 g3 rw=>hd w H3 Hv3 (g1.trans g3) (KM.mono (κ:=qN) g1.old rw)⟩)
theorem abb{w:W}{k:D→Prop}(h:Fin (Mi.asD w) k):∃ d,w=.d d∧k d:=by
 cases w with
 | d x=>exact⟨x,rfl,h⟩
 | _=>exact h.elim
theorem AW.d{w:Mi.EW}(h:AW M κ t w):AE M κ t (fun e=>(w e).bind Mi.asD):=fun e σ H Hv Q I q =>
 h e σ H Hv Q I ((aq.mp q).mono fun w z v H' Hv' g k=>by
  obtain⟨d,rfl,z⟩:=abb z
  exact z v H' Hv' g k)
theorem bD(ha:AAW M qV tr (Mi.bO ws)):AE M qV (yx (jr fn) [] E tr) (Mi.aQ fn ws):=(YG ha).d
theorem gm(ha:AAW M qV tr (Mi.bO ws)):AE M qN (yx (t6 fn) [] E tr) (Mi.aQ fn ws):=(Df ha).d
def Rh(H:Hp):Hp:=fun a=>match H a with
 | some (.tbl _ _)=>none
 | x=>x
theorem ji{H:Hp}{a:Addr}{o:HO}(h:H a=some o)(n:NT o):Rh H a=some o:=by
 unfold Rh;rw[h];cases o<;>first|rfl|exact n.elim
theorem zK{H:Hp}{a:Addr}{o:HO}(h:Rh H a=some o):H a=some o∧NT o:=by
 unfold Rh at h
 cases q:H a with
 | none=>rw[q] at h;cases h
 | some u =>
  rw[q] at h
  cases u with
  | tbl w ps=>cases h
  | _=>cases h;exact⟨rfl,trivial⟩
theorem Vw.all{H:Hp}(k:jz H):Vw H (Rh H):=⟨fun a o e=>(zK e).1,fun a xs e=>ji e trivial,fun a o u e=>ji e trivial,k,fun a o e=>(zK e).2⟩
theorem RB.ZJ{H Hv:Hp}(v:Vw H Hv){w:W}{x:V}(h:RB H Hv w x):uE (Rh H) w x:=by
 have s:gR Hv (Rh H):=fun a o e=>ji (v.sub a o e) (v.nv a o e)
 rcases h with h|⟨a,o,rfl,q,c⟩
 ·exact m6 s h
 ·exact t8 (ji q c.nt) (c.same s)
def seen(H Hv H':Hp):Hp:=fun a=>match Hv a,H a with
 | none,some _=>none
 | _,_=>Rh H' a
theorem Ep{H Hv H':Hp}(v:Vw H Hv)(s:Old H H')(k':jz H'):cY H Hv H' (seen H Hv H'):=by
 have key:∀ a,(∃ o,H a=some o∧Hv a=none∧seen H Hv H' a=none)∨(seen H Hv H' a=Rh H' a∧∀ o,H a=some o→Hv a=some o):=fun a=>by
  cases h1:Hv a with
  | none =>
   cases h2:H a with
   | none=>exact .inr ⟨by unfold seen;rw[h1,h2],fun o e=>by cases e⟩
   | some o=>exact .inl ⟨o,rfl,rfl,by unfold seen;rw[h1,h2]⟩
  | some o =>
   refine .inr ⟨by unfold seen;rw[h1],fun u e=>?_⟩
   rw[v.sub a o h1] at e;exact e
 have back:∀ b o,H' b=some o→NT o→(∃ u,H b=some u)→∃ u,H b=some u:=fun _ _ _ _ z=>z
 refine⟨s,fun b o e=>?_,⟨fun b o e=>?_,fun b xs e=>?_,fun b q u e=>?_,k',fun b o e=>?_⟩,fun b o e n=>?_⟩
 ·rcases key b with ⟨u,_,z,_⟩|⟨z,_⟩
  ·rw[e] at z;cases z
  ·rw[z];exact ji (s.nt b o (v.sub b o e) (v.nv b o e)) (v.nv b o e)
 ·rcases key b with ⟨u,_,_,z⟩|⟨z,_⟩
  ·rw[e] at z;cases z
  ·rw[z] at e;exact(zK e).1
 ·rcases key b with ⟨u,h1,h2,_⟩|⟨z,_⟩
  ·cases u with
   | tbl w ps=>exact absurd e (s.tab h1 trivial)
   | _ =>
    have:=s.nt b _ h1 trivial
    rw[e] at this;cases this
    try (rw[v.tup b xs h1] at h2;cases h2)
  ·rw[z];exact ji e trivial
 ·rcases key b with ⟨w,h1,h2,_⟩|⟨z,_⟩
  ·cases w with
   | tbl w ps=>exact absurd e (s.tab h1 trivial)
   | _ =>
    have:=s.nt b _ h1 trivial
    rw[e] at this;cases this
    try (rw[v.frz b q u h1] at h2;cases h2)
  ·rw[z];exact ji e trivial
 ·rcases key b with ⟨u,_,_,z⟩|⟨z,_⟩
  ·rw[e] at z;cases z
  ·rw[z] at e;exact(zK e).2
 ·rcases key b with ⟨u,h1,h2,z⟩|⟨z,k⟩
  ·exact z
  ·rw[k o e] at n;cases n
theorem QH(ha:AAW M qP tr (Mi.bO ws)):AE M qV (yx (jr fn) [] E tr) (Mi.sV fn ws):=fun e σ H Hv Q I h =>
 ha e σ H Hv _ I ((aq.mp (aq.mp h)).mono fun ds hx vs H1 Hv1 g1 rx=>by
  rw[List.append_nil]
  refine⟨Rh H1,ds,.all g1.vw.cd,rx.imp fun w v z=>RB.ZJ g1.vw z,hx.mono fun w hd v H3 Hv3 g3 rw=>?_⟩
  cases w with
  | d x =>
   obtain⟨hi,hd⟩:=Mi.aR hd
   have g4:=Ep g1.vw g3.old g3.vw.cd
   refine hd v H3 _ (g1.trans g4) (O6 g4.vw.tup hi (lM g3.vw.sub rw))
  | _=>exact hd.elim)
end
end A
namespace A
open PySem L2 PyProof.Rows
open Mi (D W Rs Fin aq Out Tg)
variable[Tb:fK]
structure ItD(J:It)(P:Hp→Hp→Prop)(ds:List D):Prop where
 go:∀ i H Hv,P H Hv→Vw H Hv→i < ds.length→J.go i H
 yld:∀ i H Hv x H',P H Hv→Vw H Hv→i < ds.length→J.yld i H x H'→∃ Hv' d,cY H Hv H' Hv'∧ds[i]? = some d∧Rep Hv' d x
 stop:∀ H Hv,P H Hv→Vw H Hv→J.stop ds.length H
def AIc(M:Nat→Bool)(wi:TI)(it:Mi.I):Prop:=∀ e σ H Hv (R:It→Hp→Prop),R0 M e σ H Hv→Fin (it e) (fun ds=>∀ (J:It) H' Hv' (P:Hp→Hp→Prop),cY H Hv H' Hv'→ItD J P ds→P H' Hv'→(∀ H1 Hv1 H2 Hv2,P H1 Hv1→cY H1 Hv1 H2 Hv2→P H2 Hv2)→R J H')→wi σ H R
def QL(M:Nat→Bool)(wi:TI)(it:Mi.I):Prop:=∀ e σ H Hv (R:It→Hp→Prop),R0 M e σ H Hv→Fin (it e) (fun ds=>∀ (J:It) H' Hv' (P:Hp→Hp→Prop),cY H Hv H' Hv'→ItD J P ds→P H' Hv'→(∀ H1 Hv1 H2 Hv2,P H1 Hv1→gR Hv1 Hv2→Vw H2 Hv2→P H2 Hv2)→R J H')→wi σ H R
theorem iZ{α : Type}{r:Rs α}{k:α→Prop}(h:Fin r k):∃ x,r=.ok x∧k x:=by
 cases r with
 | ok x=>exact⟨x,rfl,h⟩
 | _=>exact h.elim
section
variable{M:Nat→Bool}{ta tb:TE}{a b:Mi.E}{wi:TI}{it:Mi.I}{tr:TA}{as:List Mi.E}
theorem QL.c(h:QL M wi it):AIc M wi it:=fun e σ H Hv R I q=>h e σ H Hv R I (q.mono fun ds z J H' Hv' P g o p k=>z J H' Hv' P g o p fun H1 Hv1 H2 Hv2 p g'=>k H1 Hv1 H2 Hv2 p g'.vis g'.vw)
theorem vC{J:It}{Ok:Hp→Prop}{xs:List V}(O:J.Of Ok xs){ds:List D}{P:Hp→Hp→Prop}(ok:∀ H Hv,P H Hv→Vw H Hv→Ok H)(r:∀ H Hv,P H Hv→P2 (Rep Hv) ds xs)(ex:∃ H Hv,P H Hv):ItD J P ds:=by
 have hl:ds.length=xs.length:=by obtain⟨H,Hv,p⟩:=ex;exact(r H Hv p).len
 refine⟨fun i H Hv p v hi=>O.go i H (ok H Hv p v) (by omega),fun i H Hv x H' p v hi y=>?_,fun H Hv p v=>by rw[hl];exact O.stop H (ok H Hv p v)⟩
 obtain⟨rfl,hx⟩:=O.yld i H x H' (ok H Hv p v) (by omega) y
 obtain⟨d,hd,rx⟩:=(r H' Hv p).aaX hx
 exact⟨Hv,d,.refl v,hd,rx⟩
def aaU(K:PySem.W.Frag)(tl:TE):TI:=fun σ H R=>ZG K tl σ H R∨acB K tl σ H R∨acC tl σ H R
theorem cG{X:Cx}{tg l:Expr}{tl:TE}(hl:PE X l tl):PI X tg l (aaU X.K tl):=fun pins s σ H R I h=>by
 rcases h with h|h|h
 ·exact Xk hl pins s σ H R I h
 ·exact aat hl pins s σ H R I h
 ·exact aau hl pins s σ H R I h
theorem Jx(H:Hp)(z:Str):P2 (Rep H) (z.cps.toList.map fun c=>D.str ⟨#[c]⟩) (Ml z):=by
 unfold Ml
 induction z.cps.toList with
 | nil=>exact .nil
 | cons c r ih=>exact .cons (mL.mpr rfl) ih
theorem dN{K:PySem.W.Frag}(ha:AE M qP ta a):AIc M (aaU K ta) (Mi.lY a):=fun e σ H Hv R I h=>by
 obtain⟨d,hd,h⟩:=iZ (aq.mp h)
 have run:∀ Q:VK,(∀ v H' Hv',cY H Hv H' Hv'→RD H' Hv' d v→Q v H')→ta σ H Q:=fun Q q=>ha e σ H Hv Q I (by rw[hd];exact q)
 cases d with
 | lst ds =>
  refine .inl (run _ fun v H' Hv' g r=>?_)
  obtain⟨p,xs,rfl,l,r⟩:=RD.lst g.vw r
  exact⟨p,rfl,⟨xs,l.sq⟩,h (Itl K p) H' Hv' (fun H Hv=>Lst H p xs∧P2 (Rep Hv) ds xs) g (vC Pk (fun H Hv p v=>p.1.sq) (fun H Hv p=>p.2) ⟨H',Hv',l,r⟩) ⟨l,r⟩ fun H1 Hv1 H2 Hv2 z g'=>⟨z.1.old g'.old,cZ g'.vis z.2⟩⟩
 | tup ds =>
  refine .inr (.inl (run _ fun v H' Hv' g r=>?_))
  obtain⟨p,xs,rfl,l,_,r⟩:=RD.tup g.vw r
  exact⟨p,rfl,⟨xs,.inl (.inl l)⟩,h (Itt K p) H' Hv' (fun H Hv=>H p=some (.tup xs)∧P2 (Rep Hv) ds xs) g (vC UW (fun H Hv p v=>.inl (.inl p.1)) (fun H Hv p=>p.2) ⟨H',Hv',l,r⟩) ⟨l,r⟩ fun H1 Hv1 H2 Hv2 z g'=>⟨g'.old.at z.1,cZ g'.vis z.2⟩⟩
 | str z =>
  refine .inr (.inr (run _ fun v H' Hv' g r=>?_))
  exact⟨z,RD.str r,h (Its z) H' Hv' (fun _ _=>True) g (vC U0 (fun _ _ _ _=>trivial) (fun H Hv _=>Jx Hv z) ⟨H,Hv,trivial⟩) trivial fun _ _ _ _ _ _=>trivial⟩
 | _=>exact h.elim
theorem nQ{K:PySem.W.Frag}(ha:AE M qV ta a):QL M (aaU K ta) (Mi.lY a):=fun e σ H Hv R I h=>by
 obtain⟨d,hd,h⟩:=iZ (aq.mp h)
 have run:∀ Q:VK,(∀ v H' Hv',cY H Hv H' Hv'→Rep Hv' d v→Q v H')→ta σ H Q:=fun Q q=>ha e σ H Hv Q I (by rw[hd];exact q)
 cases d with
 | lst ds =>
  refine .inl (run _ fun v H' Hv' g r=>?_)
  obtain⟨p,xs,rfl,l,r⟩:=mO.mp r
  exact⟨p,rfl,⟨xs,(l.same g.vw.sub).sq⟩,h (Itl K p) H' Hv' (fun H Hv=>Lst Hv p xs∧P2 (Rep Hv) ds xs) g (vC Pk (fun H Hv p v=>(p.1.same v.sub).sq) (fun H Hv p=>p.2) ⟨H',Hv',l,r⟩) ⟨l,r⟩ fun H1 Hv1 H2 Hv2 z s v=>⟨z.1.same s,cZ s z.2⟩⟩
 | tup ds =>
  refine .inr (.inl (run _ fun v H' Hv' g r=>?_))
  obtain⟨p,xs,rfl,l,r⟩:=fL.mp r
  exact⟨p,rfl,⟨xs,.inl (.inl (g.vw.sub _ _ l))⟩,h (Itt K p) H' Hv' (fun H Hv=>Hv p=some (.tup xs)∧P2 (Rep Hv) ds xs) g (vC UW (fun H Hv p v=>.inl (.inl (v.sub _ _ p.1))) (fun H Hv p=>p.2) ⟨H',Hv',l,r⟩) ⟨l,r⟩ fun H1 Hv1 H2 Hv2 z s v=>⟨s _ _ z.1,cZ s z.2⟩⟩
 | str z =>
  refine .inr (.inr (run _ fun v H' Hv' g r=>?_))
  exact⟨z,mL.mp r,h (Its z) H' Hv' (fun _ _=>True) g (vC U0 (fun _ _ _ _=>trivial) (fun H Hv _=>Jx Hv z) ⟨H,Hv,trivial⟩) trivial fun _ _ _ _ _ _ _=>trivial⟩
 | _=>exact h.elim
theorem W9(H:Hp)(lo hi:Int):P2 (Rep H) (Mi.dO lo hi) (Mq lo (hi - lo).toNat):=by
 unfold Mi.dO Mq
 induction List.range (hi - lo).toNat with
 | nil=>exact .nil
 | cons c r ih=>exact .cons (n6.mpr rfl) ih
theorem Rt(lo hi:Int)(H Hv:Hp):ItD (Itr lo (hi - lo).toNat) (fun _ _=>True) (Mi.dO lo hi):=vC U4 (fun _ _ _ _=>trivial) (fun H Hv _=>W9 Hv lo hi) ⟨H,Hv,trivial⟩
theorem iV(ha:AE M qP ta a):QL M (ZF (iW ta pB)) (Mi.iR a):=fun e σ H Hv R I h =>
 ha e σ H Hv _ I ((aq.mp h).mono fun x hx v H1 Hv1 g1 rx=>by
  obtain⟨j,rfl,hk⟩:=Oh (aq.mp hx)
  obtain⟨hz,hq⟩:=Mi.aR hk
  cases RD.int rx
  refine⟨j,rfl,hz.1,hz.2,?_⟩
  have:=hq (Itr 0 (j - 0).toNat) H1 Hv1 _ g1 (Rt 0 j H Hv) trivial fun _ _ _ _ _ _ _=>trivial
  rw[Int.sub_zero] at this
  exact this)
end
def aaW:List Nat→SJ
 | []=>Vz
 | i::r=>Ko (pX i) (aaW r)
def Aj:Tg→List Nat
 | .n i=>[i]
 | .t is=>is
def tgG(K:PySem.W.Frag):Tg→TG
 | .n i=>pX i
 | .t is=>aaY K is.length (aaW is)
section
variable{P:Mi.Env→L2.St→Prop}{H Hv:Hp}
theorem Vy:∀ {is:List Nat} {ds:List D} {xs:List V} {e:Mi.Env} {σ : L2.St} {Q:L2.St→Hp→Prop},(∀ i∈is,∀ e σ d v,P e σ→Rep Hv d v→P (e.set i (some (.d d))) (σ.set i (some v)))→P e σ→P2 (Rep Hv) ds xs →
 Fin (Mi.xH is ds e) (fun e'=>∀ σ',P e' σ'→Q σ' H)→aaW is xs σ H Q
 | [],[],xs,e,σ,Q,cl,p,r,h=>by
  cases r
  exact⟨rfl,h σ p⟩
 | [],_::_,xs,e,σ,Q,cl,p,r,h=>h.elim
 | _::_,[],xs,e,σ,Q,cl,p,r,h=>h.elim
 | i::is,d::ds,xs,e,σ,Q,cl,p,r,h=>by
  cases r with
  | cons x t=>exact⟨_,_,rfl,Vy (fun j hj=>cl j (List.mem_cons_of_mem _ hj)) (cl i List.mem_cons_self _ _ _ _ p x) t h⟩
theorem Am:∀ {is:List Nat} {ds:List D} {e:Mi.Env} {k:Mi.Env→Prop},Fin (Mi.xH is ds e) k→ds.length=is.length
 | [],[],_,_,_=>rfl
 | [],_::_,_,_,h=>h.elim
 | _::_,[],_,_,h=>h.elim
 | i::is,d::ds,e,k,h=>by rw[List.length_cons,List.length_cons,Am (is:=is) (ds:=ds) (k:=k) h]
theorem LR{K:PySem.W.Frag}(vw:Vw H Hv){tg:Tg}{d:D}{v:V}{e:Mi.Env}{σ : L2.St}{Q:L2.St→Hp→Prop}(cl:∀ i∈Aj tg,∀ e σ d v,P e σ→Rep Hv d v→P (e.set i (some (.d d))) (σ.set i (some v)))(p:P e σ)(r:Rep Hv d v)
 (h:Fin (tg.put d e) (fun e'=>∀ σ',P e' σ'→Q σ' H)):tgG K tg v σ H Q:=by
 cases tg with
 | n i=>exact h _ (cl i (by simp[Aj]) _ _ _ _ p r)
 | t is =>
  cases d with
  | tup ds =>
   obtain⟨a,xs,e1,l,r⟩:=fL.mp r
   exact⟨a,xs,e1,.inl (.inl (vw.sub _ _ l)),by rw[← r.len];exact Am h,Vy cl p r h⟩
  | _=>exact h.elim
end
theorem jH{α : Type}{l:List α}{i j:Nat}{x y:α}(h:(l.set i x)[j]? = some y):(i=j∧x=y∧i < l.length)∨(i≠j∧l[j]? = some y):=by
 rw[List.getElem?_set] at h
 split at h
 ·split at h
  ·exact .inl ⟨‹_›,Option.some.inj h,by omega⟩
  ·cases h
 ·exact .inr ⟨‹_›,h⟩
theorem R0.set{M:Nat→Bool}{e:Mi.Env}{σ : L2.St}{H Hv:Hp}(I:R0 M e σ H Hv){i:Nat}{w:W}{v:V}(hm:M i=false)(r:uE Hv w v):R0 M (e.set i (some w)) (σ.set i (some v)) H Hv:=by
 refine⟨I.vw,by rw[List.length_set,List.length_set];exact I.len,fun j w' h m=>?_,fun j w' h m=>?_⟩
 ·rcases jH h with ⟨rfl,h,l⟩|⟨n,h⟩
  ·cases h
   exact⟨v,by rw[List.getElem?_set_self (by rw[I.len];exact l)],r⟩
  ·obtain⟨u,q,z⟩:=I.nob j w' h m
   exact⟨u,by rw[List.getElem?_set_ne n];exact q,z⟩
 ·rcases jH h with ⟨rfl,h,l⟩|⟨n,h⟩
  ·rw[hm] at m;cases m
  ·obtain⟨u,q,z⟩:=I.own j w' h m
   exact⟨u,by rw[List.getElem?_set_ne n];exact q,z⟩
theorem R1.set{M:Nat→Bool}{H0 Hv0:Hp}{e:Mi.Env}{σ : L2.St}{H Hv:Hp}(I:R1 M H0 Hv0 e σ H Hv){i:Nat}{w:W}{v:V}(hm:M i=false)(r:uE Hv w v):R1 M H0 Hv0 (e.set i (some w)) (σ.set i (some v)) H Hv:=by
 have nj:∀ {j:Nat} {w':W},(e.set i (some w))[j]? = some (some w')→M j=true→i≠j∧e[j]? = some (some w'):=fun {j w'} h m=>by
  rcases jH h with ⟨rfl,_,_⟩|⟨n,h⟩
  ·rw[hm] at m;cases m
  ·exact⟨n,h⟩
 refine⟨I.toR0.set hm r,I.gw,fun j w' a h m q=>?_,fun j k w1 w2 a b hjk h1 h2 m1 m2 q1 q2=>?_⟩
 ·obtain⟨n,h⟩:=nj h m
  rw[List.getElem?_set_ne n] at q
  exact I.fresh j w' a h m q
 ·obtain⟨n1,h1⟩:=nj h1 m1
  obtain⟨n2,h2⟩:=nj h2 m2
  rw[List.getElem?_set_ne n1] at q1
  rw[List.getElem?_set_ne n2] at q2
  exact I.sep j k w1 w2 a b hjk h1 h2 m1 m2 q1 q2
def Bj(ρ : List (Option Nat))(M:Nat→Bool):Nat→Bool:=fun i=>match ρ[i]? with
 | some (some j)=>M j
 | _=>false
theorem JK{α : Type}{ρ : List (Option Nat)}{e:List (Option α)}{i:Nat}{w:α}(h:(ρ.map fun o=>o.bind fun j=>(e[j]?).join)[i]? = some (some w)):∃ j,ρ[i]? = some (some j)∧e[j]? = some (some w):=by
 rw[List.getElem?_map] at h
 cases hr:ρ[i]? with
 | none=>rw[hr] at h;cases h
 | some o =>
  rw[hr] at h
  cases o with
  | none=>cases h
  | some j =>
   refine⟨j,rfl,?_⟩
   have h:(e[j]?).join=some w:=Option.some.inj h
   cases hq:e[j]? with
   | none=>rw[hq] at h;cases h
   | some o' => rw [hq] at h; have h : o' = some w := h
                rw[h]
theorem O8{α : Type}{ρ : List (Option Nat)}{e:List (Option α)}{i j:Nat}{w:α}(h1:ρ[i]? = some (some j))(h2:e[j]? = some (some w)):(ρ.map fun o=>o.bind fun j=>(e[j]?).join)[i]? = some (some w):=by
 rw[List.getElem?_map,h1]
 show some ((e[j]?).join)=_
 rw[h2];rfl
theorem R0.pick{M:Nat→Bool}{e:Mi.Env}{σ : L2.St}{H Hv:Hp}(I:R0 M e σ H Hv)(ρ : List (Option Nat)):R0 (Bj ρ M) (Mi.ou ρ e) (L2.pick ρ σ) H Hv:=by
 refine⟨I.vw,by unfold Mi.ou L2.pick;rw[List.length_map,List.length_map],fun i w h m=>?_,fun i w h m=>?_⟩
 ·obtain⟨j,h1,h2⟩:=JK h
  have m:M j=false:=by unfold Bj at m;rw[h1] at m;exact m
  obtain⟨v,q,z⟩:=I.nob j w h2 m
  exact⟨v,O8 h1 q,z⟩
 ·obtain⟨j,h1,h2⟩:=JK h
  have m:M j=true:=by unfold Bj at m;rw[h1] at m;exact m
  obtain⟨v,q,z⟩:=I.own j w h2 m
  exact⟨v,O8 h1 q,z⟩
theorem RX{tg:Tg}{c:Mi.C}{a:Mi.E}{e:Mi.Env}{x:D}{r:List D}{k:List D→Prop}(h:Fin (Mi.dJ tg c a e (x::r)) k) :
 Fin (tg.put x e) fun e1=>Fin (c e1) fun b=>if b=true then Fin (a e1) fun y=>Fin (Mi.dJ tg c a e r) fun ys=>k (y::ys) else Fin (Mi.dJ tg c a e r) k:=by
 refine(aq.mp h).mono fun e1 h1=>(aq.mp h1).mono fun b h2=>?_
 cases b with
 | true=>exact HF ((aq.mp (Mi.yM h2)).mono fun y h3=>(aq.mp h3).mono fun ys h4=>h4)
 | false=>exact HH (Mi.yN h2)
theorem dF{M:Nat→Bool}{K:PySem.W.Frag}{ρ : List (Option Nat)}{wi:TI}{it:Mi.I}{tg:Tg}{tc:TT}{c:Mi.C}{te:TE}{a:Mi.E}(hi:AIc M wi it)(hm:∀ i∈Aj tg,Bj ρ M i=false)(hc:AT (Bj ρ M) tc c)(he:AE (Bj ρ M) qV te a) :
 AE M qN (OJ wi ρ (tgG K tg) tc te) (Mi.cF ρ it tg c a):=fun e σ H Hv Q I h =>
 hi e σ H Hv _ I ((aq.mp h).mono fun ds h1 J H1 Hv1 P g1 O p1 per=>by
  obtain⟨hz,h1⟩:=Mi.aR h1
  have h1:=aq.mp h1
  have I1:=I.grow g1
  refine⟨fun i m acc H'=>m=ds.length - i∧i≤ds.length∧∃ Hv',cY H1 Hv1 H' Hv'∧P H' Hv'∧acc.length≤i∧∃ done,P2 (Rep Hv') done acc∧Fin (Mi.dJ tg c a (Mi.ou ρ e) (ds.drop i)) fun ys=>∀ v H2 Hv2,cY H Hv H2 Hv2→qN H H2 Hv2 (.d (.lst (done++ys))) v→Q v H2,
   ⟨ds.length,by simp,Nat.zero_le _,Hv1,.refl g1.vw,p1,Nat.le_refl _,[],.nil,by rw[List.drop_zero];exact h1.mono fun ys z=>z⟩,?_⟩
  rintro i m acc H' ⟨rfl,hle,Hv',g,pp,l,done,pd,hf⟩
  by_cases hlt:i < ds.length
  ·refine .inr ⟨O.go i H' Hv' pp g.vw hlt,by rw[sizeLine_eq];omega,fun acc' H2=>∃ Hv2,cY H1 Hv1 H2 Hv2∧P H2 Hv2∧acc'.length≤i+1∧∃ done,P2 (Rep Hv2) done acc'∧Fin (Mi.dJ tg c a (Mi.ou ρ e) (ds.drop (i+1))) fun ys=>∀ v H3 Hv3,cY H Hv H3 Hv3→qN H H3 Hv3 (.d (.lst (done++ys))) v→Q v H3,
    fun acc' H2 z=>⟨ds.length - (i+1),by omega,rfl,hlt,z⟩,fun x H2 y=>?_⟩
   obtain⟨Hv2,d,g2,hd,rx⟩:=O.yld i H' Hv' x H2 pp g.vw hlt y
   have g12:=g.trans g2
   have hdr:ds.drop i=d::ds.drop (i+1):=by
    obtain⟨hl,e1⟩:=List.getElem?_eq_some_iff.mp hd
    rw[List.drop_eq_getElem_cons hl,e1]
   rw[hdr] at hf
   have hf:=RX hf
   refine LR (P:=fun e1 σ1=>R0 (Bj ρ M) e1 σ1 H2 Hv2) g2.vw (fun j hj e1 σ1 d1 v1 r1 z=>r1.set (hm j hj) z) ((I1.grow g12).pick ρ) rx (hf.mono fun e1 hf1 σ1 r1=>?_)
   refine hc e1 σ1 H2 Hv2 _ r1 (hf1.mono fun b hb H3 Hv3 g3=>?_)
   cases b with
   | true =>
    refine HF (he e1 σ1 H3 Hv3 _ (r1.grow g3) (Fin.mono (by simpa using hb) fun y hy v H4 Hv4 g4 ry=>?_))
    exact⟨Hv4,g12.trans (g3.trans g4),per _ _ _ _ pp (g2.trans (g3.trans g4)),by rw[List.length_append,List.length_singleton];omega,done++[y],(cZ (g2.trans (g3.trans g4)).vis pd).append (.cons ry .nil),hy.mono fun ys z v H5 Hv5 g5 k=>z v H5 Hv5 g5 (by rw[List.append_assoc] at k;exact k)⟩
   | false=>exact HH ⟨Hv3,g12.trans g3,per _ _ _ _ pp (g2.trans g3),by omega,done,cZ (g2.trans g3).vis pd,by simpa using hb⟩
  ·have hi:i=ds.length:=by omega
   subst hi
   refine .inl ⟨O.stop H' Hv' pp g.vw,fun p hp=>?_⟩
   rw[List.drop_of_length_le (Nat.le_refl _)] at hf
   have g2:cY H' Hv' (upd H' p (.lst acc)) Hv':=.Ri g.vw trivial hp
   refine hf _ _ _ (g1.trans (g.trans g2)) ⟨p,.lst acc,rfl,(g1.old.trans g.old).free hp,aV,nq g.vw hp,?_⟩
   show P2 (Rep Hv') (done++[]) acc
   rw[List.append_nil];exact pd)
def uV(M:Nat→Bool)(κ : Kd)(H0 Hv0:Hp)(D:Ends)(Hv:Hp):Out→Prop
 | .nx e=>∀ σ H' Hv',R1 M H0 Hv0 e σ H' Hv'→gR Hv Hv'→D.nx σ H'
 | .rt w=>∀ v H' Hv',cY H0 Hv0 H' Hv'→κ H0 H' Hv' w v→D.rt v H'
 | .bk e=>∀ σ H' Hv',R1 M H0 Hv0 e σ H' Hv'→gR Hv Hv'→D.bk σ H'
 | .ct e=>∀ σ H' Hv',R1 M H0 Hv0 e σ H' Hv'→gR Hv Hv'→D.ct σ H'
def AS(M:Nat→Bool)(κ : Kd)(t:TS)(m:Mi.S):Prop:=∀ H0 Hv0 e σ H Hv D,R1 M H0 Hv0 e σ H Hv→Fin (m e) (uV M κ H0 Hv0 D Hv)→t D σ H
section
variable{M:Nat→Bool}{κ : Kd}{t u:TS}{m n:Mi.S}{te:TE}{a b:Mi.E}{w:Mi.EW}
theorem bM:AS M κ Zd Mi.bK:=fun H0 Hv0 e σ H Hv D I h=>h σ H Hv I (gR.refl _)
theorem jn:AS M κ Tn Mi.gW:=fun H0 Hv0 e σ H Hv D I h=>h
theorem aK(h1:AS M κ t m)(h2:AS M κ u n):AS M κ (abA t u) (Mi.bc m n):=fun H0 Hv0 e σ H Hv D I h =>
 h1 H0 Hv0 e σ H Hv _ I ((aq.mp h).mono fun o ho=>by
  cases o with
  | nx e'=>exact fun σ' H' Hv' I' s=>h2 H0 Hv0 e' σ' H' Hv' D I' (Fin.mono ho fun o z=>by
   cases o with
   | nx e2=>exact fun σ2 H2 Hv2 I2 s2=>z σ2 H2 Hv2 I2 (s.trans s2)
   | rt w=>exact z
   | bk e2=>exact fun σ2 H2 Hv2 I2 s2=>z σ2 H2 Hv2 I2 (s.trans s2)
   | ct e2=>exact fun σ2 H2 Hv2 I2 s2=>z σ2 H2 Hv2 I2 (s.trans s2))
  | rt w=>exact ho
  | bk e'=>exact ho
  | ct e'=>exact ho)
theorem uw(ha:AE M qP te a):AS M κ (Em te) (Mi.sI a):=fun H0 Hv0 e σ H Hv D I h =>
 ha e σ H Hv _ I.toR0 ((aq.mp h).mono fun d hd v H1 Hv1 g1 r=>hd σ H1 Hv1 (I.grow g1) g1.vis)
theorem bI(i:Nat)(hm:M i=false)(ha:AE M qV te a):AS M κ (Jr te (pX i)) (Mi.bV i a):=fun H0 Hv0 e σ H Hv D I h =>
 ha e σ H Hv _ I.toR0 ((aq.mp h).mono fun d hd v H1 Hv1 g1 r=>hd _ H1 Hv1 ((I.grow g1).set hm r) g1.vis)
theorem QB(i:Nat)(hm:M i=false)(ha:AW M qV te w):AS M κ (Jr te (pX i)) (Mi.uL i w):=fun H0 Hv0 e σ H Hv D I h =>
 ha e σ H Hv _ I.toR0 ((aq.mp h).mono fun d hd v H1 Hv1 g1 r=>hd _ H1 Hv1 ((I.grow g1).set hm r) g1.vis)
theorem Og{K:PySem.W.Frag}(tg:Tg)(hm:∀ i∈Aj tg,M i=false)(ha:AE M qV te a):AS M κ (Jr te (tgG K tg)) (Mi.W4 tg a):=fun H0 Hv0 e σ H Hv D I h =>
 ha e σ H Hv _ I.toR0 ((aq.mp h).mono fun d hd v H1 Hv1 g1 r =>
  LR (P:=fun e1 σ1=>R1 M H0 Hv0 e1 σ1 H1 Hv1) g1.vw (fun j hj e1 σ1 d1 v1 r1 z=>r1.set (hm j hj) z) (I.grow g1) r ((aq.mp hd).mono fun e1 h1 σ1 I1=>h1 σ1 H1 Hv1 I1 g1.vis))
theorem cL(ha:AW M qV te w):AS M qV (Ma te) (Mi.c7 w):=fun H0 Hv0 e σ H Hv D I h =>
 ha e σ H Hv _ I.toR0 ((aq.mp h).mono fun d hd v H1 Hv1 g1 r=>hd v H1 Hv1 (I.gw.trans g1) r)
theorem oF(ha:AW M qN te w):AS M qN (Ma te) (Mi.c7 w):=fun H0 Hv0 e σ H Hv D I h =>
 ha e σ H Hv _ I.toR0 ((aq.mp h).mono fun d hd v H1 Hv1 g1 r=>hd v H1 Hv1 (I.gw.trans g1) (KM.mono (κ:=qN) I.gw.old r))
theorem dY{tt:TT}{c:Mi.C}(hc:AT M tt c)(h1:AS M κ t m)(h2:AS M κ u n):AS M κ (abF tt t u) (Mi.jE c m n):=fun H0 Hv0 e σ H Hv D I h =>
 hc e σ H Hv _ I.toR0 ((aq.mp h).mono fun b hb H1 Hv1 g1=>by
  have up:∀ o,uV M κ H0 Hv0 D Hv o→uV M κ H0 Hv0 D Hv1 o:=fun o z=>by
   cases o with
   | nx e2=>exact fun σ2 H2 Hv2 I2 s2=>z σ2 H2 Hv2 I2 (g1.vis.trans s2)
   | rt w=>exact z
   | bk e2=>exact fun σ2 H2 Hv2 I2 s2=>z σ2 H2 Hv2 I2 (g1.vis.trans s2)
   | ct e2=>exact fun σ2 H2 Hv2 I2 s2=>z σ2 H2 Hv2 I2 (g1.vis.trans s2)
  cases b with
  | true=>exact HF (h1 H0 Hv0 e σ H1 Hv1 D (I.grow g1) (Fin.mono (Mi.yM hb) up))
  | false=>exact HH (h2 H0 Hv0 e σ H1 Hv1 D (I.grow g1) (Fin.mono (Mi.yN hb) up)))
theorem uV.up{H0 Hv0 Hv Hv1:Hp}{D:Ends}(s:gR Hv Hv1){o:Out}(z:uV M κ H0 Hv0 D Hv o):uV M κ H0 Hv0 D Hv1 o:=by
 cases o with
 | nx e2=>exact fun σ2 H2 Hv2 I2 s2=>z σ2 H2 Hv2 I2 (s.trans s2)
 | rt w=>exact z
 | bk e2=>exact fun σ2 H2 Hv2 I2 s2=>z σ2 H2 Hv2 I2 (s.trans s2)
 | ct e2=>exact fun σ2 H2 Hv2 I2 s2=>z σ2 H2 Hv2 I2 (s.trans s2)
theorem iG{K:PySem.W.Frag}{wi:TI}{it:Mi.I}{tg:Tg}(hi:QL M wi it)(hm:∀ i∈Aj tg,M i=false)(hb:AS M κ t m):AS M κ (abH wi (tgG K tg) t) (Mi.mj it tg m):=fun H0 Hv0 e σ H Hv D I h =>
 hi e σ H Hv _ I.toR0 ((aq.mp h).mono fun ds h1 J H1 Hv1 P g1 O p1 per=>by
  refine⟨fun i k σ' H'=>k=ds.length - i∧i≤ds.length∧∃ e' Hv',R1 M H0 Hv0 e' σ' H' Hv'∧P H' Hv'∧Fin (Mi.tE tg m (ds.drop i) e') (uV M κ H0 Hv0 D Hv'),
   ⟨ds.length,by simp,Nat.zero_le _,e,Hv1,I.grow g1,p1,by rw[List.drop_zero];exact h1.mono fun o z=>z.up g1.vis⟩,?_⟩
  rintro i k σ' H' ⟨rfl,hle,e',Hv',I',pp,hf⟩
  by_cases hlt:i < ds.length
  ·refine .inr ⟨O.go i H' Hv' pp I'.vw hlt,fun σ2 H2=>∃ e2 Hv2,R1 M H0 Hv0 e2 σ2 H2 Hv2∧P H2 Hv2∧Fin (Mi.tE tg m (ds.drop (i+1)) e2) (uV M κ H0 Hv0 D Hv2),
    fun σ2 H2 z=>⟨ds.length - (i+1),by omega,rfl,hlt,z⟩,fun x H2 y=>?_⟩
   obtain⟨Hv2,d,g2,hd,rx⟩:=O.yld i H' Hv' x H2 pp I'.vw hlt y
   have I2:=I'.grow g2
   have hdr:ds.drop i=d::ds.drop (i+1):=by
    obtain⟨hl,e1⟩:=List.getElem?_eq_some_iff.mp hd
    rw[List.drop_eq_getElem_cons hl,e1]
   rw[hdr] at hf
   refine LR (P:=fun e1 σ1=>R1 M H0 Hv0 e1 σ1 H2 Hv2) g2.vw (fun j hj e1 σ1 d1 v1 r1 z=>r1.set (hm j hj) z) I2 rx ((aq.mp hf).mono fun e1 h1 σ1 I1=>?_)
   refine hb H0 Hv0 e1 σ1 H2 Hv2 _ I1 ((aq.mp h1).mono fun o ho=>?_)
   cases o with
   | nx e2=>exact fun σ2 H3 Hv3 I3 s3=>⟨e2,Hv3,I3,per _ _ _ _ pp (g2.vis.trans s3) I3.vw,Fin.mono ho fun o z=>z.up (g2.vis.trans s3)⟩
   | ct e2=>exact fun σ2 H3 Hv3 I3 s3=>⟨e2,Hv3,I3,per _ _ _ _ pp (g2.vis.trans s3) I3.vw,Fin.mono ho fun o z=>z.up (g2.vis.trans s3)⟩
   | bk e2=>exact fun σ2 H3 Hv3 I3 s3=>ho σ2 H3 Hv3 I3 (g2.vis.trans s3)
   | rt w=>exact ho
  ·have hi:i=ds.length:=by omega
   subst hi
   refine .inl ⟨O.stop H' Hv' pp I'.vw,?_⟩
   rw[List.drop_of_length_le (Nat.le_refl _)] at hf
   exact hf σ' H' Hv' I' (gR.refl _))
theorem Ld{tt:TT}{c:Mi.C}(k:Nat)(hc:AT M tt c)(hb:AS M κ t m):AS M κ (Th tt t) (Mi.Bb k c m):=fun H0 Hv0 e σ H Hv D I h=>by
 refine⟨fun j σ' H'=>∃ e' Hv',R1 M H0 Hv0 e' σ' H' Hv'∧Fin (Mi.gG c m j e') (uV M κ H0 Hv0 D Hv'),⟨k,e,Hv,I,h⟩,?_⟩
 rintro j σ' H' ⟨e',Hv',I',hf⟩
 cases j with
 | zero=>exact hf.elim
 | succ j =>
  refine hc e' σ' H' Hv' _ I'.toR0 ((aq.mp hf).mono fun b hb' H1 Hv1 g1=>?_)
  cases b with
  | false=>exact HH ((Mi.gf (Mi.yN hb')) σ' H1 Hv1 (I'.grow g1) g1.vis)
  | true =>
   refine HF ⟨fun σ2 H2=>∃ e2 Hv2,R1 M H0 Hv0 e2 σ2 H2 Hv2∧Fin (Mi.gG c m j e2) (uV M κ H0 Hv0 D Hv2),fun σ2 H2 z=>⟨j,Nat.lt_succ_self j,z⟩,?_⟩
   refine hb H0 Hv0 e' σ' H1 Hv1 _ (I'.grow g1) ((aq.mp (Mi.yM hb')).mono fun o ho=>?_)
   cases o with
   | nx e2=>exact fun σ2 H2 Hv2 I2 s2=>⟨e2,Hv2,I2,Fin.mono ho fun o z=>z.up (g1.vis.trans s2)⟩
   | ct e2=>exact fun σ2 H2 Hv2 I2 s2=>⟨e2,Hv2,I2,Fin.mono ho fun o z=>z.up (g1.vis.trans s2)⟩
   | bk e2=>exact fun σ2 H2 Hv2 I2 s2=>ho σ2 H2 Hv2 I2 (g1.vis.trans s2)
   | rt w=>exact ho
end
end A
namespace A
open PySem L2 PyProof.Rows
open Mi (D W Rs Fin aq Out Tg)
variable[Tb:fK]
section
variable{M:Nat→Bool}{κ : Kd}{te:TE}{a b:Mi.E}{w:Mi.EW}{K:PySem.W.Frag}
theorem R1.write{H0 Hv0:Hp}{e:Mi.Env}{σ : L2.St}{H Hv:Hp}(I:R1 M H0 Hv0 e σ H Hv){i:Nat}{w w':W}{p:Addr}{o:HO}(hm:M i=true)(he:e[i]? = some (some w))(hs:σ[i]? = some (some (.ref p)))(c:eX Hv w' o):R1 M H0 Hv0 (e.set i (some w')) σ (upd H p o) Hv:=by
 have hp:∃ o',H p=some o'∧Hv p=none∧Lq o':=by
  obtain⟨v,q,a,o',e1,q1,n,c'⟩:=I.own i w he hm
  rw[hs] at q;cases q;cases e1
  exact⟨o',q1,n,c'.ZR⟩
 obtain⟨o',hp,hn,hcc⟩:=hp
 have h0:H0 p=none:=I.fresh i w p he hm hs
 have vw:Vw (upd H p o) Hv:=by
  refine⟨fun b u q=>?_,fun b xs q=>?_,fun b z u q=>?_,I.vw.cd.put hp hcc c.nt,I.vw.nv⟩
  ·rw[aF (aX q hn)];exact I.vw.sub b u q
  ·by_cases hb:b=p
   ·subst hb;rw[aV] at q;cases q;exact c.cell.elim
   ·rw[aF hb] at q;exact I.vw.tup b xs q
  ·by_cases hb:b=p
   ·subst hb;rw[aV] at q;cases q;exact c.cell.elim
   ·rw[aF hb] at q;exact I.vw.frz b z u q
 have get:∀ {j:Nat} {w2:W},(e.set i (some w'))[j]? = some (some w2)→(i=j∧w'=w2)∨(i≠j∧e[j]? = some (some w2)):=fun {j w2} h=>by
  rcases jH h with ⟨x,y,_⟩|z
  ·exact .inl ⟨x,Option.some.inj y⟩
  ·exact .inr z
 have get':∀ {j:Nat} {w2:W},(e.set i (some w'))[j]? = some (some w2)→∃ w3,e[j]? = some (some w3):=fun {j w2} h=>by
  rcases get h with ⟨x,_⟩|⟨_,z⟩
  ·subst x;exact⟨w,he⟩
  ·exact⟨w2,z⟩
 refine⟨⟨vw,by rw[List.length_set];exact I.len,fun j w2 h m=>?_,fun j w2 h m=>?_⟩,⟨I.gw.old.put h0 hp,I.gw.vis,vw,I.gw.hid⟩,fun j w2 x h m q=>?_,fun j k w1 w2 x y hjk h1 h2 m1 m2 q1 q2=>?_⟩
 ·rcases get h with ⟨rfl,_⟩|⟨_,z⟩
  ·rw[hm] at m;cases m
  ·exact I.nob j w2 z m
 ·rcases get h with ⟨rfl,rfl⟩|⟨n,z⟩
  ·exact⟨.ref p,hs,p,o,rfl,aV,hn,c⟩
  ·obtain⟨v,q,x,u,e1,q1,n1,c1⟩:=I.own j w2 z m
   subst e1
   have:=I.sep i j w w2 p x n he z hm m hs q
   exact⟨.ref x,q,x,u,rfl,by rw[aF (Ne.symm this)];exact q1,n1,c1⟩
 ·obtain⟨w3,z⟩:=get' h
  exact I.fresh j w3 x z m q
 ·obtain⟨w3,z3⟩:=get' h1
  obtain⟨w4,z4⟩:=get' h2
  exact I.sep j k w3 w4 x y hjk z3 z4 m1 m2 q1 q2
theorem R1.cell{H0 Hv0:Hp}{e:Mi.Env}{σ : L2.St}{H Hv:Hp}(I:R1 M H0 Hv0 e σ H Hv){i:Nat}{w:W}(hm:M i=true)(he:e[i]? = some (some w)):∃ p o,σ[i]? = some (some (.ref p))∧H p=some o∧Hv p=none∧H0 p=none∧eX Hv w o:=by
 obtain⟨v,q,p,o,rfl,q1,n,c⟩:=I.own i w he hm
 exact⟨p,o,q,q1,n,I.fresh i w p he hm q,c⟩
theorem wH{e:Mi.Env}{i:Nat}{k:List D→Prop}(h:Fin (Mi.getL e i) k):∃ ds,e[i]? = some (some (.d (.lst ds)))∧k ds:=by
 unfold Mi.getL at h
 split at h
 ·exact⟨_,‹_›,h⟩
 ·exact h.elim
theorem R1.list{H0 Hv0:Hp}{e:Mi.Env}{σ : L2.St}{H Hv:Hp}(I:R1 M H0 Hv0 e σ H Hv){i:Nat}{ds:List D}(hm:M i=true)(he:e[i]? = some (some (.d (.lst ds)))):∃ p xs,σ[i]? = some (some (.ref p))∧H p=some (.lst xs)∧Hv p=none∧P2 (Rep Hv) ds xs:=by
 obtain⟨p,o,q,q1,n,_,c⟩:=I.cell hm he
 cases o with
 | lst xs=>exact⟨p,xs,q,q1,n,c⟩
 | _=>exact c.elim
theorem R1.name{H0 Hv0:Hp}{e:Mi.Env}{σ : L2.St}{H Hv H1 Hv1:Hp}(I:R1 M H0 Hv0 e σ H Hv)(g:cY H Hv H1 Hv1){i:Nat}{w:W}{v:V}(hm:M i=true)(k:qN H H1 Hv1 w v):R1 M H0 Hv0 (e.set i (some w)) (σ.set i (some v)) H1 Hv1:=by
 obtain⟨p,o,rfl,hf,hp,hn,c⟩:=k
 have I1:=I.grow g
 have other:∀ {j:Nat} {w2:W} {x:Addr},e[j]? = some (some w2)→M j=true→σ[j]? = some (some (.ref x))→x≠p:=fun {j w2 x} h m q=>by
  obtain⟨p',o',q',q1,_⟩:=I.cell m h
  rw[q] at q';cases q'
  exact aX q1 hf
 refine⟨⟨I1.vw,by rw[List.length_set,List.length_set];exact I.len,fun j w2 h m=>?_,fun j w2 h m=>?_⟩,I1.gw,fun j w2 x h m q=>?_,fun j k w1 w2 x y hjk h1 h2 m1 m2 q1 q2=>?_⟩
 ·rcases jH h with ⟨rfl,_⟩|⟨n,z⟩
  ·rw[hm] at m;cases m
  ·obtain⟨u,q,r⟩:=I1.nob j w2 z m
   exact⟨u,by rw[List.getElem?_set_ne n];exact q,r⟩
 ·rcases jH h with ⟨rfl,h,l⟩|⟨n,z⟩
  ·cases h
   exact⟨.ref p,by rw[List.getElem?_set_self (by rw[I.len];exact l)],p,o,rfl,hp,hn,c⟩
  ·obtain⟨u,q,r⟩:=I1.own j w2 z m
   exact⟨u,by rw[List.getElem?_set_ne n];exact q,r⟩
 ·rcases jH h with ⟨rfl,h,l⟩|⟨n,z⟩
  ·rw[List.getElem?_set_self (by rw[I.len];exact l)] at q
   cases q
   exact I.gw.old.free hf
  ·rw[List.getElem?_set_ne n] at q
   exact I.fresh j w2 x z m q
 ·rcases jH h1 with ⟨rfl,_,l⟩|⟨n,z⟩
  ·rw[List.getElem?_set_self (by rw[I.len];exact l)] at q1
   cases q1
   rcases jH h2 with ⟨rfl,_,_⟩|⟨n2,z2⟩
   ·exact absurd rfl hjk
   ·rw[List.getElem?_set_ne n2] at q2
    exact Ne.symm (other z2 m2 q2)
  ·rw[List.getElem?_set_ne n] at q1
   rcases jH h2 with ⟨rfl,_,l⟩|⟨n2,z2⟩
   ·rw[List.getElem?_set_self (by rw[I.len];exact l)] at q2
    cases q2
    exact other z m1 q1
   ·rw[List.getElem?_set_ne n2] at q2
    exact I.sep j k w1 w2 x y hjk z z2 m1 m2 q1 q2
theorem tM(i:Nat)(hm:M i=true)(ha:AE M qN te a):AS M κ (Jr te (pX i)) (Mi.bV i a):=fun H0 Hv0 e σ H Hv D I h =>
 ha e σ H Hv _ I.toR0 ((aq.mp h).mono fun d hd v H1 Hv1 g1 r=>hd _ H1 Hv1 (I.name g1 hm r) g1.vis)
theorem z6(i:Nat)(hm:M i=true)(ha:AW M qN te w):AS M κ (Jr te (pX i)) (Mi.uL i w):=fun H0 Hv0 e σ H Hv D I h =>
 ha e σ H Hv _ I.toR0 ((aq.mp h).mono fun d hd v H1 Hv1 g1 r=>hd _ H1 Hv1 (I.name g1 hm r) g1.vis)
theorem Wm:AW M qN Tq (fun _=>.ok (.dk [])):=fun e σ H Hv Q I h p hp =>
 h _ _ Hv (.Ri I.vw trivial hp) ⟨p,.dK [],rfl,hp,aV,nq I.vw hp,.nil⟩
theorem De:AW M qN Tp (fun _=>.ok (.dt [])):=fun e σ H Hv Q I h p hp =>
 h _ _ Hv (.Ri I.vw trivial hp) ⟨p,.dT [],rfl,hp,aV,nq I.vw hp,.nil⟩
theorem m8(i:Nat)(hm:M i=true)(ha:AE M qV te a):AS M κ (Em (Ze K "list" G7 (pA i) (iW te pB))) (Mi.dj i a):=fun H0 Hv0 e σ H Hv D I h=>by
 obtain⟨d,hd,h⟩:=iZ (aq.mp h)
 obtain⟨ds,he,h⟩:=wH (aq.mp h)
 obtain⟨hz,h⟩:=Mi.aR h
 obtain⟨p,xs,q,q1,n,c⟩:=I.list hm he
 refine⟨.ref p,q,.inl ⟨rfl,xs,.inl (.inl q1)⟩,ha e σ H Hv _ I.toR0 (by
  rw[hd]
  intro v H1 Hv1 g1 r
  have I1:=I.grow g1
  refine⟨p,xs,v,rfl,rfl,g1.old.at q1,by rw[← c.len,sizeLine_eq];exact hz,?_⟩
  exact h σ _ Hv1 (I1.write hm he q (show eX Hv1 (.d (.lst (ds++[d]))) (.lst (xs++[v])) from (cZ g1.vis c).append (.cons r .nil))) g1.vis)⟩
theorem Oe(i:Nat)(hm:M i=true):AS M κ (Em (aaa K "list" JD (pA i))) (Mi.Bc i):=fun H0 Hv0 e σ H Hv D I h=>by
 obtain⟨ds,he,h⟩:=wH (aq.mp h)
 obtain⟨p,xs,q,q1,n,c⟩:=I.list hm he
 exact⟨.ref p,q,.inl ⟨rfl,xs,.inl (.inl q1)⟩,p,xs,rfl,rfl,q1,h σ _ Hv (I.write hm he q (show eX Hv (.d (.lst ds.reverse)) (.lst xs.reverse) from c.rev)) (gR.refl _)⟩
theorem jP{α : Type}{o:Option α}{k:α→Prop}(h:Fin (Mi.uC o) k):∃ x,o=some x∧k x:=by
 cases o with
 | some x=>exact⟨x,rfl,h⟩
 | none=>exact h.elim
theorem abO{n:Nat}{i:Int}{k:Nat}(h:Mi.Jd n i=some k):seqIndex? i n=some k:=by
 unfold Mi.Jd at h
 split at h
 ·split at h
  ·rw[seqIndex_of (by omega) (by omega)];exact h
  ·cases h
 ·split at h
  ·rw[seqIndex_neg (by omega) (by omega)];exact h
  ·cases h
theorem Ul{ds:List D}{i:Int}{k:D×List D→Prop}(h:Fin (Mi.O7 ds i) k):-(2 ^ 63)≤i∧i < 2 ^ 63∧∃ j d,Mi.Jd ds.length i=some j∧ds[j]? = some d∧k (d,ds.eraseIdx j):=by
 obtain⟨⟨h1,h2⟩,h⟩:=Mi.aR h
 obtain⟨j,hj,h⟩:=jP (aq.mp h)
 obtain⟨d,hd,h⟩:=jP (aq.mp h)
 exact⟨h1,h2,j,d,hj,hd,h⟩
theorem Im(x y:Nat)(hxy:x≠y)(hx:M x=true)(hy:M y=true)(ha:AE M qP te a):AS M κ (Em (Ze K "list" G7 (pA x) (iW (Ze K "list" Ud (pA y) (iW te pB)) pB))) (Mi.qC x y a):=fun H0 Hv0 e σ H Hv D I h=>by
 obtain⟨z,hz,h⟩:=iZ (aq.mp h)
 obtain⟨i,rfl,h⟩:=Oh (aq.mp h)
 obtain⟨ds,he,h⟩:=wH (aq.mp h)
 obtain⟨h1,h2,j,d,hj,hd,h⟩:=Ul (aq.mp h)
 obtain⟨es,he2,h⟩:=wH (aq.mp h)
 obtain⟨hsz,h⟩:=Mi.aR h
 have acG:e[x]? = some (some (.d (.lst es))):=by
  have he2:(e.set y (some (.d (.lst (ds.eraseIdx j)))))[x]? = _:=he2
  rwa [List.getElem?_set_ne (Ne.symm hxy)] at he2
 obtain⟨p,xs,q,q1,n,c⟩:=I.list hy he
 obtain⟨p',xs',q',q1',n',c'⟩:=I.list hx acG
 have hpp:p'≠p:=I.sep x y _ _ p' p hxy acG he hx hy q' q
 refine⟨.ref p',q',.inl ⟨rfl,xs',.inl (.inl q1')⟩,.ref p,q,.inl ⟨rfl,xs,.inl (.inl q1)⟩,ha e σ H Hv _ I.toR0 (by
  rw[hz]
  intro v H1 Hv1 g1 r
  have I1:=I.grow g1
  cases RD.int r
  obtain⟨u,hu,ru⟩:=c.getL hd
  rw[c.len] at hj
  refine⟨p,xs,i,j,u,rfl,rfl,g1.old.at q1,h1,h2,abO hj,hu,?_⟩
  have I2:=I1.write hy he q (show eX Hv1 (.d (.lst (ds.eraseIdx j))) (.lst (xs.eraseIdx j)) from (cZ g1.vis c).erase j)
  refine⟨p',xs',u,rfl,rfl,by rw[aF hpp];exact g1.old.at q1',by rw[← c'.len,sizeLine_eq];exact hsz,?_⟩
  exact h σ _ Hv1 (I2.write hx he2 q' (show eX Hv1 (.d (.lst (es++[d]))) (.lst (xs'++[u])) from (cZ g1.vis c').append (.cons (lM g1.vis ru) .nil))) g1.vis)⟩
theorem qi(i:Nat)(hm:M i=true):AS M qN (Ma (pA i)) (Mi.c7 (Mi.wV i)):=fun H0 Hv0 e σ H Hv D I h=>by
 obtain⟨w,he,h⟩:=vX (aq.mp h)
 obtain⟨p,o,q,q1,n,h0,c⟩:=I.cell hm he
 exact⟨.ref p,q,h _ H Hv I.gw ⟨p,o,rfl,h0,q1,n,c⟩⟩
theorem R1.aal{H0 Hv0:Hp}{e:Mi.Env}{σ : L2.St}{H Hv:Hp}(I:R1 M H0 Hv0 e σ H Hv){y:Nat}{w:W}(hy:M y=true)(he:e[y]? = some (some w)):∃ p Hv',σ[y]? = some (some (.ref p))∧R1 M H0 Hv0 (e.set y none) σ H Hv'∧gR Hv Hv'∧uE Hv' w (.ref p):=by
 obtain⟨p,o,q,q1,n,h0,c⟩:=I.cell hy he
 obtain⟨vw,s⟩:=I.vw.show q1 n c.nt
 have nj:∀ {j:Nat} {w':W},(e.set y none)[j]? = some (some w')→y≠j∧e[j]? = some (some w'):=fun {j w'} h=>by
  rcases jH h with ⟨_,h,_⟩|z
  ·cases h
  ·exact z
 refine⟨p,upd Hv p o,q,⟨⟨vw,by rw[List.length_set];exact I.len,fun j w' h m=>?_,fun j w' h m=>?_⟩,⟨I.gw.old,I.gw.vis.trans s,vw,fun b u z1 z2=>?_⟩,fun j w' x h m z=>?_,fun j k w1 w2 x z hjk h1 h2 m1 m2 z1 z2=>?_⟩,s,t8 aV (c.same s)⟩
 ·obtain⟨_,h⟩:=nj h
  obtain⟨v,z,r⟩:=I.nob j w' h m
  exact⟨v,z,m6 s r⟩
 ·obtain⟨hne,h⟩:=nj h
  obtain⟨v,z,x,u,e1,q2,n2,c2⟩:=I.own j w' h m
  subst e1
  have:=I.sep y j w w' p x hne he h hy m q z
  exact⟨.ref x,z,x,u,rfl,q2,by rw[aF (Ne.symm this)];exact n2,c2.same s⟩
 ·rw[aF (aX z1 h0)];exact I.gw.hid b u z1 z2
 ·exact I.fresh j w' x (nj h).2 m z
 ·exact I.sep j k w1 w2 x z hjk (nj h1).2 (nj h2).2 m1 m2 z1 z2
theorem Hy{κ':Type}[DecidableEq κ']{H:Hp}{k:κ'}{kvs:List (κ'×D)}{kv:List (κ'×V)}(h:Dz H kvs kv):match Mi.uz kvs k with
 | some d=>∃ v,u0 kv k=some v∧Rep H d v
 | none=>u0 kv k=none:=by
 unfold Mi.uz u0
 induction h with
 | nil=>rfl
 | @cons p q l m hpq t ih =>
  rw[List.find?_cons,List.find?_cons,hpq.1]
  by_cases hk:q.1=k
  ·rw[decide_eq_true hk]
   exact⟨q.2,rfl,hpq.2⟩
  ·rw[decide_eq_false hk]
   exact ih
theorem PJ{κ':Type}[DecidableEq κ']{H:Hp}{k:κ'}{d:D}{v:V}(r:Rep H d v){kvs:List (κ'×D)}{kv:List (κ'×V)}(h:Dz H kvs kv):Dz H (Mi.putK k d kvs) (L2.putK kv k v):=by
 have e:(kvs.any fun x=>decide (x.1=k))=(kv.any fun x=>decide (x.1=k)):=by
  induction h with
  | nil=>rfl
  | @cons p q l m hpq t ih=>rw[List.any_cons,List.any_cons,ih,hpq.1]
 unfold Mi.putK L2.putK
 rw[e]
 split
 ·rename_i hh
  clear hh e
  induction h with
  | nil=>exact .nil
  | @cons p q l m hpq t ih =>
   rw[List.map_cons,List.map_cons]
   refine .cons ?_ ih
   ·by_cases hk:q.1=k
    ·rw[if_pos hk,if_pos (hpq.1.trans hk)];exact⟨hpq.1,r⟩
    ·rw[if_neg hk,if_neg (fun z=>hk (hpq.1.symm.trans z))];exact hpq
 ·exact P2.append h (.cons ⟨rfl,r⟩ .nil)
end
end A
namespace A
open PySem L2 PyProof.Rows
open Mi (D W Rs Fin aq Out Tg)
variable[Tb:fK]
section
variable{X:Cx}{K:PySem.W.Frag}
def Xg:R2:=fun x y H Q=>∃ i j,x=.str i∧y=.str j∧i.length+j.length≤sizeLine∧Q (.str (i++j)) H
theorem Vo{pins:List (Addr×Obj)}{σ : L2.St}{H:Hp}{s:Shared}{a:Addr}{xs:List V}(I:Inv X pins σ H s)(h:Lst H a xs):∃ (its:List Value) (n:Nat),Vals xs its∧xs.length≤sizeLine∧s.heap.get? a=some { cls:=.type "list", data:=.seq its.toArray n }:=by
 rcases h with h|⟨o,h⟩
 ·obtain⟨z,its,n,r,e⟩:=I.hok a _ h
  exact⟨its,n,r,z,e⟩
 ·obtain⟨_,z,its,n,r,e⟩:=I.hok a _ h
  exact⟨its,n,r,z,e⟩
def Zq:R2:=fun x y H Q=>∃ l b xs zs,x=.ref l∧y=.ref b∧Lst H l xs∧Lst H b zs∧xs.length+zs.length≤sizeLine∧∀ p,H p=none→Q (.ref p) (upd H p (.lst (xs++zs)))
theorem Xv:qt X (binaryOp .Add) Zq:=by
 intro pins s σ H x y v u Q I rx ry h
 obtain⟨l,b,xs,zs,rfl,rfl,hH,hB,hz,q⟩:=h
 cases rx
 cases ry
 obtain⟨its,n,r,z,e⟩:=Vo I hH
 obtain⟨its2,n2,r2,z2,e2⟩:=Vo I hB
 have hl:=r.length
 have hl2:=r2.length
 refine PySem.P.add_list e e2 ?_ (by rw[List.size_toArray,List.size_toArray];omega)
 have ea:its.toArray++its2.toArray=(its++its2).toArray:=by simp
 rw[ea]
 exact⟨.ref _,_,I.adJ (t':=s.toks) (r.append r2) (by rw[List.length_append];omega),rfl,q _ I.fresh⟩
def Zr:R2:=fun x y H Q=>Sw (fun i j=>.int (i+j)) x y H Q∨Xg x y H Q∨Zq x y H Q
theorem bF:qt X (binaryOp .Add) Zr:=aaC.or (qt.or Mz Xv)
theorem Bu{H Hv:Hp}(vw:Vw H Hv){ds:List D}{xs:List V}(r:P2 (Rep Hv) ds xs){p:Addr}(hp:H p=none):cY H Hv (upd H p (.lst xs)) Hv∧qN H (upd H p (.lst xs)) Hv (.d (.lst ds)) (.ref p) :=
 ⟨.Ri vw trivial hp,p,.lst xs,rfl,hp,aV,nq vw hp,r⟩
theorem M5{H Hv:Hp}(vw:Vw H Hv){ds:List D}{xs:List V}(r:P2 (Rep Hv) ds xs){p:Addr}(hp:H p=none):cY H Hv (upd H p (.lst xs)) (upd Hv p (.lst xs))∧qV H (upd H p (.lst xs)) (upd Hv p (.lst xs)) (.d (.lst ds)) (.ref p):=by
 have g:cY H Hv (upd H p (.lst xs)) (upd Hv p (.lst xs)):=.new vw hp
 exact⟨g,mO.mpr ⟨p,xs,rfl,.inl aV,cZ g.vis r⟩⟩
theorem qJ{H Hv:Hp}(vw:Vw H Hv){ds:List D}{xs:List V}(r:P2 (Rep Hv) ds xs){p:Addr}(hp:H p=none):cY H Hv (upd H p (.tup xs)) (upd Hv p (.tup xs))∧qV H (upd H p (.tup xs)) (upd Hv p (.tup xs)) (.d (.tup ds)) (.ref p):=by
 have g:cY H Hv (upd H p (.tup xs)) (upd Hv p (.tup xs)):=.new vw hp
 exact⟨g,fL.mpr ⟨p,xs,rfl,aV,cZ g.vis r⟩⟩
theorem dh:B2 qV Zr Mi.bQ:=fun x y v u H Hv Q vw rx ry h=>by
 cases x with
 | int i=>cases y with
  | int j=>cases RD.int rx;cases RD.int ry;exact .inl ⟨i,j,rfl,rfl,h _ H Hv (.refl vw) jK⟩
  | _=>exact h.elim
 | str i=>cases y with
  | str j =>
   cases RD.str rx;cases RD.str ry
   obtain⟨hz,h⟩:=Mi.aR h
   exact .inr (.inl ⟨i,j,rfl,rfl,by rw[sizeLine_eq];exact hz,h _ H Hv (.refl vw) xQ⟩)
  | _=>exact h.elim
 | lst a=>cases y with
  | lst b =>
   obtain⟨hz,h⟩:=Mi.aR h
   obtain⟨p,xs,rfl,l1,r1⟩:=RD.lst vw rx
   obtain⟨q,ys,rfl,l2,r2⟩:=RD.lst vw ry
   refine .inr (.inr ⟨p,q,xs,ys,rfl,rfl,l1,l2,by rw[← r1.len,← r2.len,sizeLine_eq];exact hz,fun a ha=>?_⟩)
   obtain⟨g,k⟩:=M5 vw (r1.append r2) ha
   exact h _ _ _ g k
  | _=>exact h.elim
 | _=>cases y<;>exact h.elim
theorem ZS:B2 qV (Sw fun i j=>.int (i - j)) Mi.HY:=fun x y v u H Hv Q vw rx ry h=>by
 cases x with
 | int i=>cases y with
  | int j=>cases RD.int rx;cases RD.int ry;exact⟨i,j,rfl,rfl,h _ H Hv (.refl vw) jK⟩
  | _=>exact h.elim
 | _=>cases y<;>exact h.elim
theorem qd:B2 qV (rI Y6 fun i j=>.int (i * j)) Mi.dI:=fun x y v u H Hv Q vw rx ry h=>by
 cases x with
 | int i=>cases y with
  | int j=>cases RD.int rx;cases RD.int ry;obtain⟨hz,h⟩:=Mi.aR h;exact⟨i,j,rfl,rfl,hz,h _ H Hv (.refl vw) jK⟩
  | _=>exact h.elim
 | _=>cases y<;>exact h.elim
theorem wZ:B2 qV (rI Z2 fun i j=>.int (i / j)) Mi.lu:=fun x y v u H Hv Q vw rx ry h=>by
 cases x with
 | int i=>cases y with
  | int j=>cases RD.int rx;cases RD.int ry;obtain⟨hz,h⟩:=Mi.aR h;exact⟨i,j,rfl,rfl,hz,h _ H Hv (.refl vw) jK⟩
  | _=>exact h.elim
 | _=>cases y<;>exact h.elim
theorem lU:B2 qV (rI (fun _ j=>0 < j) fun i j=>.int (i % j)) Mi.fJ:=fun x y v u H Hv Q vw rx ry h=>by
 cases x with
 | int i=>cases y with
  | int j=>cases RD.int rx;cases RD.int ry;obtain⟨hz,h⟩:=Mi.aR h;exact⟨i,j,rfl,rfl,hz,h _ H Hv (.refl vw) jK⟩
  | _=>exact h.elim
 | _=>cases y<;>exact h.elim
def ab0:R2:=fun x y H Q=>Sw (fun i j=>.bl (decide (i < j))) x y H Q∨∃ i j,x=.str i∧y=.str j∧Q (.bl (decide (i.cps.toList < j.cps.toList))) H
theorem Hk:qt X (compareOp .Lt) ab0:=acf.or Q9
def ab9:R2:=fun x y H Q=>Sw (fun i j=>.bl (decide (j < i))) x y H Q∨∃ i j,x=.str i∧y=.str j∧Q (.bl (decide (j.cps.toList < i.cps.toList))) H
theorem aaB:qt X (compareOp .Gt) ab9:=acg.or Rb
theorem YB:B2 qV ab0 Mi.Jf:=fun x y v u H Hv Q vw rx ry h=>by
 cases x with
 | int i=>cases y with
  | int j=>cases RD.int rx;cases RD.int ry;exact .inl ⟨i,j,rfl,rfl,h _ H Hv (.refl vw) iY⟩
  | _=>exact h.elim
 | str i=>cases y with
  | str j=>cases RD.str rx;cases RD.str ry;exact .inr ⟨i,j,rfl,rfl,h _ H Hv (.refl vw) iY⟩
  | _=>exact h.elim
 | _=>cases y<;>exact h.elim
theorem ad8:B2 qV ab9 Mi.dGt:=fun x y v u H Hv Q vw rx ry h=>by
 cases x with
 | int i=>cases y with
  | int j=>cases RD.int rx;cases RD.int ry;exact .inl ⟨i,j,rfl,rfl,h _ H Hv (.refl vw) iY⟩
  | _=>exact h.elim
 | str i=>cases y with
  | str j=>cases RD.str rx;cases RD.str ry;exact .inr ⟨i,j,rfl,rfl,h _ H Hv (.refl vw) iY⟩
  | _=>exact h.elim
 | _=>cases y<;>exact h.elim
theorem YC:B2 qV (Sw fun i j=>.bl (decide (i≤j))) Mi.Yr:=fun x y v u H Hv Q vw rx ry h=>by
 cases x with
 | int i=>cases y with
  | int j=>cases RD.int rx;cases RD.int ry;exact⟨i,j,rfl,rfl,h _ H Hv (.refl vw) iY⟩
  | _=>exact h.elim
 | _=>cases y<;>exact h.elim
def Xi(K:PySem.W.Frag)(neg:Bool):R2:=fun x y H Q=>∃ d e,L2.Rep K H d x∧L2.Rep K H e y∧d.dep≤16∧Q (.bl (if neg then !Mi.cX d e else Mi.cX d e)) H
theorem R8:B2 qV (Xi K false) Mi.Jg:=fun x y v u H Hv Q vw rx ry h=>by
 obtain⟨hz,h⟩:=Mi.aR h
 exact⟨x,y,qD K (RD.full vw rx),qD K (RD.full vw ry),hz,h _ H Hv (.refl vw) iY⟩
theorem Oc:B2 qV (Xi K true) Mi.KD:=fun x y v u H Hv Q vw rx ry h=>by
 obtain⟨hz,h⟩:=Mi.aR h
 exact⟨x,y,qD K (RD.full vw rx),qD K (RD.full vw ry),hz,h _ H Hv (.refl vw) iY⟩
def ab6(neg:Bool):R2:=fun x y H Q=>y=.non∧Q (.bl (if neg then !decide (x=.non) else decide (x=.non))) H
theorem UG:qt X (compareOp .IsNot) (ab6 true):=Xu
theorem aan{H Hv:Hp}{d:D}{v:V}(r:RD H Hv d v):decide (v=.non)=Mi.Ka d:=by
 cases d with
 | non=>cases RD.non r;rfl
 | bl b=>cases RD.bl r;rfl
 | int b=>cases RD.int r;rfl
 | str b=>cases RD.str r;rfl
 | lst ds =>
  rcases r with r|⟨a,o,e,_⟩
  ·obtain⟨a,xs,e,_⟩:=mO.mp r
   subst e;rfl
  ·subst e;rfl
 | tup ds =>
  obtain⟨a,xs,e,_⟩:=fL.mp (r.QZ fun _ z=>by cases z)
  subst e;rfl
theorem YD:B2 qV (ab6 true) Mi.Cv:=fun x y v u H Hv Q vw rx ry h=>by
 cases y with
 | non =>
  cases RD.non ry
  refine⟨rfl,?_⟩
  show Q (.bl (!decide (v=.non))) H
  rw[aan rx]
  exact h _ H Hv (.refl vw) iY
 | _=>exact h.elim
def ab7(K:PySem.W.Frag):R2:=fun x y H Q=>Xh K false x y H Q∨ab8 false x y H Q
theorem xW(hu:X.A.units+64 < cLine):qt X (compareOp .In) (ab7 X.K):=(aaz hu).or aaA
theorem Pa{H:Hp}{ds:List D}{xs:List V}(h:P2 (Rep H) ds xs):L2.b8 K H ds xs:=zJ K (jJ.mpr h)
theorem R7:B2 qV (ab7 K) Mi.Ie:=fun x y v u H Hv Q vw rx ry h=>by
 cases y with
 | lst ds =>
  obtain⟨hz,h⟩:=Mi.aR h
  obtain⟨p,xs,rfl,l1,r1⟩:=RD.lst vw ry
  exact .inl ⟨p,xs,x,ds,rfl,.inl l1.sq,qD K (RD.full vw rx),Pa (cZ vw.sub r1),hz,h _ H Hv (.refl vw) iY⟩
 | tup ds =>
  obtain⟨hz,h⟩:=Mi.aR h
  obtain⟨p,xs,rfl,l1,_,r1⟩:=RD.tup vw ry
  exact .inl ⟨p,xs,x,ds,rfl,.inr (.inl (.inl l1)),qD K (RD.full vw rx),Pa (cZ vw.sub r1),hz,h _ H Hv (.refl vw) iY⟩
 | str z=>cases x with
  | str c =>
   obtain⟨hz,h⟩:=Mi.aR h
   cases RD.str rx;cases RD.str ry
   obtain⟨⟨l⟩⟩:=c
   match l,hz with
   | [c],_=>exact .inr ⟨c,z,rfl,rfl,h _ H Hv (.refl vw) iY⟩
  | _=>exact h.elim
 | _=>exact h.elim
theorem qR:B2 qV (Xh K true) Mi.gh:=fun x y v u H Hv Q vw rx ry h=>by
 cases y with
 | lst ds =>
  obtain⟨hz,h⟩:=Mi.aR h
  obtain⟨p,xs,rfl,l1,r1⟩:=RD.lst vw ry
  exact⟨p,xs,x,ds,rfl,.inl l1.sq,qD K (RD.full vw rx),Pa (cZ vw.sub r1),hz,h _ H Hv (.refl vw) iY⟩
 | tup ds =>
  obtain⟨hz,h⟩:=Mi.aR h
  obtain⟨p,xs,rfl,l1,_,r1⟩:=RD.tup vw ry
  exact⟨p,xs,x,ds,rfl,.inr (.inl (.inl l1)),qD K (RD.full vw rx),Pa (cZ vw.sub r1),hz,h _ H Hv (.refl vw) iY⟩
 | _=>exact h.elim
theorem aba{α : Type}(xs:List α)(i:Int):Mi.uU xs i=L2.uU xs i:=rfl
theorem ZW{α β : Type}{F:α→β→Prop}{l:List α}{m:List β}(h:P2 F l m){i:Int}{a:α}(e:Mi.uU l i=some a):∃ b,L2.uU m i=some b∧F a b:=by
 unfold Mi.uU at e
 cases hj:Mi.Jd l.length i with
 | none=>rw[hj] at e;cases e
 | some j =>
  rw[hj] at e
  have e:l[j]? = some a:=e
  obtain⟨b,hb,r⟩:=h.getL e
  refine⟨b,?_,r⟩
  rw[← aba]
  unfold Mi.uU
  rw[← h.len,hj];exact hb
theorem jD:B2 qV (rIx K) Mi.gA:=fun x y v u H Hv Q vw rx ry h=>by
 cases y with
 | int i =>
  cases RD.int ry
  cases x with
  | lst ds =>
   obtain⟨d,e,h⟩:=jP h
   obtain⟨p,xs,rfl,l1,r1⟩:=RD.lst vw rx
   obtain⟨z,ez,rz⟩:=ZW r1 e
   exact .inl ⟨p,xs,i,z,rfl,rfl,l1.sq,ez,h z H Hv (.refl vw) rz⟩
  | tup ds =>
   obtain⟨d,e,h⟩:=jP h
   obtain⟨p,xs,rfl,l1,_,r1⟩:=RD.tup vw rx
   obtain⟨z,ez,rz⟩:=ZW r1 e
   exact .inr (.inl ⟨p,xs,i,z,rfl,rfl,.inl (.inl l1),ez,h z H Hv (.refl vw) rz⟩)
  | str z =>
   cases RD.str rx
   obtain⟨hz,h⟩:=Mi.aR h
   obtain⟨c,e,h⟩:=jP (aq.mp h)
   exact .inr (.inr ⟨z,i,c,rfl,rfl,by rw[sizeLine_eq];exact hz,e,h _ H Hv (.refl vw) xQ⟩)
  | _=>exact h.elim
 | _=>cases x<;>exact h.elim
theorem V4{F:D→V→Prop}{l:List D}{m:List V}(h:P2 F l m)(lo hi:Option Int):P2 F (Mi.wN l lo hi) (L2.RV m lo hi):=by
 unfold Mi.wN L2.RV
 rw[h.len]
 exact(h.drop _).take _
def abS(K:PySem.W.Frag):V→Option Int→Option Int→Hp→VK→Prop:=fun x lo hi H Q=>aaq K x lo hi H Q∨abU x lo hi H Q
theorem QW:WL X (abS X.K):=O2.or aae
theorem Yt(z:Str)(lo hi:Option Int):RW z lo hi=Mi.tH z lo hi:=by
 unfold RW Mi.tH Mi.wN
 have:z.cps.toList.length=z.length:=by simp[Str.length]
 rw[this];rfl
theorem Fy:BS qV (abS K) Mi.Qn:=fun x lo hi v H Hv Q vw rx h=>by
 cases x with
 | lst ds =>
  obtain⟨p,xs,rfl,l1,r1⟩:=RD.lst vw rx
  refine .inl ⟨p,xs,rfl,l1.sq,fun a ha=>?_⟩
  obtain⟨g,k⟩:=M5 vw (V4 r1 lo hi) ha
  exact h _ _ _ g k
 | str z =>
  cases RD.str rx
  obtain⟨hz,h⟩:=Mi.aR h
  exact .inr ⟨z,rfl,by rw[sizeLine_eq];exact hz,h _ H Hv (.refl vw) (by rw[Yt];exact xQ)⟩
 | _=>exact h.elim
theorem sU{F:D→V→Prop}{d:D}{vs:List V}(h:P2 F [d] vs):∃ v,vs=[v]∧F d v:=by
 cases h with
 | cons r t=>cases t;exact⟨_,rfl,r⟩
theorem Ux{F:D→V→Prop}{d e:D}{vs:List V}(h:P2 F [d,e] vs):∃ v u,vs=[v,u]∧F d v∧F e u:=by
 cases h with
 | cons r t=>cases t with
  | cons r' t=>cases t;exact⟨_,_,rfl,r,r'⟩
def ab1(K:PySem.W.Frag):List V→Hp→VK→Prop:=fun xs H Q=>∃ x n,xs=[x]∧ac3 K x H n∧Q (.int n) H
theorem iT:jo X (.builtin "len") (ab1 X.K):=Wb
theorem jm:BN qV (ab1 K) Mi.mY:=fun ds vs H Hv Q vw r h=>by
 match ds,r,h with
 | [.lst ds],r,h =>
  obtain⟨v,ev,rr⟩:=sU r
  subst ev
  replace r:=rr
  obtain⟨p,xs,rfl,l1,r1⟩:=RD.lst vw r
  refine⟨_,xs.length,rfl,.inl ⟨xs,l1.sq,rfl⟩,?_⟩
  rw[← r1.len]
  exact h _ H Hv (.refl vw) jK
 | [.tup ds],r,h =>
  obtain⟨v,ev,rr⟩:=sU r
  subst ev
  replace r:=rr
  obtain⟨p,xs,rfl,l1,_,r1⟩:=RD.tup vw r
  refine⟨_,xs.length,rfl,.inr ⟨xs,.inl (.inl l1),rfl⟩,?_⟩
  rw[← r1.len]
  exact h _ H Hv (.refl vw) jK
 | [.str z],r,h =>
  obtain⟨v,ev,rr⟩:=sU r
  subst ev
  replace r:=rr
  cases RD.str r
  obtain⟨hz,h⟩:=Mi.aR h
  exact⟨_,z.length,rfl,⟨by rw[sizeLine_eq];exact hz,rfl⟩,h _ H Hv (.refl vw) jK⟩
def abZ:List V→Hp→VK→Prop:=fun xs H Q=>∃ i j z,xs=[.int i,.int j]∧max i j=z∧Q (.int z) H
def abY:List V→Hp→VK→Prop:=fun xs H Q=>∃ i j z,xs=[.int i,.int j]∧min i j=z∧Q (.int z) H
theorem Fj(hc:X.calm=true):jo X (.builtin "max") abZ:=Oa hc
theorem R3(hc:X.calm=true):jo X (.builtin "min") abY:=N8 hc
theorem K5:BN qV abZ Mi.yl:=fun ds vs H Hv Q vw r h=>by
 match ds,r,h with
 | [.int i,.int j],r,h =>
  obtain⟨v,u,ev,rr,r'⟩:=Ux r
  subst ev
  replace r:=rr
  cases RD.int r;cases RD.int r'
  exact⟨i,j,_,rfl,rfl,h _ H Hv (.refl vw) jK⟩
theorem Wi:BN qV abY Mi.K9:=fun ds vs H Hv Q vw r h=>by
 match ds,r,h with
 | [.int i,.int j],r,h =>
  obtain⟨v,u,ev,rr,r'⟩:=Ux r
  subst ev
  replace r:=rr
  cases RD.int r;cases RD.int r'
  exact⟨i,j,_,rfl,rfl,h _ H Hv (.refl vw) jK⟩
theorem QD{Hv:Hp}:∀ {ds:List D} {xs:List V} {bs:List Bool},Mi.Io ds=some bs→P2 (Rep Hv) ds xs→xs=bs.map V.bl
 | [],_,bs,e,r=>by cases e;cases r;rfl
 | .bl b::ds,_,bs,e,r=>by
  cases r with
  | cons x t =>
   cases hb:Mi.Io ds with
   | none=>rw[Mi.Io,hb] at e;cases e
   | some cs =>
    rw[Mi.Io,hb] at e
    cases e
    rw[QD hb t,Bf.mp x];rfl
 | .non::_,_,_,e,_=>by cases e
 | .int _::_,_,_,e,_=>by cases e
 | .str _::_,_,_,e,_=>by cases e
 | .lst _::_,_,_,e,_=>by cases e
 | .tup _::_,_,_,e,_=>by cases e
theorem xf:BN qV (aca K (·.all id)) Mi.CZ:=fun ds vs H Hv Q vw r h=>by
 match ds,r,h with
 | [.lst ds],r,h =>
  obtain⟨v,ev,rr⟩:=sU r
  subst ev
  replace r:=rr
  obtain⟨bs,e,h⟩:=jP (aq.mp h)
  obtain⟨p,xs,rfl,l1,r1⟩:=RD.lst vw r
  have:=QD e r1
  subst this
  exact⟨p,bs,rfl,l1.sq,h _ H Hv (.refl vw) iY⟩
def Zk(K:PySem.W.Frag):List V→Hp→VK→Prop:=fun xs H Q=>∃ p ys,xs=[.ref p]∧(zH K H p ys∨zG K H p ys)∧∀ l,H l=none→Q (.ref l) (upd H l (.lst ys))
theorem vN:jo X (.type "list") (Zk X.K):=Ii
theorem nP:BN qN (Zk K) Mi.CW:=fun ds vs H Hv Q vw r h=>by
 match ds,r,h with
 | [.lst ds],r,h =>
  obtain⟨v,ev,rr⟩:=sU r
  subst ev
  replace r:=rr
  obtain⟨p,xs,rfl,l1,r1⟩:=RD.lst vw r
  refine⟨p,xs,rfl,.inl l1.sq,fun a ha=>?_⟩
  obtain⟨g,k⟩:=Bu vw r1 ha
  exact h _ _ _ g k
 | [.tup ds],r,h =>
  obtain⟨v,ev,rr⟩:=sU r
  subst ev
  replace r:=rr
  obtain⟨p,xs,rfl,l1,_,r1⟩:=RD.tup vw r
  refine⟨p,xs,rfl,.inr (.inl (.inl l1)),fun a ha=>?_⟩
  obtain⟨g,k⟩:=Bu vw r1 ha
  exact h _ _ _ g k
def Ub(K:PySem.W.Frag):List V→Hp→VK→Prop:=fun xs H Q=>∃ p ys,xs=[.ref p]∧((zH K H p ys∧∀ l,H l=none→Q (.ref l) (upd H l (.tup ys)))∨(zG K H p ys∧Q (.ref p) H))
theorem fW:jo X (.type "tuple") (Ub X.K):=Eg
theorem dM:BN qV (Ub K) Mi.oU:=fun ds vs H Hv Q vw r h=>by
 match ds,r,h with
 | [.lst ds],r,h =>
  obtain⟨v,ev,rr⟩:=sU r
  subst ev
  replace r:=rr
  obtain⟨p,xs,rfl,l1,r1⟩:=RD.lst vw r
  refine⟨p,xs,rfl,.inl ⟨l1.sq,fun a ha=>?_⟩⟩
  obtain⟨g,k⟩:=qJ vw r1 ha
  exact h _ _ _ g k
 | [.tup ds],r,h =>
  obtain⟨v,ev,rr⟩:=sU r
  subst ev
  replace r:=rr
  obtain⟨p,xs,rfl,l1,l2,r1⟩:=RD.tup vw r
  exact⟨p,xs,rfl,.inr ⟨.inl (.inl l1),h _ H Hv (.refl vw) (fL.mpr ⟨p,xs,rfl,l2,r1⟩)⟩⟩
end
end A
namespace A
open PySem L2 PyProof.Rows
open Mi (D W Rs Fin aq Out Tg)
variable[Tb:fK]
section
variable{X:Cx}{pins:List (Addr×Obj)}{σ : L2.St}{H:Hp}{s:Shared}
open SeqAt in
theorem Xf:∀ {d e:D} {A:Around} {x y:V} {u u':Value},d.flat=true→e.flat=true→L2.Rep X.K H d x→L2.Rep X.K H e y→RelV x u→RelV y u'→RcAt A s u u' (Mi.cX d e)∧RcNeAt A s u u' (!Mi.cX d e):=by
 intro d e A x y u u' h1 h2 r1 r2 q1 q2
 cases d with
 | non =>
  rw[L2.Rep] at r1;subst r1;cases q1
  cases e with
  | non=>rw[L2.Rep] at r2;subst r2;cases q2;exact⟨RcAt.none_none,RcNeAt.none_none⟩
  | bl b=>rw[L2.Rep] at r2;subst r2;cases q2;exact⟨RcAt.none_bool b,RcNeAt.none_bool b⟩
  | int b=>rw[L2.Rep] at r2;subst r2;obtain⟨t,rfl⟩:=q2;exact⟨RcAt.none_int b t,RcNeAt.none_int b t⟩
  | str b=>rw[L2.Rep] at r2;subst r2;obtain⟨t,rfl⟩:=q2;exact⟨RcAt.none_str b t,RcNeAt.none_str b t⟩
  | _=>cases h2
 | bl a =>
  rw[L2.Rep] at r1;subst r1;cases q1
  cases e with
  | non=>rw[L2.Rep] at r2;subst r2;cases q2;exact⟨RcAt.bool_none a,RcNeAt.bool_none a⟩
  | bl b=>rw[L2.Rep] at r2;subst r2;cases q2;rw[Mi.cX];exact⟨RcAt.bool_bool a b,RcNeAt.bool_bool a b⟩
  | int b=>rw[L2.Rep] at r2;subst r2;obtain⟨t,rfl⟩:=q2;rw[Mi.cX];exact⟨RcAt.bool_int a b t,RcNeAt.bool_int a b t⟩
  | str b=>rw[L2.Rep] at r2;subst r2;obtain⟨t,rfl⟩:=q2;exact⟨RcAt.bool_str a b t,RcNeAt.bool_str a b t⟩
  | _=>cases h2
 | int a =>
  rw[L2.Rep] at r1;subst r1;obtain⟨t1,rfl⟩:=q1
  cases e with
  | non=>rw[L2.Rep] at r2;subst r2;cases q2;exact⟨RcAt.int_none a t1,RcNeAt.int_none a t1⟩
  | bl b=>rw[L2.Rep] at r2;subst r2;cases q2;rw[Mi.cX];exact⟨RcAt.int_bool a t1 b,RcNeAt.int_bool a t1 b⟩
  | int b=>rw[L2.Rep] at r2;subst r2;obtain⟨t,rfl⟩:=q2;rw[Mi.cX];exact⟨RcAt.int_int a t1 b t,RcNeAt.int_int a t1 b t⟩
  | str b=>rw[L2.Rep] at r2;subst r2;obtain⟨t,rfl⟩:=q2;exact⟨RcAt.int_str a t1 b t,RcNeAt.int_str a t1 b t⟩
  | _=>cases h2
 | str a =>
  rw[L2.Rep] at r1;subst r1;obtain⟨t1,rfl⟩:=q1
  cases e with
  | non=>rw[L2.Rep] at r2;subst r2;cases q2;exact⟨RcAt.str_none a t1,RcNeAt.str_none a t1⟩
  | bl b=>rw[L2.Rep] at r2;subst r2;cases q2;exact⟨RcAt.str_bool a t1 b,RcNeAt.str_bool a t1 b⟩
  | int b=>rw[L2.Rep] at r2;subst r2;obtain⟨t,rfl⟩:=q2;exact⟨RcAt.str_int a t1 b t,RcNeAt.str_int a t1 b t⟩
  | str b=>rw[L2.Rep] at r2;subst r2;obtain⟨t,rfl⟩:=q2;rw[Mi.cX];exact⟨RcAt.str_str a t1 b t,RcNeAt.str_str a t1 b t⟩
  | _=>cases h2
 | _=>cases h1
open SeqAt in
theorem abR(I:Inv X pins σ H s):∀ (d e:D) (A:Around) {x y:V} {u u':Value},d.dep≤16→A.units+17 < cLine→L2.Rep X.K H d x→L2.Rep X.K H e y→RelV x u→RelV y u'→RcAt A s u u' (Mi.cX d e)∧RcNeAt A s u u' (!Mi.cX d e):=by
 intro d e A x y u u' hd hu h h' r r'
 have hu0:A.units < cLine:=by omega
 have item:∀ {ds es:List D} {xs ys:List V} {its its':List Value},Mi.cU ds≤16→L2.b8 X.K H ds xs→L2.b8 X.K H es ys→Vals xs its→Vals ys its' →
  ∀ j (h1:j < its.toArray.size) (h2:j < its'.toArray.size),EqAt A.in1 s its.toArray[j] its'.toArray[j] (Mi.cX (ds.getD j .non) (es.getD j .non)):=by
  intro ds es xs ys its its' hn q q' v v' j h1 h2
  have h1':j < its.length:=by simpa using h1
  have h2':j < its'.length:=by simpa using h2
  have e1:j < xs.length:=by rw[v.length];exact h1'
  have e2:j < ys.length:=by rw[v'.length];exact h2'
  have g1:xs[j]? = some xs[j]:=by simp[e1]
  have g2:ys[j]? = some ys[j]:=by simp[e2]
  obtain⟨w1,k1,r1⟩:=v.get g1
  obtain⟨w2,k2,r2⟩:=v'.get g2
  have t1:its.toArray[j]=w1:=by obtain⟨_,k1⟩:=List.getElem?_eq_some_iff.mp k1;simpa using k1
  have t2:its'.toArray[j]=w2:=by obtain⟨_,k2⟩:=List.getElem?_eq_some_iff.mp k2;simpa using k2
  rw[t1,t2]
  have:=yg (ds:=ds) (j:=j)
  refine VF I 16 _ _ A.in1 (by omega) ?_ (q.get g1) (q'.get g2) r1 r2
  show A.units+1+16 < cLine
  omega
 by_cases hdf:d.flat=true
 ·by_cases hef:e.flat=true
  ·exact Xf hdf hef h h' r r'
  ·cases e with
   | lst es =>
    rw[L2.Rep] at h'
    obtain⟨a,xs,rfl,q,_⟩:=h'
    cases r'
    obtain⟨its,_,p,_⟩:=I.list q
    cases d with
    | non=>rw[L2.Rep] at h;subst h;cases r;exact⟨RcAt.none_list p.isList hu0,RcNeAt.none_list p.isList hu0⟩
    | bl b=>rw[L2.Rep] at h;subst h;cases r;exact⟨RcAt.bool_list b p.isList hu0,RcNeAt.bool_list b p.isList hu0⟩
    | int b=>rw[L2.Rep] at h;subst h;obtain⟨t,rfl⟩:=r;exact⟨RcAt.int_list b t p.isList hu0,RcNeAt.int_list b t p.isList hu0⟩
    | str b=>rw[L2.Rep] at h;subst h;obtain⟨t,rfl⟩:=r;exact⟨RcAt.str_list b t p.isList hu0,RcNeAt.str_list b t p.isList hu0⟩
    | _=>cases hdf
   | tup es =>
    rw[L2.Rep] at h'
    obtain⟨a,xs,rfl,q,_⟩:=h'
    cases r'
    obtain⟨its,_,p,_⟩:=I.tuple q
    cases d with
    | non=>rw[L2.Rep] at h;subst h;cases r;exact⟨RcAt.none_tuple p hu0,RcNeAt.none_tuple p hu0⟩
    | bl b=>rw[L2.Rep] at h;subst h;cases r;exact⟨RcAt.bool_tuple b p hu0,RcNeAt.bool_tuple b p hu0⟩
    | int b=>rw[L2.Rep] at h;subst h;obtain⟨t,rfl⟩:=r;exact⟨RcAt.int_tuple b t p hu0,RcNeAt.int_tuple b t p hu0⟩
    | str b=>rw[L2.Rep] at h;subst h;obtain⟨t,rfl⟩:=r;exact⟨RcAt.str_tuple b t p hu0,RcNeAt.str_tuple b t p hu0⟩
    | _=>cases hdf
   | _=>exact absurd rfl hef
 ·cases d with
  | lst ds =>
   rw[L2.Rep] at h
   obtain⟨a,xs,rfl,q,rr⟩:=h
   cases r
   obtain⟨its,v,p,_⟩:=I.list q
   have hn:Mi.cU ds≤16:=by rw[Mi.D.dep] at hd;omega
   cases e with
   | non=>rw[L2.Rep] at h';subst h';cases r';exact⟨RcAt.list_none p.isList hu0,RcNeAt.list_none p.isList hu0⟩
   | bl b=>rw[L2.Rep] at h';subst h';cases r';exact⟨RcAt.list_bool b p.isList hu0,RcNeAt.list_bool b p.isList hu0⟩
   | int b=>rw[L2.Rep] at h';subst h';obtain⟨t,rfl⟩:=r';exact⟨RcAt.list_int b t p.isList hu0,RcNeAt.list_int b t p.isList hu0⟩
   | str b=>rw[L2.Rep] at h';subst h';obtain⟨t,rfl⟩:=r';exact⟨RcAt.list_str b t p.isList hu0,RcNeAt.list_str b t p.isList hu0⟩
   | lst es =>
    rw[L2.Rep] at h'
    obtain⟨b,ys,rfl,q',rr'⟩:=h'
    cases r'
    obtain⟨its',v',p',_⟩:=I.list q'
    have l1:=rr.length
    have l2:=rr'.length
    have l3:=v.length
    have l4:=v'.length
    by_cases hl:ds.length=es.length
    ·rw[Mi.cX,pH hl]
     have e1:its.toArray.size=ds.length:=by simp;omega
     have k1:=RcAt.lists p.isList p'.isList (by simp;omega) hu0 (item hn rr rr' v v')
     have k2:=RcNeAt.lists p.isList p'.isList (by simp;omega) hu0 (item hn rr rr' v v')
     rw[e1] at k1 k2
     exact⟨k1,k2⟩
    ·rw[Mi.cX,pG hl]
     exact⟨RcAt.lists_lengths p.isList p'.isList (by simp;omega) hu0,RcNeAt.lists_lengths p.isList p'.isList (by simp;omega) hu0⟩
   | tup es =>
    rw[L2.Rep] at h'
    obtain⟨b,ys,rfl,q',_⟩:=h'
    cases r'
    obtain⟨its',_,p',_⟩:=I.tuple q'
    exact⟨RcAt.list_tuple p.isList p' hu0,RcNeAt.list_tuple p.isList p' hu0⟩
  | tup ds =>
   rw[L2.Rep] at h
   obtain⟨a,xs,rfl,q,rr⟩:=h
   cases r
   obtain⟨its,v,p,_⟩:=I.tuple q
   have hn:Mi.cU ds≤16:=by rw[Mi.D.dep] at hd;omega
   cases e with
   | non=>rw[L2.Rep] at h';subst h';cases r';exact⟨RcAt.tuple_none p hu0,RcNeAt.tuple_none p hu0⟩
   | bl b=>rw[L2.Rep] at h';subst h';cases r';exact⟨RcAt.tuple_bool b p hu0,RcNeAt.tuple_bool b p hu0⟩
   | int b=>rw[L2.Rep] at h';subst h';obtain⟨t,rfl⟩:=r';exact⟨RcAt.tuple_int b t p hu0,RcNeAt.tuple_int b t p hu0⟩
   | str b=>rw[L2.Rep] at h';subst h';obtain⟨t,rfl⟩:=r';exact⟨RcAt.tuple_str b t p hu0,RcNeAt.tuple_str b t p hu0⟩
   | tup es =>
    rw[L2.Rep] at h'
    obtain⟨b,ys,rfl,q',rr'⟩:=h'
    cases r'
    obtain⟨its',v',p',_⟩:=I.tuple q'
    have l1:=rr.length
    have l2:=rr'.length
    have l3:=v.length
    have l4:=v'.length
    have k1:=RcAt.tuples p p' hu0 (item hn rr rr' v v')
    have k2:=RcNeAt.tuples p p' hu0 (item hn rr rr' v v')
    have e1:its.toArray.size=ds.length:=by simp;omega
    have e2:its'.toArray.size=es.length:=by simp;omega
    rw[e1,e2] at k1 k2
    by_cases hl:ds.length=es.length
    ·rw[Mi.cX,pH hl]
     rw[hl,Nat.min_self,beq_self_eq_true,Bool.and_true,← hl] at k1 k2
     exact⟨k1,k2⟩
    ·rw[Mi.cX,pG hl]
     have:(ds.length == es.length)=false:=by simpa using hl
     rw[this,Bool.and_false] at k1 k2
     exact⟨k1,k2⟩
   | lst es =>
    rw[L2.Rep] at h'
    obtain⟨b,ys,rfl,q',_⟩:=h'
    cases r'
    obtain⟨its',_,p',_⟩:=I.list q'
    exact⟨RcAt.tuple_list p p'.isList hu0,RcNeAt.tuple_list p p'.isList hu0⟩
  | _=>exact absurd rfl hdf
theorem xX(hu:X.A.units+64 < cLine):qt X (compareOp .Eq) (Xi X.K false):=by
 intro pins s σ H x y v u Q I rx ry h
 obtain⟨d,e,r1,r2,hz,q⟩:=h
 exact(abR I d e X.A hz (by omega) r1 r2 rx ry).1 _ _ _ _ ⟨.bl _,H,I,rfl,q⟩
theorem vA(hu:X.A.units+64 < cLine):qt X (compareOp .NotEq) (Xi X.K true):=by
 intro pins s σ H x y v u Q I rx ry h
 obtain⟨d,e,r1,r2,hz,q⟩:=h
 exact(abR I d e X.A hz (by omega) r1 r2 rx ry).2 _ _ _ _ ⟨.bl _,H,I,rfl,q⟩
end
section
variable{X:Cx}{K:PySem.W.Frag}{M:Nat→Bool}{κ : Kd}{ta tb te:TE}{a b:Mi.E}
theorem Y9{H Hv:Hp}(vw:Vw H Hv){d:D}{v:V}(r:RD H Hv d v):uD K H v (.type (Mi.Lz d)):=by
 cases d with
 | non=>cases RD.non r;exact .non
 | bl b=>cases RD.bl r;exact .bl b
 | int b=>cases RD.int r;exact .int b
 | str b=>cases RD.str r;exact .str b
 | lst ds =>
  obtain⟨p,xs,rfl,l,_⟩:=RD.lst vw r
  rcases l with l|⟨o,l⟩
  ·exact .lst l
  ·exact .frz l
 | tup ds =>
  obtain⟨p,xs,rfl,l,_⟩:=RD.tup vw r
  exact .tup l
def Dn(K:PySem.W.Frag)(T:String):Prop:=∀ d:D,PySem.W.kitOne K (.type (Mi.Lz d)) (.type T)=some (Mi.Ry T d)
theorem Iz{T:String}(hT:Dn K T)(ha:AE M qP ta a):AE M qV (WN (ab5 K) (iW ta (iW (tC (.ty T)) pB))) (Mi.m1 (Mi.yZ [T]) a):=fun e σ H Hv Q I h =>
 ha e σ H Hv _ I ((aq.mp h).mono fun x hx v H1 Hv1 g1 rx=>⟨v,_,T,_,rfl,Y9 g1.vw rx,hT x,(Mi.gf hx) _ H1 Hv1 g1 (by
  have:([T].any fun t=>Mi.Ry t x)=Mi.Ry T x:=by simp
  rw[this];exact iY)⟩)
theorem ty_bool(K:PySem.W.Frag):Dn K "bool" := fun d=>by cases d<;>rfl
theorem ty_int(K:PySem.W.Frag):Dn K "int" := fun d=>by cases d<;>rfl
theorem ty_str(K:PySem.W.Frag):Dn K "str" := fun d=>by cases d<;>rfl
theorem ty_list(K:PySem.W.Frag):Dn K "list" := fun d=>by cases d<;>rfl
theorem ty_tuple(K:PySem.W.Frag):Dn K "tuple" := fun d=>by cases d<;>rfl
end
end A
namespace A
open PySem L2 PyProof.Rows
open Mi (D W Rs Fin aq Out Tg)
variable[Tb:fK]
def Mo(l:List Nat):Nat→Bool:=fun i=>l.contains i
theorem Jt{M:Nat→Bool}{N:List Str}{k:Nat}{ws:List W}{vs:List V}{H Hv:Hp}(vw:Vw H Hv)(p:P2 (uE Hv) ws vs)(hk:ws.length=k)(hM:∀ i,i < k→M i=false) :
 R1 M H Hv (ws.map some++List.replicate (N.length - ws.length) none) (start N vs) H Hv:=by
 have get:∀ {i:Nat} {w:W},(ws.map some++List.replicate (N.length - ws.length) none)[i]? = some (some w)→ws[i]? = some w∧i < k:=fun {i w} h=>by
  by_cases hi:i < ws.length
  ·rw[List.getElem?_append_left (by simpa using hi),List.getElem?_map] at h
   cases e:ws[i]? with
   | none=>rw[e] at h;cases h
   | some a=>rw[e] at h;cases h;exact⟨rfl,by omega⟩
  ·rw[List.getElem?_append_right (by simpa using hi),List.getElem?_replicate] at h
   split at h<;>cases h
 have no:∀ {i:Nat} {w:W},(ws.map some++List.replicate (N.length - ws.length) none)[i]? = some (some w)→M i=true→False:=fun {i w} h m=>by
  rw[hM i (get h).2] at m;cases m
 refine⟨⟨vw,?_,fun i w h m=>?_,fun i w h m=>(no h m).elim⟩,.refl vw,fun i w a h m=>(no h m).elim,fun i j w w' a b _ h _ m=>(no h m).elim⟩
 ·unfold L2.start
  rw[List.length_append,List.length_append,List.length_map,List.length_map,List.length_replicate,List.length_replicate,p.len]
 ·obtain⟨hw,hi⟩:=get h
  obtain⟨v,hv,r⟩:=p.getL hw
  refine⟨v,?_,r⟩
  unfold L2.start
  rw[List.getElem?_append_left (by rw[List.length_map,← p.len];omega),List.getElem?_map,hv];rfl
theorem nH{f:Mi.S}{k n:Nat}{vs:List V}{H:Hp}{Q:VK}{E:XK}(h:jr (Mi.vH k n f) vs H Q E):vs.length=k:=by
 obtain⟨Hv,ws,_,p,q⟩:=h
 rw[← p.len];exact(Mi.aR q).1
theorem zx{f:Mi.S}{k n:Nat}{vs:List V}{H:Hp}{Q:VK}{E:XK}(h:t6 (Mi.Je k n f) vs H Q E):vs.length=k:=by
 obtain⟨Hv,ws,_,p,q⟩:=h
 rw[← p.len];exact(Mi.aR q).1
theorem nC{N:List Str}{M:Nat→Bool}{k:Nat}{t:TS}{m:Mi.S}(hA:AS M qV t m)(hM:∀ i,i < k→M i=false){vs:List V}{H:Hp}{Q:VK}{E:XK}(h:jr (Mi.vH k N.length m) vs H Q E) :
 t { nx:=fun _ H'=>Q .non H',rt:=Q } (start N vs) H:=by
 obtain⟨Hv,ws,vw,p,q⟩:=h
 obtain⟨hk,q⟩:=Mi.aR q
 refine hA H Hv _ _ H Hv _ (Jt vw p hk hM) ((aq.mp q).mono fun o ho=>?_)
 cases o with
 | nx e=>exact fun σ H' Hv' I s=>ho _ H' Hv' I.gw Uh
 | rt w=>exact fun v H' Hv' g r=>ho v H' Hv' g r
 | bk e=>exact ho.elim
 | ct e=>exact ho.elim
theorem runN{N:List Str}{M:Nat→Bool}{k:Nat}{t:TS}{m:Mi.S}(hA:AS M qN t m)(hM:∀ i,i < k→M i=false){vs:List V}{H:Hp}{Q:VK}{E:XK}(h:t6 (Mi.Je k N.length m) vs H Q E) :
 t { nx:=fun _ H'=>Q .non H',rt:=Q } (start N vs) H:=by
 obtain⟨Hv,ws,vw,p,q⟩:=h
 obtain⟨hk,q⟩:=Mi.aR q
 refine hA H Hv _ _ H Hv _ (Jt vw p hk hM) ((aq.mp q).mono fun o ho=>?_)
 cases o with
 | rt w=>exact fun v H' Hv' g r=>ho v H' Hv' g r
 | nx e=>exact ho.elim
 | bk e=>exact ho.elim
 | ct e=>exact ho.elim
theorem RK{P:Program}{w:World}{K:PySem.W.Frag}{mg:Str→Option Value}{base:Heap}{CX:Lr}{k:Nat}{f:Addr}{fd:FuncData}{ps:List Str}:cW P w K mg base CX k f fd ps (jr Mi.fnZ) :=
 ⟨fun vs H Q E h=>by obtain⟨_,_,_,_,q⟩:=h;exact q.elim,fun A outer s H args us vs Q E _ _ _ _ h=>by obtain⟨_,_,_,_,q⟩:=h;exact q.elim⟩
def Jv:Sp:=fun vs H Q _=>∃ (a:Addr) (ns:List Int),vs=[.ref a]∧Lst H a (ns.map V.int)∧ns.length≤63∧jz H∧∀ H',Q (.bl true) H'
theorem ints_rep(H:Hp):∀ ns:List Int,P2 (Rep H) (ns.map D.int) (ns.map V.int)
 | []=>.nil
 | n::r=>.cons (n6.mpr rfl) (ints_rep H r)
theorem aaL{P:Program}{w:World}{K:PySem.W.Frag}{mg:Str→Option Value}{base:Heap}{CX:Lr}{k:Nat}{f:Addr}{fd:FuncData}{ps:List Str}{m:Mi.Fn}(F:cW P w K mg base CX k f fd ps (jr m))
 (h:∀ ns:List Int,ns.length≤63→m [.d (.lst (ns.map D.int))]=.ok (.d (.bl true))):cW P w K mg base CX k f fd ps Jv :=
 F.imp fun vs H Q E ⟨a,ns,e,l,hl,k,q⟩=>by
  subst e
  have l':Lst (Rh H) a (ns.map V.int):=by
   rcases l with l|⟨o,l⟩
   ·exact .inl (ji l trivial)
   ·exact .inr ⟨o,ji l trivial⟩
  refine⟨Rh H,[.d (.lst (ns.map D.int))],.all k,.cons (mO.mpr ⟨a,_,rfl,l',ints_rep _ ns⟩) .nil,?_⟩
  rw[h ns hl]
  intro v H' Hv' g r
  cases (Bf (H:=Hv')).mp r
  exact q H'
theorem Ah{X:Cx}{pins:List (Addr×Obj)}{σ : L2.St}{H:Hp}{s:Shared}{fp:List Addr}{T:Addr}{o:HO}{h':Heap}{t':Nat}(I:Inv X pins σ H s)(hf:∀ b∈fp,ql X pins H b)
 (k:∀ b u,b∉fp→s.heap.get? b=some u→h'.get? b=some u) (hT:s.heap.objs.size≤T) (new:bW X.prog X.w (upd H T o) h' T o):Inv X pins σ (upd H T o) { s with heap:=h',toks:=t' }:=by
 have hn:H T=none:=I.hok.fresh hT
 have nfp:∀ b u,H b=some u→b∉fp:=fun b u e z=>by rw[(hf b z).1] at e;cases e
 refine I.call' (s':={ s with heap:=h',toks:=t' }) (ch:=fp) rfl ⟨fun b u e _ _ hb=>k b u hb e,fun b u e _ _ hb=>⟨u.slots,k b u hb e⟩,fun b u e hb _=>?_,fun b u e hb=>⟨u,k b u hb e⟩,fun b xs e=>?_,fun b q u e=>?_,fun b w ps e=>⟨#[],?_⟩⟩ ?_ I.bare
  fun b hb=>⟨(hf b hb).2.2.2.1,(hf b hb).2.1,(hf b hb).2.2.2.2.1,(hf b hb).2.2.2.2.2⟩
 ·have:b≠T:=Nat.ne_of_lt (Nat.lt_of_lt_of_le (Heap.lt_size e) hT)
  rw[aF this];exact hb
 ·rw[aF (aX e hn)];exact e
 ·rw[aF (aX e hn)];exact e
 ·rw[aF (aX e hn),e];simp
 ·intro b u e
  by_cases hb:b=T
  ·subst hb;rw[aV] at e;cases e;exact new
  ·rw[aF hb] at e
   refine(I.hok b u e).stay (fun c v hc q=>k c v ?_ q) (fun c q=>by rw[aF (aX q hn)];exact q) fun c xs q=>by rw[aF (aX q hn)];exact q
   rcases hc with z|z
   ·rw[z];exact nfp b u e
   ·exact nfp c _ z
theorem u5{X:Cx}{pins:List (Addr×Obj)}{σ : L2.St}{H:Hp}{s:Shared}{fp:List Addr}{h':Heap}{t':Nat}(I:Inv X pins σ H s)(hf:∀ b∈fp,ql X pins H b)
 (k:∀ b u,b∉fp→s.heap.get? b=some u→h'.get? b=some u):Inv X pins σ H { s with heap:=h',toks:=t' }:=by
 have nfp:∀ b u,H b=some u→b∉fp:=fun b u e z=>by rw[(hf b z).1] at e;cases e
 refine I.call' (s':={ s with heap:=h',toks:=t' }) (ch:=fp) rfl ⟨fun b u e _ _ hb=>k b u hb e,fun b u e _ _ hb=>⟨u.slots,k b u hb e⟩,fun b u e hb _=>hb,fun b u e hb=>⟨u,k b u hb e⟩,fun b xs e=>e,fun b q u e=>e,fun b w ps e=>⟨#[],by rw[e];simp⟩⟩ ?_ I.bare
  fun b hb=>⟨(hf b hb).2.2.2.1,(hf b hb).2.1,(hf b hb).2.2.2.2.1,(hf b hb).2.2.2.2.2⟩
 intro b u e
 refine(I.hok b u e).stay (fun c v hc q=>k c v ?_ q) (fun c q=>q) fun c xs q=>q
 rcases hc with z|z
 ·rw[z];exact nfp b u e
 ·exact nfp c _ z
section
variable{X:Cx}{elts:List Expr}{k1:Nat}{tpos:Pos}
theorem Kr:∀ {ds:List D} {k i:Nat} {d:D},ds[i]? = some d→(Mi.uO k ds)[i]? = some (.tup [.int ((k+i:Nat):Int),d])
 | [],_,_,_,h=>by simp at h
 | d::r,k,0,e,h=>by simp at h;subst h;rfl
 | d::r,k,i+1,e,h=>by
  have:=Kr (ds:=r) (k:=k+1) (i:=i) (d:=e) (by simpa using h)
  rw[Mi.uO,List.getElem?_cons_succ,this]
  rw[show k+1+i=k+(i+1) by omega]
theorem wK:∀ (ds:List D) (k:Nat),(Mi.uO k ds).length=ds.length
 | [],_=>rfl
 | d::r,k=>by rw[Mi.uO,List.length_cons,List.length_cons,wK r]
end
end A
namespace A
open PySem L2 PyProof.Rows
open Mi (D W Rs Fin aq Out Tg)
variable[Tb:fK]
section
variable{X:Cx}{K:PySem.W.Frag}{M:Nat→Bool}{κ : Kd}{ta tb te tk:TE}{a b k:Mi.E}
theorem z7{Hv:Hp}:∀ {ds:List D} {xs:List V} {bs:List Str},Mi.rM ds=some bs→P2 (Rep Hv) ds xs→xs=bs.map V.str
 | [],_,bs,e,r=>by cases e;cases r;rfl
 | .str b::ds,_,bs,e,r=>by
  cases r with
  | cons x t =>
   cases hb:Mi.rM ds with
   | none=>rw[Mi.rM,hb] at e;cases e
   | some cs =>
    rw[Mi.rM,hb] at e
    cases e
    rw[z7 hb t,mL.mp x];rfl
 | .non::_,_,_,e,_=>by cases e
 | .int _::_,_,_,e,_=>by cases e
 | .bl _::_,_,_,e,_=>by cases e
 | .lst _::_,_,_,e,_=>by cases e
 | .tup _::_,_,_,e,_=>by cases e
theorem Iw(ha:AE M qP ta a)(hb:AE M qP tb b):AE M qV (Ze K "str" (rJoin K) ta (iW tb pB)) (Mi.m2 Mi.Cr a b):=fun e σ H Hv Q I h=>by
 obtain⟨x,hx,h⟩:=iZ (aq.mp h)
 obtain⟨y,hy,h⟩:=iZ (aq.mp h)
 cases x with
 | str sep=>cases y with
  | lst ds =>
   obtain⟨ys,hs,h⟩:=jP (aq.mp h)
   obtain⟨hz,h⟩:=Mi.aR h
   refine ha e σ H Hv _ I (by
    rw[hx]
    intro v H1 Hv1 g1 r1
    cases RD.str r1
    refine⟨rfl,hb e σ H1 Hv1 _ (I.grow g1) (by
     rw[hy]
     intro v2 H2 Hv2 g2 r2
     obtain⟨p,xs,rfl,l,r⟩:=RD.lst g2.vw r2
     have:=z7 hs r
     subst this
     exact⟨sep,p,ys,rfl,rfl,l.sq,hz,(Mi.gf h) _ H2 Hv2 (g1.trans g2) xQ⟩)⟩)
  | _=>exact h.elim
 | _=>cases y<;>exact h.elim
def JF:V→List V→Hp→VK→Prop:=fun x vs H Q=>∃ l b xs zs,x=.ref l∧vs=[.ref b]∧H l=some (.lst xs)∧Lst H b zs∧xs.length+zs.length≤sizeLine∧Q .non (upd H l (.lst (xs++zs)))
theorem Bv:MtM X "list.extend" JF:=by
 intro pins s σ H x vs v us Q I rx rv h
 obtain⟨l,b,xs,zs,rfl,rfl,hH,hB,hz,q⟩:=h
 cases rx
 obtain⟨u,rfl,ru⟩:=rv.one
 cases ru
 obtain⟨z,its,n,r,hl,e⟩:=I.XM hH
 obtain⟨its2,n2,r2,z2,e2⟩:=Vo I hB
 have hl2:=r2.length
 have hsz:its.toArray.size+its2.toArray.size≤sizeLine:=by rw[List.size_toArray,List.size_toArray];omega
 have Qf:¬ (!its.toArray.isEmpty && Builtin.List.listTooLong (its.toArray.size+its2.toArray.size))=true:=by
  rw[JZ hsz,Bool.and_false]
  exact Bool.false_ne_true
 refine call_meets F.slot_list_extend ⟨_,e,rfl⟩ F.entry_list_extend (F.args_list_extend_2 _ _)
  (AutoSeq1.list_extend_list_list_0 l its.toArray n b its2.toArray n2 Qf (by rw[List.size_toArray];omega) (by omega)) ⟨e,e2,?_⟩
 refine⟨.non,_,I.XN (its':=its++its2) hH e (by simp) (r.append r2) ?_,rfl,q⟩
 rw[List.length_append]
 omega
theorem FW(i:Nat)(hm:M i=true)(ha:AE M qV te a):AS M κ (Em (Ze K "list" JF (pA i) (iW te pB))) (Mi.nZ i a):=fun H0 Hv0 e σ H Hv D I h=>by
 obtain⟨d,hd,h⟩:=iZ (aq.mp h)
 obtain⟨ds,he,h⟩:=wH (aq.mp h)
 cases d with
 | lst es =>
  obtain⟨hz,h⟩:=Mi.aR h
  obtain⟨p,xs,q,q1,n,c⟩:=I.list hm he
  refine⟨.ref p,q,.inl ⟨rfl,xs,.inl (.inl q1)⟩,ha e σ H Hv _ I.toR0 (by
   rw[hd]
   intro v H1 Hv1 g1 r
   have I1:=I.grow g1
   obtain⟨b,ys,rfl,l,r⟩:=(mO (H:=Hv1)).mp r
   refine⟨p,b,xs,ys,rfl,rfl,g1.old.at q1,l.same g1.vw.sub,by rw[← c.len,← r.len,sizeLine_eq];exact hz,?_⟩
   exact h σ _ Hv1 (I1.write hm he q (show eX Hv1 (.d (.lst (ds++es))) (.lst (xs++ys)) from (cZ g1.vis c).append r)) g1.vis)⟩
 | _=>exact h.elim
theorem Hz{H:Hp}{d:D}{v:V}{y:Mi.Ky}(h:Mi.RT d=some y)(r:Rep H d v):v=kV y:=by
 cases d with
 | int i=>cases h;exact n6.mp r
 | str i=>cases h;exact mL.mp r
 | _=>cases h
theorem wB{H:Hp}:∀ {ds:List D} {vs:List V} {ys:List Mi.Ky},Mi.wL ds=some ys→P2 (Rep H) ds vs→vs=ys.map kV
 | [],_,_,h,r=>by cases h;cases r;rfl
 | d::ds,_,ys,h,r=>by
  cases r with
  | cons x t =>
   unfold Mi.wL at h
   cases h1:Mi.RT d with
   | none=>rw[h1] at h;cases h
   | some y =>
    cases h2:Mi.wL ds with
    | none=>rw[h1,h2] at h;cases h
    | some zs =>
     rw[h1,h2] at h
     cases h
     rw[Hz h1 x,wB h2 t];rfl
theorem Qj{H Hv:Hp}(vw:Vw H Hv){w:W}{x:V}{d:D}{v:V}{q:Option D→Prop}(hw:RB H Hv w x)(r:Rep Hv d v)(h:Fin (Mi.V1 w d) q):∃ a o o',x=.ref a∧Dy H a v o∧q o'∧match o' with
 | some d'=>∃ v',o=some v'∧Rep Hv d' v'
 | none=>o=none:=by
 cases w with
 | d x=>exact h.elim
 | ex z=>exact h.elim
 | dk kvs =>
  obtain⟨y,hy,h⟩:=jP (aq.mp h)
  have h:q (Mi.uz kvs y):=h
  have:∃ a kv,x=.ref a∧H a=some (.dK kv)∧Dz Hv kvs kv:=by
   rcases hw with ⟨a,kv,e,z,c⟩|⟨a,o,e,z,c⟩
   ·exact⟨a,kv,e,vw.sub _ _ z,c⟩
   ·cases o with
    | dK kv=>exact⟨a,kv,e,z,c⟩
    | _=>exact c.elim
  obtain⟨a,kv,e,z,c⟩:=this
  have hv:=Hz hy r
  subst hv
  exact⟨a,_,_,e,Dy.k z,h,Hy c⟩
 | dt kvs =>
  cases d with
  | tup ds =>
   obtain⟨y,hy,h⟩:=jP (aq.mp h)
   have h:q (Mi.uz kvs y):=h
   have:∃ a kv,x=.ref a∧H a=some (.dT kv)∧Dz Hv kvs kv:=by
    rcases hw with ⟨a,kv,e,z,c⟩|⟨a,o,e,z,c⟩
    ·exact⟨a,kv,e,vw.sub _ _ z,c⟩
    ·cases o with
     | dT kv=>exact⟨a,kv,e,z,c⟩
     | _=>exact c.elim
   obtain⟨a,kv,e,z,c⟩:=this
   obtain⟨b,xs,rfl,l,r⟩:=fL.mp r
   have hv:=wB hy r
   subst hv
   exact⟨a,_,_,e,Dy.t z (vw.sub _ _ l),h,Hy c⟩
  | _=>exact h.elim
 | df kvs =>
  cases d with
  | tup ds =>
   obtain⟨y,hy,h⟩:=jP (aq.mp h)
   have h:q (Mi.uz kvs y):=h
   have:∃ a ob kv,x=.ref a∧H a=some (.frz ob (.dT kv))∧Dz Hv kvs kv:=by
    rcases hw with ⟨a,ob,kv,e,z,c⟩|⟨a,o,e,z,c⟩
    ·exact⟨a,ob,kv,e,vw.sub _ _ z,c⟩
    ·exact c.elim
   obtain⟨a,ob,kv,e,z,c⟩:=this
   obtain⟨b,xs,rfl,l,r⟩:=fL.mp r
   have hv:=wB hy r
   subst hv
   exact⟨a,_,_,e,.inr ⟨kv,y,b,.inr ⟨ob,z⟩,rfl,vw.sub _ _ l,rfl⟩,h,Hy c⟩
  | _=>exact h.elim
theorem zc(i:Nat)(hk:AE M qV tk k):AE M qV (abI tk (pA i)) (Mi.j7 i k):=fun e σ H Hv Q I h =>
 hk e σ H Hv _ I ((aq.mp h).mono fun d hd v H1 Hv1 g1 r=>by
  obtain⟨w,he,hd⟩:=vX (aq.mp hd)
  have I1:=I.grow g1
  obtain⟨x,q,z⟩:=I1.any he
  obtain⟨a,o,o',e1,g,h2,m⟩:=Qj g1.vw z r (aq.mp hd)
  refine⟨x,q,a,o,e1,g,?_⟩
  have:o.isSome=o'.isSome:=by
   cases o' with
   | none=>have m:o=none:=m;rw[m];rfl
   | some d'=>obtain⟨v',m,_⟩:=m;rw[m];rfl
  rw[this]
  exact h2 _ H1 Hv1 g1 iY)
theorem Dm(i:Nat)(hk:AE M qV tk k):AE M qV (OD tk (pA i)) (Mi.mR i k):=fun e σ H Hv Q I h =>
 hk e σ H Hv _ I ((aq.mp h).mono fun d hd v H1 Hv1 g1 r=>by
  obtain⟨w,he,hd⟩:=vX (aq.mp hd)
  have I1:=I.grow g1
  obtain⟨x,q,z⟩:=I1.any he
  obtain⟨a,o,o',e1,g,h2,m⟩:=Qj g1.vw z r (aq.mp hd)
  refine⟨x,q,a,o,e1,g,?_⟩
  have:o.isSome=o'.isSome:=by
   cases o' with
   | none=>have m:o=none:=m;rw[m];rfl
   | some d'=>obtain⟨v',m,_⟩:=m;rw[m];rfl
  rw[this]
  exact h2 _ H1 Hv1 g1 iY)
theorem ux{tv:TE}{v:Mi.E}(i:Nat)(hm:M i=true)(hk:AE M qV tk k)(hv:AE M qV tv v):AS M κ (L2.gK (pA i) tk tv) (Mi.gK i k v):=fun H0 Hv0 e σ H Hv D I h=>by
 obtain⟨d,hd,h⟩:=iZ (aq.mp h)
 obtain⟨y,hy,h⟩:=iZ (aq.mp h)
 obtain⟨w,he,h⟩:=vX (aq.mp h)
 refine hv e σ H Hv _ I.toR0 (by
  rw[hd]
  intro x H1 Hv1 g1 rx
  have I1:=I.grow g1
  obtain⟨p,o,q,q1,n,h0,c⟩:=I1.cell hm he
  refine⟨.ref p,q,hk e σ H1 Hv1 _ I1.toR0 (by
   rw[hy]
   intro u H2 Hv2 g2 ru
   have I2:=I1.grow g2
   have c2:=c.same g2.vis
   have q2:=g2.old.at q1 c.nt
   have g12:=g1.trans g2
   have rx2:=lM g2.vis rx
   cases w with
   | d x=>exact(show False from aq.mp h).elim
   | ex z=>exact(show False from aq.mp h).elim
   | df z=>exact(show False from aq.mp h).elim
   | dk kvs =>
    obtain⟨hz,h⟩:=Mi.aR (aq.mp h)
    obtain⟨ky,hky,h⟩:=jP (aq.mp h)
    cases o with
    | dK kv =>
     have c2:Dz Hv2 kvs kv:=c2
     have hu:=Hz hky ru
     subst hu
     refine⟨p,_,rfl,Lp.k q2 (by rw[← P2.len c2,sizeLine_eq];exact hz),?_⟩
     exact h σ _ Hv2 (I2.write hm he q (show eX Hv2 (.dk (Mi.putK ky d kvs)) (.dK (L2.putK kv ky x)) from PJ rx2 c2)) g12.vis
    | _=>exact c2.elim
   | dt kvs =>
    cases y with
    | tup ds =>
     obtain⟨hz,h⟩:=Mi.aR (aq.mp h)
     obtain⟨ky,hky,h⟩:=jP (aq.mp h)
     cases o with
     | dT kv =>
      have c2:Dz Hv2 kvs kv:=c2
      obtain⟨b,xs,rfl,l,r⟩:=(fL (H:=Hv2)).mp ru
      have hu:=wB hky r
      subst hu
      refine⟨p,_,rfl,Lp.t q2 (g2.vw.sub _ _ l) (by rw[← P2.len c2,sizeLine_eq];exact hz),?_⟩
      exact h σ _ Hv2 (I2.write hm he q (show eX Hv2 (.dt (Mi.putK ky d kvs)) (.dT (L2.putK kv ky x)) from PJ rx2 c2)) g12.vis
     | _=>exact c2.elim
    | _=>exact(show False from aq.mp h).elim)⟩)
end
end A
namespace Zp
open PySem PySem.Spec PyProof.Rows L2
variable[Tb:A.fK]
section
variable{P:Program}{w:World}{B:Around}{F:Value→Shared→Prop}{z:Shared}
theorem aaF{c t:Addr}{i:Nat}{us:Array Value}{u:Value}{R:Value→Shared→Prop}(hc:z.heap.IsTupleIter c t i)(ht:z.heap.IsTuple t us)(hu:us[i]? = some u)
 (hR:∀ h',h'.IsTupleIter c t (i+1)→Heap.SameBut c z.heap h'→R u { z with heap:=h' }):wpAny (model P w) B (Builtin.SmallTypes.nextOf (.ref c)) R F z:=by
 obtain⟨ob,gb,cb,db⟩:=id hc
 obtain⟨ol,gl,_,nl,dl⟩:=ht
 unfold Builtin.SmallTypes.nextOf
 refine wpAny_bind (wpAny_callSpecial?_slot (name:=Str.ofString "__next__") hc.typeIs PySem.F.slot_tuple_iterator_next (wpAny_call_entry PySem.F.slot_tuple_iterator_next hc.typeIs PySem.F.entry_tuple_iterator_next ?_ (PySem.F.args_tuple_iterator_next_1 _)))
 show wpAny _ _ (field (.ref c) 0 >>= _) _ _ z
 refine wpAny_bind (wpAny_field gb db (x:=.ref t) rfl ?_)
 show wpAny _ _ (if (Value.ref t == Value.none)=true then _ else _) _ _ z
 rw[if_neg (fun q:(Value.ref t == Value.none)=true=>nomatch q)]
 show wpAny _ _ (field (.ref c) 1 >>= _) _ _ z
 refine wpAny_bind (wpAny_field gb db (x:=.int i 0) rfl ?_)
 show wpAny _ _ (seqItems? (.ref t) >>= _) _ _ z
 refine wpAny_bind (wpAny_seqItems gl dl ?_)
 simp only[Int.toNat_natCast,hu]
 refine wpAny_bind (wpAny_setField gb db (by simp) (wpAny_pure ⟨u,rfl,wpAny_pure (hR _ ?_ (Heap.SameBut.update ..))⟩))
 refine⟨_,Heap.get?_update_self _ gb (Obj.isFreed_of_fields (Obj.data_mapFields db _)),(Obj.cls_mapFields ..).trans cb,?_⟩
 rw[Obj.data_mapFields db];simp[rawInt]
theorem MT{c t:Addr}{i:Nat}{us:Array Value}{R:Value→Shared→Prop}(hn:B.handled=none)(hc:z.heap.IsTupleIter c t i)(ht:z.heap.IsTuple t us)(hu:us[i]? = none)
 (hF:∀ h' e,Heap.ExtBut c z.heap h'→(∃ o,h'.get? e=some o∧o.cls=.type "StopIteration")→F (.ref e) { z with heap:=h' }):wpAny (model P w) B (Builtin.SmallTypes.nextOf (.ref c)) R F z:=by
 obtain⟨ob,gb,cb,db⟩:=id hc
 obtain⟨ol,gl,_,nl,dl⟩:=ht
 unfold Builtin.SmallTypes.nextOf
 refine wpAny_bind (wpAny_callSpecial?_slot (name:=Str.ofString "__next__") hc.typeIs PySem.F.slot_tuple_iterator_next (wpAny_call_entry PySem.F.slot_tuple_iterator_next hc.typeIs PySem.F.entry_tuple_iterator_next ?_ (PySem.F.args_tuple_iterator_next_1 _)))
 show wpAny _ _ (field (.ref c) 0 >>= _) _ _ z
 refine wpAny_bind (wpAny_field gb db (x:=.ref t) rfl ?_)
 show wpAny _ _ (if (Value.ref t == Value.none)=true then _ else _) _ _ z
 rw[if_neg (fun q:(Value.ref t == Value.none)=true=>nomatch q)]
 show wpAny _ _ (field (.ref c) 1 >>= _) _ _ z
 refine wpAny_bind (wpAny_field gb db (x:=.int i 0) rfl ?_)
 show wpAny _ _ (seqItems? (.ref t) >>= _) _ _ z
 refine wpAny_bind (wpAny_seqItems gl dl ?_)
 simp only[Int.toNat_natCast,hu]
 refine wpAny_bind (wpAny_rule (wpAny_bind (wpAny_setField gb db (by simp) ?_)))
 show wpAny _ _ (newExc (.type "StopIteration") [] >>= _) _ _ _
 refine wpAny_bind ?_
 simp only[newExc,newTuple]
 refine wpAny_bind (wpAny_newObj_type ?_ (by size_fits))
 refine wpAny_bind (m:=firstArgMember _ _) (wpAny_of_eq (a:=Value.none) (by simp only[firstArgMember];rfl) (wpAny_newObj_type ?_ (by size_fits)))
 simp only[raiseNew]
 refine wpAny_bind (wpAny_handled ?_)
 first|rw[show B.in1.handled=none from hn]|rw[hn]
 exact wpAny_bind (wpAny_pure (wpAny_throw (hF _ _ (((Heap.SameBut.update ..).extBut.push _).push _) ⟨_,Heap.get?_push_size _ rfl,rfl⟩)))
end
def nm:Bool→String|true => "list" | false => "tuple"
def nmI:Bool→String|true => "list_iterator" | false => "tuple_iterator"
def Jh(k:Bool)(h:Heap)(l:Addr)(us:Array Value):Prop:=∃ o,h.get? l=some o∧o.cls=.type (nm k)∧∃ n,o.data=.seq us n
def Sv(k:Bool)(h:Heap)(c l:Addr)(i:Nat):Prop:=∃ o,h.get? c=some o∧o.cls=.type (nmI k)∧o.data=.fields #[.ref l,.int i 0]
theorem Jh.at{k:Bool}{h h':Heap}{l:Addr}{us:Array Value}(x:Jh k h l us)(f:∀ o,h.get? l=some o→h'.get? l=some o):Jh k h' l us:=let ⟨o,e,r⟩:=x;⟨o,f o e,r⟩
theorem Sv.at{k:Bool}{h h':Heap}{c l:Addr}{i:Nat}(x:Sv k h c l i)(f:∀ o,h.get? c=some o→h'.get? c=some o):Sv k h' c l i:=let ⟨o,e,r⟩:=x;⟨o,f o e,r⟩
theorem Sv.cell{k:Bool}{h:Heap}{c l:Addr}{i:Nat}(x:Sv k h c l i):∃ o,h.get? c=some o∧∀ v,o.data≠.cell v:=let ⟨o,e,_,d⟩:=x;⟨o,e,fun v q=>by rw[d] at q;cases q⟩
section
variable{P:Program}{w:World}{B:Around}{F:Value→Shared→Prop}{z:Shared}
theorem nx{k:Bool}{c t:Addr}{i:Nat}{us:Array Value}{u:Value}{R:Value→Shared→Prop}(hc:Sv k z.heap c t i)(ht:Jh k z.heap t us)(hu:us[i]? = some u)
 (hR:∀ h',Sv k h' c t (i+1)→Heap.SameBut c z.heap h'→R u { z with heap:=h' }):wpAny (model P w) B (Builtin.SmallTypes.nextOf (.ref c)) R F z:=by
 cases k
 ·exact aaF hc ht hu hR
 ·exact wpAny_nextOf_list_item hc ht hu hR
theorem U7{k:Bool}{c t:Addr}{i:Nat}{us:Array Value}{R:Value→Shared→Prop}(hn:B.handled=none)(hc:Sv k z.heap c t i)(ht:Jh k z.heap t us)(hu:us[i]? = none)
 (hF:∀ h' e,Heap.ExtBut c z.heap h'→(∃ o,h'.get? e=some o∧o.cls=.type "StopIteration")→F (.ref e) { z with heap:=h' }):wpAny (model P w) B (Builtin.SmallTypes.nextOf (.ref c)) R F z:=by
 cases k
 ·exact MT hn hc ht hu hF
 ·exact wpAny_nextOf_list_end hn hc ht hu hF
abbrev ZD(k:Bool)(l:Addr):Obj:={ cls:=.type (nmI k),data:=.fields #[.ref l,.int 0 0] }
theorem J8{k:Bool}{l:Addr}{us:Array Value}{R:Value→Shared→Prop}(h:Jh k z.heap l us)(hR:R (.ref z.heap.objs.size) { z with heap:=z.heap.push (ZD k l) }):wpAny (model P w) B (pyIter (.ref l)) R F z:=by
 cases k
 ·exact wpAny_pyIter_tuple h hR
 ·exact wpAny_pyIter_list h hR
end
theorem VL{P:Program}{w:World}{B:Around}(hn:B.handled=none)(k:Bool)(c l:Addr)(hne:l≠c)(us:Array Value) :
 Draws P w B c [c,l] us.size (fun i v=>us[i]? = some v) (fun i h=>Sv k h c l i∧Jh k h l us) where
 live:=fun _ _ st=>let ⟨o,ho,_⟩:=st.1;⟨o,ho⟩
 frame:=fun _ _ _ st f=>⟨st.1.at fun o e=>f c (by simp) o e,st.2.at fun o e=>f l (by simp) o e⟩
 item:=fun i s Q E hi st hQ=>nx st.1 st.2 (u:=us[i]) (by simp[hi]) fun h' a b=>hQ _ h' s.toks (by simp[hi]) ⟨a,st.2.at fun o e=>b.extBut _ _ hne e⟩ b
 done:=fun s Q E st hE=>U7 hn st.1 st.2 (by simp) hE
end Zp
namespace Zp
open PySem PySem.Spec PyProof.Rows L2
variable[Tb:A.fK]
structure Sr where
 k:Bool
 c:Addr
 l:Addr
 us:Array Value
def On(h:Heap)(i:Nat)(q:Sr):Prop:=Sv q.k h q.c q.l i∧Jh q.k h q.l q.us
theorem On.at{h h':Heap}{i:Nat}{q:Sr}(x:On h i q)(f:∀ b o,b=q.c∨b=q.l→h.get? b=some o→h'.get? b=some o):On h' i q :=
 ⟨x.1.at fun o e=>f _ o (.inl rfl) e,x.2.at fun o e=>f _ o (.inr rfl) e⟩
abbrev TupAt(h:Heap)(T:Addr)(vs:List Value):Prop:=h.get? T=some { cls:=.type "tuple", data:=.seq vs.toArray }
structure Ap(z TI TO:Addr)(L:List Sr):Prop where
 TIz:TI≠z
 TOz:TO≠z
 TITO:TI≠TO
 nd:(L.map (·.c)).Nodup
 c:∀ q∈L,q.c≠z∧q.c≠TI∧q.c≠TO
 l:∀ q∈L,q.l≠z∧q.l≠TO∧∀ r∈L,q.l≠r.c
theorem Ez{M:Model}{B:Around}{α β : Type}{b:β}{f:α→β→Sem (ForInStep β)}{E:Value→Shared→Prop}(I:Nat→Shared→Prop):∀ (xs:List α) (n:Nat) (s:Shared),
 (∀ j x,xs[j]? = some x→∀ s,I (n+j) s→wpAny M B (f x b) (fun r s'=>r=.yield b∧I (n+j+1) s') E s)→I n s→wpAny M B (forIn xs b f) (fun r s'=>r=b∧I (n+xs.length) s') E s
 | [],n,s,_,h=>by
  rw[List.forIn_nil];exact wpAny_pure ⟨rfl,h⟩
 | x::r,n,s,hs,h=>by
  rw[List.forIn_cons]
  refine wpAny_bind (wpAny_mono (hs 0 x rfl s h) (fun y s' hy=>?_) fun _ _ e=>e)
  obtain⟨rfl,hy⟩:=hy
  refine wpAny_mono (Ez I r (n+1) s' (fun j x' e s2 h2=>?_) hy) (fun y s2 h2=>⟨h2.1,?_⟩) fun _ _ e=>e
  ·rw[show n+1+j=n+(j+1) by omega] at h2 ⊢
   exact hs (j+1) x' (by simpa using e) s2 h2
  ·rw[List.length_cons,show n+(r.length+1)=n+1+r.length by omega];exact h2.2
section
variable{P:Program}{w:World}{B:Around}{F:Value→Shared→Prop}{s:Shared}
def Kp(z TO:Addr)(L:List Sr)(h h':Heap):Prop:=∀ b o,b≠z→b≠TO→b∉L.map (·.c)→h.get? b=some o→h'.get? b=some o
structure Mid(s:Shared)(z TI TO:Addr)(L:List Sr)(i n:Nat)(s':Shared):Prop where
 zz:IsZip s'.heap z TI TO .ellipsis
 vs:∃ vs:List Value,vs.length=L.length∧TupAt s'.heap TO vs∧∀ (j:Nat) (q:Sr),j < n→L[j]? = some q→vs[j]? = q.us[i]?∧i < q.us.size
 on:∀ (j:Nat) (q:Sr),L[j]? = some q→On s'.heap (if j < n then i+1 else i) q
 sz:s'.heap.objs.size=s.heap.objs.size
 kp:Kp z TO L s.heap s'.heap
 eq:s'={ s with heap:=s'.heap }
theorem acp{L:List Sr}(h:(L.map (·.c)).Nodup){i j:Nat}{p q:Sr}(hp:L[i]? = some p)(hq:L[j]? = some q)(hij:i≠j):p.c≠q.c:=by
 intro e
 have h1:(L.map (·.c))[i]? = some p.c:=by rw[List.getElem?_map,hp];rfl
 have h2:(L.map (·.c))[j]? = some q.c:=by rw[List.getElem?_map,hq];rfl
 obtain⟨l1,g1⟩:=List.getElem?_eq_some_iff.mp h1
 obtain⟨l2,g2⟩:=List.getElem?_eq_some_iff.mp h2
 exact hij ((List.getElem_inj h).mp (by rw[g1,g2,e]))
theorem Jj{z TI TO:Addr}{L:List Sr}{i:Nat}{vs:List Value}{R:Value→Shared→Prop}(hh:B.handled=none)(D:Ap z TI TO L)(h0:L≠[])
 (hz:IsZip s.heap z TI TO .none) (hI:TupAt s.heap TI (L.map fun q=>.ref q.c)) (hO:TupAt s.heap TO vs) (hl:vs.length=L.length) (hL:L.length≤8) (hon:∀ q∈L,On s.heap i q)
 (hR:∀ (h':Heap) (ws:List Value),IsZip h' z TI TO (rawInt s.heap.objs.size)→ws.length=L.length→(∀ (j:Nat) (q:Sr),L[j]? = some q→ws[j]? = q.us[i]?∧i < q.us.size)→TupAt h' TO ws→TupAt h' s.heap.objs.size ws→(∀ q∈L,On h' (i+1) q) →
  Kp z TO L s.heap h'→R (.ref s.heap.objs.size) { s with heap:=h' })
 (hF:∀ (h':Heap) (e:Addr),Kp z TO L s.heap h'→(∃ o,h'.get? e=some o∧o.cls=.type "StopIteration")→(∃ q∈L,q.us.size≤i)→F (.ref e) { s with heap:=h' }) :
 wpAny (model P w) B (Builtin.«zip.__next__» ⟨[.ref z],[]⟩) (fun fin s'=>∃ v,fin=.done (.ret v)∧R v s') F s:=by
 show wpAny _ _ (field (.ref z) 2 >>= _) _ _ _
 refine wpAny_bind (wpAny_field hz rfl (x:=.bool false) rfl ?_)
 show wpAny _ _ (field (.ref z) 3 >>= _) _ _ _
 refine wpAny_bind (wpAny_field hz rfl (x:=.ref TI) rfl ?_)
 refine wpAny_bind (wpAny_seqItems hI rfl ?_)
 have hne:((L.map fun q=>Value.ref q.c).toArray.isEmpty)=false:=by cases L with|nil=>exact absurd rfl h0|cons q r=>rfl
 simp only[hne,Bool.false_eq_true,if_false]
 show wpAny _ _ (Builtin.SmallTypes.ownedTupleIsFree (.ref z) >>= _) _ _ _
 refine wpAny_bind ?_
 unfold Builtin.SmallTypes.ownedTupleIsFree
 refine wpAny_bind (wpAny_field hz rfl (x:=.none) rfl (wpAny_pure ?_))
 simp only[if_true]
 refine wpAny_bind (wpAny_rule (wpAny_bind (wpAny_field hz rfl (x:=.ref TO) rfl (wpAny_bind (wpAny_setField_rec hz (by simp) fun h1 hz1 hs1=>?_)))))
 replace hz1:IsZip h1 z TI TO .ellipsis:=hz1
 have M0:Mid s z TI TO L i 0 { s with heap:=h1 }:=⟨hz1,⟨vs,hl,hs1.extBut _ _ D.TOz hO,fun j q h _=>absurd h (Nat.not_lt_zero _)⟩,fun j q e=>(hon q (List.mem_of_getElem? e)).at fun b o hb x=>by
  have hq:=List.mem_of_getElem? e
  rcases hb with rfl|rfl
  ·exact hs1.extBut _ _ (D.c q hq).1 x
  ·exact hs1.extBut _ _ (D.l q hq).1 x,hs1.1,fun b o b1 _ _ x=>hs1.extBut _ _ b1 x,rfl⟩
 refine wpAny_bind (wpAny_mono (Ez (Mid s z TI TO L i) _ 0 _ ?_ M0) ?_ fun _ _ e=>e)
 ·intro j x e s2 M
  rw[Nat.zero_add] at M ⊢
  obtain⟨q,hq,rfl⟩ : ∃ q,L[j]? = some q∧x=(Value.ref q.c,j):=by
   simp only[List.getElem?_zipIdx,List.getElem?_map,Option.map_map] at e
   obtain⟨q,hq,e⟩:=Option.map_eq_some_iff.mp e
   exact⟨q,hq,by rw[← e];simp⟩
  have hqm:=List.mem_of_getElem? hq
  have jlt:j < L.length:=(List.getElem?_eq_some_iff.mp hq).1
  have onq:=M.on j q hq
  rw[if_neg (Nat.lt_irrefl j)] at onq
  obtain⟨ws,wl,wO,wv⟩:=M.vs
  refine wpAny_bind (wpAny_onRaise ?_)
  show wpAny _ _ (Builtin.SmallTypes.nextOf (.ref q.c) >>= _) _ _ _
  cases hu:q.us[i]? with
  | none =>
   refine wpAny_bind (U7 hh onq.1 onq.2 hu fun h3 e2 x3 he=>?_)
   obtain⟨oe,goe,coe⟩:=he
   have hz3:IsZip h3 z TI TO .ellipsis:=x3 _ _ (D.c q hqm).1.symm M.zz
   have hez:e2≠z:=fun y=>by subst y;rw[hz3] at goe;cases goe;simp at coe
   refine wpAny_setField_rec hz3 (by simp) fun h4 _ x4=>?_
   rw[M.eq]
   exact hF h4 e2 (fun b o b1 b2 b3 y=>x4.extBut _ _ b1 (x3 _ _ (fun q'=>b3 (by rw[q'];exact List.mem_map_of_mem hqm)) (M.kp b o b1 b2 b3 y))) ⟨oe,x4.extBut _ _ hez goe,coe⟩ ⟨q,hqm,by simpa using hu⟩
  | some u =>
   refine wpAny_bind (nx onq.1 onq.2 hu fun h3 a3 x3=>wpAny_pure ?_)
   have hO3:TupAt h3 TO ws:=x3.extBut _ _ (D.c q hqm).2.2.symm wO
   refine wpAny_bind (wpAny_seqItems hO3 rfl (wpAny_bind (wpAny_updateSeq hO3 rfl ?_ (by rw[List.size_toArray,wl,sizeLine_eq];omega) (by simp only[Array.size_setIfInBounds,List.size_toArray];rw[wl,sizeLine_eq];omega))))
   refine wpAny_bind (wpAny_letGo (wpAny_pure ⟨rfl,?_⟩))
   have x4:Heap.SameBut TO h3 (h3.update TO (Obj.mapSeq (·.setIfInBounds j u))):=Heap.SameBut.update ..
   have hu':i < q.us.size:=(Array.getElem?_eq_some_iff.mp hu).1
   have up:∀ b o,b≠q.c→b≠TO→s2.heap.get? b=some o→(h3.update TO (Obj.mapSeq (·.setIfInBounds j u))).get? b=some o:=fun b o b1 b2 y=>x4.extBut _ _ b2 (x3.extBut _ _ b1 y)
   refine⟨up _ _ (D.c q hqm).1.symm D.TOz.symm M.zz,⟨ws.set j u,by rw[List.length_set];exact wl,?_,fun k r hk hr=>?_⟩,fun k r hr=>?_,?_,fun b o b1 b2 b3 y=>up b o (fun q'=>b3 (by rw[q'];exact List.mem_map_of_mem hqm)) b2 (M.kp b o b1 b2 b3 y),?_⟩
   ·show (h3.update TO _).get? TO=_
    rw[Heap.get?_update_self _ hO3 rfl]
    simp[Obj.mapSeq]
   ·by_cases hkj:k=j
    ·subst hkj
     rw[hq] at hr;cases hr
     rw[List.getElem?_set,if_pos rfl,if_pos (by omega),hu]
     exact⟨rfl,hu'⟩
    ·rw[List.getElem?_set,if_neg (fun q=>hkj q.symm)]
     exact wv k r (by omega) hr
   ·have hrm:=List.mem_of_getElem? hr
    by_cases hkj:k=j
    ·subst hkj
     rw[hq] at hr;cases hr
     rw[if_pos (Nat.lt_succ_self _)]
     exact⟨a3.at fun o y=>x4.extBut _ _ (D.c q hqm).2.2 y,onq.2.at fun o y=>up _ o ((D.l q hqm).2.2 q hqm) (D.l q hqm).2.1 y⟩
    ·have:=M.on k r hr
     rw[show (if k < j then i+1 else i)=(if k < j+1 then i+1 else i) from by
      by_cases h:k < j
      ·rw[if_pos h,if_pos (by omega)]
      ·rw[if_neg h,if_neg (by omega)]] at this
     exact this.at fun b o hb y=>by
      rcases hb with rfl|rfl
      ·exact up _ _ (acp D.nd hr hq hkj) (D.c r hrm).2.2 y
      ·exact up _ _ ((D.l r hrm).2.2 q hqm) (D.l r hrm).2.1 y
   ·show (h3.update TO _).objs.size=_
    rw[x4.1,x3.1,M.sz]
   ·rw[M.eq]
 ·rintro r s2 ⟨rfl,M⟩
  have hL2:0+((L.map fun q=>Value.ref q.c).toArray.toList.zipIdx).length=L.length:=by simp
  rw[hL2] at M
  obtain⟨ws,wl,wO,wv⟩:=M.vs
  refine wpAny_bind (wpAny_seqItems wO rfl (wpAny_bind (wpAny_newTuple ?_ (by show ws.length≤_;rw[wl,sizeLine_eq];omega))))
  show wpAny _ _ (Builtin.SmallTypes.ownedTupleHandOut (.ref z) (.ref s2.heap.objs.size) >>= _) _ _ _
  refine wpAny_bind ?_
  unfold Builtin.SmallTypes.ownedTupleHandOut
  have hz6:IsZip (s2.heap.push { cls:=.type "tuple", data:=.seq ws.toArray }) z TI TO .ellipsis:=Heap.get?_push_of_some _ M.zz
  refine wpAny_bind (wpAny_setField_rec hz6 (by simp) fun h7 hz7 x7=>?_)
  replace hz7:IsZip h7 z TI TO (rawInt s2.heap.objs.size):=hz7
  refine wpAny_setField_rec hz7 (by simp) fun h8 hz8 x8=>?_
  replace hz8:IsZip h8 z TI TO (rawInt s2.heap.objs.size):=hz8
  have up:∀ b o,b≠z→s2.heap.get? b=some o→h8.get? b=some o:=fun b o b1 y=>x8.extBut _ _ b1 (x7.extBut _ _ b1 (Heap.get?_push_of_some _ y))
  have hzl:z < s2.heap.objs.size:=Heap.lt_size M.zz
  have hT8:TupAt h8 s2.heap.objs.size ws:=x8.extBut _ _ (Nat.ne_of_gt hzl) (x7.extBut _ _ (Nat.ne_of_gt hzl) (Heap.get?_push_size _ rfl))
  refine wpAny_pure ⟨_,rfl,?_⟩
  show R (.ref s2.heap.objs.size) _
  rw[M.sz] at hz8 hT8 ⊢
  have e:=M.eq
  rw[e]
  exact hR h8 ws hz8 wl (fun j q hq=>wv j q (List.getElem?_eq_some_iff.mp hq).1 hq) (up _ _ D.TOz wO) hT8 (fun q hq=>by
   obtain⟨j,hj⟩:=List.getElem?_of_mem hq
   have:=M.on j q hj
   rw[if_pos (List.getElem?_eq_some_iff.mp hj).1] at this
   exact this.at fun b o hb y=>by
    rcases hb with rfl|rfl
    ·exact up _ _ (D.c q hq).1 y
    ·exact up _ _ (D.l q hq).1 y) fun b o b1 b2 b3 y=>up b o b1 (M.kp b o b1 b2 b3 y)
end
end Zp
namespace Zp
open PySem PySem.Spec PyProof.Rows L2
variable[Tb:A.fK]
section
variable{P:Program}{w:World}{B:Around}{F':Value→Shared→Prop}{s:Shared}
abbrev zO(TI TO:Addr):Obj:={ cls:=.type "zip", data:=.fields #[.none,.bool false,.bool false,.ref TI,.ref TO] }
abbrev tO(vs:List Value):Obj:={ cls:=.type "tuple", data:=.seq vs.toArray }
theorem mk2(k1 k2:Bool)(l1 l2:Addr)(xs ys:Array Value) :
 Meets (Builtin.«zip.__new__» ⟨[.type "zip", .ref l1,.ref l2],[]⟩) (fun _ R s=>Jh k1 s.heap l1 xs∧Jh k2 s.heap l2 ys ∧
  ∀ h1 h2 h3 h4:Heap,h1=s.heap.push (ZD k1 l1)→h2=h1.push (ZD k2 l2)→h3=h2.push (tO [.ref s.heap.objs.size,.ref h1.objs.size])→h4=h3.push (tO [.none,.none]) →
  R (.ok (.ret (.ref h4.objs.size))) { s with heap:=h4.push (zO h2.objs.size h3.objs.size) }) :=
 .of_wp fun prog w A R s h=>by
  obtain⟨hp,g,d,tk,os⟩:=s;obtain⟨a1,a2,h⟩:=h
  have hsub:=sub_zip
  have b1:Jh k1 (Shared.heap ⟨hp,g,d,tk,os⟩) l1 xs:=a1
  have b2:Jh k2 (Shared.heap ⟨hp.push (ZD k1 l1),g,d,tk,os⟩) l2 ys:=a2.at fun o e=>Heap.get?_push_of_some _ e
  wp_walk using J8 b1,J8 b2
  exact⟨_,rfl,h _ _ _ _ rfl rfl rfl rfl⟩
abbrev Tr:=Bool×Addr×Addr
structure Zs(h:Heap)(z TI TO:Addr)(T:List Tr)(i:Nat):Prop where
 zz:IsZip h z TI TO .none
 ti:TupAt h TI (T.map fun q=>.ref q.2.1)
 to:∃ vs:List Value,vs.length=T.length∧TupAt h TO vs
 it:∀ q∈T,Sv q.1 h q.2.1 q.2.2 i
theorem call2{k1 k2:Bool}{l1 l2:Addr}{xs ys:Array Value}{R:Value→Shared→Prop}(a1:Jh k1 s.heap l1 xs)(a2:Jh k2 s.heap l2 ys)
 (h:∀ h',Zs h' (s.heap.objs.size+4) (s.heap.objs.size+2) (s.heap.objs.size+3) [(k1,s.heap.objs.size,l1),(k2,s.heap.objs.size+1,l2)] 0→(∀ c o,s.heap.get? c=some o→h'.get? c=some o) →
  R (.ref (s.heap.objs.size+4)) { s with heap:=h' }):wpAny (model P w) B (call (.type "zip") [.ref l1,.ref l2]) R F' s:=by
 refine callType_new F.called_zip (by decide) (F.typeCall_zip_2 _ _) (F.newCall_zip_2 _ _) (fun obj=>F.args_object_init_3 obj _ _) F.entry_zip_new (mk2 k1 k2 l1 l2 xs ys) ⟨a1,a2,?_⟩
 intro h1 h2 h3 h4 e1 e2 e3 e4
 have z1:h1.objs.size=s.heap.objs.size+1:=by rw[e1];exact Heap.size_push ..
 have z2:h2.objs.size=s.heap.objs.size+2:=by rw[e2,Heap.size_push,z1]
 have z3:h3.objs.size=s.heap.objs.size+3:=by rw[e3,Heap.size_push,z2]
 have z4:h4.objs.size=s.heap.objs.size+4:=by rw[e4,Heap.size_push,z3]
 have p1:∀ c o,s.heap.get? c=some o→h1.get? c=some o:=fun c o x=>by rw[e1];exact Heap.get?_push_of_some _ x
 have p2:∀ c o,h1.get? c=some o→h2.get? c=some o:=fun c o x=>by rw[e2];exact Heap.get?_push_of_some _ x
 have p3:∀ c o,h2.get? c=some o→h3.get? c=some o:=fun c o x=>by rw[e3];exact Heap.get?_push_of_some _ x
 have p4:∀ c o,h3.get? c=some o→h4.get? c=some o:=fun c o x=>by rw[e4];exact Heap.get?_push_of_some _ x
 have p5:∀ c o,h4.get? c=some o→(h4.push (zO h2.objs.size h3.objs.size)).get? c=some o:=fun c o x=>Heap.get?_push_of_some _ x
 have g1:h1.get? s.heap.objs.size=some (ZD k1 l1):=by rw[e1];exact Heap.get?_push_size _ rfl
 have g2:h2.get? h1.objs.size=some (ZD k2 l2):=by rw[e2];exact Heap.get?_push_size _ rfl
 have g3:h3.get? h2.objs.size=some (tO [.ref s.heap.objs.size,.ref h1.objs.size]):=by rw[e3];exact Heap.get?_push_size _ rfl
 have g4:h4.get? h3.objs.size=some (tO [.none,.none]):=by rw[e4];exact Heap.get?_push_size _ rfl
 have g5:(h4.push (zO h2.objs.size h3.objs.size)).get? h4.objs.size=some (zO h2.objs.size h3.objs.size):=Heap.get?_push_size _ rfl
 show _∧_
 refine⟨⟨_,g5,rfl⟩,?_⟩
 rw[z1] at g2 g3
 rw[z2] at g3
 rw[z3] at g4
 rw[z4] at g5 ⊢
 rw[z2,z3] at g5 p5 ⊢
 exact h _ ⟨g5,p5 _ _ (p4 _ _ g3),⟨_,rfl,p5 _ _ g4⟩,fun q hq=>by
  rcases List.mem_cons.mp hq with rfl|hq
  ·exact⟨_,p5 _ _ (p4 _ _ (p3 _ _ (p2 _ _ g1))),rfl,rfl⟩
  ·obtain rfl:=List.mem_singleton.mp hq
   exact⟨_,p5 _ _ (p4 _ _ (p3 _ _ g2)),rfl,rfl⟩⟩ fun c o x=>p5 _ _ (p4 _ _ (p3 _ _ (p2 _ _ (p1 _ _ x))))
end
end Zp
namespace Zp
open PySem PySem.Spec PyProof.Rows L2 A
variable[Tb:A.fK]
def IK(H:Hp)(s:Bool×Addr)(xs:List V):Prop:=match s.1 with
 | true=>Lst H s.2 xs
 | false=>H s.2=some (.tup xs)
theorem IK.nn{H:Hp}{s:Bool×Addr}{xs:List V}(h:IK H s xs):H s.2≠none:=by
 obtain⟨k,a⟩:=s
 cases k
 ·have h:H a=_:=h
  show H a≠none
  rw[h];simp
 ·rcases (show Lst H a xs from h) with h|⟨o,h⟩
  ·show H a≠none
   rw[h];simp
  ·show H a≠none
   rw[h];simp
theorem IK.inj{H:Hp}{s:Bool×Addr}{xs ys:List V}(h:IK H s xs)(h':IK H s ys):xs=ys:=by
 obtain⟨k,a⟩:=s
 cases k
 ·have h:H a=some (.tup xs):=h
  have h':H a=some (.tup ys):=h'
  rw[h] at h';cases h';rfl
 ·rcases (show Lst H a xs from h) with h|⟨o,h⟩<;>rcases (show Lst H a ys from h') with h'|⟨o',h'⟩<;>rw[h] at h'<;>cases h'<;>rfl
theorem IK.at{X:Cx}{pins:List (Addr×Obj)}{σ : L2.St}{H:Hp}{s:Shared}{k:Bool}{a:Addr}{xs:List V}(I:Inv X pins σ H s)(h:IK H (k,a) xs):∃ its:List Value,Vals xs its∧Jh k s.heap a its.toArray:=by
 cases k
 ·have h:H a=some (.tup xs):=h
  obtain⟨_,its,rv,o,e,c,_,d⟩:=I.hok a _ h
  exact⟨its,rv,o,e,c,d⟩
 ·have h:Lst H a xs:=h
  obtain⟨its,rv,⟨o,n,e,c,_,d⟩,_⟩:=I.list h.sq
  exact⟨its,rv,o,e,c,n,d⟩
abbrev zF(H:Hp)(S:List (Bool×Addr))(xss:List (List V)):Prop:=P2 (fun s xs=>IK H s xs) S xss
def Itz(S:List (Bool×Addr)):It :=
 ⟨fun i H => ∃ xss, zF H S xss ∧ ∀ xs ∈ xss, i < xs.length,
  fun i H v H'=>∃ p ws,(∀ xss,zF H S xss→P2 (fun (xs:List V) x=>xs[i]? = some x) xss ws)∧H p=none∧v=.ref p∧H'=upd H p (.tup ws),
  fun i H=>∃ xss,zF H S xss∧∃ xs∈xss,xs.length≤i⟩
theorem Ju{H:Hp}:∀ {S:List (Bool×Addr)} {xss yss:List (List V)},zF H S xss→zF H S yss→xss=yss
 | _,_,_,.nil,.nil=>rfl
 | _,_,_,.cons a r,.cons b t=>by rw[a.inj b,Ju r t]
theorem lie{X:Cx}{pins:List (Addr×Obj)}{σ : L2.St}{H:Hp}{s:Shared}(I:Inv X pins σ H s):∀ {T:List Tr} {xss:List (List V)},zF H (T.map fun q=>(q.1,q.2.2)) xss →
 ∃ L:List Sr,L.map (fun q=>(q.k,q.c,q.l))=T∧(∀ q∈L,Jh q.k s.heap q.l q.us∧H q.l≠none)∧P2 (fun (q:Sr) xs=>Vals xs q.us.toList) L xss
 | [],_,.nil=>⟨[],rfl,fun q h=>absurd h (by simp),.nil⟩
 | (k,c,l)::T,_,.cons a r=>by
  obtain⟨L,e,h,p⟩:=lie I r
  obtain⟨its,rv,q⟩:=a.at I
  refine⟨⟨k,c,l,its.toArray⟩::L,by rw[List.map_cons,e],fun y hy=>?_,.cons rv p⟩
  rcases List.mem_cons.mp hy with rfl|hy
  ·exact⟨q,a.nn⟩
  ·exact h y hy
theorem pick{i:Nat}:∀ {L:List Sr} {xss:List (List V)} {ws:List Value},P2 (fun (q:Sr) xs=>Vals xs q.us.toList) L xss→ws.length=L.length→(∀ (j:Nat) (q:Sr),L[j]? = some q→ws[j]? = q.us[i]?∧i < q.us.size) →
 ∃ vws:List V,Vals vws ws∧P2 (fun (xs:List V) x=>xs[i]? = some x) xss vws
 | _,_,[],.nil,_,_=>⟨[],.nil,.nil⟩
 | _,_,w::ws,.cons (a:=q) (b:=xs) rv t,hl,h=>by
  obtain⟨vws,r,p⟩:=pick t (by simpa using hl) fun j r hr=>by simpa using h (j+1) r (by simpa using hr)
  obtain⟨e,hi⟩:=h 0 q rfl
  have hlen:=rv.length
  have hix:i < xs.length:=by simp at hlen;omega
  obtain⟨u,hu,ru⟩:=rv.get (i:=i) (x:=xs[i]) (by simp[hix])
  have:some w=some u:=by
   have e':some w=q.us[i]?:=e
   rw[e',← hu];simp
  cases this
  exact⟨xs[i]::vws,.cons ru r,.cons (by simp[hix]) p⟩
 | _,_,[],.cons _ _,hl,_=>by simp at hl
 | _,_,w::ws,.nil,hl,_=>by simp at hl
structure Ap0(z TI TO:Addr)(T:List Tr):Prop where
 TIz:TI≠z
 TOz:TO≠z
 TITO:TI≠TO
 nd:(T.map (·.2.1)).Nodup
 c:∀ q∈T,q.2.1≠z∧q.2.1≠TI∧q.2.1≠TO
theorem S9{P:Program}{w:World}{K:PySem.W.Frag}{elts:List Expr}{k1:Nat}{pos:Pos}{z TI TO:Addr}{T:List Tr}(D0:Ap0 z TI TO T)(hT0:T≠[])(hT8:T.length≤8) :
 Turn P w K (.Tuple elts k1 pos) (Itz (T.map fun q=>(q.1,q.2.2))) (z::TI::TO::T.map (·.2.1)) z (fun i h=>Zs h z TI TO T i) where
 mem:=by simp
 obj:=fun i h st b hb=>by
  rcases List.mem_cons.mp hb with rfl|hb
  ·exact⟨_,st.zz,fun v q=>by cases q⟩
  rcases List.mem_cons.mp hb with rfl|hb
  ·exact⟨_,st.ti,fun v q=>by cases q⟩
  rcases List.mem_cons.mp hb with rfl|hb
  ·obtain⟨vs,_,h⟩:=st.to
   exact⟨_,h,fun v q=>by cases q⟩
  ·obtain⟨q,hq,rfl⟩:=List.mem_map.mp hb
   exact(st.it q hq).cell
 keep:=fun i h h' st kk=>⟨kk z (by simp) _ st.zz,kk TI (by simp) _ st.ti,let ⟨vs,l,e⟩:=st.to;⟨vs,l,kk TO (by simp) _ e⟩,fun q hq=>(st.it q hq).at fun o e=>kk _ (by simp only[List.mem_cons];exact .inr (.inr (.inr (List.mem_map_of_mem (f:=fun q:Tr=>q.2.1) hq)))) o e⟩
 item:=by
  intro X hP hw hK hc i pins s σ H E I hf st hg
  subst hP hw hK
  obtain⟨xss,hq,hx⟩:=hg
  obtain⟨L,eL,at_,rL⟩:=lie I hq
  have eT:T.map (fun q=>(Value.ref q.2.1))=L.map fun q=>.ref q.c:=by rw[← eL,List.map_map];rfl
  have eC:T.map (fun q=>q.2.1)=L.map fun q=>q.c:=by rw[← eL,List.map_map];rfl
  have lT:T.length=L.length:=by rw[← eL,List.length_map]
  have inT:∀ q∈L,(q.k,q.c,q.l)∈T:=fun q h=>by rw[← eL];exact List.mem_map_of_mem (f:=fun q:Sr=>(q.k,q.c,q.l)) h
  have lne:∀ q∈L,∀ b∈z::TI::TO::T.map (·.2.1),q.l≠b:=fun q h b hb e=>(at_ q h).2 (by rw[e];exact(hf b hb).1)
  have D:Ap z TI TO L:=⟨D0.TIz,D0.TOz,D0.TITO,by rw[← eC];exact D0.nd,fun q h=>D0.c _ (inT q h),fun q h=>⟨lne q h z (by simp),lne q h TO (by simp),fun r hr=>lne q h r.c (by rw[eC];simp only[List.mem_cons];exact .inr (.inr (.inr (List.mem_map_of_mem (f:=fun q:Sr=>q.c) hr))))⟩⟩
  have hO:=st.to
  obtain⟨vs,vl,hO⟩:=hO
  have hTI:=st.ti
  rw[eT] at hTI
  have hty:s.TypeIs (.ref z) "zip" := ⟨_,st.zz,rfl⟩
  unfold pyNext
  refine wpAny_bind (wpAny_attempt (wpAny_callSpecial?_slot (name:=Str.ofString "__next__") hty F.slot_zip_next (wpAny_call_entry F.slot_zip_next hty F.entry_zip_next
   (Jj (by first|exact I.ok.hd hc|(simp;exact I.ok.hd hc)) D (fun e=>hT0 (by rw[e] at lT;exact List.eq_nil_of_length_eq_zero lT)) st.zz hTI hO (by rw[vl,lT]) (by omega) (fun q h=>⟨st.it _ (inT q h),(at_ q h).1⟩) (fun h' ws hz' wl wv hO' hN on' kp=>wpAny_pure ?_) (fun h' e kp he hend=>?_)) (F.args_zip_next_1 _))))
  ·refine⟨_,rfl,wpAny_letOwnedTupleGo_zip hz' fun h2 hz2 hs2=>?_⟩
   have kk:∀ b o,b∉z::TI::TO::T.map (·.2.1)→s.heap.get? b=some o→h2.get? b=some o:=fun b o hb q=>by
    simp only[List.mem_cons,not_or] at hb
    exact(hs2.2 b hb.1).trans (kp b o hb.1 hb.2.2.1 (by rw[← eC];exact hb.2.2.2) q)
   have hne:∀ b∈z::TI::TO::T.map (·.2.1),b≠s.heap.objs.size:=fun b hb e=>by
    obtain⟨o,ho,_⟩ : ∃ o,s.heap.get? b=some o∧True:=by
     rcases List.mem_cons.mp hb with rfl|hb
     ·exact⟨_,st.zz,trivial⟩
     rcases List.mem_cons.mp hb with rfl|hb
     ·exact⟨_,st.ti,trivial⟩
     rcases List.mem_cons.mp hb with rfl|hb
     ·exact⟨_,hO,trivial⟩
     ·obtain⟨q,hq,rfl⟩:=List.mem_map.mp hb
      obtain⟨o,ho,_⟩:=st.it q hq
      exact⟨o,ho,trivial⟩
    exact absurd (Heap.lt_size ho) (by rw[e];exact Nat.lt_irrefl _)
   obtain⟨vws,hv,hy⟩ : ∃ vws:List V,Vals vws ws∧P2 (fun (xs:List V) x=>xs[i]? = some x) xss vws:=by
    exact pick rL wl wv
   have hN2:TupAt h2 s.heap.objs.size ws:=(hs2.2 _ (fun e=>hne z (by simp) e.symm)).trans hN
   refine⟨.ref s.heap.objs.size,upd H s.heap.objs.size (.tup vws),Ah (s:=s) (t':=s.toks) I hf kk (Nat.le_refl _) ⟨?_,ws,hv,⟨_,hN2,rfl,rfl,_,rfl⟩⟩,rfl,⟨_,vws,fun yss h=>by rw[Ju h hq];exact hy,I.hok.fresh (Nat.le_refl _),rfl,rfl⟩,?_,fun b hb=>?_⟩
   ·rw[hv.length,wl,sizeLine_eq];omega
   ·refine⟨hz2,(hs2.2 _ D0.TIz).trans ?_,⟨ws,by rw[wl,lT],(hs2.2 _ D0.TOz).trans hO'⟩,fun q hq2=>?_⟩
    ·exact kp _ _ D0.TIz D0.TITO (fun h=>by
      rw[← eC] at h
      obtain⟨q,hq2,e⟩:=List.mem_map.mp h
      exact(D0.c q hq2).2.1 e) st.ti
    ·rw[← eL] at hq2
     obtain⟨r,hr,rfl⟩:=List.mem_map.mp hq2
     exact(on' r hr).1.at fun o q=>(hs2.2 _ (D.c r hr).1).trans q
   ·rw[aF (hne b hb)];exact(hf b hb).1
  ·exfalso
   obtain⟨q,hqm,hle⟩:=hend
   obtain⟨j,hj⟩:=List.getElem?_of_mem hqm
   obtain⟨xs,hxs,rv⟩:=rL.getL hj
   have:=hx xs (List.mem_of_getElem? hxs)
   have:=rv.length
   simp at this
   omega
 done:=by
  intro X hP hw hK hc i pins s σ H E I hf st hg
  subst hP hw hK
  obtain⟨xss,hq,xs0,hx0,hxl⟩:=hg
  obtain⟨L,eL,at_,rL⟩:=lie I hq
  have eT:T.map (fun q=>(Value.ref q.2.1))=L.map fun q=>.ref q.c:=by rw[← eL,List.map_map];rfl
  have eC:T.map (fun q=>q.2.1)=L.map fun q=>q.c:=by rw[← eL,List.map_map];rfl
  have lT:T.length=L.length:=by rw[← eL,List.length_map]
  have inT:∀ q∈L,(q.k,q.c,q.l)∈T:=fun q h=>by rw[← eL];exact List.mem_map_of_mem (f:=fun q:Sr=>(q.k,q.c,q.l)) h
  have lne:∀ q∈L,∀ b∈z::TI::TO::T.map (·.2.1),q.l≠b:=fun q h b hb e=>(at_ q h).2 (by rw[e];exact(hf b hb).1)
  have D:Ap z TI TO L:=⟨D0.TIz,D0.TOz,D0.TITO,by rw[← eC];exact D0.nd,fun q h=>D0.c _ (inT q h),fun q h=>⟨lne q h z (by simp),lne q h TO (by simp),fun r hr=>lne q h r.c (by rw[eC];simp only[List.mem_cons];exact .inr (.inr (.inr (List.mem_map_of_mem (f:=fun q:Sr=>q.c) hr))))⟩⟩
  have hO:=st.to
  obtain⟨vs,vl,hO⟩:=hO
  have hTI:=st.ti
  rw[eT] at hTI
  have hty:s.TypeIs (.ref z) "zip" := ⟨_,st.zz,rfl⟩
  unfold pyNext
  refine wpAny_bind (wpAny_attempt (wpAny_callSpecial?_slot (name:=Str.ofString "__next__") hty F.slot_zip_next (wpAny_call_entry F.slot_zip_next hty F.entry_zip_next
   (Jj (by first|exact I.ok.hd hc|(simp;exact I.ok.hd hc)) D (fun e=>hT0 (by rw[e] at lT;exact List.eq_nil_of_length_eq_zero lT)) st.zz hTI hO (by rw[vl,lT]) (by omega) (fun q h=>⟨st.it _ (inT q h),(at_ q h).1⟩) (fun h' ws hz' wl wv hO' hN on' kp=>?_) (fun h' e kp he hend=>?_)) (F.args_zip_next_1 _))))
  ·exfalso
   obtain⟨j,hj⟩:=List.getElem?_of_mem hx0
   obtain⟨q,hqj,rv⟩:=rL.aaX hj
   have:=(wv j q hqj).2
   have:=rv.length
   simp at this
   omega
  ·obtain⟨o,ho,hcl⟩:=he
   refine wpAny_bind (wpAny_isInstance (T := "StopIteration") (b:=true) ⟨o,ho,hcl⟩ isSubtype_stop (wpAny_pure ⟨rfl,?_⟩))
   exact u5 (s:=s) (t':=s.toks) I hf fun b o hb q=>by
    simp only[List.mem_cons,not_or] at hb
    exact kp b o hb.1 hb.2.2.1 (by rw[← eC];exact hb.2.2.2) q
 self:=fun _ i s Q E st h=>wpAny_pyIter_zip st.zz h
end Zp
namespace Mi
def zW:D→Rs (List D)
 | .lst ds=>.ok ds
 | .tup ds=>.ok ds
 | _=>.no
def Nh(a b:E):I:=fun e=>(a e).bind fun x=>(b e).bind fun y=>(zW x).bind fun ds=>(zW y).bind fun es=>.ok (qb ds es)
end Mi
namespace Zp
open PySem PySem.Spec PyProof.Rows L2 A
open Mi (D W Rs Fin aq)
variable[Tb:A.fK]
theorem IK.same{H H':Hp}{s:Bool×Addr}{xs:List V}(h:gR H H')(q:IK H s xs):IK H' s xs:=by
 obtain⟨k,a⟩:=s
 cases k
 ·exact h _ _ q
 ·exact Lst.same (a:=a) h q
theorem pC{H H':Hp}{S:List (Bool×Addr)}{xss:List (List V)}(h:gR H H')(q:zF H S xss):zF H' S xss:=q.imp fun _ _ x=>x.same h
def acZ(dss:List (List D))(dz:List D):Prop:=(∀ i,i < dz.length→∃ us,dz[i]? = some (.tup us)∧P2 (fun (ds:List D) u=>ds[i]? = some u) dss us)∧∃ ds∈dss,ds.length=dz.length
theorem picks{Hv:Hp}{i:Nat}:∀ {dss:List (List D)} {xss:List (List V)} {us:List D} {ws:List V},P2 (P2 (Rep Hv)) dss xss→P2 (fun (ds:List D) u=>ds[i]? = some u) dss us→P2 (fun (xs:List V) x=>xs[i]? = some x) xss ws→P2 (Rep Hv) us ws
 | _,_,_,_,.nil,.nil,.nil=>.nil
 | _,_,_,_,.cons a r,.cons b s,.cons c t=>.cons (a.get b c) (picks r s t)
theorem Uy{α β : Type}{F:α→β→Prop}:∀ {l:List α} {m:List β} {b:β},P2 F l m→b∈m→∃ a∈l,F a b
 | _,_,_,.cons x t,h=>by
  rcases List.mem_cons.mp h with rfl|h
  ·exact⟨_,List.mem_cons_self ..,x⟩
  ·obtain⟨a,ha,q⟩:=Uy t h
   exact⟨a,List.mem_cons_of_mem _ ha,q⟩
theorem Hi{α β : Type}{F:α→β→Prop}:∀ {l:List α} {m:List β} {a:α},P2 F l m→a∈l→∃ b∈m,F a b
 | _,_,_,.cons x t,h=>by
  rcases List.mem_cons.mp h with rfl|h
  ·exact⟨_,List.mem_cons_self ..,x⟩
  ·obtain⟨a,ha,q⟩:=Hi t h
   exact⟨a,List.mem_cons_of_mem _ ha,q⟩
def ZP(S:List (Bool×Addr))(dss:List (List D))(xss:List (List V))(_ Hv:Hp):Prop:=zF Hv S xss∧P2 (P2 (Rep Hv)) dss xss
theorem Yb{S:List (Bool×Addr)}{dss:List (List D)}{xss:List (List V)}{dz:List D}(hz:acZ dss dz):ItD (Itz S) (ZP S dss xss) dz:=by
 refine⟨fun i H Hv p v hi=>?_,fun i H Hv x H' p v hi y=>?_,fun H Hv p v=>?_⟩
 ·obtain⟨us,_,hu⟩:=hz.1 i hi
  refine⟨xss,pC v.sub p.1,fun xs hx=>?_⟩
  obtain⟨ds,hd,r⟩:=Uy p.2 hx
  obtain⟨u,_,e⟩:=Hi hu hd
  have:=(List.getElem?_eq_some_iff.mp e).1
  rw[← r.len];exact this
 ·obtain⟨us,hd,hu⟩:=hz.1 i hi
  obtain⟨q,ws,hw,hq,rfl,rfl⟩:=y
  have r:=picks p.2 hu (hw xss (pC v.sub p.1))
  obtain⟨g,k⟩:=qJ v r hq
  exact⟨_,.tup us,g,hd,k⟩
 ·obtain⟨ds,hd,e⟩:=hz.2
  obtain⟨xs,hx,r⟩:=Hi p.2 hd
  exact⟨xss,pC v.sub p.1,xs,hx,by rw[← r.len];omega⟩
theorem Y7:∀ ds es:List D,acZ [ds,es] (Mi.qb ds es)
 | [],es=>⟨fun i h=>absurd h (by simp[Mi.qb]),[],by simp,by simp[Mi.qb]⟩
 | d::r,[]=>⟨fun i h=>absurd h (by simp[Mi.qb]),[],by simp,by simp[Mi.qb]⟩
 | d::r,e::s=>by
  obtain⟨h1,ds,hd,hl⟩:=Y7 r s
  refine⟨fun i hi=>?_,?_⟩
  ·cases i with
   | zero=>exact⟨[d,e],rfl,.cons rfl (.cons rfl .nil)⟩
   | succ i =>
    obtain⟨us,a,b⟩:=h1 i (by simpa [Mi.qb] using hi)
    refine⟨us,by simpa [Mi.qb] using a,?_⟩
    cases b with
    | cons x t =>
     cases t with
     | cons y t=>cases t;exact .cons (by simpa using x) (.cons (by simpa using y) .nil)
  ·rcases List.mem_cons.mp hd with rfl|hd
   ·exact⟨d::ds,by simp,by simp[Mi.qb,hl]⟩
   ·obtain rfl:=List.mem_singleton.mp hd
    exact⟨e::ds,by simp,by simp[Mi.qb,hl]⟩
theorem V0{x:D}{k:List D→Prop}(h:Fin (Mi.zW x) k):∃ ds,(x=.lst ds∨x=.tup ds)∧k ds:=by
 cases x with
 | lst b=>exact⟨b,.inl rfl,h⟩
 | tup b=>exact⟨b,.inr rfl,h⟩
 | _=>exact h.elim
theorem Nz{H:Hp}{x:D}{ds:List D}{v:V}(h:x=.lst ds∨x=.tup ds)(r:Rep H x v):∃ k a xs,v=.ref a∧IK H (k,a) xs∧P2 (Rep H) ds xs:=by
 rcases h with rfl|rfl
 ·obtain⟨a,xs,e,l,r⟩:=mO.mp r
  exact⟨true,a,xs,e,l,r⟩
 ·obtain⟨a,xs,e,l,r⟩:=fL.mp r
  exact⟨false,a,xs,e,l,r⟩
section
variable{X:Cx}{elts:List Expr}{k1:Nat}{tpos:Pos}{M:Nat→Bool}
theorem Xy{a b:Nat}(h:a≠b):@Ne Addr a b:=h
theorem acJ{n:Nat}:∀ {b:Nat},b∈([n+4,n+2,n+3,n,n+1]:List Nat)→n≤b:=fun {b} h=>by simp at h;omega
theorem ap2(n:Nat)(k k':Bool)(l l':Addr):Ap0 (n+4) (n+2) (n+3) [(k,n,l),(k',n+1,l')] :=
 ⟨Xy (by omega),Xy (by omega),Xy (by omega),by show ([n,n+1]:List Nat).Nodup;simp,fun q hq=>by
  rcases List.mem_cons.mp hq with rfl|hq
  ·exact⟨Xy (show n≠n+4 by omega),Xy (show n≠n+2 by omega),Xy (show n≠n+3 by omega)⟩
  ·obtain rfl:=List.mem_singleton.mp hq
   exact⟨Xy (show n+1≠n+4 by omega),Xy (show n+1≠n+2 by omega),Xy (show n+1≠n+3 by omega)⟩⟩
def acA(ta tb:TE):TI:=fun σ H R=>ta σ H fun x H1=>tb σ H1 fun y H2=>∃ S xss,[x,y]=S.map (fun s:Bool×Addr=>V.ref s.2)∧S.length=2∧zF H2 S xss∧R (Itz S) H2
theorem Xj{a b:Expr}{ta tb:TE}{p pos:Pos}(hg:Gl X "zip")(hm:X.mg "zip" = none)(ha:PE X a ta)(hb:PE X b tb)(hs:starEach [a,b] X.env=[(false,eval a X.env),(false,eval b X.env)]:=by rfl)(hs0:starEach [a,b] X.env=(false,eval a X.env)::starEach [b] X.env:=by rfl)(hs1:starEach [b] X.env=(false,eval b X.env)::starEach [] X.env:=by rfl)(hpl:(backTo pos (starEach [b] X.env)).any (·.1)=false:=by rfl) :
 PI X (.Tuple elts k1 tpos) (.Call (.Name "zip" p) [a,b] [] pos) (acA ta tb):=by
 intro pins s σ H R I h
 refine Call_ (vB I hg hm boot_zip (PyProof.Rows.callWith_type1 (eU (aj ha (aj hb az hs1) hs0 pos pins s σ H (fun vs H1=>∃ S xss,vs=S.map (fun s:Bool×Addr=>V.ref s.2)∧S.length=2∧zF H1 S xss∧R (Itz S) H1) I ?_) fun us s1 ⟨vs,H1,I1,r1,q1⟩=>?_) hs0 hpl))
 ·exact h
 ·obtain⟨S,xss,e,hl,hS,q⟩:=q1
  obtain⟨⟨k,l⟩,⟨k',l'⟩,rfl⟩ : ∃ x y,S=[x,y]:=by
   match S,hl with
   | [x,y],_=>exact⟨x,y,rfl⟩
  subst e
  have hS0:=hS
  cases hS with
  | cons s1' t =>
  cases t with
  | cons s2' t =>
  cases t
  cases r1 with
  | cons u1 r1 =>
  cases r1 with
  | cons u2 r1 =>
  cases r1
  cases u1;cases u2
  obtain⟨i1,_,a1⟩:=s1'.at I1
  obtain⟨i2,_,a2⟩:=s2'.at I1
  refine call2 a1 a2 fun h' hZ hk=>wpAny_pyIter_zip hZ.zz ?_
  have I2:Inv X pins σ H1 { s1 with heap:=h' }:=I1.kept (t':=s1.toks) fun b o e=>hk b o e
  refine⟨_,_,_,_,H1,rfl,I2,S9 (z:=s1.heap.objs.size+4) (TI:=s1.heap.objs.size+2) (TO:=s1.heap.objs.size+3) (ap2 _ k k' l l') (by simp) (by simp),hZ,fun b hb=>?_,q⟩
  have hb:s1.heap.objs.size≤b:=acJ hb
  exact I1.vD hb (I1.hok.fresh hb)
theorem YM{ta tb:TE}{a b:Mi.E}(ha:AE M qV ta a)(hb:AE M qV tb b):QL M (acA ta tb) (Mi.Nh a b):=fun e σ H Hv R I h =>
 ha e σ H Hv _ I ((aq.mp h).mono fun x hx v H1 Hv1 g1 rx=>hb e σ H1 Hv1 _ (I.grow g1) ((aq.mp hx).mono fun y hy u H2 Hv2 g2 ry=>by
  obtain⟨ds,hd,hk⟩:=V0 (aq.mp hy)
  obtain⟨es,he,hk⟩:=V0 (aq.mp hk)
  obtain⟨k,a,xs,rfl,s1,r1⟩:=Nz hd (lM g2.vis (show Rep Hv1 x v from rx))
  obtain⟨k',a',ys,rfl,s2,r2⟩:=Nz he (show Rep Hv2 y u from ry)
  have S2:zF Hv2 [(k,a),(k',a')] [xs,ys]:=.cons s1 (.cons s2 .nil)
  exact⟨[(k,a),(k',a')],[xs,ys],rfl,rfl,pC g2.vw.sub S2,hk (Itz [(k,a),(k',a')]) H2 Hv2 (ZP [(k,a),(k',a')] [ds,es] [xs,ys]) (g1.trans g2) (Yb (Y7 ds es)) ⟨S2,.cons r1 (.cons r2 .nil)⟩ fun _ _ _ _ z s _=>⟨pC s z.1,z.2.imp fun _ _ q=>cZ s q⟩⟩))
end
end Zp
namespace Zp
open PySem PySem.Spec PyProof.Rows L2 A
open Mi (D W Rs Fin aq)
variable[Tb:A.fK]
section
variable{X:Cx}{pins:List (Addr×Obj)}{σ : L2.St}{H:Hp}{s:Shared}{B:Around}{E:Value→Shared→Prop}{Q:Value→Shared→Prop}{b:Bool}
theorem kit_at{x:V}{u t:Value}(I:Inv X pins σ H s)(rx:RelV x u)(ty:uD X.K H x t):∃ P:Heap→Prop,PySem.W.KitX X.K u t P∧P s.heap∧u≠.builtin "__main__.__loader__#opaque" := by
 cases ty with
 | non=>cases (show u=Value.none from rx);exact⟨_,PySem.W.kitx_none,True.intro,fun z=>nomatch z⟩
 | bl y=>cases (show u=Value.bool y from rx);exact⟨_,PySem.W.kitx_bool,True.intro,fun z=>nomatch z⟩
 | int i=>obtain⟨t,q⟩:=(show ∃ t,u=Value.int i t from rx);cases q;exact⟨_,PySem.W.kitx_int,True.intro,fun z=>nomatch z⟩
 | str y=>obtain⟨t,q⟩:=(show ∃ t,u=Value.str y t from rx);cases q;exact⟨_,PySem.W.kitx_str,True.intro,fun z=>nomatch z⟩
 | flt y=>obtain⟨t,q⟩:=(show ∃ t,u=Value.float y t from rx);cases q;exact⟨_,PySem.W.kitx_float,True.intro,fun z=>nomatch z⟩
 | @lst a xs ea =>
  cases (show u=Value.ref a from rx)
  obtain⟨_,_,n,_,h1⟩:=(show bW X.prog X.w H s.heap a (.lst xs) from I.hok a _ ea)
  exact⟨_,PySem.W.kitx_list,⟨_,h1,rfl⟩,fun z=>nomatch z⟩
 | @frz a ob xs ea =>
  cases (show u=Value.ref a from rx)
  obtain⟨_,_,_,n,_,h1⟩:=(show bW X.prog X.w H s.heap a (.frz ob (.lst xs)) from I.hok a _ ea)
  exact⟨_,PySem.W.kitx_list,⟨_,h1,rfl⟩,fun z=>nomatch z⟩
 | @tup a xs ea =>
  cases (show u=Value.ref a from rx)
  obtain⟨_,_,_,o,h1,h2,_⟩:=(show bW X.prog X.w H s.heap a (.tup xs) from I.hok a _ ea)
  exact⟨_,PySem.W.kitx_tuple,⟨o,h1,h2⟩,fun z=>nomatch z⟩
 | @dK a kvs ea =>
  cases (show u=Value.ref a from rx)
  obtain⟨_,_,vs,_,o,es,ep,h1,h2,_⟩:=(show bW X.prog X.w H s.heap a (.dK kvs) from I.hok a _ ea)
  exact⟨_,PySem.W.kitx_dict,⟨o,h1,h2.1⟩,fun z=>nomatch z⟩
 | @dT a kvs ea =>
  cases (show u=Value.ref a from rx)
  obtain⟨_,_,xs,_,o,es,ep,h1,h2,_⟩:=(show bW X.prog X.w H s.heap a (.dT kvs) from I.hok a _ ea)
  exact⟨_,PySem.W.kitx_dict,⟨o,h1,h2.1⟩,fun z=>nomatch z⟩
 | @ins a C dx fs ea cl ha hn htk hm =>
  cases (show u=Value.ref a from rx)
  obtain⟨mA,O,_⟩:=Qc I.hok ea
  obtain⟨od,J,_⟩:=O.look
  exact⟨_,PySem.W.kitx_own (cl.get _) cl.hd ha hn htk hm,J,fun z=>nomatch z⟩
theorem Ov:∀ {Ts:List String} {us:List Value},Vals (Ts.map V.ty) us→us=Ts.map .type
 | [],_,.nil=>rfl
 | T::r,_,.cons a t=>by
  have a:_=Value.type T:=a
  rw[a,Ov t];rfl
def Zm(K:PySem.W.Frag):List V→Hp→VK→Prop:=fun xs H Q=>∃ (x:V) (t:Value) (tp:Addr) (Ts:List String) (b:Bool),xs=[x,.ref tp]∧H tp=some (.tup (Ts.map V.ty))∧uD K H x t∧PySem.W.kitAny K t (Ts.map .type)=some b∧Q (.bl b) H
theorem Fo:jo X (.builtin "isinstance") (Zm X.K):=by
 intro pins s σ H xs us Q I r h
 obtain⟨x,t,tp,Ts,b,rfl,ht,ty,e,q⟩:=h
 obtain⟨u,w',rfl,rx,rt⟩:=vals2 r
 cases (show w'=Value.ref tp from rt)
 obtain⟨_,its,rv,o,h1,h2,_,n,h3⟩:=(show bW X.prog X.w H s.heap tp (.tup (Ts.map V.ty)) from I.hok tp _ ht)
 obtain rfl:=Ov rv
 obtain⟨c,d,dt,sl⟩:=o
 simp only at h2 h3
 subst h2 h3
 obtain⟨P,kx,p,hn⟩:=kit_at I rx ty
 exact PySem.W.kia_tup kx I.Jc p h1 e hn fun tk=>⟨.bl b,H,I.tok tk,rfl,q⟩
end
theorem Wv{K:PySem.W.Frag}{d:D}:∀ {Ts:List String},(∀ T∈Ts,Dn K T)→PySem.W.kitAny K (.type (Mi.Lz d)) (Ts.map .type)=some (Ts.any fun t=>Mi.Ry t d)
 | [],_=>rfl
 | T::r,h=>by
  have h1:=h T (List.mem_cons_self ..) d
  have h2:=Wv (d:=d) fun T' hT=>h T' (List.mem_cons_of_mem _ hT)
  rw[List.map_cons,PySem.W.kitAny,h1]
  cases e:Mi.Ry T d
  ·simp only[List.any_cons,e,Bool.false_or]
   exact h2
  ·simp only[List.any_cons,e,Bool.true_or]
theorem aby{K:PySem.W.Frag}{S T:String}(h:Dn K S)(g:Dn K T):∀ U∈[S,T],Dn K U:=fun U hU=>by
 rcases List.mem_cons.mp hU with rfl|hU
 ·exact h
 ·obtain rfl:=List.mem_singleton.mp hU
  exact g
def Z8:List String→TA
 | []=>pB
 | T::r=>iW (tC (.ty T)) (Z8 r)
theorem Ox:∀ (Ts:List String) (σ : L2.St) (H:Hp) (Q:List V→Hp→Prop),Q (Ts.map V.ty) H→Z8 Ts σ H Q
 | [],_,_,_,h=>h
 | T::r,σ,H,Q,h=>Ox r σ H _ h
section
variable{M:Nat→Bool}{K:PySem.W.Frag}{ta:TE}{a:Mi.E}
theorem ZX{Ts:List String}(hT:∀ T∈Ts,Dn K T)(hl:Ts.length≤8)(ha:AE M qP ta a):AE M qV (WN (Zm K) (iW ta (iW (Z9 (Z8 Ts)) pB))) (Mi.m1 (Mi.yZ Ts) a):=fun e σ H Hv Q I h =>
 ha e σ H Hv _ I ((aq.mp h).mono fun x hx v H1 Hv1 g1 rx=>Ox Ts σ H1 _ ⟨by rw[List.length_map,sizeLine_eq];omega,fun p hp=>by
  have g2:cY H1 Hv1 (upd H1 p (.tup (Ts.map V.ty))) (upd Hv1 p (.tup (Ts.map V.ty))):=.new g1.vw hp
  have g:=g1.trans g2
  exact⟨v,_,p,Ts,_,rfl,aV,Y9 g.vw (RB.grow g2 rx),Wv hT,(Mi.gf hx) _ _ _ g iY⟩⟩)
end
end Zp
namespace Mi
def HJ(a:E):I:=fun e=>(a e).bind fun x=>(zW x).bind fun ds=>.ok (uO 0 ds)
end Mi
namespace Zp
open PySem PySem.Spec PyProof.Rows L2 A
open Mi (D W Rs Fin aq)
open AutoSeq1 (wpAny_loadPart')
variable[Tb:A.fK]
abbrev eO(c:Addr):Obj:={ cls:=.type "enumerate", data:=.fields #[.none,.bool false,.ref c,rawInt 0,.none,.none] }
theorem mkE(l:Addr)(us:Array Value)(n:Nat)(dd:Option Addr)(sl:Array (Option Value)) :
 Meets (Builtin.«enumerate.__new__» ⟨[.type "enumerate", .ref l],[]⟩) (fun _ R s=>s.heap.get? l=some { cls:=.type "tuple", dict:=dd,data:=.seq us n,slots:=sl } ∧
  ∀ h1:Heap,h1=s.heap.push (ZD false l)→R (.ok (.ret (.ref h1.objs.size))) { s with heap:=h1.push (eO s.heap.objs.size) }) :=
 .of_wp fun prog w A R s h=>by
  obtain⟨hp,g,d,tk,os⟩:=s;obtain⟨ht,h⟩:=h
  have hsub:=sub_enumerate
  have hQ:Jh false (Shared.heap ⟨hp,g,d,tk,os⟩) l us:=⟨_,ht,rfl,n,rfl⟩
  wp_walk using wpAny_loadPart' ht
  refine wpAny_stack_any fun st=>wpAny_pure ?_
  split
  ·rename_i c _ _ _ _ _
   cases (c == Value.type "enumerate")
   ·wp_walk using wpAny_loadPart' ht,J8 hQ
    exact⟨_,rfl,h _ rfl⟩
   ·wp_walk using wpAny_loadPart' ht,J8 hQ
    exact⟨_,rfl,h _ rfl⟩
  ·wp_walk using wpAny_loadPart' ht,J8 hQ
   exact⟨_,rfl,h _ rfl⟩
theorem N7{P:Program}{w:World}{B:Around}{E':Value→Shared→Prop}{s:Shared}{k:Bool}{l:Addr}{us:Array Value}{R:Value→Shared→Prop}(hQ:Jh k s.heap l us)
 (h:∀ h',IsEnum h' (s.heap.objs.size+1) s.heap.objs.size 0 .none→Sv k h' s.heap.objs.size l 0→(∀ b o,s.heap.get? b=some o→h'.get? b=some o)→R (.ref (s.heap.objs.size+1)) { s with heap:=h' }) :
 wpAny (model P w) B (call (.type "enumerate") [.ref l]) R E' s:=by
 cases k
 ·obtain⟨⟨c,dd,dt,sl⟩,hl,hc,n,hd⟩:=hQ
  replace hc:c=.type "tuple" := hc
  replace hd:dt=.seq us n:=hd
  subst hc hd
  refine callType_new F.called_enumerate (by decide) (F.typeCall_enumerate_1 _) (F.newCall_enumerate_1 _) (fun obj=>F.args_object_init_2 obj _) F.entry_enumerate_new (mkE l us n dd sl) ⟨hl,?_⟩
  intro h1 e1
  have z1:h1.objs.size=s.heap.objs.size+1:=by rw[e1];exact Heap.size_push ..
  have g1:h1.get? s.heap.objs.size=some (ZD false l):=by rw[e1];exact Heap.get?_push_size _ rfl
  have g2:(h1.push (eO s.heap.objs.size)).get? h1.objs.size=some (eO s.heap.objs.size):=Heap.get?_push_size _ rfl
  show _∧_
  refine⟨⟨_,g2,rfl⟩,?_⟩
  rw[z1] at g2 ⊢
  exact h _ g2 ⟨_,Heap.get?_push_of_some _ g1,rfl,rfl⟩ fun b o x=>Heap.get?_push_of_some _ (by rw[e1];exact Heap.get?_push_of_some _ x)
 ·exact call_enumerate_list hQ fun h' a b _ d=>h h' a b d
def Itq(q:Bool×Addr):It :=
 ⟨fun i H=>∃ xs x,IK H q xs∧xs[i]? = some x,fun i H v H'=>∃ p x,(∀ xs,IK H q xs→xs[i]? = some x)∧H p=none∧v=.ref p∧H'=upd H p (.tup [.int i,x]),fun i H=>∃ xs,IK H q xs∧xs.length=i⟩
theorem LQ{P:Program}{w:World}{K:PySem.W.Frag}{elts:List Expr}{k1:Nat}{pos:Pos}(k:Bool)(a e it:Addr)(hne:e≠it):Turn P w K (.Tuple elts k1 pos) (Itq (k,a)) [e,it] e (fun i h=>(∃ old,IsEnum h e it i old)∧Sv k h it a i) where
 mem:=by simp
 obj:=fun i h st b hb=>by
  obtain⟨⟨old,he⟩,hi⟩:=st
  rcases List.mem_cons.mp hb with rfl|hb
  ·exact⟨_,he,fun v z=>by cases z⟩
  ·have e1:b=it:=by simpa using hb
   subst e1
   exact hi.cell
 keep:=fun i h h' st kk=>⟨let ⟨old,he⟩:=st.1;⟨old,kk e (by simp) _ he⟩,st.2.at fun o q=>kk it (by simp) o q⟩
 item:=by
  intro X hP hw hK hc i pins s σ H E I hf st hg
  subst hP hw hK
  obtain⟨xs,x,hq,hx⟩:=hg
  obtain⟨its,rv,p⟩:=hq.at I
  obtain⟨u,hu,ru⟩:=rv.get hx
  obtain⟨⟨old,he⟩,hli⟩:=st
  have hlt:i < its.toArray.size:=by rw[List.size_toArray];exact(List.getElem?_eq_some_iff.mp hu).1
  have hai:a≠it:=fun z=>hq.nn (by show H a=none;rw[z];exact(hf it (by simp)).1)
  have hea:e≠a:=fun z=>hq.nn (by show H a=none;rw[← z];exact(hf e (by simp)).1)
  refine wpAny_pyNext_enum_itemD (VL (by first|exact I.ok.hd hc|(simp;exact I.ok.hd hc)) k it a hai its.toArray) he ⟨hli,p⟩ hlt hne (by simp[hne,hea]) fun y h' tk hy ho hs' hT hsz hk=>?_
  have hy:y=u:=by
   have hu':its.toArray[i]? = some u:=by simpa using hu
   rw[hu'] at hy;exact(Option.some.inj hy).symm
  subst hy
  refine⟨_,rfl,wpAny_letOwnedTupleGo_enum ho fun h2 he2 hs2=>?_⟩
  have kk:∀ b o,b∉[e,it]→s.heap.get? b=some o→h2.get? b=some o:=fun b o hb q=>by
   simp at hb
   exact(hs2.2 b hb.1).trans (hk b o hb.1 hb.2 q)
  have hTn:s.heap.objs.size≠e:=fun z=>absurd (Heap.lt_size he) (by rw[z];exact Nat.lt_irrefl _)
  refine⟨.ref s.heap.objs.size,upd H s.heap.objs.size (.tup [.int i,x]),Ah (s:=s) (t':=tk+1) I hf kk (Nat.le_refl _) ?_,rfl,⟨_,x,fun ys hy=>by rw[hy.inj hq];exact hx,I.hok.fresh (Nat.le_refl _),rfl,rfl⟩,⟨⟨_,he2⟩,?_⟩,fun b hb=>?_⟩
  ·exact⟨by simp only[List.length_cons,List.length_nil];rw[sizeLine_eq];decide,[.int i tk,y],.cons ⟨_,rfl⟩ (.cons ru .nil),⟨_,(hs2.2 _ hTn).trans hT,rfl,rfl,_,rfl⟩⟩
  ·exact hs'.1.at fun o q=>(hs2.2 it (Ne.symm hne)).trans q
  ·have:b≠s.heap.objs.size:=fun z=>by
    subst z
    rcases List.mem_cons.mp hb with z|z
    ·exact hTn z
    ·have z:s.heap.objs.size=it:=by simpa using z
     obtain⟨o,ho,_⟩:=hli
     exact absurd (Heap.lt_size ho) (by rw[← z];exact Nat.lt_irrefl _)
   rw[aF this];exact(hf b hb).1
 done:=by
  intro X hP hw hK hc i pins s σ H E I hf st hg
  subst hP hw hK
  obtain⟨xs,hq,hx⟩:=hg
  obtain⟨its,rv,p⟩:=hq.at I
  obtain⟨⟨old,he⟩,hli⟩:=st
  have hl:=rv.length
  have hai:a≠it:=fun z=>hq.nn (by show H a=none;rw[z];exact(hf it (by simp)).1)
  subst hx
  have D:=VL (P:=X.prog) (w:=X.w) (B:=X.A.in1) (by first|exact I.ok.hd hc|(simp;exact I.ok.hd hc)) k it a hai its.toArray
  have hn:its.toArray.size=xs.length:=by simp;omega
  rw[hn] at D
  exact wpAny_pyNext_enum_endD D he ⟨hli,p⟩ fun h' hx=>⟨rfl,u5 (s:=s) (t':=s.toks) I hf fun b o hb q=>hx b o (fun z=>hb (by simp[z])) q⟩
 self:=fun _ i s Q E st h=>let ⟨⟨old,he⟩,_⟩:=st;wpAny_pyIter_enum he h
section
variable{X:Cx}{elts:List Expr}{k1:Nat}{tpos:Pos}{M:Nat→Bool}
def Vt(tl:TE):TI:=fun σ H R=>tl σ H fun x H1=>∃ k a,[x]=[V.ref a]∧(∃ xs,IK H1 (k,a) xs)∧R (Itq (k,a)) H1
theorem Uo{a:Expr}{ta:TE}{p pos:Pos}(hg:Gl X "enumerate")(hm:X.mg "enumerate" = none)(ha:PE X a ta)(hs:starEach [a] X.env=[(false,eval a X.env)]:=by rfl)(hs0:starEach [a] X.env=(false,eval a X.env)::starEach [] X.env:=by rfl) :
 PI X (.Tuple elts k1 tpos) (.Call (.Name "enumerate" p) [a] [] pos) (Vt ta):=by
 intro pins s σ H R I h
 refine Call_ (vB I hg hm boot_enumerate (PyProof.Rows.callWith_type1 (eU (aj ha az hs0 pos pins s σ H (fun vs H1=>∃ k l,vs=[.ref l]∧(∃ xs,IK H1 (k,l) xs)∧R (Itq (k,l)) H1) I ?_) fun us s1 ⟨vs,H1,I1,r1,q1⟩=>?_) hs rfl))
 ·exact h
 ·obtain⟨k,l,e,⟨xs,hq⟩,q⟩:=q1
  subst e
  obtain⟨u,rfl,ru⟩:=vals1 r1
  cases ru
  obtain⟨its,rv,pl⟩:=hq.at I1
  refine N7 pl fun h' hE hI hk=>?_
  refine wpAny_pyIter_enum hE ?_
  have I2:Inv X pins σ H1 { s1 with heap:=h' }:=I1.kept (t':=s1.toks) fun b o e=>hk b o e
  refine⟨_,[s1.heap.objs.size+1,s1.heap.objs.size],_,_,H1,rfl,I2,LQ k l (s1.heap.objs.size+1) s1.heap.objs.size (Nat.ne_of_gt (Nat.lt_succ_self _)),⟨⟨_,hE⟩,hI⟩,fun b hb=>?_,q⟩
  have hb:s1.heap.objs.size≤b:=by
   rcases List.mem_cons.mp hb with z|z
   ·rw[z];exact Nat.le_succ _
   ·have z:b=s1.heap.objs.size:=by simpa using z
    rw[z];exact Nat.le_refl _
  exact I1.vD hb (I1.hok.fresh hb)
theorem Ru{q:Bool×Addr}{ds:List D}{P:Hp→Hp→Prop}(ok:∀ H Hv,P H Hv→Vw H Hv→∃ xs,IK H q xs∧P2 (Rep Hv) ds xs):ItD (Itq q) P (Mi.uO 0 ds):=by
 refine⟨fun i H Hv p v hi=>?_,fun i H Hv x H' p v hi y=>?_,fun H Hv p v=>?_⟩
 ·obtain⟨xs,l,r⟩:=ok H Hv p v
  rw[wK] at hi
  obtain⟨x,hx,_⟩:=r.getL (i:=i) (a:=ds[i]) (by simp[hi])
  exact⟨xs,x,l,hx⟩
 ·obtain⟨xs,l,r⟩:=ok H Hv p v
  rw[wK] at hi
  obtain⟨q,z,hz,hq,rfl,rfl⟩:=y
  obtain⟨x,hx,rx⟩:=r.getL (i:=i) (a:=ds[i]) (by simp[hi])
  rw[hz xs l] at hx
  cases hx
  obtain⟨g,k⟩:=qJ v (ds:=[.int i,ds[i]]) (xs:=[.int i,z]) (.cons (n6.mpr rfl) (.cons rx .nil)) hq
  refine⟨_,.tup [.int i,ds[i]],g,?_,k⟩
  rw[Kr (i:=i) (d:=ds[i]) (by simp[hi])]
  simp
 ·obtain⟨xs,l,r⟩:=ok H Hv p v
  exact⟨xs,l,by rw[wK,r.len]⟩
theorem Wy{ta:TE}{a:Mi.E}(ha:AE M qV ta a):QL M (Vt ta) (Mi.HJ a):=fun e σ H Hv R I h =>
 ha e σ H Hv _ I ((aq.mp h).mono fun x hx v H1 Hv1 g1 rx=>by
  obtain⟨ds,hd,hk⟩:=V0 (aq.mp hx)
  obtain⟨k,p,xs,rfl,l,r⟩:=Nz hd (show Rep Hv1 x v from rx)
  exact⟨k,p,rfl,⟨xs,l.same g1.vw.sub⟩,hk (Itq (k,p)) H1 Hv1 (fun H Hv=>IK Hv (k,p) xs∧P2 (Rep Hv) ds xs) g1 (Ru fun H Hv z v=>⟨xs,z.1.same v.sub,z.2⟩) ⟨l,r⟩ fun H1 Hv1 H2 Hv2 z s v=>⟨z.1.same s,cZ s z.2⟩⟩)
end
end Zp
namespace Mi
end Mi
namespace Zp
open PySem PySem.Spec PyProof.Rows L2 A
open Mi (D W Rs Fin aq)
variable[Tb:A.fK]
end Zp
namespace Mi
abbrev SN:=List D→List D→Env→Rs Out
end Mi
namespace Zp
open PySem PySem.Spec PyProof.Rows L2 A
open Mi (D W Rs Fin aq Out)
variable[Tb:A.fK]
end Zp
namespace A
end A
namespace A
end A
namespace Mi
open PySem
def Kv(x:D)(lo hi:Option Int):Rs D:=match x with
 | .lst ds=>.ok (.lst (wN ds lo hi))
 | .tup ds=>match lo,hi with
  | some a,none=>aO (1≤a∧a≤(ds.length:Int)∧ds.length≤16777216) (.ok (.tup (ds.drop a.toNat)))
  | _,_=>.no
 | _=>.no
def KH:D→D→Rs D
 | .tup i,.tup j=>aO (i.length+j.length≤16777216) (.ok (.tup (i++j)))
 | _,_=>.no
end Mi
namespace A
end A
namespace A
open PySem L2 PyProof.Rows
open Mi (D W Rs Fin aq Out Tg met)
variable[Tb:fK]
section
variable{X:Cx}{K:PySem.W.Frag}{M:Nat→Bool}{te ta tb:TE}{a b:Mi.E}
def abT(K:PySem.W.Frag):V→Option Int→Option Int→Hp→VK→Prop:=fun x lo hi H Q=>∃ p xs a,x=.ref p∧zG K H p xs∧lo=some a∧hi=none∧1≤a∧a≤(xs.length:Int)∧xs.length≤sizeLine∧∀ q,H q=none→Q (.ref q) (upd H q (.tup (xs.drop a.toNat)))
theorem aad:WL X (abT X.K):=by
 intro pins s σ H x v vl vu lo hi sl Q I rx hs pl pu h
 obtain⟨p,xs,a,rfl,hx,rfl,rfl,h1,h2,hz,q⟩:=h
 cases rx
 obtain⟨its,r,ht,_⟩:=I.tuple hx
 have hl:=r.length
 refine⟨"tuple", _,slot_tuple_getitem.lookup,ht.typeIs,?_⟩
 cases pl with
 | int _ t =>
 cases pu
 obtain⟨n,rfl⟩ : ∃ n:Nat,a=n:=⟨a.toNat,by omega⟩
 refine getItem_tuple_from ht hs (by omega) (by rw[List.size_toArray];omega) ?_ (by rw[List.size_toArray];omega)
 rw[show (its.toArray.toList.drop n)=its.drop n by simp]
 have q:=q _ (I.hok.fresh (Nat.le_refl _))
 rw[Int.toNat_natCast] at q
 exact⟨.ref s.heap.objs.size,_,I.laid (t':=s.toks) (o:=.tup (xs.drop n)) (fun b ob q=>Heap.get?_push_of_some _ q) (Nat.le_refl _) ⟨by rw[List.length_drop];omega,_,r.drop n,⟨_,Heap.get?_push_size _ rfl,rfl,rfl,0,rfl⟩⟩,rfl,q⟩
def abV(K:PySem.W.Frag):V→Option Int→Option Int→Hp→VK→Prop:=fun x lo hi H Q=>aaq K x lo hi H Q∨abT K x lo hi H Q
theorem adx:WL X (abV X.K):=O2.or aad
theorem acW:BS qV (abV K) Mi.Kv:=fun x lo hi v H Hv Q vw rx h=>by
 cases x with
 | lst ds =>
  obtain⟨p,xs,rfl,l1,r1⟩:=RD.lst vw rx
  refine .inl ⟨p,xs,rfl,l1.sq,fun a ha=>?_⟩
  obtain⟨g,k⟩:=M5 vw (V4 r1 lo hi) ha
  exact h _ _ _ g k
 | tup ds =>
  obtain⟨p,xs,rfl,l1,_,r1⟩:=RD.tup vw rx
  cases lo with
  | none=>exact h.elim
  | some a=>cases hi with
   | some c=>exact h.elim
   | none =>
    obtain⟨⟨z1,z2,z3⟩,h⟩:=Mi.aR h
    refine .inr ⟨p,xs,a,rfl,.inl (.inl l1),rfl,rfl,z1,by rw[← r1.len];exact z2,by rw[← r1.len,sizeLine_eq];exact z3,fun c hc=>?_⟩
    obtain⟨g,k⟩:=qJ vw (r1.drop a.toNat) hc
    exact h _ _ _ g k
 | _=>exact h.elim
def Zt(K:PySem.W.Frag):R2:=fun x y H Q=>∃ l b xs zs,x=.ref l∧y=.ref b∧zG K H l xs∧zG K H b zs∧xs.length+zs.length≤sizeLine ∧
 (xs=[]→Q (.ref b) H)∧(xs≠[]→zs=[]→Q (.ref l) H)∧∀ p,H p=none→Q (.ref p) (upd H p (.tup (xs++zs)))
theorem Pj:qt X (binaryOp .Add) (Zt X.K):=by
 intro pins s σ H x y v u Q I rx ry h
 obtain⟨l,b,xs,zs,rfl,rfl,hx,hy,hz,q1,q2,q3⟩:=h
 cases rx
 cases ry
 obtain⟨its,r,t1,_⟩:=I.tuple hx
 obtain⟨its2,r2,t2,_⟩:=I.tuple hy
 have hl:=r.length
 have hl2:=r2.length
 have ty1:=t1.typeIs (s:=s)
 have ty2:=t2.typeIs (s:=s)
 obtain⟨⟨cls,dd,data,sl⟩,ho,hc,n,hd⟩:=id t1
 obtain⟨⟨cls2,dd2,data2,sl2⟩,ho2,hc2,n2,hd2⟩:=id t2
 simp only at hc hd hc2 hd2
 subst hc hd hc2 hd2
 by_cases e1:xs=[]
 ·subst e1
  have:its=[]:=by cases its<;>simp_all
  subst this
  exact concat_meets ty1 ty2 noFill_tuple_add seq_tuple_add PySem.F.slot_tuple_add PySem.F.entry_tuple_add (PySem.F.args_tuple_add_2 _ _) (tuple_addW0 l b _ _ n n2 dd dd2 sl sl2 rfl) ⟨ho,ho2,⟨.ref b,H,I,rfl,q1 rfl⟩⟩
 ·have i1:¬ its.toArray.isEmpty=true:=by
   intro z
   have:its=[]:=by simpa using z
   subst this
   cases xs with
   | nil=>exact e1 rfl
   | cons _ _=>simp at hl
  by_cases e2:zs=[]
  ·subst e2
   have:its2=[]:=by cases its2<;>simp_all
   subst this
   exact concat_meets ty1 ty2 noFill_tuple_add seq_tuple_add PySem.F.slot_tuple_add PySem.F.entry_tuple_add (PySem.F.args_tuple_add_2 _ _) (tuple_addW1 l b _ _ n n2 dd dd2 sl sl2 i1 rfl) ⟨ho,ho2,⟨.ref l,H,I,rfl,q2 e1 rfl⟩⟩
  ·have i2:¬ its2.toArray.isEmpty=true:=by
    intro z
    have:its2=[]:=by simpa using z
    subst this
    cases zs with
    | nil=>exact e2 rfl
    | cons _ _=>simp at hl2
   have q:=q3 _ (I.hok.fresh (Nat.le_refl _))
   refine concat_meets ty1 ty2 noFill_tuple_add seq_tuple_add PySem.F.slot_tuple_add PySem.F.entry_tuple_add (PySem.F.args_tuple_add_2 _ _) (tuple_addW2 l b _ _ n n2 dd dd2 sl sl2 i1 i2 (by rw[List.size_toArray,List.size_toArray];omega)) ⟨ho,ho2,?_⟩
   rw[show its.toArray++its2.toArray=(its++its2).toArray by simp]
   exact⟨.ref s.heap.objs.size,_,I.laid (t':=s.toks) (o:=.tup (xs++zs)) (fun b ob q=>Heap.get?_push_of_some _ q) (Nat.le_refl _) ⟨by rw[List.length_append];omega,_,r.append r2,⟨_,Heap.get?_push_size _ rfl,rfl,rfl,0,rfl⟩⟩,rfl,q⟩
theorem Wk:B2 qV (Zt K) Mi.KH:=fun x y v u H Hv Q vw rx ry h=>by
 cases x with
 | tup i=>cases y with
  | tup j =>
   obtain⟨hz,h⟩:=Mi.aR h
   have h:=Mi.gf h
   obtain⟨p,xs,rfl,l1,_,r1⟩:=RD.tup vw rx
   obtain⟨p2,ys,rfl,l2,v2,r2⟩:=RD.tup vw ry
   refine⟨p,p2,xs,ys,rfl,rfl,.inl (.inl l1),.inl (.inl l2),by rw[← r1.len,← r2.len,sizeLine_eq];exact hz,fun e=>?_,fun e e2=>?_,fun q hq=>?_⟩
   ·subst e
    cases r1
    refine h _ H Hv (.refl vw) ?_
    exact fL.mpr ⟨p2,ys,rfl,v2,r2⟩
   ·subst e2
    cases r2
    rw[List.append_nil] at h
    obtain⟨p,xs,z,l1,v1,r1⟩:=RD.tup vw rx
    cases z
    exact h _ H Hv (.refl vw) (fL.mpr ⟨_,xs,rfl,v1,r1⟩)
   ·obtain⟨g,k⟩:=qJ vw (r1.append r2) hq
    exact h _ _ _ g k
  | _=>exact h.elim
 | _=>exact h.elim
end
end A
namespace So
open PySem PySem.W PyProof.Rows
def Lw{α : Type}(n:Nat)(lt:Nat→Nat→Bool):KasT α→(α→Prop)→Prop
 | .ret a,Q=>Q a
 | .ask i j k,Q=>i < n∧j < n∧Lw n lt (k (lt i j)) Q
theorem oY{α β : Type}{n:Nat}{lt:Nat→Nat→Bool}{f:α→KasT β}{Q:β→Prop}:∀ {t:KasT α},Lw n lt t (fun a=>Lw n lt (f a) Q)→Lw n lt (t.bind f) Q
 | .ret _,h=>h
 | .ask _ _ k,h=>⟨h.1,h.2.1,oY (t:=k _) h.2.2⟩
theorem jg{α : Type}{n:Nat}{lt:Nat→Nat→Bool}{Q Q':α→Prop}(m:∀ a,Q a→Q' a):∀ {t:KasT α},Lw n lt t Q→Lw n lt t Q'
 | .ret _,h=>m _ h
 | .ask _ _ k,h=>⟨h.1,h.2.1,jg m (t:=k _) h.2.2⟩
theorem SQ{α : Type}{n:Nat}{lt:Nat→Nat→Bool}{cmp:Nat→Nat→(Bool→Shared→Prop)→Shared→Prop}{s:Shared}(hc:∀ i j C,i < n→j < n→C (lt i j) s→cmp i j C s){Q:α→Prop}:∀ {t:KasT α},Lw n lt t Q→t.kasWp cmp (fun a s'=>s'=s∧Q a) s
 | .ret _,h=>⟨rfl,h⟩
 | .ask i j k,h=>hc i j _ h.1 h.2.1 (SQ hc (t:=k _) h.2.2)
section
variable{n:Nat}{lt:Nat→Nat→Bool}
structure Ord(n:Nat)(lt:Nat→Nat→Bool):Prop where
 tot:∀ i j,i < n→j < n→i≠j→lt i j=true∨lt j i=true
 asy:∀ i j,i < n→j < n→lt i j=true→lt j i=false
 tr:∀ i j k,i < n→j < n→k < n→lt i j=true→lt j k=true→lt i k=true
abbrev at'(p:Array Nat)(i:Nat):Nat:=p.getD i 0
structure Pm(n:Nat)(p:Array Nat):Prop where
 pm:p.Perm (List.toArray (List.range n))
theorem Pm.size{p:Array Nat}(h:Pm n p):p.size=n:=by have:=h.pm.size_eq;simpa using this
theorem Lb{p:Array Nat}{i:Nat}(h:i < p.size):at' p i=p[i]:=by simp[at',Array.getD,h]
theorem Pm.bd{p:Array Nat}(h:Pm n p){i:Nat}(hi:i < n):at' p i < n:=by
 have hs:i < p.size:=by rw[h.size];exact hi
 rw[Lb hs]
 have:p[i]∈(List.toArray (List.range n)).toList:=(Array.perm_iff_toList_perm.mp h.pm).mem_iff.mp (by simp)
 simpa using this
theorem Pm.inj{p:Array Nat}(h:Pm n p){i j:Nat}(hi:i < n)(hj:j < n)(e:at' p i=at' p j):i=j:=by
 have si:i < p.size:=by rw[h.size];exact hi
 have sj:j < p.size:=by rw[h.size];exact hj
 rw[Lb si,Lb sj] at e
 have nd:p.toList.Nodup:=(Array.perm_iff_toList_perm.mp h.pm).nodup_iff.mpr (by simpa using List.nodup_range)
 have e2:p.toList[i]'(by simpa using si)=p.toList[j]'(by simpa using sj):=by simpa using e
 exact(List.getElem_inj nd).mp e2
def Sd(lt:Nat→Nat→Bool)(p:Array Nat)(k:Nat):Prop:=∀ i j,i < j→j < k→lt (at' p i) (at' p j)=true
def Dd(lt:Nat→Nat→Bool)(p:Array Nat)(k:Nat):Prop:=∀ i j,i < j→j < k→lt (at' p j) (at' p i)=true
variable(O:Ord n lt)
include O
theorem not_lt{p:Array Nat}(h:Pm n p){i j:Nat}(hi:i < n)(hj:j < n)(ne:i≠j)(e:lt (at' p i) (at' p j)=false):lt (at' p j) (at' p i)=true:=by
 rcases O.tot _ _ (h.bd hi) (h.bd hj) (fun z=>ne (h.inj hi hj z)) with z|z
 ·rw[e] at z;cases z
 ·exact z
theorem Sd.more{p:Array Nat}(h:Pm n p){k:Nat}(s:Sd lt p k)(hk:1≤k)(hkn:k < n)(e:lt (at' p (k - 1)) (at' p k)=true):Sd lt p (k+1):=fun i j hij hj=>by
 by_cases hjk:j < k
 ·exact s i j hij hjk
 ·obtain rfl:j=k:=by omega
  by_cases hi:i=j - 1
  ·subst hi;exact e
  ·exact O.tr _ _ _ (h.bd (by omega)) (h.bd (by omega)) (h.bd hkn) (s i (j - 1) (by omega) (by omega)) e
theorem Dd.more{p:Array Nat}(h:Pm n p){k:Nat}(s:Dd lt p k)(hk:1≤k)(hkn:k < n)(e:lt (at' p k) (at' p (k - 1))=true):Dd lt p (k+1):=fun i j hij hj=>by
 by_cases hjk:j < k
 ·exact s i j hij hjk
 ·obtain rfl:j=k:=by omega
  by_cases hi:i=j - 1
  ·subst hi;exact e
  ·exact O.tr _ _ _ (h.bd hkn) (h.bd (by omega)) (h.bd (by omega)) e (s i (j - 1) (by omega) (by omega))
theorem Od{p:Array Nat}(h:Pm n p):∀ (f k:Nat),1≤k→k+f≤n→Sd lt p k→Lw n lt (kas_asc p f k) fun m=>k≤m∧m≤k+f∧Sd lt p m∧(m=k+f∨lt (at' p m) (at' p (m - 1))=true)
 | 0,k,_,_,s=>⟨Nat.le_refl _,Nat.le_refl _,s,.inl rfl⟩
 | f+1,k,h1,h2,s=>by
  refine⟨h.bd (by omega),h.bd (by omega),?_⟩
  cases e:lt (p.getD k 0) (p.getD (k - 1) 0) with
  | true=>exact⟨Nat.le_refl _,by omega,s,.inr e⟩
  | false =>
   dsimp only
   rw[if_neg Bool.false_ne_true]
   refine jg (fun m hm=>?_) (Od h f (k+1) (by omega) (by omega) (Sd.more O h s h1 (by omega) (not_lt O h (by omega) (by omega) (by omega) e)))
   refine⟨by omega,by omega,hm.2.2.1,?_⟩
   rcases hm.2.2.2 with z|z
   ·exact .inl (by omega)
   ·exact .inr z
theorem Qk{p:Array Nat}(h:Pm n p):∀ (f k:Nat),1≤k→k+f≤n→Dd lt p k→Lw n lt (kas_desc f p k 0) fun r=>r.1=p∧k≤r.2.1∧r.2.1≤k+f∧r.2.2=0∧Dd lt p r.2.1
 | 0,k,_,_,s=>⟨rfl,Nat.le_refl _,Nat.le_refl _,rfl,s⟩
 | f+1,k,h1,h2,s=>by
  refine⟨h.bd (by omega),h.bd (by omega),?_⟩
  cases e:lt (p.getD k 0) (p.getD (k - 1) 0) with
  | true =>
   dsimp only
   rw[if_pos rfl,if_neg (by omega)]
   refine jg (fun r hr=>⟨hr.1,by omega,by omega,hr.2.2.2⟩) (Qk h f (k+1) (by omega) (by omega) (Dd.more O h s h1 (by omega) e))
  | false =>
   dsimp only
   rw[if_neg Bool.false_ne_true]
   refine⟨h.bd (by omega),h.bd (by omega),?_⟩
   dsimp only
   rw[show lt (p.getD (k - 1) 0) (p.getD k 0)=true from not_lt O h (by omega) (by omega) (by omega) e,if_pos rfl]
   exact⟨rfl,Nat.le_refl _,by show k≤_;omega,rfl,s⟩
theorem Wn{p:Array Nat}{k:Nat}(hk:k≤p.size)(i:Nat):at' (kas_rev p 0 k) i=if i < k then at' p (k - 1 - i) else at' p i:=by
 have e:=getElem?_mirror_all (xs:=p) (i:=0) (j:=k) hk i
 show (kas_rev p 0 k).getD i 0=_
 have g:∀ (q:Array Nat) (j:Nat),q.getD j 0=(q[j]?).getD 0:=fun q j=>by simp
 rw[g]
 unfold kas_rev
 rw[e]
 by_cases hi:i < k
 ·rw[if_pos ⟨Nat.zero_le _,hi⟩,if_pos hi,← g,show 0+k - 1 - i=k - 1 - i by omega]
 ·rw[if_neg (by omega),if_neg hi,← g]
theorem T6{p:Array Nat}(h:Pm n p)(k:Nat):Pm n (kas_rev p 0 k):=⟨(mirror_perm _ _ _ _).trans h.pm⟩
theorem WX{p:Array Nat}(h:Pm n p){k:Nat}(h1:1≤k)(h2:k≤n)(s:Dd lt p k):Lw n lt (kas_tail3 k n p) fun r=>Pm n r.2∧1≤r.1∧r.1≤n∧Sd lt r.2 r.1:=by
 have sz:k≤p.size:=by rw[h.size];exact h2
 have s':Sd lt (kas_rev p 0 k) k:=fun i j hij hj=>by
  rw[Wn O sz,Wn O sz,if_pos (by omega),if_pos hj]
  exact s _ _ (by omega) (by omega)
 refine oY (jg (fun m hm=>?_) (Od O (T6 O h k) (n - k) k h1 (by omega) s'))
 exact⟨T6 O h k,by omega,by omega,hm.2.2.1⟩
theorem Ku{p:Array Nat}(h:Pm n p){k:Nat}(h2:k+1≤n)(s:Dd lt p (k+1)):Lw n lt (kas_descPart k n p) fun r=>Pm n r.2∧1≤r.1∧r.1≤n∧Sd lt r.2 r.1:=by
 refine oY (jg (fun r hr=>?_) (Qk O h (n - (k+1)) (k+1) (by omega) (by omega) s))
 obtain⟨e1,l1,l2,e2,d⟩:=hr
 rw[e2,if_neg (by omega),e1]
 exact WX O h (by omega) (by omega) d
theorem Cw{p:Array Nat}(h:Pm n p)(h1:1≤n):Lw n lt (kas_count n p) fun r=>Pm n r.2∧1≤r.1∧r.1≤n∧Sd lt r.2 r.1:=by
 refine oY (jg (fun m hm=>?_) (Od O h (n - 1) 1 (Nat.le_refl _) (by omega) (fun i j hij hj=>by omega)))
 obtain⟨m1,m2,s,e⟩:=hm
 by_cases hn:m=n
 ·rw[if_pos (by simpa using hn)]
  exact⟨h,m1,by omega,s⟩
 ·rw[if_neg (by simpa using hn)]
  have e:=e.resolve_left (by omega)
  by_cases hg:m > 1
  ·rw[if_pos hg]
   refine⟨h.bd (by omega),h.bd (by omega),?_⟩
   dsimp only
   rw[show lt (p.getD 0 0) (p.getD (m - 1) 0)=true from s 0 (m - 1) (by omega) (by omega),if_pos rfl]
   exact⟨h,m1,by omega,s⟩
  ·rw[if_neg hg]
   obtain rfl:m=1:=by omega
   refine Ku O h (by omega) fun i j hij hj=>?_
   obtain rfl:i=0:=by omega
   obtain rfl:j=1:=by omega
   exact e
theorem Bh{p:Array Nat}(h:Pm n p){k:Nat}(hk:k < n)(s:Sd lt p k):∀ (f l r:Nat),l≤r→r≤k→r - l≤f→(∀ i,i < l→lt (at' p i) (at' p k)=true)→(∀ i,r≤i→i < k→lt (at' p k) (at' p i)=true) →
 Lw n lt (kas_place p k f l r) fun m=>m≤k∧(∀ i,i < m→lt (at' p i) (at' p k)=true)∧(∀ i,m≤i→i < k→lt (at' p k) (at' p i)=true)
 | 0,l,r,h1,h2,h3,a,b=>by
  obtain rfl:l=r:=by omega
  exact⟨h2,a,b⟩
 | f+1,l,r,h1,h2,h3,a,b=>by
  unfold kas_place
  by_cases g:l ≥ r
  ·rw[if_pos g]
   obtain rfl:l=r:=by omega
   exact⟨h2,a,b⟩
  ·rw[if_neg g]
   refine⟨h.bd hk,h.bd (by omega),?_⟩
   cases e:lt (p.getD k 0) (p.getD ((l+r) / 2) 0) with
   | true =>
    dsimp only
    rw[if_pos rfl]
    refine Bh h hk s f l ((l+r) / 2) (by omega) (by omega) (by omega) a fun i hi hk'=>?_
    by_cases z:i=(l+r) / 2
    ·subst z;exact e
    ·exact O.tr _ _ _ (h.bd hk) (h.bd (by omega)) (h.bd (by omega)) e (s _ _ (by omega) hk')
   | false =>
    dsimp only
    rw[if_neg Bool.false_ne_true]
    have e':=not_lt O h hk (by omega) (by omega) e
    refine Bh h hk s f ((l+r) / 2+1) r (by omega) h2 (by omega) (fun i hi=>?_) b
    by_cases z:i=(l+r) / 2
    ·subst z;exact e'
    ·exact O.tr _ _ _ (h.bd (by omega)) (h.bd (by omega)) (h.bd hk) (s _ _ (by omega) (by omega)) e'
theorem Wr{p:Array Nat}{k d:Nat}(hk:k < p.size)(hd:d≤k)(i:Nat):at' (bubble p k d) i=if i=k - d then at' p k else if k - d < i∧i≤k then at' p (i - 1) else at' p i:=by
 have e:=getElem?_bubble hk d hd i
 have g:∀ (q:Array Nat) (j:Nat),q.getD j 0=(q[j]?).getD 0:=fun q j=>by simp
 show (bubble p k d).getD i 0=_
 rw[g,e]
 by_cases h1:i=k - d
 ·rw[if_pos h1,if_pos h1,← g]
 ·rw[if_neg h1,if_neg h1]
  by_cases h2:k - d < i∧i≤k
  ·rw[if_pos h2,if_pos h2,← g]
  ·rw[if_neg h2,if_neg h2,← g]
theorem Wg:∀ (f:Nat) (p:Array Nat) (k:Nat),Pm n p→k+f≤n→Sd lt p k→Lw n lt (kas_bin f p k) fun q=>Pm n q∧Sd lt q (k+f)
 | 0,p,k,h,_,s=>⟨h,s⟩
 | f+1,p,k,h,hk,s=>by
  have sz:k < p.size:=by rw[h.size];omega
  refine oY (jg (fun l hl=>?_) (Bh O h (by omega) s k 0 k (by omega) (Nat.le_refl _) (by omega) (fun i hi=>by omega) (fun i h1 h2=>by omega)))
  obtain⟨l1,lo,hi⟩:=hl
  have s':Sd lt (bubble p k (k - l)) (k+1):=fun i j hij hj=>by
   rw[Wr O sz (d:=k - l) (by omega),Wr O sz (d:=k - l) (by omega),show k - (k - l)=l by omega]
   by_cases c1:i=l
   ·rw[if_pos c1,if_neg (by omega),if_pos (by omega)]
    exact hi _ (by omega) (by omega)
   ·rw[if_neg c1]
    by_cases c2:l < i∧i≤k
    ·rw[if_pos c2,if_neg (by omega),if_pos (by omega)]
     exact s _ _ (by omega) (by omega)
    ·rw[if_neg c2]
     by_cases c3:j=l
     ·rw[if_pos c3]
      exact lo _ (by omega)
     ·rw[if_neg c3]
      by_cases c4:l < j∧j≤k
      ·rw[if_pos c4]
       exact s _ _ (by omega) (by omega)
      ·rw[if_neg c4]
       exact s _ _ (by omega) (by omega)
  refine jg (fun q hq=>⟨hq.1,?_⟩) (Wg f (bubble p k (k - l)) (k+1) ⟨(bubble_perm _ _ _).trans h.pm⟩ (by omega) s')
  rw[show k+(f+1)=k+1+f by omega];exact hq.2
theorem WY(h1:1≤n):Lw n lt (kas_sort n) fun q=>Pm n q∧Sd lt q n:=by
 refine oY (jg (fun r hr=>?_) (Cw O ⟨Array.Perm.refl _⟩ h1))
 obtain⟨pm,r1,r2,s⟩:=hr
 by_cases hl:r.1 < n
 ·rw[if_pos hl]
  refine jg (fun q hq=>⟨hq.1,?_⟩) (Wg O (n - max r.1 1) r.2 (max r.1 1) pm (by omega) (by rw[show max r.1 1=r.1 by omega];exact s))
  rw[show n=max r.1 1+(n - max r.1 1) by omega];exact hq.2
 ·rw[if_neg hl]
  exact⟨pm,by rw[show n=r.1 by omega];exact s⟩
end
end So
namespace So
open PySem PySem.W PyProof.Rows PySem.MeetsSeq3
def iQ:List Int→List Int→Bool
 | [],[]=>false
 | [],_::_=>true
 | _::_,[]=>false
 | a::r,b::t=>if a == b then iQ r t else decide (a < b)
section
variable{prog:Program}{w:World}{Ar:Around}
theorem Qa{vs:List Value}{ns:List Int}(h:IntsAre vs ns):∀ {i:Nat} {n:Int},ns[i]? = some n→∃ t,vs[i]? = some (.int n t):=by
 induction h with
 | nil=>intro i n e;simp at e
 | cons a t h ih =>
  intro i n e
  cases i with
  | zero=>simp at e;subst e;exact⟨t,rfl⟩
  | succ i=>exact ih (by simpa using e)
theorem acs{R:Result→Shared→Prop}{s:Shared}{l b:Addr}{us vs:List Value}{xs ys:List Int}{o o2:Obj}{n n2:Nat}(ho:s.heap.get? l=some o)(hd:o.data=.seq us.toArray n)(ho2:s.heap.get? b=some o2)(hd2:o2.data=.seq vs.toArray n2)(hu:IntsAre us xs)(hv:IntsAre vs ys) :
 ∀ (k i:Nat),xs.length - i≤k→i≤xs.length→i≤ys.length→R (.ok (.ret (.bool (iQ (xs.drop i) (ys.drop i))))) s→codeAny (model prog w) Ar (.builtin "list.__eq__.loop" ⟨[.ref l,.ref b,rawInt i,rawInt 0],[]⟩) R s:=by
 have l1:=hu.length
 have l2:=hv.length
 have gx:∀ i,i < xs.length→∃ t,us.toArray[i]? = some (.int (xs.getD i 0) t):=fun i hi=>by
  obtain⟨t,e⟩:=Qa hu (i:=i) (n:=xs.getD i 0) (by simp[hi])
  exact⟨t,by simpa using e⟩
 have gy:∀ i,i < ys.length→∃ t,vs.toArray[i]? = some (.int (ys.getD i 0) t):=fun i hi=>by
  obtain⟨t,e⟩:=Qa hv (i:=i) (n:=ys.getD i 0) (by simp[hi])
  exact⟨t,by simpa using e⟩
 have nx:∀ i,¬ i < xs.length→us.toArray[i]? = none:=fun i hi=>by simp;omega
 have ny:∀ i,¬ i < ys.length→vs.toArray[i]? = none:=fun i hi=>by simp;omega
 have acM:∀ i,i=xs.length→i≤ys.length→decide (us.toArray.size < vs.toArray.size)=iQ (xs.drop i) (ys.drop i):=fun i hi hj=>by
  rw[List.drop_eq_nil_of_le (by omega:xs.length≤i),List.size_toArray,List.size_toArray,l1,l2]
  by_cases h:i < ys.length
  ·rw[List.drop_eq_getElem_cons h]
   simp[iQ];omega
  ·rw[List.drop_eq_nil_of_le (by omega:ys.length≤i)]
   simp[iQ];omega
 have adY:∀ i,i < xs.length→i=ys.length→decide (us.toArray.size < vs.toArray.size)=iQ (xs.drop i) (ys.drop i):=fun i hi hj=>by
  rw[List.drop_eq_nil_of_le (by omega:ys.length≤i),List.drop_eq_getElem_cons hi,List.size_toArray,List.size_toArray,l1,l2]
  simp[iQ];omega
 have fin:∀ (i:Nat),(us.toArray[i]? = none∨vs.toArray[i]? = none)→R (.ok (.ret (.bool (decide (us.toArray.size < vs.toArray.size))))) s→codeAny (model prog w) Ar (.builtin "list.__eq__.loop" ⟨[.ref l,.ref b,rawInt i,rawInt 0],[]⟩) R s:=fun i hn h=>by
  refine codeAny_builtin entry_eq_loop (by
   rw[Around.under_plainId plain_eq_loop _]
   unfold Builtin.«list.__eq__.loop»
   show wpAny _ _ (Builtin.List.listItems (.ref l) >>= _) _ _ _
   refine wpAny_bind (listItems_at ho hd (wpAny_bind (listItems_at ho2 hd2 ?_)))
   simp only[Int.toNat_natCast]
   rcases hn with e|e
   ·rw[e]
    dsimp only
    refine wpAny_bind (listItems_at ho hd (wpAny_bind (listItems_at ho2 hd2 ?_)))
    exact wpAny_pure h
   ·rw[e]
    cases us.toArray[i]? <;>
    ·dsimp only
     refine wpAny_bind (listItems_at ho hd (wpAny_bind (listItems_at ho2 hd2 ?_)))
     exact wpAny_pure h)
 intro k
 induction k with
 | zero =>
  intro i hk h1 h2 h
  refine fin i (.inl (nx i (by omega))) ?_
  rw[acM i (by omega) h2];exact h
 | succ k ih =>
  intro i hk h1 h2 h
  by_cases hi:i < xs.length
  ·by_cases hj:i < ys.length
   ·obtain⟨t,e1⟩:=gx i hi
    obtain⟨u,e2⟩:=gy i hj
    have dx:xs.drop i=xs.getD i 0::xs.drop (i+1):=by rw[List.drop_eq_getElem_cons hi];simp[hi]
    have dy:ys.drop i=ys.getD i 0::ys.drop (i+1):=by rw[List.drop_eq_getElem_cons hj];simp[hj]
    rw[dx,dy] at h
    refine codeAny_builtin entry_eq_loop (by
     rw[Around.under_plainId plain_eq_loop _]
     unfold Builtin.«list.__eq__.loop»
     show wpAny _ _ (Builtin.List.listItems (.ref l) >>= _) _ _ _
     refine wpAny_bind (listItems_at ho hd (wpAny_bind (listItems_at ho2 hd2 ?_)))
     simp only[Int.toNat_natCast]
     rw[e1,e2]
     dsimp only
     refine wpAny_bind (wpAny_eqBool_int ?_)
     cases hb:(xs.getD i 0 == ys.getD i 0) with
     | true =>
      rw[if_pos rfl]
      rw[iQ,hb,if_pos rfl] at h
      refine wpAny_pure ⟨plainId_quiet plain_eq_loop _,?_⟩
      have:=ih (i+1) (by omega) hi hj h
      rw[show rawInt ((i+1:Nat):Int)=rawInt ((i:Int)+1) from by rw[show ((i+1:Nat):Int)=(i:Int)+1 by omega]] at this
      exact this
     | false =>
      rw[if_neg Bool.false_ne_true]
      rw[iQ,hb,if_neg Bool.false_ne_true] at h
      refine wpAny_bind (listItems_at ho hd (wpAny_bind (listItems_at ho2 hd2 ?_)))
      rw[e1,e2]
      show wpAny _ _ (richCompare .Lt _ _ >>= _) _ _ _
      exact wpAny_bind (show wpAny _ _ (compareOp .Lt _ _) _ _ _ from wpAny_lt_int (wpAny_pure h)))
   ·refine fin i (.inr (ny i hj)) ?_
    rw[adY i hi (by omega)];exact h
  ·refine fin i (.inl (nx i hi)) ?_
   rw[acM i (by omega) h2];exact h
theorem Vl{E:Value→Shared→Prop}{s:Shared}{l b:Addr}{us vs:List Value}{xs ys:List Int}{o o2:Obj}{n n2:Nat}{Q:Bool→Shared→Prop}(ho:s.heap.get? l=some o)(hc:o.cls=.type "list")(hd:o.data=.seq us.toArray n)(ho2:s.heap.get? b=some o2)(hc2:o2.cls=.type "list")(hd2:o2.data=.seq vs.toArray n2)(hu:IntsAre us xs)(hv:IntsAre vs ys)
 (hun:Ar.units < cLine) (h:Q (iQ xs ys) s):wpAny (model prog w) Ar (keyLt' oneType' (.ref l) (.ref b)) Q E s:=by
 have t1:s.TypeIs (.ref l) "list" := ⟨_,ho,hc⟩
 have t2:s.TypeIs (.ref b) "list" := ⟨_,ho2,hc2⟩
 rw[keyLt'_oneType,oneLt'_eq]
 simp only[if_true]
 refine wpAny_bind (wpAny_cRoomFor hun ?_)
 refine wpAny_bind (wpAny_callSpecialIfBound?_slot t1 PySem.F.slot_list_lt (wpAny_call (codeAny_call_builtin PySem.F.slot_list_lt.plain PySem.F.entry_list_lt (PySem.F.slot_list_lt.check _ _ _ _ _ _ _ _ t1 (PySem.F.args_list_lt_2 _ _) ?_))))
 unfold Builtin.«list.__lt__»
 have sub:isSubtype (.type "list") (.type "list")=pure true:=by rw[isSubtype_type];kernel_rfl
 show wpAny _ _ (isInstance (.ref b) (.type "list") >>= _) _ _ _
 refine wpAny_bind (wpAny_isInstance t2 sub ?_)
 refine wpAny_pure ⟨plainId_quiet plain_eq_loop _,?_⟩
 refine acs ho hd ho2 hd2 hu hv xs.length 0 (by omega) (Nat.zero_le _) (Nat.zero_le _) ?_
 exact wpAny_truthy_bool h
end
end So
namespace So
open PySem PySem.W PyProof.Rows
section
variable{prog:Program}{w:World}{A:Around}{E:Value→Shared→Prop}{s:Shared}
def tm(n:Nat):List Addr:=[n,n+1,n+2,n+3]
def vR(lt:Nat→Nat→Bool)(vs out:List Value):Prop:=∃ p:Array Nat,Pm vs.length p∧Sd lt p vs.length∧out=p.toList.map fun i=>vs.getD i Value.none
theorem vR.len{lt:Nat→Nat→Bool}{vs out:List Value}(h:vR lt vs out):out.length=vs.length:=by
 obtain⟨p,pm,_,rfl⟩:=h
 rw[List.length_map,Array.length_toList,pm.size]
theorem Ak{a kS:Addr}{e e1:Nat}{ks out:List Value}{st:SortSt}{P:PySem.Fin→Shared→Prop}(hk:s.heap.get? kS=some (seqObj "list" (List.toArray ks) e))(ha:s.heap.get? a=some (seqObj "list" #[] e1))(ne:a≠kS)
 (hks:ks.length < 64) (ho:out.length < 64) (hout:(arrOf st).map (·.2)=List.toArray out) (hf:failedOf st=none)
 (h:∀ h' c,(∀ b o,b≠a→b≠kS→s.heap.get? b=some o→h'.get? b=some o)→(∃ o,h'.get? kS=some o)→h'.get? a=some (seqObj "list" (List.toArray out) c)→P (.done (.ret .none)) { s with heap:=h' }) :
 wpAny (model prog w) A (ksk_tail a false e1 (.ref kS) st) P E s:=by
 have s1:=Heap.SameBut.update s.heap kS (Obj.mapSeq fun _=>(#[]:Array Value))
 have ha1:=(s1.2 a ne).trans ha
 have s2:=Heap.SameBut.update (s.heap.update kS (Obj.mapSeq fun _=>(#[]:Array Value))) a (Obj.mapSeq fun _=>List.toArray out)
 obtain⟨c,hc⟩ : ∃ c,((s.heap.update kS (Obj.mapSeq fun _=>(#[]:Array Value))).update a (Obj.mapSeq fun _=>List.toArray out)).get? a=some (seqObj "list" (List.toArray out) c):=⟨_,get?_update_seq ha1 fun _=>List.toArray out⟩
 unfold ksk_tail
 dsimp only
 rw[hout]
 refine wpAny_bind (listUpdate_at hk rfl ?_ (by rw[List.size_toArray,sizeLine_eq];omega) (Nat.zero_le _))
 refine wpAny_bind (wpAny_letGo (wpAny_bind (seqEpoch_at ha1 rfl ?_)))
 refine wpAny_bind (listUpdate_at ha1 rfl ?_ (Nat.zero_le _) (by show (List.toArray out).size≤_;rw[List.size_toArray,sizeLine_eq];omega))
 rw[hf]
 simp only[bne_self_eq_false,Bool.false_eq_true,if_false]
 exact wpAny_pure (h _ c (fun b o n1 n2 q=>(s2.2 b n1).trans ((s1.2 b n2).trans q)) ⟨_,(s2.2 kS (Ne.symm ne)).trans (get?_update_seq hk fun _=>#[])⟩ hc)
theorem Nb{a kS f:Addr}{e1:Nat}{P:PySem.Fin→Shared→Prop}(J:List Value→Shared→Prop){vs:List Value}(h64:vs.length < 64)
 (jk:∀ ks s1 h',J ks s1→(∀ b o,b≠kS→s1.heap.get? b=some o→h'.get? b=some o)→(∃ o,h'.get? kS=some o)→J ks { s1 with heap:=h' })
 (jc:∀ i x ks s1,vs[i]? = some x→ks.length=i→J ks s1→wpAny (model prog w) A (call (.ref f) [x]) (fun k s2=>J (ks++[k]) s2∧∀ b o,(b=a∨b=kS)→s1.heap.get? b=some o→s2.heap.get? b=some o) (fun _ _=>False) s1)
 (ne:a≠kS) (hk:s.heap.get? kS=some (seqObj "list" #[] 0)) (ha:s.heap.get? a=some (seqObj "list" #[] e1)) (j0:J [] s)
 (fin:∀ ks e s1,ks.length=vs.length→J ks s1→s1.heap.get? kS=some (seqObj "list" (List.toArray ks) e)→s1.heap.get? a=some (seqObj "list" #[] e1)→wpAny (model prog w) A (ksk_end a false vs.toArray e1 (.ref kS) (List.toArray ks)) P E s1) :
 wpAny (model prog w) A (ksk_rest a (.ref f) false vs.toArray e1 (.ref kS)) P E s:=by
 unfold ksk_rest
 refine wpAny_bind (wpAny_rule ?_)
 rw[List.forIn_toArray]
 refine wpAny_bind (ksk_fold (I:=fun i s1=>∃ ks e,ks.length=i∧J ks s1∧s1.heap.get? kS=some (seqObj "list" (List.toArray ks) e)∧s1.heap.get? a=some (seqObj "list" #[] e1)) vs 0 s ⟨[],0,rfl,j0,hk,ha⟩ (fun j x s1 hx hI=>?_) fun s1 hI=>?_)
 ·obtain⟨ks,e,hl,hJ,hk1,ha1⟩:=hI
  rw[Nat.zero_add] at hl ⊢
  have hlt:j < vs.length:=(List.getElem?_eq_some_iff.mp hx).1
  refine wpAny_bind (wpAny_attempt (wpAny_mono (jc j x ks s1 hx hl hJ) (fun k s2 h2=>?_) fun _ _ z=>z.elim))
  obtain⟨hJ2,kp⟩:=h2
  have hk2:=kp kS _ (.inr rfl) hk1
  have ha2:=kp a _ (.inl rfl) ha1
  have su:=Heap.SameBut.update s2.heap kS (Obj.mapSeq (·.push k))
  have ea:(List.toArray ks).push k=List.toArray (ks++[k]):=by simp
  obtain⟨c2,hc2⟩ : ∃ c2,(s2.heap.update kS (Obj.mapSeq (·.push k))).get? kS=some (seqObj "list" (List.toArray (ks++[k])) c2):=⟨_,by rw[← ea];exact get?_update_seq hk2 (·.push k)⟩
  dsimp only
  refine wpAny_bind (listUpdate_at hk2 rfl ?_ (by rw[List.size_toArray,sizeLine_eq];omega) (Nat.le_trans (Nat.le_of_eq (Array.size_push ..)) (by rw[List.size_toArray,sizeLine_eq];omega)))
  exact wpAny_pure ⟨rfl,ks++[k],c2,by rw[List.length_append,hl];rfl,jk _ _ _ hJ2 (fun b o n q=>(su.2 b n).trans q) ⟨_,hc2⟩,hc2,(su.2 a ne).trans ha2⟩
 ·obtain⟨ks,e,hl,hJ,hk1,ha1⟩:=hI
  refine wpAny_bind (listItems_at hk1 rfl ?_)
  exact fin ks e s1 (by simpa using hl) hJ hk1 ha1
theorem RL{a kS:Addr}{e e1:Nat}{ks vs:List Value}{lt:Nat→Nat→Bool}{P:PySem.Fin→Shared→Prop}(hl:ks.length=vs.length)(h64:vs.length < 64)(O:Ord vs.length lt)
 (hkk:2≤vs.length→∀ (Q:SortKind→Shared→Prop),Q oneType' s→wpAny (model prog w) A (keyKind' (List.toArray ks)) Q (fun _ _=>False) s)
 (hcmp:∀ i j C,i < vs.length→j < vs.length→C (lt i j) s→kas_ask prog w A oneType' ks i j C s)
 (hk:s.heap.get? kS=some (seqObj "list" (List.toArray ks) e)) (ha:s.heap.get? a=some (seqObj "list" #[] e1)) (ne:a≠kS)
 (h:∀ out h' c,vR lt vs out→(∀ b o,b≠a→b≠kS→s.heap.get? b=some o→h'.get? b=some o)→(∃ o,h'.get? kS=some o)→h'.get? a=some (seqObj "list" (List.toArray out) c)→P (.done (.ret .none)) { s with heap:=h' }) :
 wpAny (model prog w) A (ksk_end a false vs.toArray e1 (.ref kS) (List.toArray ks)) P E s:=by
 have Yi:∀ {n:Nat},Pm n (List.toArray (List.range n)):=⟨Array.Perm.refl _⟩
 unfold ksk_end
 dsimp only
 rw[if_neg Bool.false_ne_true,if_neg Bool.false_ne_true]
 by_cases h2:vs.toArray.size < 2
 ·rw[if_pos h2,if_pos h2]
  rw[List.size_toArray] at h2
  refine wpAny_bind (wpAny_pure ?_)
  rw[StateT.run_pure]
  refine wpAny_bind (wpAny_pure ?_)
  dsimp only
  have hout:vR lt vs vs:=⟨List.toArray (List.range vs.length),Yi,fun i j hij hj=>by omega,by
   apply List.ext_getElem (by simp)
   intro i h1 h2
   simp[h1]⟩
  refine Ak (out:=vs) hk ha ne (by omega) h64 ?_ rfl fun h' c kp ex hc=>h vs h' c hout kp ex hc
  show ((List.toArray ks).zip vs.toArray).map (·.2)=vs.toArray
  apply Array.toList_inj.mp
  rw[Array.toList_map,Array.toList_zip]
  simp only[]
  rw[List.map_snd_zip (by omega)]
 ·rw[if_neg h2,if_neg h2]
  rw[List.size_toArray] at h2
  refine wpAny_bind (wpAny_mono (hkk (by omega) (fun κ s'=>κ = oneType'∧s'=s) ⟨rfl,rfl⟩) (fun κ s' hh=>?_) fun _ _ z=>z.elim)
  obtain⟨rfl,rfl⟩:=hh
  have wp:=SQ (cmp:=kas_ask prog w A oneType' ks) (s:=s') hcmp (WY O (by omega))
  refine wpAny_bind (wpAny_mono (kat_run (E:=E) (Q:=fun st' s2=>s2=s'∧∃ p:Array Nat,Pm vs.length p∧Sd lt p vs.length∧arrOf st'=p.map (kas_item (ks.toArray.zip vs.toArray))∧failedOf st'=none) hl (by omega) h64 (fun p st' s2 _ a2 a3 a4=>⟨a4.1,p,a4.2.1,a4.2.2,a2,a3⟩) wp) ?_ fun _ _ z=>z)
  rintro ⟨⟨⟩,st'⟩ s2 ⟨rfl,p,pm,sd,har,hf⟩
  dsimp only
  have hout:vR lt vs (p.toList.map fun i=>vs.getD i Value.none):=⟨p,pm,sd,rfl⟩
  exact Ak hk ha ne (by omega) (by rw[hout.len];exact h64) (kat_snds hl har) hf fun h' c kp ex hc=>h _ h' c hout kp ex hc
theorem GQ{f l:Addr}{vs:List Value}{Q:Value→Shared→Prop}(J:List Value→Shared→Prop)(hl:s.heap.IsList l vs.toArray)(h64:vs.length < 64)
 (j0:∀ h':Heap,(∀ b o,s.heap.get? b=some o→h'.get? b=some o)→(∀ b∈tm s.heap.objs.size,∃ o,h'.get? b=some o)→J [] { s with heap:=h' })
 (jk:∀ ks s1 h',J ks s1→(∀ b o,b∉tm s.heap.objs.size→s1.heap.get? b=some o→h'.get? b=some o)→(∀ b o,s1.heap.get? b=some o→∃ o',h'.get? b=some o')→J ks { s1 with heap:=h' })
 (jc:∀ i x ks s1,vs[i]? = some x→ks.length=i→J ks s1→wpAny (model prog w) A.in1.in1 (call (.ref f) [x]) (fun k s2=>J (ks++[k]) s2∧∀ b o,b∈tm s.heap.objs.size→s1.heap.get? b=some o→s2.heap.get? b=some o) (fun _ _=>False) s1)
 (je:∀ ks s1,ks.length=vs.length→J ks s1→∃ lt,Ord vs.length lt∧(2≤vs.length→∀ (Q:SortKind→Shared→Prop),Q oneType' s1→wpAny (model prog w) A.in1.in1 (keyKind' (List.toArray ks)) Q (fun _ _=>False) s1) ∧
  (∀ i j C,i < vs.length→j < vs.length→C (lt i j) s1→kas_ask prog w A.in1.in1 oneType' ks i j C s1) ∧
  ∀ out h' c,vR lt vs out→(∀ b o,b∉tm s.heap.objs.size→s1.heap.get? b=some o→h'.get? b=some o)→(∀ b o,s1.heap.get? b=some o→∃ o',h'.get? b=some o')→h'.get? (s.heap.objs.size+1)=some (seqObj "list" (List.toArray out) c)→Q (.ref (s.heap.objs.size+1)) { s1 with heap:=h' }) :
 wpAny (model prog w) A (call (.builtin "sorted") [.ref l] [(Str.ofString "key", .ref f)]) Q E s:=by
 refine call_function_entry_kw kind_sorted plain_sorted entry_sorted (ksk_s1 _ _) ?_
 unfold Builtin.«sorted»
 refine wpAny_bind (m:=checkCount "sorted" 1 1 _) (wpAny_pure ?_)
 refine wpAny_bind (collect_list hl ?_ (by rw[sizeLine_eq];omega))
 refine wpAny_bind (wpAny_newList ?_ (by rw[sizeLine_eq];omega))
 generalize hn:s.heap.objs.size=n at *
 generalize hh1:((s.heap.push (seqObj "list" #[] 0)).update n (Obj.mapSeq (· ++ vs.toArray)))=h1
 have hsz:h1.objs.size=n+1:=by rw[← hh1,Heap.size_update,size_push',hn]
 have k1:∀ b o,s.heap.get? b=some o→h1.get? b=some o:=fun b o q=>by
  have hlt:b < n:=by rw[← hn];exact Heap.lt_size q
  rw[← hh1,Heap.get?_update_ne _ _ _ _ (Nat.ne_of_lt hlt),Heap.get?_push_ne _ _ _ (by rw[hn];exact Nat.ne_of_lt hlt)]
  exact q
 have hoL:(h1.push (seqObj "list" vs.toArray 0)).get? (n+1)=some (seqObj "list" vs.toArray 0):=by rw[← hsz];exact Heap.get?_push_size _ rfl
 show wpAny _ _ _ _ _ { s with heap:=h1.push (seqObj "list" vs.toArray 0) }
 rw[hsz]
 refine wpAny_bind (wpAny_holding (wpAny_call_entry_kw slot_list_sort ⟨_,hoL,rfl⟩ entry_list_sort ?_ (ksk_l1 _ _)))
 show wpAny (model prog w) A.in1.in1 (Builtin.«list.sort» ⟨[.ref (n+1)],[(Str.ofString "key", .ref f)]⟩) _ _ _
 rw[ksk_t1]
 generalize hh2:h1.push (seqObj "list" vs.toArray 0)=h2 at hoL ⊢
 have k2:∀ b o,s.heap.get? b=some o→h2.get? b=some o:=fun b o q=>by rw[← hh2];exact Heap.get?_push_of_some _ (k1 b o q)
 have z2:h2.objs.size=n+2:=by rw[← hh2,Heap.size_push,hsz]
 obtain⟨e1,ho1⟩ : ∃ e1,(h2.update (n+1) (Obj.mapSeq fun _=>(#[]:Array Value))).get? (n+1)=some (seqObj "list" #[] e1):=⟨_,get?_update_seq hoL fun _=>#[]⟩
 have su:=Heap.SameBut.update h2 (n+1) (Obj.mapSeq fun _=>(#[]:Array Value))
 unfold ksk_tree
 refine wpAny_bind (listItems_at (s:={ s with heap:=h2 }) hoL rfl ?_)
 refine wpAny_bind (listUpdate_at (s:={ s with heap:=h2 }) hoL rfl ?_ (by rw[List.size_toArray,sizeLine_eq];omega) (Nat.zero_le _))
 refine wpAny_bind (seqEpoch_at (s:={ s with heap:=h2.update (n+1) (Obj.mapSeq fun _=>(#[]:Array Value)) }) ho1 rfl ?_)
 refine wpAny_bind (wpAny_newTuple ?_ (by show vs.length≤_;rw[sizeLine_eq];omega))
 refine wpAny_bind (wpAny_newList ?_ (Nat.zero_le _))
 refine wpAny_holding ?_
 generalize hh3:h2.update (n+1) (Obj.mapSeq fun _=>(#[]:Array Value))=h3 at ho1 su ⊢
 have z3:h3.objs.size=n+2:=by rw[← hh3,Heap.size_update,z2]
 have z4:(h3.push (seqObj "tuple" vs.toArray 0)).objs.size=n+3:=by rw[Heap.size_push,z3]
 show wpAny (model prog w) A.in1.in1 (ksk_rest (n+1) (.ref f) false vs.toArray e1 (.ref (h3.push (seqObj "tuple" vs.toArray 0)).objs.size)) _ _ { s with heap:=(h3.push (seqObj "tuple" vs.toArray 0)).push (seqObj "list" #[] 0) }
 rw[z4]
 have adO:∀ b o,s.heap.get? b=some o→((h3.push (seqObj "tuple" vs.toArray 0)).push (seqObj "list" #[] 0)).get? b=some o:=fun b o q=>by
  have hlt:b < n:=by rw[← hn];exact Heap.lt_size q
  exact Heap.get?_push_of_some _ (Heap.get?_push_of_some _ ((su.2 b (Nat.ne_of_lt (Nat.lt_succ_of_lt hlt))).trans (k2 b o q)))
 refine Nb (kS:=n+3) (a:=n+1) J h64 (fun ks s1 h' hJ kp ex=>jk ks s1 h' hJ (fun b o hb q=>kp b o (fun z=>hb (by simp[tm,z])) q) fun b o q=>by
  by_cases z:b=n+3
  ·rw[z];exact ex
  ·exact⟨o,kp b o z q⟩)
  (fun i x ks s1 hx hl' hJ=>wpAny_mono (jc i x ks s1 hx hl' hJ) (fun k s2 h2=>⟨h2.1,fun b o hb q=>h2.2 b o (by rcases hb with z|z<;>simp[tm,z]) q⟩) fun _ _ z=>z) (show (n+1:Nat)≠n+3 by omega)
  (by rw[← z4];exact Heap.get?_push_size _ rfl) (Heap.get?_push_of_some _ (Heap.get?_push_of_some _ ho1)) (j0 _ adO fun b hb=>?ex) fun ks e s1 hlk hJ hk1 ha1=>?_
 case ex =>
  have e0:∃ o,h3.get? n=some o:=by
   have q0:(s.heap.push (seqObj "list" #[] 0)).get? n=some (seqObj "list" #[] 0):=by rw[← hn];exact Heap.get?_push_size _ rfl
   obtain⟨o1,q1⟩ : ∃ o1,h1.get? n=some o1:=by rw[← hh1];exact⟨_,get?_update_seq q0 (· ++ vs.toArray)⟩
   exact⟨_,(su.2 n (show (n:Nat)≠n+1 by omega)).trans (by rw[← hh2];exact Heap.get?_push_of_some _ q1)⟩
  simp only[tm,List.mem_cons,List.not_mem_nil,or_false] at hb
  rcases hb with rfl|rfl|rfl|rfl
  ·obtain⟨o,q⟩:=e0
   exact⟨o,Heap.get?_push_of_some _ (Heap.get?_push_of_some _ q)⟩
  ·exact⟨_,Heap.get?_push_of_some _ (Heap.get?_push_of_some _ ho1)⟩
  ·exact⟨_,Heap.get?_push_of_some _ (by rw[← z3];exact Heap.get?_push_size _ rfl)⟩
  ·exact⟨_,by rw[← z4];exact Heap.get?_push_size _ rfl⟩
 obtain⟨lt,O,hkk,hcmp,fin⟩:=je ks s1 hlk hJ
 refine RL hlk h64 O hkk hcmp hk1 ha1 (show (n+1:Nat)≠n+3 by omega) fun out h' c so kp ex hc=>?_
 exact⟨_,rfl,wpAny_pure ⟨_,rfl,fin out h' c so (fun b o hb q=>kp b o (fun z=>hb (by simp[tm,z])) (fun z=>hb (by simp[tm,z])) q) (fun b o q=>by
  by_cases y1:b=n+1
  ·rw[y1];exact⟨_,hc⟩
  ·by_cases y2:b=n+3
   ·rw[y2];exact ex
   ·exact⟨o,kp b o y1 y2 q⟩) hc⟩⟩
end
end So
namespace L2
open PySem PySem.Spec PyProof.Rows
def cxL(X:Cx)(A:Around)(N':List Str)(env:Env)(s:Shared)(H:Hp):Cx :=
 { X with A:=A.deeper env,N:=N',s₀:=s,H₀:=H,env:=env,outer:=X.stack,stack:=env::X.stack,ex:=[],fn:=fun _=>false,calm:=true,pn:=[],xe:=fun _ _=>False }
abbrev Hu(qual:Str)(scope:Scope)(s:Shared)(f c':Addr)(cl:List (Str×Addr)):Env:=PySem.W.envX qual scope s.heap.objs.size f (.ref c') cl
structure Gg(X:Cx)(x:Str)(ρ : List Nat)(N':List Str)(sc:Scope)(cl:List (Str×Addr)):Prop where
 kind:sc.kind=.function
 co:sc.isCoroutine=false
 gen:sc.isGenerator=false
 Bt:∀ y∈sc.names,y.2≠.cell
 par:sc.names.lookup x=some .local
 clo:∀ y c,cl.lookup y=some c→X.env.cells.lookup y=some c
 has:∀ y,sc.names.lookup y=some .free→∃ c,cl.lookup y=some c
 N:∃ ys,N'=x::ys∧ys.length = ρ.length∧∀ (i j:Nat) y,ρ[i]? = some j→ys[i]? = some y→X.N[j]? = some y∧sc.names.lookup y=some .free∧(X.env.kindOf y=some .cell∨X.env.kindOf y=some .free)
section
variable{X:Cx}{pins:List (Addr×Obj)}{σ : St}{H:Hp}{s:Shared}{A:Around}{k:Nat}{qual x:Str}{ps:Arguments}{body:Expr}{sc:Scope}{cl:List (Str×Addr)}{pm ctv:Value}{f c':Addr}{ρ : List Nat}{N':List Str}
def oE(ρ : List Nat)(σ : St)(v:V):St:=some v :: ρ.map fun j=>(σ[j]?).join
theorem XR{h1:Heap}{tk:Nat}{v:V}{u:Value}(I:Inv X pins σ H s)(hA:A.frames=some X.stack)(hd:A.handled=none)(S:Gg X x ρ N' sc cl)(rv:RelV v u)
 (hns:h1.Ns s.heap.objs.size fun y=>[(x,u)].reverse.lookup y) (hk:∀ b o,s.heap.get? b=some o→h1.get? b=some o) :
 Inv (cxL X A N' (Hu qual sc s f c' cl) s H) [] (oE ρ σ v) H { s with heap:=h1,toks:=tk }:=by
 obtain⟨ys,eN,el,ix⟩:=S.N
 have noA:∀ b:Addr,b∉([]:List Addr):=fun b z=>absurd z (by simp)
 refine⟨⟨I.mod,S.kind,rfl,rfl,Nat.le_refl _,fun y z c h1 h2=>I.ok.inj y z c (S.clo y c h1) (S.clo z c h2),fun y hy=>?_,fun y c z=>(nomatch z),fun _=>hd,Around.frames_deeper hA,.inr ⟨rfl,rfl⟩,fun b z=>absurd z (noA b),I.bs,Nat.le_trans I.ok.bsz I.sz,fun b _ _=>noA b,fun b z=>absurd z (noA b),I.stack,I.GP⟩,
  rfl,I.bare,Un.kept hk,⟨_,hns,fun i y w h2 h3 h4=>?_⟩,fun y c e=>?_,I.hok.fresh (Nat.le_refl _),fun y c e=>I.pY y c (S.clo y c e),fun p hp=>absurd (show p∈([]:List (Addr×Obj)) from hp) (by simp),I.hok.kept hk,?_⟩
 ·have hy:sc.names.lookup y=some .cell∨sc.names.lookup y=some .free:=hy
  rcases hy with hy|hy
  ·exact absurd rfl (S.Bt _ (PySem.mem_of_lookup hy))
  ·exact S.has y hy
 ·have h2:N'[i]? = some y:=h2
  subst eN
  cases i with
  | zero =>
   have e:x=y:=by simpa using h2
   subst e
   have e2:v=w:=by simpa [oE] using h3
   subst e2
   exact⟨u,rv,.inl ⟨S.par,by simp⟩⟩
  | succ i =>
   have hy:ys[i]? = some y:=by simpa using h2
   have h3:(ρ.map fun j=>(σ[j]?).join)[i]? = some (some w):=by simpa [oE] using h3
   rw[List.getElem?_map] at h3
   obtain⟨j,hj,e⟩:=Option.map_eq_some_iff.mp h3
   have e2:σ[j]? = some (some w):=by
    cases q:σ[j]? with
    | none=>rw[q] at e;cases e
    | some z=>rw[q] at e;exact congrArg some e
   obtain⟨n1,n2,n3⟩:=ix i j y hj hy
   obtain⟨m,hm,hl⟩:=I.loc
   have vis:Vis X.env.scope y:=by
    rcases n3 with z|z
    ·exact .inr (.inl z)
    ·exact .inr (.inr z)
   obtain⟨u2,r2,lk⟩:=hl j y w n1 e2 vis
   refine⟨u2,r2,.inr ⟨.inr n2,?_⟩⟩
   obtain⟨c,hc⟩:=S.has y n2
   refine⟨c,hc,?_⟩
   have hX:=S.clo y c hc
   rcases lk with ⟨z,_⟩|⟨_,c2,e3,ic⟩
   ·rcases n3 with y1|y1
    ·rw[z] at y1;cases y1
    ·rw[z] at y1;cases y1
   ·rw[hX] at e3;cases e3
    obtain⟨o,ho,hd⟩:=ic
    exact⟨o,hk _ _ ho,hd⟩
 ·obtain⟨v2,o,ho,hd⟩:=I.cell y c (S.clo y c e)
  exact⟨v2,o,hk _ _ ho,hd⟩
 ·subst eN
  show (oE ρ σ v).length=(x::ys).length
  simp[oE,el]
theorem XQ{u:Value}{v:V}{tb:TE}{Q:VK}(I:Inv X pins σ H s)(hA:A.frames=some X.stack)(hr:lC (k+1) A)(S:Gg X x ρ N' sc cl)
 (ho:s.heap.get? f=some (PySem.W.kla_obj "<lambda>" qual ps body sc cl pm c' ctv)) (hcd:s.heap.CodeRec (.ref c') qual)
 (hbind:bindArgs (PySem.W.kla_fn "<lambda>" qual ps body sc cl pm (.ref c') ctv) ⟨[u],[]⟩=pure [(x,u)]) (rv:RelV v u)
 (hb:∀ env:Env,lC k (A.deeper env)→env=Hu qual sc s f c' cl→PE (cxL X A N' env s H) body tb) (h:tb (oE ρ σ v) H Q) :
 wpAny (model X.prog X.w) A (call (.ref f) [u]) (CE X.stack X.prog X.w H s Q) (fun _ _=>False) s:=by
 refine wpAny_call (PySem.W.kla_callFunE hr.depth ho rfl S.co S.gen rfl hcd ?_)
 rw[hbind]
 refine wpAny_pure (wpAny_newFunctionEnv S.Bt (fun y hy=>by
  have e:y=(x,u):=by simpa using hy
  rw[e];exact S.par) (fun h1 hns hsb=>⟨(I.nolimit).fresh _ hsb,?_⟩) S.kind)
 show codeAny _ _ (.expr body (Hu qual sc s f c' cl)) _ _
 have hk:∀ b o,s.heap.get? b=some o→h1.get? b=some o:=fun b o e=>hsb.extBut b o (Nat.ne_of_lt (Heap.lt_size e)) (Heap.get?_push_of_some _ e)
 have J:=XR (tk:=s.toks+[(x,u)].length) (qual:=qual) (f:=f) (c':=c') I hA hr.hd S rv hns hk
 refine PySem.W.kla_codeExpr (wpAny_mono (hb _ (hr.deeper _) rfl [] _ (oE ρ σ v) H Q J h) (fun k' s' hq=>?_) fun _ _ z=>z.elim)
 obtain⟨v2,H2,I2,r2,q⟩:=hq
 exact⟨v2,H2,I2.os,I2.bare,I2.base,I2.hok,r2,q⟩
end
end L2
namespace So
theorem Py:∀ {a b:List Int},a≠b→iQ a b=true∨iQ b a=true
 | [],[],h=>absurd rfl h
 | [],_::_,_=>.inl rfl
 | _::_,[],_=>.inr rfl
 | a::r,b::t,h=>by
  rw[iQ,iQ]
  by_cases e:a=b
  ·subst e
   simp only[beq_self_eq_true,if_true]
   exact Py fun z=>h (by rw[z])
  ·have e':¬ b=a:=fun z=>e z.symm
   simp only[beq_iff_eq,e,e',if_false,decide_eq_true_eq]
   omega
theorem Pz:∀ {a b:List Int},iQ a b=true→iQ b a=false
 | [],[],h=>by simp[iQ] at h
 | [],_::_,_=>rfl
 | _::_,[],h=>by simp[iQ] at h
 | a::r,b::t,h=>by
  rw[iQ] at h ⊢
  by_cases e:a=b
  ·subst e
   simp only[beq_self_eq_true,if_true] at h ⊢
   exact Pz h
  ·have e':¬ b=a:=fun z=>e z.symm
   simp only[beq_iff_eq,e,e',if_false,decide_eq_true_eq,decide_eq_false_iff_not] at h ⊢
   omega
theorem Vp:∀ {a b c:List Int},iQ a b=true→iQ b c=true→iQ a c=true
 | [],[],_,h,_=>by simp[iQ] at h
 | [],_::_,[],_,h=>by simp[iQ] at h
 | [],_::_,_::_,_,_=>rfl
 | _::_,[],_,h,_=>by simp[iQ] at h
 | _::_,_::_,[],_,h=>by simp[iQ] at h
 | a::r,b::t,c::u,h,k=>by
  rw[iQ] at h k ⊢
  by_cases e:a=b
  ·subst e
   simp only[beq_self_eq_true,if_true] at h
   by_cases f:a=c
   ·subst f
    simp only[beq_self_eq_true,if_true] at k ⊢
    exact Vp h k
   ·simp only[beq_iff_eq,f,if_false] at k ⊢
    exact k
  ·simp only[beq_iff_eq,e,if_false,decide_eq_true_eq] at h
   by_cases f:b=c
   ·subst f
    simp only[beq_iff_eq,e,if_false,decide_eq_true_eq]
    exact h
   ·simp only[beq_iff_eq,f,if_false,decide_eq_true_eq] at k
    have:¬ a=c:=by omega
    simp only[beq_iff_eq,this,if_false,decide_eq_true_eq]
    omega
def XJ(kz:List (List Int))(i j:Nat):Bool:=iQ (kz.getD i []) (kz.getD j [])
theorem Hs{kz:List (List Int)}(nd:kz.Nodup):Ord kz.length (XJ kz):=by
 have inj:∀ i j,i < kz.length→j < kz.length→i≠j→kz.getD i []≠kz.getD j []:=fun i j hi hj ne e=>by
  rw[List.getD_eq_getElem?_getD,List.getElem?_eq_getElem hi,List.getD_eq_getElem?_getD,List.getElem?_eq_getElem hj] at e
  exact ne ((List.getElem_inj nd).mp e)
 exact⟨fun i j hi hj ne=>Py (inj i j hi hj ne),fun i j _ _ h=>Pz h,fun i j k _ _ _ h g=>Vp h g⟩
def Oo{α : Type}(d:α)(kz:List (List Int))(xs ys:List α):Prop:=∃ p:Array Nat,Pm xs.length p∧Sd (XJ kz) p xs.length∧ys=p.toList.map fun i=>xs.getD i d
end So
namespace L2
open PySem PySem.Spec PyProof.Rows A So
variable[Tb:fK]
def Tab(T:Addr)(q:Str)(H H':Hp):Prop:=H'=H∨∃ ps ps' c,H T=some (.tbl q ps)∧H c=none∧c≠T∧H'=upd (upd H T (.tbl q ps')) c (.ext (nM c q))∧jz H'
theorem GJ{c:Value}{p:Pos}:∀ {l:List Value},TriplesOk l→TriplesOk (l++[rawInt p.line,rawInt p.col,c]):=fun {l} h=>by
 fun_induction TriplesOk l with
 | case1=>exact trivial
 | case2 a b c' d e rest ih=>exact ih h
 | case3 _ _=>exact h.elim
theorem Oi{c v:Value}{p p2:Pos}:∀ {l:List Value},TriplesOk l→codeAmong p2 (l++[rawInt p.line,rawInt p.col,c])=some v→codeAmong p2 l=some v∨v=c:=fun {l} h e=>by
 fun_induction TriplesOk l with
 | case1 =>
  simp only[List.nil_append,codeAmong,rawInt] at e
  split at e
  ·exact .inr (by cases e;rfl)
  ·cases e
 | case2 a b c' d e' rest ih =>
  simp only[List.cons_append,codeAmong] at e ⊢
  split at e
  ·rename_i q
   rw[if_pos q];exact .inl e
  ·rename_i q
   rw[if_neg q];exact ih h e
 | case3 _ _=>exact h.elim
def BM(mg:Str→Option Value)(base:Heap):Prop:=∃ bm o,mg "__builtins__" = some (.ref bm)∧bm≠builtinsNs∧bm≠mainGlobals∧base.get? bm=some o∧o.cls=.type "module" ∧ o.dict=some builtinsNs∧o.data=.plain
section
variable{X:Cx}{pins:List (Addr×Obj)}{σ : St}{H:Hp}{s:Shared}{qual x:Str}{ps:Arguments}{body:Expr}{sc:Scope}{cl:List (Str×Addr)}{c T:Addr}{pos:Pos}
theorem N5(c:Addr)(q:Str):∀ h1 h2:Heap,nM c q h1→(∀ o,h1.get? c=some o→h2.get? c=some o)→nM c q h2:=fun h1 h2 ⟨o,vs,t,e,d,r⟩ k=>⟨o,vs,t,k o e,d,r⟩
theorem Vq{Q:Value→Shared→Prop}{E:Value→Shared→Prop}(I:Inv X pins σ H s)(hc:X.env.code=.ref c)(C:PySem.W.CodeHd X.base c T)(k:jz H){tps:Array Value}(hT:H T=some (.tbl qual tps))(hB:BM X.mg X.base)
 (hdef:defaultsOf ps X.env=([],[])) (hq:X.env.qual ++ "<lambda>" = qual) (hcl:closureFor sc X.env=pure cl)
 (h:∀ f c' ctv pm s' H',Tab T qual H H'→H' c'=some (.ext (nM c' qual))→s'.heap.get? f=some (PySem.W.kla_obj "<lambda>" qual ps body sc cl pm c' ctv)→Inv X pins σ H' s'→ql X pins H' f→Q (.ref f) s') :
 wpAny (model X.prog X.w) X.A (eval (.Lambda ps body sc pos) X.env) Q E s:=by
 obtain⟨ok1,ok2⟩:=k.cd T qual tps hT
 have hP:s.heap.get? T=some (PySem.W.tabObj tps):=I.hok T _ hT
 have hg:s.heap.Ns mainGlobals X.mg:=I.mod.glob.keeps I.bk
 have C':PySem.W.CodeHd s.heap c T:=C.keeps I.bk
 obtain⟨bm,bo,b1,b2,b3,b4,b5,b6,b7⟩:=hB
 have nT:∀ b o,X.base.get? b=some o→b≠T:=fun b o e z=>by
  have:=(I.bs b o e).2
  rw[z,hT] at this;cases this
 have hb:s.heap.BuiltinsAt X.mg T:=⟨bm,bo,b1,b2,b3,nT _ _ b4,I.bk _ _ b4,b5,b6,b7⟩
 have hgT:mainGlobals≠T:=by
  obtain⟨o,es,ep,e,_⟩:=I.mod.glob
  exact nT _ _ e
 refine PySem.W.kla_eval hdef ?_
 rw[hq]
 cases hf:codeAmong pos tps.toList with
 | some v =>
  obtain⟨c',rfl,hc'⟩:=ok2 pos v hf
  refine PySem.W.kla_makeFunctionHit hcl I.ok.glob hg hc C' hP ok1 hf hb fun ctv h' tk kp sz=>?_
  have I':Inv X pins σ H { s with heap:=h'.push _,toks:=tk }:=I.kept (h':=h'.push (PySem.W.kla_obj "<lambda>" qual ps body sc cl ((X.mg "__name__").getD .none) c' ctv)) fun b o e=>Heap.get?_push_of_some _ (kp b o e)
  exact h _ c' ctv _ _ H (.inl rfl) hc' (Heap.get?_push_size _ rfl) I' (I.vD sz (I.hok.fresh sz))
 | none =>
  refine PySem.W.kla_makeFunction hcl I.ok.glob hg hc C' hP ok1 hf hgT hb fun c' ctv h' tk kp h1 h2 hrec htb=>?_
  have nc:H c'=none:=I.hok.fresh h1
  have cT:c'≠T:=fun z=>by rw[z,hT] at nc;cases nc
  have hx:nM c' qual h':=by
   obtain⟨c2,o,vs,t,e,r⟩:=hrec
   cases e
   exact⟨o,vs,t,r⟩
  obtain⟨oc,hoc⟩ : ∃ o,h'.get? c'=some o:=let ⟨o,_,_,e,_⟩:=hx;⟨o,e⟩
  have u1:Un X.fs [] H (upd H T (.tbl qual (tps ++ #[rawInt pos.line,rawInt pos.col,.ref c']))) s.heap h':=by
   have nn:∀ b,H b=none→b≠T:=fun b n z=>by rw[z,hT] at n;cases n
   refine⟨fun b o e n _ _=>kp b o (nn b n) e,fun b o e n _ _=>⟨o.slots,kp b o (nn b n) e⟩,fun b o e n _=>by rw[aF (nn b n)];exact n,fun b o e _=>?_,fun b xs e=>?_,fun b o u e=>?_,fun b w ps e=>?_⟩
   ·by_cases z:b=T
    ·rw[z];exact⟨_,htb⟩
    ·exact⟨o,kp b o z e⟩
   ·rw[aF (fun z=>by rw[z,hT] at e;cases e)];exact e
   ·rw[aF (fun z=>by rw[z,hT] at e;cases e)];exact e
   ·by_cases z:b=T
    ·subst z
     rw[hT] at e;cases e
     exact⟨_,aV⟩
    ·exact⟨#[],by rw[aF z,e];simp⟩
  have adS:uy X.prog X.w (upd H T (.tbl qual (tps ++ #[rawInt pos.line,rawInt pos.col,.ref c']))) h':=fun b u e=>by
   by_cases z:b=T
   ·subst z;rw[aV] at e;cases e;exact htb
   ·rw[aF z] at e
    refine(I.hok b u e).stay (fun y v hy q=>kp y v ?_ q) (fun y q=>by rw[aF (fun w=>by rw[w,hT] at q;cases q)];exact q) fun y xs q=>by rw[aF (fun w=>by rw[w,hT] at q;cases q)];exact q
    rcases hy with w|w
    ·rw[w];exact z
    ·exact fun w2=>by rw[w2,hT] at w;cases w
  have I1:Inv X pins σ (upd H T (.tbl qual (tps ++ #[rawInt pos.line,rawInt pos.col,.ref c']))) { s with heap:=h',toks:=tk }:=I.un u1 adS
  have nc1:upd H T (.tbl qual (tps ++ #[rawInt pos.line,rawInt pos.col,.ref c'])) c'=none:=by rw[aF cT];exact nc
  have I2:Inv X pins σ (upd (upd H T (.tbl qual (tps ++ #[rawInt pos.line,rawInt pos.col,.ref c']))) c' (.ext (nM c' qual))) { s with heap:=h',toks:=tk }:=by
   have F:ql X pins (upd H T (.tbl qual (tps ++ #[rawInt pos.line,rawInt pos.col,.ref c']))) c':=⟨nc1,(I.vD (H':=H) h1 nc).2⟩
   have UJ:∀ b u,(upd H T (.tbl qual (tps ++ #[rawInt pos.line,rawInt pos.col,.ref c']))) b=some u→b≠c':=fun b u e=>aX e nc1
   refine I1.call' (s':={ s with heap:=h',toks:=tk }) (ch:=[c']) rfl ⟨fun b u e _ _ _=>e,fun b u e _ _ _=>⟨u.slots,e⟩,fun b u e n hb=>?_,fun b u e hb=>⟨u,e⟩,fun b xs e=>by rw[aF (UJ _ _ e)];exact e,fun b q u e=>by rw[aF (UJ _ _ e)];exact e,fun b w ps e=>⟨#[],by rw[aF (UJ _ _ e),e];simp⟩⟩ ?_ I.bare
    fun b hb=>by
     obtain rfl:b=c':=by simpa using hb
     exact⟨F.2.2.2.1,F.2.1,F.2.2.2.2.1,F.2.2.2.2.2⟩
   ·rw[aF (fun z=>hb (by simp[z]))];exact n
   ·intro b u e
    by_cases z:b=c'
    ·subst z;rw[aV] at e;cases e
     exact⟨hx,⟨oc,hoc⟩,N5 b qual⟩
    ·rw[aF z] at e
     exact(I1.hok b u e).stay (fun y v hy q=>q) (fun y q=>by rw[aF (UJ _ _ q)];exact q) fun y xs q=>by rw[aF (UJ _ _ q)];exact q
  have acE:∀ b o,h'.get? b=some o→(h'.push (PySem.W.kla_obj "<lambda>" qual ps body sc cl ((X.mg "__name__").getD .none) c' ctv)).get? b=some o:=fun b o e=>Heap.get?_push_of_some _ e
  have I3:=I2.kept (t':=tk) acE
  have szs:s.heap.objs.size≤h'.objs.size:=Nat.le_trans h1 (Nat.le_of_lt h2)
  have ck:jz (upd (upd H T (.tbl qual (tps ++ #[rawInt pos.line,rawInt pos.col,.ref c']))) c' (.ext (nM c' qual))):=by
   have nT':∀ {b:Addr} {o:HO},H b=some o→NT o→upd (upd H T (.tbl qual (tps ++ #[rawInt pos.line,rawInt pos.col,.ref c']))) c' (.ext (nM c' qual)) b=some o:=fun {b o} e n=>by
    rw[aF (aX e nc),aF (fun z=>by rw[z,hT] at e;cases e;exact n)];exact e
   refine⟨fun r hr=>?_,fun T2 q2 ps2 e=>?_⟩
   ·obtain⟨p0,e0⟩:=k.has r hr
    by_cases z:r.1=T
    ·rw[z,hT] at e0
     have:qual=r.2:=by injection e0 with e0;injection e0
     exact⟨_,by rw[aF (by rw[z];exact Ne.symm cT),z,aV,this]⟩
    ·exact⟨p0,by rw[aF (aX e0 nc),aF z];exact e0⟩
   ·by_cases z:T2=c'
    ·subst z;rw[aV] at e;cases e
    ·rw[aF z] at e
     by_cases z2:T2=T
     ·subst z2
      rw[aV] at e
      have e1:qual=q2:=by injection e with e;injection e
      have e2:tps ++ #[rawInt pos.line,rawInt pos.col,.ref c']=ps2:=by injection e with e;injection e
      subst e1 e2
      refine⟨by rw[Array.toList_append];exact GJ ok1,fun p2 v hv=>?_⟩
      rw[Array.toList_append] at hv
      rcases Oi ok1 hv with q|q
      ·obtain⟨y,y1,y2⟩:=ok2 p2 v q
       exact⟨y,y1,nT' y2 trivial⟩
      ·exact⟨c',q,aV⟩
     ·rw[aF z2] at e
      obtain⟨t1,t2⟩:=k.cd T2 q2 ps2 e
      refine⟨t1,fun p2 v hv=>?_⟩
      obtain⟨y,y1,y2⟩:=t2 p2 v hv
      exact⟨y,y1,nT' y2 trivial⟩
  refine h h'.objs.size c' ctv _ _ _ (.inr ⟨tps,_,c',hT,nc,cT,rfl,ck⟩) aV (Heap.get?_push_size _ rfl) I3 ?_
  refine I.vD szs ?_
  rw[aF (Nat.ne_of_gt h2),aF (fun z=>?_)]
  ·exact I.hok.fresh szs
  ·have:=I.hok.fresh szs
   rw[z,hT] at this;cases this
end
end L2
namespace L2
open PySem PySem.Spec PyProof.Rows A So
variable[Tb:fK]
section
variable{X:Cx}{pins:List (Addr×Obj)}{σ : St}{H:Hp}{s:Shared}
theorem adopt{fp:List Addr}{D:Addr}{o:HO}{h':Heap}{t':Nat}(I:Inv X pins σ H s)(hf:∀ b∈fp,ql X pins H b)(hD:D∈fp)(k:∀ b u,b∉fp→s.heap.get? b=some u→h'.get? b=some u)
 (new:bW X.prog X.w (upd H D o) h' D o):Inv X pins σ (upd H D o) { s with heap:=h',toks:=t' }:=by
 have hn:H D=none:=(hf D hD).1
 have nfp:∀ b u,H b=some u→b∉fp:=fun b u e z=>by rw[(hf b z).1] at e;cases e
 refine I.call' (s':={ s with heap:=h',toks:=t' }) (ch:=fp) rfl ⟨fun b u e _ _ hb=>k b u hb e,fun b u e _ _ hb=>⟨u.slots,k b u hb e⟩,fun b u e hb hx=>?_,fun b u e hb=>⟨u,k b u hb e⟩,fun b xs e=>?_,fun b q u e=>?_,fun b w ps e=>⟨#[],?_⟩⟩ ?_ I.bare
  fun b hb=>⟨(hf b hb).2.2.2.1,(hf b hb).2.1,(hf b hb).2.2.2.2.1,(hf b hb).2.2.2.2.2⟩
 ·rw[aF (fun z=>hx (by rw[z];exact hD))];exact hb
 ·rw[aF (aX e hn)];exact e
 ·rw[aF (aX e hn)];exact e
 ·rw[aF (aX e hn),e];simp
 ·intro b u e
  by_cases hb:b=D
  ·subst hb;rw[aV] at e;cases e;exact new
  ·rw[aF hb] at e
   refine(I.hok b u e).stay (fun c v hc q=>k c v ?_ q) (fun c q=>by rw[aF (aX q hn)];exact q) fun c xs q=>by rw[aF (aX q hn)];exact q
   rcases hc with z|z
   ·rw[z];exact nfp b u e
   ·exact nfp c _ z
theorem Ae:∀ {ns:List Int} {its:List Value},Vals (ns.map V.int) its→IntsAre its ns
 | [],_,.nil=>.nil
 | n::r,_,.cons h t=>by
  obtain⟨t1,rfl⟩:=h
  exact .cons n t1 (Ae t)
end
def IW(c':Addr)(q:Str)(tk:V→Hp→VK→Prop):List V→Hp→(List V→Hp→Prop)→Prop
 | [],H,R=>R [] H
 | x::xs,H,R=>tk x H fun k H1=>H1 c'=some (.ext (nM c' q))∧IW c' q tk xs H1 fun ks H2=>R (k::ks) H2
def KeysAre(H:Hp)(kz:List (List Int))(ks:List V):Prop:=P2 (fun z k=>∃ p,k=V.ref p∧H p=some (.lst (z.map V.int))) kz ks
def abM(T:Addr)(q:Str)(ρ : List Nat)(σ : St)(tb:TE)(Q:VK):VK:=fun x H1=>∃ a xs tps,x=.ref a∧xs.length < 64∧H1 T=some (.tbl q tps)∧jz H1 ∧
 ∀ H2 c',Tab T q H1 H2→H2 c'=some (.ext (nM c' q))→Lst H2 a xs∧IW c' q (fun v H K=>tb (oE ρ σ v) H K) xs H2 fun ks H3=>∃ kz:List (List Int),kz.length=xs.length∧kz.Nodup∧KeysAre H3 kz ks ∧
  ∀ p ys,H3 p=none→Oo .non kz xs ys→Q (.ref p) (upd H3 p (.lst ys))
def Tj(T:Addr)(q:Str)(ρ : List Nat)(te tb:TE):TE:=fun σ H Q=>te σ H (abM T q ρ σ tb Q)
theorem QS{kz:List (List Int)}{xs:List V}{its out:List Value}(r:Vals xs its)(hz:kz.length=xs.length)(h:vR (XJ kz) its out):∃ ys,Oo .non kz xs ys∧Vals ys out:=by
 obtain⟨p,pm,sd,rfl⟩:=h
 have hl:=r.length
 rw[← hl] at pm sd
 refine⟨p.toList.map fun i=>xs.getD i .non,⟨p,pm,sd,rfl⟩,?_⟩
 have key:∀ l:List Nat,(∀ i∈l,i < xs.length)→Vals (l.map fun i=>xs.getD i .non) (l.map fun i=>its.getD i Value.none):=fun l hl'=>by
  induction l with
  | nil=>exact .nil
  | cons i t ih =>
   have hi:=hl' i List.mem_cons_self
   refine .cons ?_ (ih fun j hj=>hl' j (List.mem_cons_of_mem _ hj))
   have e1:xs[i]? = some (xs.getD i .non):=by simp[hi]
   obtain⟨u,e2,r2⟩:=r.get e1
   have:its.getD i Value.none=u:=by simp[e2]
   show RelV (xs.getD i .non) (its.getD i Value.none)
   rw[this];exact r2
 refine key _ fun i hi=>?_
 have:=(Array.perm_iff_toList_perm.mp pm.pm).mem_iff.mp hi
 simpa using this
section
variable{X:Cx}{x qual:Str}{e:Expr}{ps:Arguments}{body:Expr}{sc:Scope}{cl:List (Str×Addr)}{c T:Addr}{p pos acv adM:Pos}{k:Nat}{ρ : List Nat}{N':List Str}{te tb:TE}
theorem Up(hg:Gl X "sorted")(hm:X.mg "sorted" = none)(he:PE X e te)(hr:lC (k+3) X.A)(hc:X.env.code=.ref c)(C:PySem.W.CodeHd X.base c T)(hB:BM X.mg X.base)(hdef:defaultsOf ps X.env=([],[]))(hq:X.env.qual ++ "<lambda>" = qual)(hcl:closureFor sc X.env=pure cl)
 (S:Gg X x ρ N' sc cl) (hbind:∀ (pm:Value) (c':Addr) (ctv u:Value),bindArgs (PySem.W.kla_fn "<lambda>" qual ps body sc cl pm (.ref c') ctv) ⟨[u],[]⟩=pure [(x,u)])
 (hb:∀ (A:Around) (f c':Addr) (s:Shared) (H:Hp) (env:Env),lC k (A.deeper env)→env=Hu qual sc s f c' cl→PE (cxL X A N' env s H) body tb)
 (hs:starEach [e] X.env=(false,eval e X.env)::starEach [] X.env:=by rfl) (hpl:(backTo pos (starEach [e] X.env)).any (·.1)=false:=by rfl) :
 PE X (.Call (.Name "sorted" p) [e] [⟨some "key", .Lambda ps body sc acv,adM⟩] pos) (Tj T qual ρ te tb):=by
 intro pins s σ H Q I h
 have hboot:bootBuiltins "sorted" = some (.builtin "sorted"):=by kernel_rfl
 refine wpAny_Call_Name_kw (vB I hg hm hboot ?_)
 refine callWith_kw ?_ (by rw[hs];rfl) hpl rfl rfl
 rw[hs]
 show wpAny _ _ (spliced ((false,eval e X.env)::backTo pos (starEach [] X.env))) _ _ s
 refine Calls.spliced_cons (eU (he pins s σ H _ I h) fun u s1 ⟨x1,H1,I1,r1,q1⟩=>Calls.spliced_nil ?_)
 obtain⟨a,xs,tps,rfl,h64,hT,ck,q2⟩:=q1
 cases r1
 show wpAny _ _ (evalAll ((do let v ← eval (.Lambda ps body sc acv) X.env;standAt pos;pure v)::((backToKw pos (keywordEach [] X.env)).map (·.2)))) _ _ s1
 refine wpAny_evalAll_cons (wpAny_bind (Vq I1 hc C ck hT hB hdef hq hcl fun f c' ctv pm s2 H2 tab hc' hf I2 fpf=>wpAny_bind (wpAny_standAt (wpAny_pure (wpAny_evalAll_nil ?_)))))
 obtain⟨hl2,kr⟩:=q2 H2 c' tab hc'
 show wpAny (model X.prog X.w) X.A (call (.builtin "sorted") [.ref a] [(Str.ofString "key", .ref f)]) (EP X pins σ Q) X.xe s2
 obtain⟨its,n0,rv,hz,ho⟩:=Vo I2 hl2
 have hli:=rv.length
 let Fn:List V→Hp→Prop:=fun ks H3=>∃ kz:List (List Int),kz.length=xs.length∧kz.Nodup∧KeysAre H3 kz ks∧∀ p ys,H3 p=none→Oo .non kz xs ys→Q (.ref p) (upd H3 p (.lst ys))
 have flt:f < s2.heap.objs.size:=Heap.lt_size hf
 have fnt:f∉tm s2.heap.objs.size:=fun z=>by
  simp only[tm,List.mem_cons,List.not_mem_nil,or_false] at z
  have:(f:Nat) < s2.heap.objs.size:=flt
  rcases z with z|z|z|z
  ·exact absurd this (by rw[z];exact Nat.lt_irrefl _)
  ·exact absurd this (by rw[z];exact Nat.not_lt.mpr (Nat.le_add_right _ _))
  ·exact absurd this (by rw[z];exact Nat.not_lt.mpr (Nat.le_add_right _ _))
  ·exact absurd this (by rw[z];exact Nat.not_lt.mpr (Nat.le_add_right _ _))
 refine GQ (vs:=its) (J:=fun ks s3=>∃ Hc kv,Inv X pins σ Hc s3∧Vals kv ks∧s3.heap.get? f=some (PySem.W.kla_obj "<lambda>" qual ps body sc cl pm c' ctv)∧ql X pins Hc f∧(∀ b∈tm s2.heap.objs.size,ql X pins Hc b∧∃ o,s3.heap.get? b=some o) ∧
  Hc c'=some (.ext (nM c' qual))∧IW c' qual (fun v H K=>tb (oE ρ σ v) H K) (xs.drop ks.length) Hc fun ks' H3=>Fn (kv++ks') H3) ⟨_,ho,rfl,_,rfl⟩ (by omega) ?j0 ?jk ?jc ?je
 case j0 =>
  intro h' kp ex
  refine⟨H2,[],I2.kept kp,.nil,kp _ _ hf,fpf,fun b hb=>⟨I2.vD ?_ (I2.hok.fresh ?_),ex b hb⟩,hc',kr⟩
  all_goals (simp only[tm,List.mem_cons,List.not_mem_nil,or_false] at hb;rcases hb with z|z|z|z<;>rw[z]<;>first|exact Nat.le_refl _|exact Nat.le_add_right _ _)
 case jk =>
  rintro ks s3 h' ⟨Hc,kv,I3,rk,hf3,fp3,tm3,hc3,kr3⟩ kp ex
  refine⟨Hc,kv,u5 (t':=s3.toks) I3 (fp:=tm s2.heap.objs.size) (fun b hb=>(tm3 b hb).1) (fun b u hb q=>kp b u hb q),rk,kp _ _ fnt hf3,fp3,fun b hb=>⟨(tm3 b hb).1,?_⟩,hc3,kr3⟩
  obtain⟨o,q⟩:=(tm3 b hb).2
  exact ex b o q
 case jc =>
  rintro i u ks s3 hu hks ⟨Hc,kv,I3,rk,hf3,fp3,tm3,hc3,kr3⟩
  obtain⟨v,hv,ruv⟩ : ∃ v,xs[i]? = some v∧RelV v u:=by
   have hi:i < xs.length:=by rw[hli];exact(List.getElem?_eq_some_iff.mp hu).1
   have e1:xs[i]? = some xs[i]:=by simp[hi]
   obtain⟨u2,e2,r2⟩:=rv.get e1
   rw[hu] at e2;cases e2
   exact⟨_,e1,r2⟩
  have hd:xs.drop ks.length=v::xs.drop (ks.length+1):=by
   obtain⟨hi,e⟩:=List.getElem?_eq_some_iff.mp hv
   rw[hks,List.drop_eq_getElem_cons hi,e]
  rw[hd] at kr3
  have hrec:s3.heap.CodeRec (.ref c') qual:=by
   obtain⟨⟨o,vs,t,e1,e2,e3⟩,_⟩:=I3.hok c' _ hc3
   exact⟨c',o,vs,t,rfl,e1,e2,e3⟩
  have hA:X.A.in1.in1.frames=some X.stack:=I3.ok.frames
  refine wpAny_mono (XQ (k:=k) I3 hA hr.in1.in1 S hf3 hrec (hbind pm c' ctv u) ruv (fun env h1 h2=>hb _ f c' s3 Hc env h1 h2) kr3) (fun kk s4 hce=>?_) fun _ _ z=>z
  have aet:=hce
  obtain⟨kvv,H4,os4,acU,un4,adR,rk4,hc4,kr4⟩:=hce
  have noF:∀ b,ql X pins Hc b→b∉frs X.stack:=fun b hb z=>by
   rcases List.mem_cons.mp (I3.GK b z) with y|y
   ·exact hb.2.1 y
   ·exact hb.2.2.1 y
  have I4:Inv X pins σ H4 s4:=I3.call' os4 (ch:=[]) un4 adR acU (fun b z=>absurd z (by simp))
  have fpk:∀ b,ql X pins Hc b→(∃ o,s3.heap.get? b=some o)→ql X pins H4 b:=fun b hb ⟨o,q⟩=>⟨un4.free b o q hb.1 (by simp),hb.2⟩
  refine⟨⟨H4,kv++[kvv],I4,rk.append (.cons rk4 .nil),un4.keep _ _ hf3 fp3.1 (noF _ fp3) (by simp),fpk f fp3 ⟨_,hf3⟩,fun b hb=>⟨fpk b (tm3 b hb).1 (tm3 b hb).2,?_⟩,hc4,?_⟩,fun b o hb q=>un4.keep b o q (tm3 b hb).1.1 (noF _ (tm3 b hb).1) (by simp)⟩
  ·obtain⟨o,q⟩:=(tm3 b hb).2
   exact un4.there b o q (by simp)
  ·rw[List.length_append]
   simp only[List.append_assoc,List.singleton_append]
   exact kr4
 case je =>
  rintro ks s3 hks ⟨Hc,kv,I3,rk,hf3,fp3,tm3,hc3,kr3⟩
  rw[List.drop_eq_nil_of_le (by omega)] at kr3
  obtain⟨kz,hz1,nd,ka,fin⟩:=kr3
  rw[List.append_nil] at ka
  have lk:=rk.length
  have at_:∀ i,i < its.length→∃ pp o us nn,ks.getD i Value.none=.ref pp∧s3.heap.get? pp=some o∧o.cls=.type "list" ∧ o.data=.seq (List.toArray us) nn∧IntsAre us (kz.getD i []):=fun i hi=>by
   have hzi:i < kz.length:=by omega
   have e1:kz[i]? = some (kz.getD i []):=by simp[hzi]
   obtain⟨kvi,e2,pp,rfl,hp⟩:=P2.getL ka e1
   obtain⟨u,e3,r3⟩:=rk.get e2
   cases r3
   obtain⟨_,us,nn,vu,ho⟩:=I3.hok pp _ hp
   exact⟨pp,_,us,nn,by simp[e3],ho,rfl,rfl,Ae vu⟩
  have hord:=Hs nd
  rw[hz1,hli] at hord
  refine⟨XJ kz,hord,fun h2 Q' hq'=>?_,fun i j C hi hj hC=>?_,fun out h' cc so kp ex hD=>?_⟩
  ·refine PySem.W.kas_kind (T:=Value.type "list") (by omega) (fun v hv=>?_) (by decide) (by decide) hq'
   obtain⟨i,hi⟩:=List.getElem?_of_mem hv
   have hil:=(List.getElem?_eq_some_iff.mp hi).1
   obtain⟨pp,o,us,nn,e1,e2,e3,_⟩:=at_ i (by omega)
   have:v=.ref pp:=by
    rw[← e1];simp[hi]
   rw[this,← e3]
   exact(PySem.W.Looks.ld e2).andThen .now
  ·obtain⟨p1,o1,us1,n1,a1,a2,a3,a4,a5⟩:=at_ i hi
   obtain⟨p2,o2,us2,n2,b1,b2,b3,b4,b5⟩:=at_ j hj
   unfold PySem.W.kas_ask
   rw[a1,b1]
   exact Vl a2 a3 a4 b2 b3 b4 a5 b5 (by have:=hr.un;show X.A.units+1+1 < cLine;omega) hC
  ·obtain⟨ys,sy,vy⟩:=QS rv hz1 so
   have hD':s2.heap.objs.size+1∈tm s2.heap.objs.size:=by simp[tm]
   have ly:ys.length=xs.length:=by rw[vy.length,so.len,hli]
   have nD:Hc (s2.heap.objs.size+1)=none:=(tm3 _ hD').1.1
   refine⟨.ref (s2.heap.objs.size+1),_,adopt (t':=s3.toks) (o:=.lst ys) I3 (fun b hb=>(tm3 b hb).1) hD' (fun b u hb q=>kp b u hb q) ⟨by rw[ly];exact hz,out,cc,vy,hD⟩,rfl,fin _ ys nD sy⟩
end
end L2
namespace Mi
open PySem
def YK:D→Option (List Str)
 | .tup ds=>rM ds
 | .lst ds=>rM ds
 | _=>none
def NB(x y:D):Rs D:=match y with
 | .str z=>(uC (YK x)).bind fun ys=>aO (z∈ys∧ys.length≤1000) (.ok (.int (ys.idxOf z:Nat)))
 | _=>.no
def nG:List Int→List Int→Bool
 | [],[]=>false
 | [],_::_=>true
 | _::_,[]=>false
 | a::r,b::t=>if a == b then nG r t else decide (a < b)
def Dh:List D→Option (List Int)
 | []=>some []
 | .int i::r=>(Dh r).map (i :: ·)
 | _=>none
def Le:D→Rs (List Int)
 | .lst ds=>uC (Dh ds)
 | _=>.no
def insI(lt:Nat→Nat→Bool)(i:Nat):List Nat→List Nat
 | []=>[i]
 | j::r=>if lt i j=true then i::j::r else j::insI lt i r
def sortI(lt:Nat→Nat→Bool):List Nat→List Nat
 | []=>[]
 | i::r=>insI lt i (sortI lt r)
def zq(kz:List (List Int))(n:Nat):List Nat:=sortI (fun i j=>nG (kz.getD i []) (kz.getD j [])) (List.range n)
def sortBy(kz:List (List Int))(ds:List D):List D:=(zq kz ds.length).map fun i=>ds.getD i .non
def Hw(ρ : List Nat)(e:Env)(d:D):Env:=some (.d d) :: ρ.map fun j=>(e[j]?).join
def pR(ρ : List Nat)(kf:E)(e:Env):List D→Rs (List (List Int))
 | []=>.ok []
 | d::r=>(kf (Hw ρ e d)).bind fun k=>(Le k).bind fun z=>(pR ρ kf e r).bind fun zs=>.ok (z::zs)
def Hr(ρ : List Nat)(a kf:E):E:=fun e=>(a e).bind fun x=>(Ff x).bind fun ds=>aO (ds.length < 64) ((pR ρ kf e ds).bind fun kz=>aO kz.Nodup (.ok (.lst (sortBy kz ds))))
end Mi
namespace A
open PySem L2 PyProof.Rows
open Mi (D W Rs Fin aq Out Tg)
variable[Tb:fK]
section
variable{prog:Program}{w:World}{Ar:Around}
theorem tX(x y:Str)(t u:Tok):PySem.MeetsSeq.EqGives (.str x t) (.str y u) (x.cps.toList == y.cps.toList):=PySem.SeqRoads2.EqGives.str x y t u
theorem vY{ys:List Str}{us:List Value}(r:Vals (ys.map V.str) us){i:Nat}(h:i < ys.length):∃ t,us[i]? = some (.str (ys.getD i Str.empty) t):=by
 have e:(ys.map V.str)[i]? = some (.str (ys.getD i Str.empty)):=by simp[h]
 obtain⟨u,e2,r2⟩:=r.get e
 obtain⟨t,rfl⟩:=r2
 exact⟨t,e2⟩
theorem Kf{ys:List Str}{z:Str}(h:z∈ys):ys.idxOf z < ys.length∧ys.getD (ys.idxOf z) Str.empty=z∧∀ m,m < ys.idxOf z→ys.getD m Str.empty≠z:=by
 have hl:=List.idxOf_lt_length_of_mem h
 refine⟨hl,by simp[hl],fun m hm e=>?_⟩
 have:m < ys.length:=Nat.lt_trans hm hl
 have e2:ys[m]=z:=by simpa [this] using e
 have:=List.not_of_lt_findIdx (p:=(· == z)) (xs:=ys) (i:=m) hm
 simp[e2] at this
theorem Yd{E:Value→Shared→Prop}{s:Shared}{t:Addr}{us:List Value}{ys:List Str}{z:Str}{tz:Tok}{Q:Value→Shared→Prop}(ht:IsTup s.heap t us.toArray)(r:Vals (ys.map V.str) us)(hz:z∈ys)
 (h:Q (.int (ys.idxOf z:Nat) s.toks) { s with toks:=s.toks+1 }):wpAny (model prog w) Ar (call (.builtin "tuple.index") [.ref t,.str z tz]) Q E s:=by
 obtain⟨h1,h2,h3⟩:=Kf hz
 have hl:=r.length
 rw[List.length_map] at hl
 refine wpAny_call_entry PySem.F.slot_tuple_index ht.typeIs PySem.F.entry_tuple_index ?_ (PySem.F.args_tuple_index_2 _ _)
 show wpAny _ _ (Builtin.Tuple.tupleItemsOf (.ref t) >>= _) _ _ s
 refine wpAny_bind (tupleItemsOf_ ht ?_)
 refine wpAny_bind (wpAny_pure (wpAny_bind (wpAny_pure ?_)))
 dsimp only
 rw[Std.Legacy.Range.forIn_eq_forIn_range']
 have hsz:([0:min us.toArray.size us.toArray.size]:Std.Legacy.Range).size=us.length:=by simp[Std.Legacy.Range.size]
 rw[hsz]
 show wpAny _ _ (forIn (List.range' 0 us.length 1) _ _ >>= _) _ _ _
 have go:∀ (k i:Nat),ys.idxOf z=i+k→∀ (G:Option PySem.Fin×Unit→Shared→Prop),G (some (.done (.ret (.int (ys.idxOf z:Nat) s.toks))),()) { s with toks:=s.toks+1 } →
  wpAny (model prog w) Ar.in1 (forIn (List.range' i (us.length - i) 1) ((none, ()) : Option PySem.Fin × Unit) fun (i : Nat) (__s : Option PySem.Fin × Unit) => (match us.toArray[i]? with
          | some y=>do
           let b ← eqBool y (Value.str z tz)
           if b=true then do
            let r ← retInt (i:Int)
            pure (ForInStep.done (some r,()))
            else pure (ForInStep.yield (none,()))
          | x=>pure (ForInStep.yield (none,())):Sem (ForInStep (Option PySem.Fin×Unit)))) G E s:=by
  intro k
  induction k with
  | zero =>
   intro i hi G hG
   have hlt:i < us.length:=by omega
   obtain⟨t1,e1⟩:=vY r (i:=i) (by omega)
   rw[show us.length - i=(us.length - i - 1)+1 by omega,List.range'_succ,List.forIn_cons]
   have e2:us.toArray[i]? = some (.str (ys.getD i Str.empty) t1):=by simpa using e1
   rw[e2]
   have hz2:ys.getD i Str.empty=z:=by rw[← h2,hi];rfl
   rw[hz2]
   refine wpAny_bind (wpAny_bind (tX z z t1 tz prog w _ _ _ _ ?_))
   simp only[beq_self_eq_true,if_true]
   refine wpAny_bind (wpAny_bind (wpAny_mkInt (wpAny_pure (wpAny_pure ?_))))
   rw[show (i:Nat)=ys.idxOf z from hi.symm]
   exact wpAny_pure hG
  | succ k ih =>
   intro i hi G hG
   have hlt:i < us.length:=by omega
   obtain⟨t1,e1⟩:=vY r (i:=i) (by omega)
   rw[show us.length - i=(us.length - (i+1))+1 by omega,List.range'_succ,List.forIn_cons]
   have e2:us.toArray[i]? = some (.str (ys.getD i Str.empty) t1):=by simpa using e1
   rw[e2]
   have hz2:=h3 i (by omega)
   refine wpAny_bind (wpAny_bind (tX _ z t1 tz prog w _ _ _ _ ?_))
   have:((ys.getD i Str.empty).cps.toList == z.cps.toList)=false:=by
    rw[beq_eq_false_iff_ne]
    intro e
    apply hz2
    cases hq:ys.getD i Str.empty with
    | mk c=>cases z with
     | mk d =>
      rw[hq] at e
      have:c=d:=Array.toList_inj.mp e
      rw[this]
   rw[this]
   simp only[Bool.false_eq_true,if_false]
   exact wpAny_pure (ih (i+1) (by omega) G hG)
 refine wpAny_bind (go (ys.idxOf z) 0 (by omega) _ ?_)
 exact wpAny_pure ⟨_,rfl,h⟩
theorem Ye{E:Value→Shared→Prop}{s:Shared}{t:Addr}{us:List Value}{ys:List Str}{z:Str}{tz:Tok}{n:Nat}{Q:Value→Shared→Prop}(ht:s.heap.get? t=some { cls:=.type "list", data:=.seq us.toArray n })(r:Vals (ys.map V.str) us)(hz:z∈ys)(hl:ys.length≤1000)
 (h:Q (.int (ys.idxOf z:Nat) s.toks) { s with toks:=s.toks+1 }):wpAny (model prog w) Ar (call (.builtin "list.index") [.ref t,.str z tz]) Q E s:=by
 obtain⟨h1,h2,h3⟩:=Kf hz
 have hlu:=r.length
 rw[List.length_map] at hlu
 let e:Value→Bool:=fun y=>match y with
  | .str a _=>a.cps.toList == z.cps.toList
  | _=>false
 have he:∀ y,y∈us.toArray→PySem.MeetsSeq.EqGives y (.str z tz) (e y):=fun y hy=>by
  obtain⟨i,hi⟩:=List.getElem?_of_mem (by simpa using hy:y∈us)
  have hil:=(List.getElem?_eq_some_iff.mp hi).1
  obtain⟨t1,e1⟩:=vY r (i:=i) (by omega)
  rw[e1] at hi;cases hi
  exact tX _ z t1 tz
 have ei:∀ i (hi:i < us.toArray.size),e us.toArray[i]=decide (ys.getD i Str.empty=z):=fun i hi=>by
  have hi':i < us.length:=by simpa using hi
  obtain⟨t1,e1⟩:=vY r (i:=i) (by omega)
  have:us.toArray[i]=.str (ys.getD i Str.empty) t1:=by
   have:=(List.getElem?_eq_some_iff.mp e1).2
   simpa using this
  rw[this]
  show ((ys.getD i Str.empty).cps.toList == z.cps.toList)=_
  by_cases q:ys.getD i Str.empty=z
  ·rw[q];simp
  ·rw[decide_eq_false q,beq_eq_false_iff_ne]
   intro y
   apply q
   cases hq:ys.getD i Str.empty with
   | mk c=>cases z with
    | mk d =>
     rw[hq] at y
     have:c=d:=Array.toList_inj.mp y
     rw[this]
 refine call_meets PySem.F.slot_list_index ⟨_,ht,rfl⟩ PySem.F.entry_list_index (PySem.F.args_list_index_2 _ _) (PySem.MeetsSeq.list_index t us.toArray n (.str z tz) e he (ys.idxOf z) (by simp;omega) (by omega) (by rw[ei];simp only[h2];simp) (fun m hm hj=>by rw[ei];simp only[h3 m hj];simp)) ⟨ht,h⟩
end
section
variable{X:Cx}{K:PySem.W.Frag}{M:Nat→Bool}{to ta tb:TE}{t:TA}{o e:Expr}{es:List Expr}{apos cpos:Pos}{a b:Mi.E}
theorem XD:SM X "tuple.index" (fun x xs H Q=>∃ (p:Addr) (ys:List Str) (z:Str),x=.ref p∧xs=[.str z]∧z∈ys∧H p=some (.tup (ys.map V.str))∧Q (.int (ys.idxOf z:Nat)) H):=by
 intro pins s σ H x xs v us Q I rx rv h
 obtain⟨p,ys,z,rfl,rfl,hz,hp,q⟩:=h
 cases rx
 obtain⟨u,rfl,ru⟩:=vals1 rv
 obtain⟨tz,rfl⟩:=ru
 obtain⟨its,r,pt,_⟩:=I.tuple (.inl (.inl hp))
 exact Yd pt r hz ⟨.int _,H,I.tok _,⟨_,rfl⟩,q⟩
theorem XF:SM X "list.index" (fun x xs H Q=>∃ (p:Addr) (ys:List Str) (z:Str),x=.ref p∧xs=[.str z]∧z∈ys∧ys.length≤1000∧Lst H p (ys.map V.str)∧Q (.int (ys.idxOf z:Nat)) H):=by
 intro pins s σ H x xs v us Q I rx rv h
 obtain⟨p,ys,z,rfl,rfl,hz,hl,hp,q⟩:=h
 cases rx
 obtain⟨u,rfl,ru⟩:=vals1 rv
 obtain⟨tz,rfl⟩:=ru
 obtain⟨its,n,r,_,ho⟩:=Vo I hp
 exact Ye ho r hz hl ⟨.int _,H,I.tok _,⟨_,rfl⟩,q⟩
def abJ(K:PySem.W.Frag)(T2:String)(r1 r2:V→List V→Hp→VK→Prop)(to:TE)(t:TA):TE:=fun σ H Q=>to σ H fun x H1=>((∃ p xs,x=V.ref p∧H1 p=some (.tup xs))∧t σ H1 fun xs H2=>r1 x xs H2 Q)∨(tyV K T2 x H1∧t σ H1 fun xs H2=>r2 x xs H2 Q)
theorem Uu{T2 id1 id2:String}{r1 r2:V→List V→Hp→VK→Prop}{name:Str}(pa1:PlainAttrs "tuple")(slot1:Slot "tuple" name id1)(adQ:typeOf (.builtin id1)=pure (.type "method_descriptor"))(hm1:SM X id1 r1)
 (pa2:PlainAttrs T2) (abN:Slot T2 name id2) (adP:typeOf (.builtin id2)=pure (.type "method_descriptor")) (hm2:SM X id2 r2) (ho:PE X o to) (ha:PA X (e::es) t)
 (hbase:attributeBase o name X.env (eval o X.env)=eval o X.env:=by rfl)
 (hfew:((backTo cpos (starEach (e::es) X.env)).all (fun x=>!x.1) && (backToKw cpos (keywordEach [] X.env)).all (fun x=>x.1.isSome)
  && decide ((e::es).length+([]:List Keyword).length+(if ([]:List Keyword).isEmpty then 0 else 1) < 30))=true:=by rfl)
 (hline:(apos.endLine == cpos.line)=true:=by rfl) (hs:starEach (e::es) X.env=(false,eval e X.env)::starEach es X.env:=by rfl) (hplain:(backTo cpos (starEach es X.env)).any (·.1)=false:=by rfl) :
 PE X (.Call (.Attribute o name apos) (e::es) [] cpos) (abJ X.K T2 r1 r2 to t):=by
 intro pins s σ H Q I h
 refine wpAny_Call_method_late hbase hfew hline rfl (eU (ho pins s σ H _ I h) fun v s1 ⟨x,H1,I1,rx,q⟩=>?_)
 rcases q with ⟨ty,q1⟩|⟨ty,q1⟩
 ·obtain⟨p,xs,rfl,hp⟩:=ty
  cases rx
  have h12:s1.TypeIs (.ref p) "tuple" ∧ ∀ a,Value.ref p=.ref a→∃ ob,s1.heap.get? a=some ob∧ob.dict=none:=by
   obtain⟨_,its,_,ob,e1,e2,e3,_⟩:=(show bW X.prog X.w H1 s1.heap p (.tup xs) from I1.hok p _ hp)
   exact⟨⟨ob,e1,e2⟩,fun a z=>by cases z;exact⟨ob,e1,e3⟩⟩
  obtain⟨h1,h2⟩:=h12
  have rx:RelV (.ref p) (Value.ref p):=rfl
  refine⟨"tuple", id1,pa1,slot1,adQ,h1,h2,?_⟩
  have hA:=ha cpos pins s1 σ H1 _ I1 q1
  rw[hs] at hA ⊢
  refine Calls.callWith_builtin (by show (false || (backTo cpos (starEach es X.env)).any (·.1))=false;rw[hplain]<;>rfl) (Calls.evalArgs_plain ?_)
  exact eU hA fun us s2 ⟨vs,H2,I2,r2',q2⟩=>hm1 pins s2 σ H2 _ vs _ us Q I2 rx r2' q2
 ·obtain⟨h1,h2⟩:=Ly I1 rx ty
  refine⟨T2,id2,pa2,abN,adP,h1,h2,?_⟩
  have hA:=ha cpos pins s1 σ H1 _ I1 q1
  rw[hs] at hA ⊢
  refine Calls.callWith_builtin (by show (false || (backTo cpos (starEach es X.env)).any (·.1))=false;rw[hplain]<;>rfl) (Calls.evalArgs_plain ?_)
  exact eU hA fun us s2 ⟨vs,H2,I2,r2',q2⟩=>hm2 pins s2 σ H2 x vs v us Q I2 rx r2' q2
end
end A
namespace So
open PySem
theorem Ht:∀ a b:List Int,iQ a b=Mi.nG a b
 | [],[]=>rfl
 | [],_::_=>rfl
 | _::_,[]=>rfl
 | a::r,b::t=>by rw[iQ,Mi.nG,Ht r t]
theorem BZ(lt:Nat→Nat→Bool)(i:Nat):∀ l:List Nat,(Mi.insI lt i l).Perm (i::l)
 | []=>List.Perm.refl _
 | j::r=>by
  unfold Mi.insI
  split
  ·exact List.Perm.refl _
  ·exact((BZ lt i r).cons j).trans (List.Perm.swap i j r)
theorem pD(lt:Nat→Nat→Bool):∀ l:List Nat,(Mi.sortI lt l).Perm l
 | []=>List.Perm.refl _
 | i::r=>(BZ lt i _).trans ((pD lt r).cons i)
section
variable{n:Nat}{lt:Nat→Nat→Bool}(O:Ord n lt)
include O
theorem BX{i:Nat}(hi:i < n):∀ {l:List Nat},(∀ x∈l,x < n)→i∉l→l.Pairwise (fun a b=>lt a b=true)→(Mi.insI lt i l).Pairwise (fun a b=>lt a b=true)
 | [],_,_,_=>List.pairwise_singleton _ _
 | j::r,hl,hn,hp=>by
  have hp':=List.pairwise_cons.mp hp
  have hj:=hl j List.mem_cons_self
  unfold Mi.insI
  split
  ·rename_i h
   refine List.pairwise_cons.mpr ⟨fun x hx=>?_,hp⟩
   rcases List.mem_cons.mp hx with rfl|hx
   ·exact h
   ·exact O.tr _ _ _ hi hj (hl x (List.mem_cons_of_mem _ hx)) h (hp'.1 x hx)
  ·rename_i h
   have hji:lt j i=true:=(O.tot i j hi hj fun z=>hn (by rw[z];exact List.mem_cons_self)).resolve_left h
   refine List.pairwise_cons.mpr ⟨fun x hx=>?_,BX hi (fun x hx=>hl x (List.mem_cons_of_mem _ hx)) (fun z=>hn (List.mem_cons_of_mem _ z)) hp'.2⟩
   rcases List.mem_cons.mp ((BZ lt i r).mem_iff.mp hx) with rfl|hx
   ·exact hji
   ·exact hp'.1 x hx
theorem rT:∀ {l:List Nat},(∀ x∈l,x < n)→l.Nodup→(Mi.sortI lt l).Pairwise (fun a b=>lt a b=true)
 | [],_,_=>.nil
 | i::r,hl,nd=>by
  have nd:=List.nodup_cons.mp nd
  have hr:∀ x∈r,x < n:=fun x hx=>hl x (List.mem_cons_of_mem _ hx)
  exact BX O (hl i List.mem_cons_self) (fun x hx=>hr x ((pD lt r).mem_iff.mp hx)) (fun z=>nd.1 ((pD lt r).mem_iff.mp z)) (rT hr nd.2)
theorem JN:∀ {a b:List Nat},(∀ x∈a,x < n)→a.Perm b→a.Pairwise (fun x y=>lt x y=true)→b.Pairwise (fun x y=>lt x y=true)→a=b
 | [],b,_,p,_,_=>p.nil_eq
 | x::r,b,hl,p,ha,hb=>by
  cases b with
  | nil=>exact absurd p.length_eq (by simp)
  | cons y t =>
   have hx:x∈y::t:=p.mem_iff.mp List.mem_cons_self
   have hy:y∈x::r:=p.mem_iff.mpr List.mem_cons_self
   have e:x=y:=by
    rcases List.mem_cons.mp hx with h|h
    ·exact h
    ·rcases List.mem_cons.mp hy with h'|h'
     ·exact h'.symm
     ·have a1:=(List.pairwise_cons.mp ha).1 y h'
      have a2:=(List.pairwise_cons.mp hb).1 x h
      rw[O.asy _ _ (hl x List.mem_cons_self) (hl y hy) a1] at a2;cases a2
   subst e
   rw[JN (fun z hz=>hl z (List.mem_cons_of_mem _ hz)) (List.Perm.cons_inv p) (List.pairwise_cons.mp ha).2 (List.pairwise_cons.mp hb).2]
end
theorem Xr{kz:List (List Int)}(nd:kz.Nodup){p:Array Nat}(pm:Pm kz.length p)(sd:Sd (XJ kz) p kz.length):p.toList=Mi.zq kz kz.length:=by
 have O:=Hs nd
 have e:Mi.zq kz kz.length=Mi.sortI (XJ kz) (List.range kz.length):=by
  unfold Mi.zq XJ
  congr 1
  funext i j
  exact(Ht _ _).symm
 have hp:p.toList.Perm (List.range kz.length):=by have:=Array.perm_iff_toList_perm.mp pm.pm;simpa using this
 have hb:∀ x∈p.toList,x < kz.length:=fun x hx=>by simpa using hp.mem_iff.mp hx
 rw[e]
 refine JN O hb (hp.trans (pD _ _).symm) ?_ (rT O (fun x hx=>by simpa using hx) List.nodup_range)
 rw[List.pairwise_iff_getElem]
 intro i j hi hj hij
 have hi':i < p.size:=by simpa using hi
 have hj':j < p.size:=by simpa using hj
 have:=sd i j hij (by rw[← pm.size];exact hj')
 rw[Lb hi',Lb hj'] at this
 simpa using this
end So
namespace A
open PySem L2 PyProof.Rows So
open Mi (D W Rs Fin aq Out Tg)
variable[Tb:fK]
theorem Tf{T:Addr}{q:Str}{H H' Hv:Hp}(v:Vw H Hv)(t:Tab T q H H'):cY H Hv H' Hv:=by
 rcases t with rfl|⟨ps,ps',c,hT,hc,ne,rfl,ck⟩
 ·exact .refl v
 ·have get:∀ {a o},H a=some o→NT o→upd (upd H T (.tbl q ps')) c (.ext (nM c q)) a=some o:=fun {a o} e n=>by
   rw[aF (aX e hc),aF (fun z=>by rw[z,hT] at e;cases e;exact n)];exact e
  have back:∀ {a o},upd (upd H T (.tbl q ps')) c (.ext (nM c q)) a=some o→(∀ w ps,o≠.tbl w ps)→(∀ φ,o≠.ext φ)→H a=some o:=fun {a o} e n1 n2=>by
   by_cases z:a=c
   ·subst z;rw[aV] at e;cases e;exact absurd rfl (n2 _)
   ·rw[aF z] at e
    by_cases z2:a=T
    ·subst z2;rw[aV] at e;cases e;exact absurd rfl (n1 _ _)
    ·rw[aF z2] at e;exact e
  refine⟨⟨fun a o e n=>get e n,fun a e=>?_,fun a w p0 e=>?_⟩,gR.refl _,⟨fun a o e=>get (v.sub a o e) (v.nv a o e),fun a xs e=>v.tup a xs (back e (fun _ _ z=>by cases z) (fun _ z=>by cases z)),fun a o u e=>v.frz a o u (back e (fun _ _ z=>by cases z) (fun _ z=>by cases z)),ck,v.nv⟩,fun _ _ _ n=>n⟩
  ·by_cases z:a=c
   ·subst z;exact hc
   ·rw[aF z] at e
    by_cases z2:a=T
    ·subst z2;rw[aV] at e;cases e
    ·rw[aF z2] at e;exact e
  ·by_cases z2:a=T
   ·subst z2
    rw[hT] at e;cases e
    exact⟨ps',by rw[aF (Ne.symm ne),aV]⟩
   ·exact⟨p0,by rw[aF (aX e hc),aF z2];exact e⟩
theorem QC{Hv:Hp}:∀ {ds:List D} {xs:List V} {bs:List Int},Mi.Dh ds=some bs→P2 (Rep Hv) ds xs→xs=bs.map V.int
 | [],_,bs,e,r=>by cases e;cases r;rfl
 | .int b::ds,_,bs,e,r=>by
  cases r with
  | cons x t =>
   cases hb:Mi.Dh ds with
   | none=>rw[Mi.Dh,hb] at e;cases e
   | some cs =>
    rw[Mi.Dh,hb] at e
    cases e
    rw[QC hb t,n6.mp x];rfl
section
variable{X:Cx}{K:PySem.W.Frag}{M:Nat→Bool}{te tb ta:TE}{a b kf:Mi.E}{T:Addr}{q:Str}{ρ : List Nat}
theorem aaM{e:Mi.Env}{σ : L2.St}{H Hv:Hp}(I:R0 M e σ H Hv)(hM:∀ j∈ρ,M j=false){d:D}{v:V}(r:Rep Hv d v):R0 (fun _=>false) (Mi.Hw ρ e d) (oE ρ σ v) H Hv:=by
 refine⟨I.vw,by simp[Mi.Hw,oE],fun i w h _=>?_,fun i w h m=>by cases m⟩
 cases i with
 | zero =>
  have:W.d d=w:=by simpa [Mi.Hw] using h
  subst this
  exact⟨v,rfl,r⟩
 | succ i =>
  have h:(ρ.map fun j=>(e[j]?).join)[i]? = some (some w):=by simpa [Mi.Hw] using h
  rw[List.getElem?_map] at h
  obtain⟨j,hj,e2⟩:=Option.map_eq_some_iff.mp h
  have e3:e[j]? = some (some w):=by
   cases z:e[j]? with
   | none=>rw[z] at e2;cases e2
   | some y=>rw[z] at e2;exact congrArg some e2
  obtain⟨u,hu,ru⟩:=I.nob j w e3 (hM j (List.mem_of_getElem? hj))
  exact⟨u,by simp[oE,List.getElem?_map,hj,hu],ru⟩
theorem PL{c':Addr}(hk:AE (fun _=>false) qN tb kf)(hM:∀ j∈ρ,M j=false){e:Mi.Env}{σ : L2.St}:∀ {ds:List D} {xs:List V} {kz:List (List Int)} {H Hv:Hp} {R:List V→Hp→Prop},R0 M e σ H Hv→P2 (Rep Hv) ds xs→H c'=some (.ext (nM c' q))→Mi.pR ρ kf e ds=.ok kz →
 (∀ ks H3 Hv3,cY H Hv H3 Hv3→KeysAre H3 kz ks→R ks H3)→IW c' q (fun v H K=>tb (oE ρ σ v) H K) xs H R
 | [],_,kz,H,Hv,R,I,.nil,_,hz,h=>by
  have:kz=[]:=by rw[Mi.pR] at hz;cases hz;rfl
  subst this
  exact h [] H Hv (.refl I.vw) .nil
 | d::ds,_,kz,H,Hv,R,I,.cons (b:=v) (m:=xs) r t,hc,hz,h=>by
  rw[Mi.pR] at hz
  show tb (oE ρ σ v) H _
  cases hkd:kf (Mi.Hw ρ e d) with
  | no=>rw[hkd] at hz;cases hz
  | ex z=>rw[hkd] at hz;cases hz
  | ok kd =>
   rw[hkd,Mi.aB] at hz
   cases kd with
   | lst es =>
    cases hes:Mi.Dh es with
    | none=>rw[show Mi.Le (.lst es)=.no from by show Mi.uC (Mi.Dh es)=_;rw[hes];rfl] at hz;cases hz
    | some z =>
     rw[show Mi.Le (.lst es)=.ok z from by show Mi.uC (Mi.Dh es)=_;rw[hes];rfl,Mi.aB] at hz
     cases hzs:Mi.pR ρ kf e ds with
     | no=>rw[hzs] at hz;cases hz
     | ex y=>rw[hzs] at hz;cases hz
     | ok zs =>
      rw[hzs] at hz
      have hz:kz=z::zs:=by cases hz;rfl
      subst hz
      refine hk _ _ H Hv _ (aaM I hM r) ?_
      rw[hkd]
      intro kv H1 Hv1 g1 kq
      obtain⟨p,o,rfl,n0,hp,nv,ci⟩:=kq
      cases o with
      | lst vs =>
       have hv:vs=z.map V.int:=QC hes ci
       subst hv
       refine⟨g1.old.at hc,PL hk hM (I.grow g1) (cZ g1.vis t) (g1.old.at hc) hzs fun ks H3 Hv3 g3 ka=>h _ H3 Hv3 (g1.trans g3) (.cons ⟨p,rfl,g3.old.at hp⟩ ka)⟩
      | _=>exact ci.elim
   | _=>cases hz
theorem Pb{F:D→V→Prop}{ds:List D}{xs:List V}(h:P2 F ds xs):∀ l:List Nat,(∀ i∈l,i < ds.length)→P2 F (l.map fun i=>ds.getD i .non) (l.map fun i=>xs.getD i .non)
 | [],_=>.nil
 | i::r,hl=>by
  have hi:=hl i List.mem_cons_self
  have e1:ds[i]? = some (ds.getD i .non):=by simp[hi]
  obtain⟨y,e2,f⟩:=h.getL e1
  have:xs.getD i .non=y:=by simp[e2]
  refine .cons ?_ (Pb h r fun j hj=>hl j (List.mem_cons_of_mem _ hj))
  show F (ds.getD i .non) (xs.getD i .non)
  rw[this];exact f
theorem YT(hT:(T,q)∈Tb.l)(hM:∀ j∈ρ,M j=false)(ha:AE M qP te a)(hk:AE (fun _=>false) qN tb kf):AE M qN (Tj T q ρ te tb) (Mi.Hr ρ a kf):=fun e σ H Hv Q I h =>
 ha e σ H Hv _ I ((aq.mp h).mono fun x hx v H1 Hv1 g1 rx=>by
  cases x with
  | lst ds =>
   obtain⟨h64,hx⟩:=Mi.aR (show Fin (Mi.aO (ds.length < 64) _) _ from hx)
   obtain⟨kz,hkz,hx⟩:=iZ (aq.mp hx)
   obtain⟨nd,hx⟩:=Mi.aR hx
   have hx:=Mi.gf hx
   obtain⟨p,xs,rfl,l,r⟩:=RD.lst g1.vw rx
   have lx:=r.len
   have I1:=I.grow g1
   obtain⟨tps,ht⟩:=g1.vw.cd.has _ hT
   refine⟨p,xs,tps,rfl,by omega,ht,g1.vw.cd,fun H2 c' tab hc'=>?_⟩
   have g2:=Tf g1.vw tab
   refine⟨l.old g2.old,PL hk hM (I1.grow g2) r hc' hkz fun ks H3 Hv3 g3 ka=>?_⟩
   have lk:kz.length=ds.length:=by
    have:∀ (ds:List D) (kz:List (List Int)),Mi.pR ρ kf e ds=.ok kz→kz.length=ds.length:=fun ds=>by
     induction ds with
     | nil=>intro kz h;rw[Mi.pR] at h;cases h;rfl
     | cons d ds ih =>
      intro kz h
      rw[Mi.pR] at h
      cases h1:kf (Mi.Hw ρ e d) with
      | no=>rw[h1] at h;cases h
      | ex z=>rw[h1] at h;cases h
      | ok kd =>
       rw[h1,Mi.aB] at h
       cases h2:Mi.Le kd with
       | no=>rw[h2] at h;cases h
       | ex z=>rw[h2] at h;cases h
       | ok z =>
        rw[h2,Mi.aB] at h
        cases h3:Mi.pR ρ kf e ds with
        | no=>rw[h3] at h;cases h
        | ex y=>rw[h3] at h;cases h
        | ok zs=>rw[h3] at h;cases h;rw[List.length_cons,List.length_cons,ih zs h3]
    exact this ds kz hkz
   refine⟨kz,by omega,nd,ka,fun p2 ys hp2 so=>?_⟩
   obtain⟨pa,pm,sd,rfl⟩:=so
   have e0:pa.toList=Mi.zq kz ds.length:=by
    rw[← lk]
    exact Xr nd (by rw[lk,lx];exact pm) (by rw[lk,lx];exact sd)
   have rr:P2 (Rep Hv3) (Mi.sortBy kz ds) (pa.toList.map fun i=>xs.getD i .non):=by
    unfold Mi.sortBy
    rw[← e0]
    refine Pb (cZ (g2.vis.trans g3.vis) r) _ fun i hi=>?_
    have:=(Array.perm_iff_toList_perm.mp pm.pm).mem_iff.mp hi
    rw[lx];simpa using this
   obtain⟨g4,kk⟩:=Bu g3.vw rr hp2
   have gg:=g1.trans (g2.trans (g3.trans g4))
   exact hx _ _ _ gg (KM.mono (κ:=qN) (g1.old.trans (g2.old.trans g3.old)) kk)
  | _=>exact hx.elim)
end
end A
namespace L2
open PySem PySem.Spec PyProof.Rows A So
structure WM(K:PySem.W.Frag)(x qual:Str)(st:Stmt)(c f:Addr)(fd:FuncData):Prop where
 ex:∃ (oc:Value) (od:Option Addr) (kV doc pm:Value) (an:Option Addr) (ct:Value) (osl:Array (Option Value)),
  fd=PySem.W.fnOf x qual (mW st) (jV st) (aW st) .none kV doc pm an (.ref c) ct∧K.lookup f=some ⟨oc,od,.func fd,osl⟩∧PySem.W.codeIn K (.ref c) qual=true
section
variable{P:Program}{w:World}{K:PySem.W.Frag}{mg:Str→Option Value}{base:Heap}
theorem WM.ok{x qual:Str}{st:Stmt}{c f:Addr}{fd:FuncData}{N ps:List Str}{k:Nat}{sp:Sp}(F:WM K x qual st c f fd)(S:bB N ps (aW st))(len:∀ vs H Q E,sp vs H Q E→vs.length=ps.length)
 (hbody:∀ (A:Around) (outer:List Env) (s:Shared) (H:Hp) (vs:List V) (Q:VK) (E:XK),lC k (A.deeper (envOfC qual (aW st) s.heap.objs.size f (.ref c)))→sp vs H Q E →
  ∃ t,QJ (NK cD P w K mg base N qual (aW st) f (.ref c) A outer s H E).nox (jV st) t∧t { nx:=fun _ H'=>Q .non H',rt:=Q } (start N vs) H):cW P w K mg base cD (k+1) f fd ps sp:=by
 obtain⟨oc,od,kV,doc,pm,an,ct,osl,rfl,lk,hcd⟩:=F.ex
 refine ZK lk hcd S len fun A outer s H vs Q E hr hsp=>?_
 obtain⟨t,h,q⟩:=hbody A outer s H vs Q E hr hsp
 exact⟨t,h.nox,q⟩
end
structure Y4(K:PySem.W.Frag)(mg:Str→Option Value)(x:Str)(st:Stmt)(ps:List Str)(c:Addr):Prop where
 ex:∃ (f:Addr) (fd:FuncData),mg x=some (.ref f)∧PySem.W.keepIn K (.ref f)=true∧Binds K fd ps []∧WM K x x st c f fd
theorem Yl{K:PySem.W.Frag}{h:Heap}{mg:Str→Option Value}{x:Str}{st:Stmt}{ps:List Str}{f c:Addr}{oc:Value}{od an:Option Addr}{osl:Array (Option Value)}{kV doc pm ct:Value}(X:K.In h)(G:h.Ns mainGlobals mg)
 (hb:∀ (kV doc pm:Value) (an:Option Addr) (cdv ct:Value) (us:List Value),us.length=ps.length→bindArgs (PySem.W.fnOf x x (mW st) (jV st) (aW st) .none kV doc pm an cdv ct) ⟨us,[]⟩=pure (ps.zip us))
 (a:PySem.W.nsIn K mainGlobals x=some (some (.ref f))) (l:K.lookup f=some ⟨oc,od,.func (PySem.W.fnOf x x (mW st) (jV st) (aW st) .none kV doc pm an (.ref c) ct),osl⟩)
 (cc:PySem.W.codeIn K (.ref c) x=true) (k:PySem.W.keepIn K (.ref f)=true):Y4 K mg x st ps c:=by
 have F:=VB (st:=st) l cc k
 exact⟨f,_,PySem.W.mg_of X G a,k,F.binds hb,⟨oc,od,kV,doc,pm,an,ct,osl,rfl,l,cc⟩⟩
theorem Y4.cal{P:Program}{w:World}{K:PySem.W.Frag}{mg:Str→Option Value}{base:Heap}{CX:Lr}{k:Nat}{x:Str}{st:Stmt}{ps:List Str}{c:Addr}{sp:Sp}(F:Y4 K mg x st ps c)(h:∀ f fd,WM K x x st c f fd→cW P w K mg base CX k f fd ps sp) :
 kE P w K mg base CX k x ps sp:=by
 obtain⟨f,fd,h1,h2,h3,h4⟩:=F.ex
 exact⟨f,fd,h1,h2,h3,h f fd h4⟩
theorem Gg.one{X:Cx}{x y:Str}{j:Nat}{sc:Scope}{c:Addr}(hn:sc.names=[(x,.local),(y,.free)])(hxy:(y == x)=false)(hk:sc.kind=.function)(co:sc.isCoroutine=false)(gen:sc.isGenerator=false)(hc:X.env.cells=[(y,c)])(hN:X.N[j]? = some y)(hy:X.env.kindOf y=some .cell) :
 Gg X x [j] [x,y] sc [(y,c)]:=by
 have hl:sc.names.lookup y=some .free:=by
  rw[hn,List.lookup,hxy]
  show List.lookup y [(y,NameKind.free)]=_
  rw[List.lookup,beq_self_eq_true]
 refine⟨hk,co,gen,fun z hz=>?_,by rw[hn,List.lookup,beq_self_eq_true],fun z d h=>by rw[hc];exact h,fun z h=>?_,[y],rfl,rfl,fun i k z h1 h2=>?_⟩
 ·rw[hn] at hz
  rcases List.mem_cons.mp hz with rfl|hz
  ·exact fun q=>by cases q
  ·rw[List.mem_singleton.mp hz];exact fun q=>by cases q
 ·rw[hn,List.lookup] at h
  split at h
  ·cases h
  ·rw[List.lookup] at h
   split at h
   ·rename_i q
    exact⟨c,by rw[List.lookup,q]⟩
   ·cases h
 ·cases i with
  | zero =>
   have e1:j=k:=by simpa using h1
   have e2:y=z:=by simpa using h2
   subst e1 e2
   exact⟨hN,hl,.inl hy⟩
  | succ i=>simp at h1
section
variable[Tb:fK]
theorem Ro{P:Program}{w:World}{K:PySem.W.Frag}{mg mb:Str→Option Value}{k:Nat}{fa a c T:Addr}{q:Str}{fd:FuncData}{x:Str}{s₁:Shared}{vs:List Value}{ns:List Int}(hTb:Tb.l=[(T,q)])
 (KX:K.In s₁.heap) (hns:s₁.heap.Ns mainGlobals mg) (hb:s₁.heap.Ns builtinsNs mb) (hbb:∀ x:Str,x ≠ "__name__" → mb x=bootBuiltins x) (hlim:s₁.heap.NoLimit) (hg:s₁.gens = #[])
 (ha:s₁.heap.get? a=some { cls:=.type "list", data:=.seq vs.toArray }) (hi:IntsAre vs ns) (hl:ns.length≤63) (hr:lC k callerA)
 (hKa:K.lookup a=none) (hKT:K.lookup T=none) (C:PySem.W.CodeHd s₁.heap c T) (hT:s₁.heap.get? T=some (PySem.W.tabObj #[])) (hB:BM mg s₁.heap)
 (F:∀ base:Heap,K.In base→base.Ns mainGlobals mg→BM mg base→PySem.W.CodeHd base c T→cW P w K mg base cD k fa fd [x] Jv) (hbind:∀ (s:Shared) (u:Value),BindsTo s fd ⟨[u],[]⟩ [(x,u)]) :
 codeAny (model P w) callerA (.call (.ref fa) ⟨[.ref a],[]⟩) (fun r s'=>r=.ok (.ret (.bool true))∧OldK s₁.heap s'.heap∧s'.os=s₁.os∧AllBare s'.gens) s₁:=by
 have rv:=Ej hi
 have lenV:=hi.length
 have aT:a≠T:=fun z=>by rw[z,hT] at ha;cases ha
 let H:Hp:=fun b=>if b=a then some (.frz { cls:=.type "list", data:=.seq vs.toArray } (.lst (ns.map V.int))) else if b=T then some (.tbl q #[]) else none
 have Ha:H a=some (.frz { cls:=.type "list", data:=.seq vs.toArray } (.lst (ns.map V.int))):=if_pos rfl
 have HT:H T=some (.tbl q #[]):=by show (if T=a then _ else _)=_;rw[if_neg (Ne.symm aT),if_pos rfl]
 have Hn:∀ b,b≠a→b≠T→H b=none:=fun b h1 h2=>by show (if b=a then _ else _)=_;rw[if_neg h1,if_neg h2]
 have Hd:∀ {b u},H b=some u→(b=a∧u=.frz { cls:=.type "list", data:=.seq vs.toArray } (.lst (ns.map V.int)))∨(b=T∧u=.tbl q #[]):=fun {b u} e=>by
  by_cases h1:b=a
  ·subst h1;rw[Ha] at e;cases e;exact .inl ⟨rfl,rfl⟩
  ·by_cases h2:b=T
   ·subst h2;rw[HT] at e;cases e;exact .inr ⟨rfl,rfl⟩
   ·rw[Hn b h1 h2] at e;cases e
 have hok:uy P w H s₁.heap:=fun b u e=>by
  rcases Hd e with ⟨rfl,rfl⟩|⟨rfl,rfl⟩
  ·exact⟨ha,by rw[List.length_map,sizeLine_eq];omega,vs,_,rv,ha⟩
  ·exact hT
 have free:∀ {b:Addr} {o:Obj},s₁.heap.get? b=some o→o.cls≠.type "list" → o≠PySem.W.tabObj #[]→H b=none:=fun {b o} e h1 h2=>by
  refine Hn b (fun z=>?_) fun z=>?_
  ·rw[z,ha] at e;cases e;exact h1 rfl
  ·rw[z,hT] at e;cases e;exact h2 rfl
 have zZ:∀ {b:Addr} {o:Obj},s₁.heap.get? b=some o→H b=none→(Ce s₁.heap H).get? b=some o:=fun e n=>Vx e n
 have nsK:∀ {b:Addr} {m:Str→Option Value},s₁.heap.Ns b m→(Ce s₁.heap H).Ns b m:=fun {b m} ⟨o,es,ep,e,d,r⟩=>⟨o,es,ep,zZ e (Hn b (fun z=>by rw[z,ha] at e;cases e;cases d) fun z=>by rw[z,hT] at e;cases e;cases d),d,r⟩
 have hKb:K.In (Ce s₁.heap H):=fun b o e=>zZ (KX b o e) (Hn b (fun z=>by rw[z,hKa] at e;cases e) fun z=>by rw[z,hKT] at e;cases e)
 have hM:Mod K mg (Ce s₁.heap H):=⟨hKb,nsK hns,⟨mb,nsK hb,hbb⟩,let ⟨mc,h1,h2⟩:=hlim;⟨mc,nsK h1,h2⟩⟩
 have e0:Y5 P w K mg (Ce s₁.heap H) callerA [] s₁ H:=⟨rfl,hM,fun b o e=>Xw e,Nat.le_of_eq (RG _ _),trivial,fun b hb=>absurd (show b∈([]:List Addr) from hb) (by simp),hok,.of_eq hg⟩
 have hB':BM mg (Ce s₁.heap H):=by
  obtain⟨bm,bo,b1,b2,b3,b4,b5,b6,b7⟩:=hB
  exact⟨bm,bo,b1,b2,b3,zZ b4 (free b4 (by rw[b5];decide) (fun z=>by rw[z] at b5;cases b5)),b5,b6,b7⟩
 have C':PySem.W.CodeHd (Ce s₁.heap H) c T:=by
  obtain⟨o,vs2,file,tf,flags,tg,inF,text,tt,e,h1,r⟩:=C
  exact⟨o,vs2,file,tf,flags,tg,inF,text,tt,zZ e (free e (by rw[h1];decide) (fun z=>by rw[z] at h1;cases h1)),h1,r⟩
 have ck:jz H:=⟨fun r hr=>by
  rw[hTb] at hr
  obtain rfl:r=(T,q):=by simpa using hr
  exact⟨#[],HT⟩,fun T2 q2 ps e=>by
  rcases Hd e with ⟨_,z⟩|⟨_,z⟩
  ·cases z
  ·cases z;exact⟨trivial,fun pos v hv=>by cases hv⟩⟩
 refine codeAny_mono ((F _ hKb (nsK hns) hB' C').run callerA [] s₁ H ⟨[.ref a],[]⟩ [.ref a] [.ref a] (fun v _=>v=.bl true) (fun _ _ _=>False) hr e0 (hbind s₁ (.ref a)) (.cons rfl .nil) ⟨a,ns,rfl,.inr ⟨_,Ha⟩,hl,ck,fun _=>rfl⟩) fun r s' h=>?_
 cases r with
 | error e=>exact h.elim
 | ok fl =>
  cases fl with
  | next=>exact False.elim h
  | brk=>exact False.elim h
  | cont=>exact False.elim h
  | ret u =>
   obtain⟨v,H',os,bare,un,hok',r',q'⟩:=h
   have q':v=.bl true:=q'
   subst q'
   obtain rfl:u=Value.bool true:=r'
   have old:∀ b o,s₁.heap.get? b=some o→asItWas s₁.heap s'.heap b o:=fun b o e=>by
    by_cases h1:b=a
    ·subst h1
     have z2:=un.Ed b _ _ Ha
     obtain⟨e2,_⟩:=hok' b _ z2
     rw[ha] at e;cases e
     exact .inl e2
    ·by_cases h2:b=T
     ·subst h2
      obtain⟨more,z2⟩:=un.DG b _ _ HT
      have e2:s'.heap.get? b=some (PySem.W.tabObj (#[]++more)):=hok' b _ z2
      rw[hT] at e;cases e
      obtain⟨oc,vs2,_,_,_,_,_,_,_,f1,f2,f3,f4,_⟩:=C
      exact .inr (.inl ⟨⟨c,oc,vs2,f1,f2,f3,f4⟩,rfl,#[],more,rfl,e2⟩)
     ·exact .inl (un.keep b o e (Hn b h1 h2) (by intro z;exact absurd (show b∈([]:List Addr) from z) (by simp)) (by simp))
   exact⟨rfl,⟨old,fun b o e=>un.there b o e (by simp)⟩,os,bare⟩
theorem S6{l:PySem.W.OpenLaw}{k:Nat}{q:Program}{loose:List Str}{XP:(Str→Option Value)→Heap→Prop}{YP:World→Heap→Prop}{d:DefRec}{K:Params→PySem.W.Frag}{x dn:Str}{c T:Addr}{qn:Str}(hTb:Tb.l=[(T,qn)])
 (hn:l.most=some 63) (hdf:d.params.defaults=[]) (hr:lC k callerA)
 (hY:∀ (w:World) (h:Heap),YP w h→(K w.params).In h) (hL:∀ w:World,∀ a o,(K w.params).lookup a=some o→o.cls≠.type "list") (hK:∀ w:World,(K w.params).lookup T=none)
 (hrec:∃ d,(recsOf q).find? (fun e=>e.name == dn)=some d) (htab:∀ w:World,PySem.W.tabIn (K w.params) dn=some (c,T))
 (F:∀ (w:World) (mg:Str→Option Value) (fa:Addr) (h:Heap),(K w.params).In h→h.Ns mainGlobals mg→mg d.name=some (.ref fa) →
  ∃ fd:FuncData,(∀ (s:Shared) (u:Value),BindsTo s fd ⟨[u],[]⟩ [(x,u)]) ∧
   ∀ base:Heap,(K w.params).In base→base.Ns mainGlobals mg→BM mg base→PySem.W.CodeHd base c T→cW l.prog w (K w.params) mg base cD k fa fd [x] Jv) :
 PySem.W.WalkO q loose XP YP l.row.toRowW d [] (fun f vs=>PySem.call f vs):=by
 refine Att.La hn hdf fun w s₀ s₁ mg mb fa o pm cd doc a vs ns G Y ho hd hcd hmg hobj hints hlen hg=>?_
 have KX:=hY w _ Y
 obtain⟨fd,hb,hF⟩:=F w mg fa _ KX G.T.g hmg
 obtain⟨dd,hdd⟩:=hrec
 obtain⟨C,hT⟩:=PySem.W.tab_of G.T KX hdd (htab w)
 have hB:BM mg s₁.heap:=by
  obtain⟨bm,ob,b1,b2,b3,b4,b5,b6⟩:=G.T.bmain
  refine⟨bm,ob,b1,b2,fun z=>?_,b3,b4,b5,b6⟩
  obtain⟨o2,es,ep,e,d2,_⟩:=G.T.g
  rw[z,e] at b3;cases b3;rw[d2] at b6;cases b6
 have hKa:(K w.params).lookup a=none:=by
  cases z:(K w.params).lookup a with
  | none=>rfl
  | some o2 =>
   have e:=KX a o2 z
   rw[hobj] at e;cases e
   exact absurd rfl (hL w a _ z)
 exact Ro hTb KX G.T.g G.T.b G.T.builtins G.T.nolimit hg hobj hints hlen hr hKa (hK w) C hT hB hF hb
end
end L2
namespace A
open PySem L2 PyProof.Rows So
open Mi (D W Rs Fin aq Out Tg)
variable[Tb:fK]
section
variable{K:PySem.W.Frag}{M:Nat→Bool}{ta tb:TE}{a b:Mi.E}
def Zn:V→List V→Hp→VK→Prop:=fun x xs H Q=>∃ (p:Addr) (ys:List Str) (z:Str),x=.ref p∧xs=[.str z]∧z∈ys∧H p=some (.tup (ys.map V.str))∧Q (.int (ys.idxOf z:Nat)) H
def Zo:V→List V→Hp→VK→Prop:=fun x xs H Q=>∃ (p:Addr) (ys:List Str) (z:Str),x=.ref p∧xs=[.str z]∧z∈ys∧ys.length≤1000∧Lst H p (ys.map V.str)∧Q (.int (ys.idxOf z:Nat)) H
theorem Zy{X:Cx}:SM X "tuple.index" Zn:=XD
theorem Zz{X:Cx}:SM X "list.index" Zo:=XF
theorem ZZ(ha:AE M qP ta a)(hb:AE M qP tb b):AE M qV (abJ K "list" Zn Zo ta (iW tb pB)) (Mi.m2 Mi.NB a b):=fun e σ H Hv Q I h =>
 ha e σ H Hv _ I ((aq.mp h).mono fun x hx v H1 Hv1 g1 rx=>by
  obtain⟨y,hy,hk⟩:=iZ (aq.mp hx)
  cases y with
  | str z =>
   obtain⟨ys,ey,q1⟩:=jP (aq.mp hk)
   obtain⟨⟨hz,hl⟩,q2⟩:=Mi.aR q1
   have q3:=Mi.gf q2
   clear hk q1 q2 hx
   cases x with
   | tup ds =>
    obtain⟨p,us,rfl,l,_,r⟩:=RD.tup g1.vw rx
    have:=z7 ey r
    subst this
    refine .inl ⟨⟨p,_,rfl,l⟩,hb e σ H1 Hv1 _ (I.grow g1) ?_⟩
    rw[hy]
    intro v2 H2 Hv2 g2 ry
    cases RD.str ry
    exact⟨p,ys,z,rfl,rfl,hz,g2.old.at l,q3 _ _ _ (g1.trans g2) jK⟩
   | lst ds =>
    obtain⟨p,us,rfl,l,r⟩:=RD.lst g1.vw rx
    have:=z7 ey r
    subst this
    refine .inr ⟨.inl ⟨rfl,_,l.sq⟩,hb e σ H1 Hv1 _ (I.grow g1) ?_⟩
    rw[hy]
    intro v2 H2 Hv2 g2 ry
    cases RD.str ry
    exact⟨p,ys,z,rfl,rfl,hz,hl,l.old g2.old,q3 _ _ _ (g1.trans g2) jK⟩
   | _=>cases ey
  | _=>exact hk.elim)
end
end A
namespace Mi
end Mi
namespace A
open PySem L2 PyProof.Rows So
open Mi (D W Rs Fin aq Out Tg)
variable[Tb:fK]
section
variable{K:PySem.W.Frag}{M:Nat→Bool}{t:TE}{m:Mi.E}{w:Mi.EW}
theorem R9(y:Nat)(hy:M y=true)(ha:AW (fun j=>M j && !(j == y)) qN t w):AS M qN (Ma t) (Mi.c7 w):=fun H0 Hv0 e σ H Hv D I h=>by
 have nb:∀ {j:Nat},(M j && !(j == y))=false→M j=false∨j=y:=fun {j} z=>by
  cases q:M j with
  | false=>exact .inl rfl
  | true=>rw[q] at z;exact .inr (by simpa using z)
 have nt:∀ {j:Nat},(M j && !(j == y))=true→M j=true∧j≠y:=fun {j} z=>by simpa using z
 have fin:∀ Hv',cY H0 Hv0 H Hv'→R0 (fun j=>M j && !(j == y)) e σ H Hv'→Ma t D σ H:=fun Hv' gw R =>
  ha e σ H Hv' _ R ((aq.mp h).mono fun d hd v H1 Hv1 g1 r=>hd v H1 Hv1 (gw.trans g1) (KM.mono (κ:=qN) gw.old r))
 have other:(∀ w0,e[y]?≠some (some w0))→Ma t D σ H:=fun none=>fin Hv I.gw ⟨I.vw,I.len,fun j w' z q=>by
  rcases nb q with q|rfl
  ·exact I.nob j w' z q
  ·exact absurd z (none w'),fun j w' z q=>I.own j w' z (nt q).1⟩
 cases he:e[y]? with
 | none=>exact other fun w0 z=>by rw[he] at z;cases z
 | some ow =>
  cases ow with
  | none=>exact other fun w0 z=>by rw[he] at z;cases z
  | some w0 =>
   obtain⟨p,Hv',q,I',s,r⟩:=I.aal hy he
   refine fin Hv' I'.gw ⟨I'.vw,I.len,fun j w' z q2=>?_,fun j w' z q2=>?_⟩
   ·by_cases hj:j=y
    ·subst hj
     rw[he] at z;cases z
     exact⟨_,q,r⟩
    ·exact I'.nob j w' (by rw[List.getElem?_set_ne (Ne.symm hj)];exact z) ((nb q2).resolve_right hj)
   ·obtain⟨m1,hj⟩:=nt q2
    exact I'.own j w' (by rw[List.getElem?_set_ne (Ne.symm hj)];exact z) m1
end
end A
namespace L2
end L2
namespace L2
end L2
namespace L2
end L2
namespace Mi
open PySem
def Ou{α : Type}(r:Rs α)(k:α→Prop)(x:Z1→Prop):Prop:=match r with
 | .ok a=>k a
 | .ex z=>x z
 | .no=>False
theorem uq{α β : Type}{r:Rs α}{f:α→Rs β}{k:β→Prop}{x:Z1→Prop}:Ou (r.bind f) k x↔Ou r (fun a=>Ou (f a) k x) x:=by cases r<;>exact Iff.rfl
end Mi
namespace A
open PySem L2 PyProof.Rows So
open Mi (D W Rs Fin Ou aq uq Out Tg Z1)
variable[Tb:fK]
end A
namespace L2
end L2
namespace L2
end L2
namespace L2
open PySem PySem.Spec PyProof.Rows
end L2
namespace Mi
open PySem
end Mi
namespace A
open PySem L2 PyProof.Rows So
open Mi (D W Rs Fin Ou aq uq Out Tg Z1)
variable[Tb:fK]
end A
namespace PySem.W
end PySem.W
namespace L2
open PySem PySem.Spec PyProof.Rows
open A (acL)
end L2
namespace Mi
open PySem
end Mi
namespace A
open PySem L2 PyProof.Rows So
open Mi (D W Rs Fin Ou aq uq Out Tg Z1)
variable[Tb:fK]
end A
namespace Mi
open PySem
end Mi
namespace L2
open PySem PySem.Spec PyProof.Rows
end L2
namespace A
open PySem L2 PyProof.Rows So
open Mi (D W Rs Fin aq)
variable[Tb:fK]
end A
namespace Mi
end Mi
namespace A
open PySem L2 PyProof.Rows So
open Mi (D W Rs Fin aq Out Tg)
variable[Tb:fK]
end A
namespace Mi
open PySem
end Mi
namespace L2
open PySem PySem.Spec PyProof.Rows
end L2
namespace A
open PySem L2 PyProof.Rows So
open Mi (D W Rs Fin aq)
variable[Tb:fK]
end A
namespace Mi
open PySem
end Mi
namespace A
open PySem L2 PyProof.Rows So
open Mi (D W Rs Fin Ou aq uq Out Tg Z1)
variable[Tb:fK]
end A
namespace L2
open PySem PySem.Spec PyProof.Rows
end L2
namespace Mi
open PySem
end Mi
namespace A
open PySem L2 PyProof.Rows So
open Mi (D W Rs Fin aq Out Tg)
variable[Tb:fK]
end A
namespace Mi
open PySem
def zE(x:D)(lo hi:Option Int):Rs D:=match x,lo,hi with
 | .tup ds,some a,none=>aO (0≤a∧a≤(ds.length:Int)∧ds.length≤16777216) (.ok (.tup (ds.drop a.toNat)))
 | .tup ds,none,some b=>aO (0≤b∧b≤(ds.length:Int)∧ds.length≤16777216) (.ok (.tup (ds.take b.toNat)))
 | _,_,_=>.no
end Mi
namespace L2
open PySem PySem.Spec PyProof.Rows
section
variable{pr:Program}{wo:World}{Ar:Around}{Ex:Value→Shared→Prop}{z:Shared}
theorem V2{sl:Addr}{b n:Nat}{u:Tok}{R:Int×Int×Nat→Shared→Prop}(hs:z.heap.IsSliceOf sl .none (.int b u) .none)(hb:b≤n)(h:R (((0:Nat):Int),1,b) z) :
 wpAny (model pr wo) Ar (Builtin.Slice.sliceApplied (.ref sl) (pure (n:Int))) R Ex z:=by
 obtain⟨o,ho,hc,hd⟩:=id hs
 unfold Builtin.Slice.sliceApplied Builtin.Slice.sliceFields
 refine wpAny_bind (wpAny_bind (wpAny_field ho hd (x:=.none) rfl (wpAny_bind (wpAny_field ho hd (x:=.int b u) rfl (wpAny_bind (wpAny_field ho hd (x:=.none) rfl (wpAny_pure ?_)))))))
 refine wpAny_bind (slicePart_none ?_)
 show wpAny _ _ (if ((1:Int) == 0)=true then _ else _) _ _ z
 rw[if_neg (show ¬ ((1:Int) == 0)=true by decide)]
 refine wpAny_bind (slicePart_none (wpAny_bind (slicePart_int (wpAny_bind (wpAny_pure ?_)))))
 have e1:Builtin.Slice.sliceAdjust none (some (b:Int)) 1 (n:Int)=((0:Int),(b:Int)):=by
  unfold Builtin.Slice.sliceAdjust
  have a1:¬ ((1:Int) < 0):=by omega
  have a2:¬ ((b:Int) < 0):=by omega
  simp only[a1,a2,if_false]
  congr 1
  omega
 have e2:Builtin.Slice.slicePlaces (0:Int) (b:Int) 1=b:=by
  unfold Builtin.Slice.slicePlaces
  simp only[show (1:Int) > 0 by omega,if_true,Int.ediv_one]
  split<;>omega
 show wpAny _ _ (match Builtin.Slice.sliceAdjust none (some (b:Int)) 1 (n:Int) with|(p,q)=>pure (p,(1:Int),Builtin.Slice.slicePlaces p q 1)) _ _ z
 rw[e1]
 show wpAny _ _ (pure ((0:Int),(1:Int),Builtin.Slice.slicePlaces (0:Int) (b:Int) 1)) _ _ z
 rw[e2]
 exact wpAny_pure h
theorem WT{t sl:Addr}{zs:Array Value}{lo k:Nat}{vl vu:Value}{Q:Value→Shared→Prop}(ht:IsTup z.heap t zs)(hs:z.heap.IsSliceOf sl vl vu .none)(hk:lo+k≤zs.size)
 (ap:∀ (B:Around) (F:Value→Shared→Prop) (R:Int×Int×Nat→Shared→Prop),R ((lo:Int),1,k) z→wpAny (model pr wo) B (Builtin.Slice.sliceApplied (.ref sl) (pure (zs.size:Int))) R F z)
 (h1:lo=0→k=zs.size→Q (.ref t) z) (h2:¬ (lo=0∧k=zs.size)→Q (.ref z.heap.objs.size) { z with heap:=z.heap.push { cls:=.type "tuple", data:=.seq ((zs.toList.drop lo).take k).toArray } }) (hz:zs.size≤sizeLine) :
 wpAny (model pr wo) Ar (getItem (.ref t) (.ref sl)) Q Ex z:=by
 have big:sizeOk (.seq ((zs.toList.drop lo).take k).toArray):=by
  show ((zs.toList.drop lo).take k).toArray.size≤sizeLine
  rw[List.size_toArray,List.length_take,List.length_drop,Array.length_toList];omega
 obtain⟨o,ho,hc,hd⟩:=id hs
 have ty:z.TypeIs (.ref sl) "slice" := ⟨o,ho,hc⟩
 unfold getItem
 try with_reducible refine wpAny_holding ?_
 first|refine wpAny_bind (wpAny_pure ?_)|skip
 refine wpAny_bind (wpAny_sequenceKey ht.typeIs (by decide) ?_)
 refine wpAny_bind (wpAny_callSpecial?_slot (name:=Str.ofString "__getitem__") ht.typeIs slot_tuple_getitem (wpAny_call_entry slot_tuple_getitem ht.typeIs entry_tuple_getitem ?_ (args_tuple_getitem _ _)))
 show wpAny _ _ (Builtin.Tuple.tupleItemsOf (.ref t) >>= _) _ _ z
 refine wpAny_bind (tupleItemsOf_ ht (wpAny_bind (wpAny_typeOf ty ?_)))
 rw[if_pos (by decide)]
 refine wpAny_bind (ap _ _ _ ?_)
 show wpAny _ _ (if ((lo:Int) == 0 && (1:Int) == 1 && k == zs.size)=true then _ else _) _ _ z
 by_cases w:lo=0∧k=zs.size
 ·rw[if_pos (by simp[w.1,w.2])]
  refine wpAny_bind (wpAny_bind (wpAny_typeOf ht.typeIs (wpAny_pure ?_)))
  rw[if_pos (by decide)]
  refine wpAny_bind (wpAny_rule ?_)
  first
   | exact wpAny_bind (wpAny_pure (wpAny_pure ⟨_,rfl,wpAny_pure (h1 w.1 w.2)⟩))
   | exact wpAny_pure ⟨_,rfl,wpAny_pure (h1 w.1 w.2)⟩
 ·have no:¬ (((lo:Int) == 0 && (1:Int) == 1 && k == zs.size)=true):=fun y=>by
   simp only[Bool.and_eq_true,beq_iff_eq] at y
   exact w ⟨by omega,y.2⟩
  rw[if_neg no]
  have e:((List.range k).filterMap fun (j:Nat)=>zs[((lo:Int)+(j:Int) * 1).toNat]?)=(zs.toList.drop lo).take k:=by
   have f:(fun (j:Nat)=>zs[((lo:Int)+(j:Int) * 1).toNat]?)=fun j=>zs[lo+j]?:=by
    funext j
    rw[show ((lo:Int)+(j:Int) * 1).toNat=lo+j by omega]
   have g:=pick_run zs lo k
   rw[List.filterMap_map] at g
   rw[f];exact g
  rw[e]
  have h2:=h2 w
  first
   | exact wpAny_bind (m:=Builtin.Tuple.tupleExact _) (wpAny_newObj_type (wpAny_pure ⟨_,rfl,wpAny_pure h2⟩) big)
   | exact wpAny_bind (m:=Builtin.Tuple.tupleExact _) (wpAny_newObj_type (wpAny_bind (wpAny_pure (wpAny_pure ⟨_,rfl,wpAny_pure h2⟩))) big)
   | exact wpAny_bind (wpAny_bind (m:=Builtin.Tuple.tupleExact _) (wpAny_newObj_type (wpAny_pure (wpAny_pure ⟨_,rfl,wpAny_pure h2⟩)) big))
   | exact wpAny_bind (wpAny_bind (m:=Builtin.Tuple.tupleExact _) (wpAny_newObj_type (wpAny_pure ⟨_,rfl,wpAny_pure h2⟩) big))
end
end L2
namespace A
open PySem L2 PyProof.Rows
open Mi (D W Rs Fin aq)
variable[Tb:fK]
section
variable{X:Cx}{K:PySem.W.Frag}
def abW(K:PySem.W.Frag):V→Option Int→Option Int→Hp→VK→Prop:=fun x lo hi H Q=>∃ p xs i k,x=.ref p∧zG K H p xs∧xs.length≤sizeLine∧i+k≤xs.length∧((lo=some (i:Int)∧hi=none∧i+k=xs.length)∨(lo=none∧hi=some (k:Int)∧i=0)) ∧
 (i=0→k=xs.length→Q (.ref p) H)∧∀ q,H q=none→Q (.ref q) (upd H q (.tup ((xs.drop i).take k)))
theorem W2:WL X (abW X.K):=by
 intro pins s σ H x v vl vu lo hi sl Q I rx hs pl pu h
 obtain⟨p,xs,i,k,rfl,hx,hz,hk,hc,q1,q2⟩:=h
 cases rx
 obtain⟨its,r,ht,_⟩:=I.tuple hx
 have hl:=r.length
 refine⟨"tuple", _,slot_tuple_getitem.lookup,ht.typeIs,?_⟩
 have q2:=q2 _ (I.hok.fresh (Nat.le_refl _))
 have sz:its.toArray.size=xs.length:=by rw[List.size_toArray];omega
 refine WT (zs:=its.toArray) (lo:=i) (k:=k) ht hs (by rw[sz];exact hk) (fun B F R hr=>?_) (fun e1 e2=>⟨.ref p,H,I,rfl,q1 e1 (by rw[e2,sz])⟩) (fun _=>?_) (by rw[sz];exact hz)
 ·rcases hc with ⟨rfl,rfl,e⟩|⟨rfl,rfl,e⟩
  ·cases pl with
   | int _ t =>
   cases pu
   rw[sz]
   refine sliceApplied_from hs (by omega) ?_
   rw[show xs.length - i=k by omega];exact hr
  ·cases pu with
   | int _ t =>
   cases pl
   subst e
   rw[sz]
   exact V2 hs (by omega) hr
 ·rw[show its.toArray.toList=its from rfl]
  exact⟨.ref s.heap.objs.size,_,I.laid (t':=s.toks) (o:=.tup ((xs.drop i).take k)) (fun b ob q=>Heap.get?_push_of_some _ q) (Nat.le_refl _) ⟨by rw[List.length_take,List.length_drop];omega,_,(r.drop i).take k,⟨_,Heap.get?_push_size _ rfl,rfl,rfl,0,rfl⟩⟩,rfl,q2⟩
theorem Qy:BS qV (abW K) Mi.zE:=fun x lo hi v H Hv Q vw rx h=>by
 cases x with
 | tup ds =>
  obtain⟨p,xs,rfl,l1,v1,r1⟩:=RD.tup vw rx
  have hl:=r1.len
  cases lo with
  | some a=>cases hi with
   | some c=>exact h.elim
   | none =>
    obtain⟨⟨z1,z2,z3⟩,h⟩:=Mi.aR h
    obtain⟨i,rfl⟩ : ∃ i:Nat,a=i:=⟨a.toNat,by omega⟩
    rw[Int.toNat_natCast] at h
    refine⟨p,xs,i,xs.length - i,rfl,.inl (.inl l1),by rw[← hl,sizeLine_eq];exact z3,by omega,.inl ⟨rfl,rfl,by omega⟩,fun e1 _=>?_,fun c hc=>?_⟩
    ·subst e1
     exact h _ H Hv (.refl vw) (fL.mpr ⟨p,xs,rfl,v1,r1⟩)
    ·obtain⟨g,k⟩:=qJ vw (r1.drop i) hc
     rw[List.take_of_length_le (by rw[List.length_drop];exact Nat.le_refl _)]
     exact h _ _ _ g k
  | none=>cases hi with
   | none=>exact h.elim
   | some c =>
    obtain⟨⟨z1,z2,z3⟩,h⟩:=Mi.aR h
    obtain⟨k,rfl⟩ : ∃ k:Nat,c=k:=⟨c.toNat,by omega⟩
    rw[Int.toNat_natCast] at h
    refine⟨p,xs,0,k,rfl,.inl (.inl l1),by rw[← hl,sizeLine_eq];exact z3,by omega,.inr ⟨rfl,rfl,rfl⟩,fun _ e2=>?_,fun c hc=>?_⟩
    ·have h:=h (.ref p) H Hv (.refl vw)
     rw[List.take_of_length_le (by omega)] at h
     exact h (fL.mpr ⟨p,xs,rfl,v1,r1⟩)
    ·obtain⟨g,kk⟩:=qJ vw (r1.take k) hc
     rw[List.drop_zero]
     exact h _ _ _ g kk
 | _=>exact h.elim
end
end A
namespace Mi
open PySem
end Mi
namespace L2
open PySem PySem.Spec PyProof.Rows
end L2
namespace A
open PySem L2 PyProof.Rows
open Mi (D W Rs Fin aq)
variable[Tb:fK]
end A
namespace Mi
open PySem
end Mi
namespace A
open PySem L2 PyProof.Rows So
open Mi (D W Rs Fin aq Out Tg)
variable[Tb:fK]
end A
namespace L2
open PySem PySem.Spec PyProof.Rows
def qj(h:Heap)(d:Addr)(es:Array DictEntry)(ep:Nat):Prop:=∃ o,h.get? d=some o∧o.ExactDict∧o.data=.dict es ep
theorem qj.ty{s:Shared}{d:Addr}{es:Array DictEntry}{ep:Nat}(x:qj s.heap d es ep):s.TypeIs (.ref d) "dict" := let ⟨o,e,c,_⟩:=x;⟨o,e,c.1⟩
theorem qj.lt{h:Heap}{d:Addr}{es:Array DictEntry}{ep:Nat}(x:qj h d es ep):d < h.objs.size:=let ⟨_,e,_⟩:=x;Heap.lt_size e
theorem qj.go{h h':Heap}{d:Addr}{es:Array DictEntry}{ep:Nat}(x:qj h d es ep)(k:∀ o,h.get? d=some o→h'.get? d=some o):qj h' d es ep:=let ⟨o,e,r⟩:=x;⟨o,k o e,r⟩
section
variable{P:Program}{w:World}{A:Around}{E:Value→Shared→Prop}{s:Shared}{d it:Addr}{es:Array DictEntry}{ep i:Nat}
theorem Xe{Q:Value→Shared→Prop}(nd:(d == sysModules)=false)(x:qj s.heap d es ep)
 (q:Q (.ref s.heap.objs.size) { s with heap:=s.heap.push { cls:=.type "dict_keyiterator", data:=.fields #[.ref d,.int 0 0,.int es.size 0,.int ep 0] } }):wpAny (model P w) A (pyIter (.ref d)) Q E s:=by
 obtain⟨o,e,c,dt⟩:=id x
 have ty:=x.ty
 refine wpAny_pyIter_slot ty F.slot_dict_iter (wpAny_call_entry F.slot_dict_iter ty F.entry_dict_iter ?_ (F.args_dict_iter_1 _))
 unfold Builtin.«dict.__iter__» Builtin.Dict.dictSlotNone
 refine wpAny_bind (wpAny_bind (wpAny_notOrdered_dict ty ?_))
 show wpAny _ _ (pure (Value.ref d)) _ _ s
 refine wpAny_pure ?_
 show wpAny _ _ (Builtin.Dict.showsAll d >>= _) _ _ s
 unfold Builtin.Dict.showsAll
 rw[if_neg (by rw[nd];exact Bool.false_ne_true)]
 refine wpAny_bind (wpAny_pure (wpAny_bind (wpAny_dictEntries e dt (wpAny_bind (wpAny_dictEpoch e dt ?_)))))
 refine wpAny_bind (wpAny_newObj_type (wpAny_pure ⟨_,rfl, "dict_keyiterator", _,⟨_,Heap.get?_push_size _ rfl,rfl⟩,F.slot_dict_keyiterator_next.lookup,?_⟩))
 simpa [rawInt] using q
theorem Xd{Q:Option Value→Shared→Prop}(hI:s.heap.IsKeyIter it d i es.size ep)(x:qj s.heap d es ep)(lt:i < es.size)
 (q:∀ h',h'.IsKeyIter it d (i+1) es.size ep→Heap.SameBut it s.heap h'→Q (some es[i].key) { s with heap:=h' }):wpAny (model P w) A (pyNext (.ref it)) Q E s:=by
 obtain⟨oi,ei,ci,di⟩:=id hI
 obtain⟨o,e,c,dt⟩:=id x
 unfold pyNext
 refine wpAny_bind (wpAny_attempt (wpAny_callSpecial?_slot (name:=Str.ofString "__next__") hI.typeIs F.slot_dict_keyiterator_next (wpAny_call_entry F.slot_dict_keyiterator_next hI.typeIs F.entry_dict_keyiterator_next ?_ (F.args_dict_keyiterator_next_1 _))))
 refine wpAny_bind (wpAny_pure (wpAny_bind (wpAny_bind ?_)))
 first|refine wpAny_bind (wpAny_typeNameOfWhole_keyiter hI.typeIs (wpAny_pure ?_))|refine wpAny_bind (wpAny_typeNameOf_keyiter hI.typeIs (wpAny_pure ?_))
 refine wpAny_bind (wpAny_fieldsOf ei di ?_)
 simp only[show Builtin.Dict_items.ownsTuple "dict_keyiterator" = false by decide,Bool.false_eq_true,if_false]
 show wpAny _ _ (if (Value.ref d == Value.none)=true then _ else _) _ _ s
 rw[if_neg (by exact Bool.false_ne_true)]
 refine wpAny_bind (wpAny_pure (wpAny_bind (wpAny_dictEntries e dt ?_)))
 rw[if_neg (by simp)]
 refine wpAny_bind (wpAny_pure (wpAny_bind (wpAny_dictEpoch e dt ?_)))
 rw[if_neg (by simp)]
 refine wpAny_pure ?_
 simp only[show ¬ ((i:Int) < 0) from by omega,if_false,Int.toNat_natCast,Array.getElem?_eq_getElem lt]
 refine wpAny_bind ?_
 first|refine wpAny_bind (wpAny_typeNameOfWhole_keyiter hI.typeIs (wpAny_pure ?_))|refine wpAny_bind (wpAny_typeNameOf_keyiter hI.typeIs (wpAny_pure ?_))
 refine wpAny_bind (wpAny_isOneOf_keyiter hI.typeIs ?_)
 show wpAny _ _ (setField (.ref it) 1 (rawInt ((i:Int)+1)) >>= _) _ _ s
 refine wpAny_bind (wpAny_setField ei di (by simp) ?_)
 have hJ:(s.heap.update it (Obj.mapFields (·.setIfInBounds 1 (rawInt ((i:Int)+1))))).IsKeyIter it d (i+1) es.size ep :=
  ⟨_,Heap.get?_update_self _ ei (Obj.isFreed_of_fields (Obj.data_mapFields di _)),(Obj.cls_mapFields ..).trans ci,by rw[Obj.data_mapFields di];simp[rawInt]⟩
 refine wpAny_bind (wpAny_holding (wpAny_bind (wpAny_isOneOf_keyiter (s:={ s with heap:=s.heap.update it (Obj.mapFields (·.setIfInBounds 1 (rawInt ((i:Int)+1)))) }) hJ.typeIs ?_)))
 show wpAny _ _ (pure es[i].key) _ _ _
 exact wpAny_pure (wpAny_pure ⟨_,rfl,wpAny_pure (q _ hJ (Heap.SameBut.update ..))⟩)
theorem aap{Q:Option Value→Shared→Prop}(hh:A.handled=none)(hI:s.heap.IsKeyIter it d i es.size ep)(x:qj s.heap d es ep)(ge:es.size≤i)
 (q:∀ h',Heap.ExtBut it s.heap h'→Q none { s with heap:=h' }):wpAny (model P w) A (pyNext (.ref it)) Q E s:=by
 obtain⟨oi,ei,ci,di⟩:=id hI
 obtain⟨o,e,c,dt⟩:=id x
 unfold pyNext
 refine wpAny_bind (wpAny_attempt (wpAny_callSpecial?_slot (name:=Str.ofString "__next__") hI.typeIs F.slot_dict_keyiterator_next (wpAny_call_entry F.slot_dict_keyiterator_next hI.typeIs F.entry_dict_keyiterator_next ?_ (F.args_dict_keyiterator_next_1 _))))
 refine wpAny_bind (wpAny_pure (wpAny_bind (wpAny_bind ?_)))
 first|refine wpAny_bind (wpAny_typeNameOfWhole_keyiter hI.typeIs (wpAny_pure ?_))|refine wpAny_bind (wpAny_typeNameOf_keyiter hI.typeIs (wpAny_pure ?_))
 refine wpAny_bind (wpAny_fieldsOf ei di ?_)
 simp only[show Builtin.Dict_items.ownsTuple "dict_keyiterator" = false by decide,Bool.false_eq_true,if_false]
 show wpAny _ _ (if (Value.ref d == Value.none)=true then _ else _) _ _ s
 rw[if_neg (by exact Bool.false_ne_true)]
 refine wpAny_bind (wpAny_pure (wpAny_bind (wpAny_dictEntries e dt ?_)))
 rw[if_neg (by simp)]
 refine wpAny_bind (wpAny_pure (wpAny_bind (wpAny_dictEpoch e dt ?_)))
 rw[if_neg (by simp)]
 refine wpAny_pure ?_
 simp only[show ¬ ((i:Int) < 0) from by omega,if_false,Int.toNat_natCast,Array.getElem?_eq_none ge]
 refine wpAny_bind ?_
 first|refine wpAny_bind (wpAny_typeNameOfWhole_keyiter hI.typeIs (wpAny_pure ?_))|refine wpAny_bind (wpAny_typeNameOf_keyiter hI.typeIs (wpAny_pure ?_))
 show wpAny _ _ (setField (.ref it) 0 .none >>= _) _ _ s
 refine wpAny_bind (wpAny_setField ei di (by simp) ?_)
 show wpAny _ _ (newExc (.type "StopIteration") [] >>= _) _ _ _
 refine wpAny_bind ?_
 simp only[newExc,newTuple]
 refine wpAny_bind (wpAny_newObj_type ?_ (by size_fits))
 refine wpAny_bind (m:=firstArgMember _ _) (wpAny_of_eq (a:=Value.none) (by first|rfl|(simp only[firstArgMember];rfl)) (wpAny_newObj_type ?_ (by size_fits)))
 simp only[raiseNew]
 refine wpAny_bind (wpAny_handled ?_)
 rw[show A.in1.handled=none from hh]
 refine wpAny_bind (wpAny_pure (wpAny_throw ?_))
 exact wpAny_bind (wpAny_isInstance (b:=true) (T := "StopIteration") ⟨_,Heap.get?_push_size _ rfl,rfl⟩ isSubtype_stop (wpAny_pure (q _ (((Heap.SameBut.update ..).extBut.push _).push _))))
end
end L2
namespace So
end So
namespace Mi
open PySem
def kyD:Ky→D
 | .inl i=>.int i
 | .inr x=>.str x
def asF:W→Rs W
 | .dt kvs=>.ok (.df kvs)
 | _=>.no
def S7(m:EW):EW:=fun e=>(m e).bind asF
def HN(i:Nat):I:=fun e=>(wV i e).bind fun w=>match w with
 | .df kvs=>.ok (kvs.map fun kv=>.tup (kv.1.map kyD))
 | _=>.no
def Bw(i:Nat):E:=fun e=>(wV i e).bind fun w=>match w with
 | .dt kvs=>.ok (.int kvs.length)
 | .df kvs=>.ok (.int kvs.length)
 | _=>.no
def Vk(i:Nat):E:=fun e=>(wV i e).bind fun w=>match w with
 | .dt kvs=>.ok (.lst (kvs.map (·.2)))
 | _=>.no
def Wt:W→Rs D
 | .d (.lst ds)=>aO (Ca ds=true) (.ok (.lst ds))
 | _=>.no
def Bx(f:Fn)(as:List EW):E:=fun e=>(jG f as e).bind Wt
def Kw:D→Rs D
 | .tup ds=>aO (ds.length≤1000) (.ok (.tup ds.reverse))
 | _=>.no
end Mi
namespace L2
open PySem PySem.Spec PyProof.Rows
theorem Inv.adU{X:Cx}{pins:List (Addr×Obj)}{σ : St}{H:Hp}{s:Shared}{a:Addr}{kv:List (List Key×V)}(I:Inv X pins σ H s)(h:H a=some (.dT kv)):∃ ob,Inv X pins σ (upd H a (.frz ob (.dT kv))) s:=by
 obtain⟨z1,z2,xs,r,ob,es,ep,e,c⟩:=(show bW X.prog X.w H s.heap a (.dT kv) from I.hok a _ h)
 have ne:∀ b u,H b=some u→u≠.dT kv→b≠a:=fun b u q n z=>by subst z;rw[h] at q;exact n (Option.some.inj q).symm
 have st:∀ b u,bW X.prog X.w H s.heap b u→bW X.prog X.w (upd H a (.frz ob (.dT kv))) s.heap b u:=fun b u q =>
  q.stay (fun _ _ _ q=>q) (fun c q=>by rw[aF (ne c _ q (by simp))];exact q) fun c xs q=>by rw[aF (ne c _ q (by simp))];exact q
 refine⟨ob,I.un (t':=s.toks) ⟨fun b o q _ _ _=>q,fun b o q _ _ _=>⟨o.slots,q⟩,fun b o q n _=>by rw[aF (fun z=>by subst z;rw[h] at n;cases n)];exact n,fun b o q _=>⟨o,q⟩,
  fun b xs q=>by rw[aF (ne b _ q (by simp))];exact q,fun b o u q=>by rw[aF (ne b _ q (by simp))];exact q,fun b w ps q=>⟨#[],by rw[aF (ne b _ q (by simp)),q];simp⟩⟩ fun b u q=>?_⟩
 by_cases hb:b=a
 ·subst hb;rw[aV] at q;cases q
  exact⟨e,st b _ (I.hok b _ h)⟩
 ·rw[aF hb] at q
  exact st b u (I.hok b u q)
def abG(te:TE):TE:=fun σ H Q=>te σ H fun v H1=>∃ a kv,v=.ref a∧H1 a=some (.dT kv)∧∀ ob,Q v (upd H1 a (.frz ob (.dT kv)))
theorem Uq{X:Cx}{e:Expr}{te:TE}(h:PE X e te):PE X e (abG te):=fun pins s σ H Q I q =>
 eU (h pins s σ H _ I q) fun v s1 ⟨x,H1,I1,r1,a,kv,e,q1,q2⟩=>by
  obtain⟨ob,I2⟩:=I1.adU q1
  exact⟨x,_,I2,r1,q2 ob⟩
def Itd(a:Addr)(ob:Obj)(kv:List (List Key×V)):It :=
 ⟨fun i H=>H a=some (.frz ob (.dT kv))∧i < kv.length,fun i H x H'=>H'=H∧∃ b k v,kv[i]? = some (k,v)∧x=.ref b∧H b=some (.tup (k.map kV)),fun i H=>H a=some (.frz ob (.dT kv))∧kv.length≤i⟩
theorem xV{α β : Type}{F:α→β→Prop}:∀ {l:List α} {m:List β} {i:Nat} {x:α},Paired F l m→l[i]? = some x→∃ y,m[i]? = some y∧F x y
 | _,_,_,_,.nil,e=>by simp at e
 | _,_,0,_,.cons r _,e=>by simp at e;subst e;exact⟨_,rfl,r⟩
 | _,_,i+1,x,.cons _ t,e=>by
  obtain⟨u,h1,h2⟩:=xV (i:=i) (x:=x) t (by simpa using e)
  exact⟨u,by simpa using h1,h2⟩
theorem Nq{X:Cx}{pins:List (Addr×Obj)}{σ : St}{H:Hp}{s:Shared}{a:Addr}{ob:Obj}{kv:List (List Key×V)}(I:Inv X pins σ H s)(q:H a=some (.frz ob (.dT kv))) :
 (a == sysModules)=false∧kv.length≤sizeLine∧∃ es ep,ob.data=.dict es ep∧qj s.heap a es ep∧es.size=kv.length∧∀ i k v,kv[i]? = some (k,v)→∃ (lt:i < es.size) (b:Addr),es[i].key=.ref b∧H b=some (.tup (k.map kV))∧RelV v es[i].val:=by
 obtain⟨e,z1,z2,xs,r,ob',es,ep,e',c1,c2,c3,c4⟩:=(show bW X.prog X.w H s.heap a (.frz ob (.dT kv)) from I.hok a _ q)
 rw[e] at e';cases e'
 have hl:es.size=xs.length:=size_of_entries c3
 have hl2:kv.length=xs.length:=Paired.length r
 refine⟨z2,z1,es,ep,c2,⟨ob,e,c1,c2⟩,by omega,fun i k v hk=>?_⟩
 obtain⟨x,hx,h1,h2,h3⟩:=xV r hk
 have lt:i < es.size:=by rw[hl];exact(List.getElem?_eq_some_iff.mp hx).1
 have he:=entry_at c3 i
 rw[hx,Option.map_some,Array.getElem?_eq_getElem lt] at he
 have he:=Option.some.inj he
 refine⟨lt,x.2.1,by rw[he];rfl,h2,by rw[he];exact h3⟩
theorem QQ{P:Program}{w:World}{K:PySem.W.Frag}{tg:Expr}(a it:Addr)(ob:Obj)(es:Array DictEntry)(ep:Nat)(kv:List (List Key×V))(hd:ob.data=.dict es ep) :
 Turn P w K tg (Itd a ob kv) [it] it (fun i h=>h.IsKeyIter it a i es.size ep) where
 mem:=List.mem_singleton.mpr rfl
 obj:=fun i h st b hb=>by
  cases List.mem_singleton.mp hb
  obtain⟨o,e,c,d⟩:=st
  exact⟨o,e,fun v z=>by rw[d] at z;cases z⟩
 keep:=fun i h h' st k=>st.at fun o e=>k it (List.mem_singleton.mpr rfl) o e
 item:=by
  intro X hP hw hK hc i pins s σ H E I hf st hg
  subst hP hw hK
  obtain⟨q,lt⟩:=hg
  obtain⟨_,_,es',ep',d',R,hl,at_⟩:=Nq I q
  rw[hd] at d';cases d'
  obtain⟨f0,f1,f2,f3,f4,f5⟩:=hf it (List.mem_singleton.mpr rfl)
  obtain⟨⟨k,v⟩,hk⟩ : ∃ p,kv[i]? = some p:=⟨kv[i],by simp[lt]⟩
  obtain⟨lt',b,ek,hb,_⟩:=at_ i k v hk
  refine Xd st R lt' fun h' st' sb=>?_
  have I1:Inv X pins σ H { s with heap:=h' }:=I.turned (t':=s.toks) (fun b o hb e=>(sb.2 b hb).trans e) f0 f1 f3 f4 f5
  obtain⟨o,e,c,d⟩:=id st'
  exact⟨_,rfl,Km (s:={ s with heap:=h' }) e c d (by decide) ⟨.ref b,H,I1,ek,⟨rfl,b,k,v,hk,rfl,hb⟩,st',fun b hb=>(hf b hb).1⟩⟩
 done:=by
  intro X hP hw hK hc i pins s σ H E I hf st hg
  subst hP hw hK
  obtain⟨q,ge⟩:=hg
  obtain⟨_,_,es',ep',d',R,hl,at_⟩:=Nq I q
  rw[hd] at d';cases d'
  obtain⟨f0,f1,f2,f3,f4,f5⟩:=hf it (List.mem_singleton.mpr rfl)
  exact aap (I.ok.hd hc) st R (by omega) fun h' eb=>⟨rfl,I.turned (t':=s.toks) (fun b o hb e=>eb b o hb e) f0 f1 f3 f4 f5⟩
 self:=fun _ _ _ _ _ st h=>wpAny_pyIter_keyiter st h
def HN(tl:TE):TI:=fun σ H R=>tl σ H fun x H1=>∃ a ob kv,x=.ref a∧H1 a=some (.frz ob (.dT kv))∧R (Itd a ob kv) H1
theorem Xl{X:Cx}{tg l:Expr}{tl:TE}(hl:PE X l tl):PI X tg l (HN tl):=by
 intro pins s σ H R I h
 refine eU (hl pins s σ H _ I h) fun v s1 ⟨x,H1,I1,r1,a,ob,kv,e,hq,q⟩=>?_
 subst e
 cases r1
 obtain⟨nd,_,es,ep,d,Rw,hn,_⟩:=Nq I1 hq
 refine Xe nd Rw ⟨s1.heap.objs.size,[s1.heap.objs.size],_,_,H1,rfl,I1.kept (t':=s1.toks) fun b o e=>Heap.get?_push_of_some _ e,QQ a _ ob es ep kv d,⟨_,Heap.get?_push_size _ rfl,rfl,rfl⟩,fun b hb=>?_,q⟩
 cases List.mem_singleton.mp hb
 exact I1.vD (Nat.le_refl _) (I1.hok.fresh (Nat.le_refl _))
end L2
namespace A
open PySem L2 PyProof.Rows
open Mi (D W Rs Fin aq)
variable[Tb:fK]{M:Nat→Bool}
theorem M9{H:Hp}:∀ (k:List Key),P2 (Rep H) (k.map Mi.kyD) (k.map kV)
 | []=>.nil
 | .inl i::r=>.cons (n6.mpr rfl) (M9 r)
 | .inr x::r=>.cons (mL.mpr rfl) (M9 r)
theorem aaR{H Hv H' Hv':Hp}(g:cY H Hv H' Hv'){a:Addr}{kv:List (List Key×V)}{kvs:List (List Mi.Ky×D)}(n:H a=none)(q:H' a=some (.dT kv))(nv:Hv' a=none)(c:Dz Hv' kvs kv)(ob:Obj) :
 ∃ Dp,cY H Hv (upd H' a (.frz ob (.dT kv))) Dp∧uE Dp (.df kvs) (.ref a):=by
 have ne:∀ b u,H b=some u→b≠a:=fun b u e z=>by subst z;rw[n] at e;cases e
 have sm:gR Hv' (upd Hv' a (.frz ob (.dT kv))):=sr nv
 refine⟨upd Hv' a (.frz ob (.dT kv)),⟨?_,g.vis.trans sm,⟨fun b u e=>?_,fun b xs e=>?_,fun b o u e=>?_,g.vw.cd.put q trivial trivial,fun b u e=>?_⟩,fun b u e m=>?_⟩,a,ob,kv,rfl,aV,c.same sm⟩
 ·exact g.old.put n q
 ·by_cases hb:b=a
  ·subst hb;rw[aV] at e ⊢;exact e
  ·rw[aF hb] at e ⊢;exact g.vw.sub b u e
 ·by_cases hb:b=a
  ·subst hb;rw[aV] at e;cases e
  ·rw[aF hb] at e ⊢;exact g.vw.tup b xs e
 ·by_cases hb:b=a
  ·subst hb;rw[aV] at e ⊢;exact e
  ·rw[aF hb] at e ⊢;exact g.vw.frz b o u e
 ·by_cases hb:b=a
  ·subst hb;rw[aV] at e;cases e;trivial
  ·rw[aF hb] at e;exact g.vw.nv b u e
 ·rw[aF (ne b u e)];exact g.hid b u e m
theorem Wl{t:TE}{m:Mi.EW}(h:AW M qN t m):AW M qV (abG t) (Mi.S7 m):=fun e σ H Hv Q I q =>
 h e σ H Hv _ I ((aq.mp q).mono fun w z v H' Hv' g k=>by
  obtain⟨a,o,rfl,n,q1,nv,c⟩:=k
  cases w with
  | dt kvs=>cases o with
   | dT kv =>
    refine⟨a,kv,rfl,q1,fun ob=>?_⟩
    obtain⟨Dp,g',r⟩:=aaR g n q1 nv c ob
    exact z (.ref a) _ Dp g' r
   | _=>exact c.elim
  | _=>exact z.elim)
theorem YQ(i:Nat)(hm:M i=false):QL M (HN (pA i)) (Mi.HN i):=fun e σ H Hv R I h=>by
 obtain⟨w,he,h⟩:=vX (aq.mp h)
 obtain⟨v,hv,r⟩:=I.nob i w he hm
 cases w with
 | df kvs =>
  obtain⟨a,ob,kv,rfl,q,c⟩:=r
  refine⟨.ref a,hv,a,ob,kv,rfl,I.vw.sub _ _ q,h (Itd a ob kv) H Hv (fun H Hv=>Hv a=some (.frz ob (.dT kv))∧Dz Hv kvs kv) (.refl I.vw) ⟨fun i H Hv p v hi=>?_,fun i H Hv x H' p v hi y=>?_,fun H Hv p v=>?_⟩ ⟨q,c⟩ fun H1 Hv1 H2 Hv2 z s v=>⟨s _ _ z.1,z.2.same s⟩⟩
  ·exact⟨v.sub _ _ p.1,by rw[← P2.len p.2];simpa using hi⟩
  ·obtain⟨rfl,b,k,v',hk,rfl,hb⟩:=y
   obtain⟨kd,hkd,e1,_⟩:=P2.aaX p.2 hk
   refine⟨Hv,.tup (kd.1.map Mi.kyD),.refl v,by rw[List.getElem?_map,hkd];rfl,fL.mpr ⟨b,_,rfl,v.tup _ _ hb,?_⟩⟩
   have e1:kd.1=k:=e1
   rw[e1]
   exact M9 k
  ·exact⟨v.sub _ _ p.1,by rw[← P2.len p.2];simp⟩
 | _=>exact h.elim
end A
namespace L2
open PySem PySem.Spec PyProof.Rows
section
variable{P:Program}{w:World}{A:Around}{E:Value→Shared→Prop}{s:Shared}{d it:Addr}{es:Array DictEntry}{ep i:Nat}
theorem aao{Q:Value→Shared→Prop}(nd:(d == sysModules)=false)(x:qj s.heap d es ep)(hf:(es.size:Int) < 2 ^ 63)(q:Q (.int es.size (s.toks+1)) { s with toks:=s.toks+1+1 }):wpAny (model P w) A (call (.builtin "len") [.ref d]) Q E s:=by
 have m:MeetsIn P w (Builtin.«dict.__len__» ⟨[.ref d],[]⟩) (fun _ R s=>(∃ ep,qj s.heap d es ep)∧R (.ok (.ret (.int es.size s.toks))) { s with toks:=s.toks+1 }):=.of_wp fun A R s ⟨⟨ep,o,e,c,dt⟩,h⟩=>by
  show wpAny _ _ (dictSize d >>= _) _ _ s
  unfold dictSize
  refine wpAny_bind (wpAny_bind (wpAny_dictEntries e dt (wpAny_pure ?_)))
  show wpAny _ _ (Builtin.Dict.pendingCount d >>= _) _ _ s
  refine wpAny_bind (wpAny_pendingCount_other nd (wpAny_ret_mkInt ?_))
  rw[Nat.add_zero];exact h
 refine Calls.call_function_entry kind_len plain_len entry_len (args_len1 _) ?_
 unfold Builtin.«len»
 refine wpAny_bind (m:=oneArg "len" _) (wpAny_pure (wpAny_bind (m:=callSpecial? (.ref d) (Str.ofString "__len__")) (wpAny_callSpecial?_slot (name:=Str.ofString "__len__") x.ty F.slot_dict_len (call_meetsIn F.slot_dict_len x.ty F.entry_dict_len (F.args_dict_len_1 _) m ⟨⟨ep,x⟩,?_⟩))))
 show wpAny _ _ _ _ _ { s with toks:=s.toks+1 }
 refine wpAny_bind (wpAny_holding (wpAny_pure (wpAny_bind (wpAny_letGo ?_))))
 show wpAny _ _ (if ((es.size:Nat):Int) < 0 then _ else _) _ _ _
 rw[if_neg (by omega)]
 show wpAny _ _ (if ((es.size:Nat):Int) ≥ 2 ^ 63 then _ else _) _ _ _
 rw[if_neg (by omega)]
 exact wpAny_bind (wpAny_mkInt (wpAny_pure ⟨_,rfl,q⟩))
theorem Xc(nd:(d == sysModules)=false):MeetsIn P w (Builtin.«dict.values» ⟨[.ref d],[]⟩) (fun _ R s=>(∃ es ep,qj s.heap d es ep)∧R (.ok (.ret (.ref s.heap.objs.size))) { s with heap:=s.heap.push { cls:=.type "dict_values", data:=.fields #[.ref d] } }) :=
 .of_wp fun A R s ⟨⟨es,ep,x⟩,h⟩=>by
  refine wpAny_bind ?_
  unfold Builtin.Dict.noArgs
  refine wpAny_bind (wpAny_notOrdered_dict x.ty ?_)
  show wpAny _ _ (pure d) _ _ s
  refine wpAny_pure ?_
  show wpAny _ _ (Builtin.Dict.showsAll d >>= _) _ _ s
  unfold Builtin.Dict.showsAll
  rw[if_neg (by rw[nd];exact Bool.false_ne_true)]
  exact wpAny_bind (wpAny_pure (wpAny_bind (wpAny_newObj_type (wpAny_pure ⟨_,rfl,h⟩))))
theorem T9{v:Addr}{Q:Value→Shared→Prop}(hv:s.heap.IsValuesView v d)(x:qj s.heap d es ep)
 (q:Q (.ref s.heap.objs.size) { s with heap:=s.heap.push { cls:=.type "dict_valueiterator", data:=.fields #[.ref d,.int 0 0,.int es.size 0,.int ep 0] } }):wpAny (model P w) A (pyIter (.ref v)) Q E s:=by
 obtain⟨ov,ev,cv,dv⟩:=id hv
 obtain⟨o,e,c,dt⟩:=id x
 refine wpAny_pyIter_slot hv.typeIs F.slot_dict_values_iter (wpAny_call_entry F.slot_dict_values_iter hv.typeIs F.entry_dict_values_iter ?_ (F.args_dict_values_iter_1 _))
 unfold Builtin.«dict_values.__iter__»
 refine wpAny_bind (wpAny_pure (wpAny_bind ?_))
 unfold Builtin.Dict_items.dictOf
 refine wpAny_bind (wpAny_field ev dv (x:=.ref d) rfl (wpAny_pure (wpAny_bind ?_)))
 unfold Builtin.Dict_items.newIterator
 refine wpAny_bind (wpAny_dictEntries e dt (wpAny_bind (wpAny_dictEpoch e dt ?_)))
 simp only[show Builtin.Dict_items.ownsTuple "dict_valueiterator" = false by decide,Bool.false_eq_true,if_false]
 refine wpAny_newObj_type (wpAny_pure ⟨_,rfl, "dict_valueiterator", _,⟨_,Heap.get?_push_size _ rfl,rfl⟩,F.slot_dict_valueiterator_next.lookup,?_⟩)
 simpa [rawInt] using q
theorem T8{Q:Option Value→Shared→Prop}(hI:s.heap.IsValIter it d i es.size ep)(x:qj s.heap d es ep)(lt:i < es.size)
 (q:∀ h',h'.IsValIter it d (i+1) es.size ep→Heap.SameBut it s.heap h'→Q (some es[i].val) { s with heap:=h' }):wpAny (model P w) A (pyNext (.ref it)) Q E s:=by
 obtain⟨oi,ei,ci,di⟩:=id hI
 obtain⟨o,e,c,dt⟩:=id x
 unfold pyNext
 refine wpAny_bind (wpAny_attempt (wpAny_callSpecial?_slot (name:=Str.ofString "__next__") hI.typeIs F.slot_dict_valueiterator_next (wpAny_call_entry F.slot_dict_valueiterator_next hI.typeIs F.entry_dict_valueiterator_next ?_ (F.args_dict_valueiterator_next_1 _))))
 refine wpAny_bind (wpAny_pure (wpAny_bind (wpAny_bind ?_)))
 first|refine wpAny_bind (wpAny_typeNameOfWhole_valiter hI.typeIs (wpAny_pure ?_))|refine wpAny_bind (wpAny_typeNameOf_valiter hI.typeIs (wpAny_pure ?_))
 refine wpAny_bind (wpAny_fieldsOf ei di ?_)
 simp only[show Builtin.Dict_items.ownsTuple "dict_valueiterator" = false by decide,Bool.false_eq_true,if_false]
 show wpAny _ _ (if (Value.ref d == Value.none)=true then _ else _) _ _ s
 rw[if_neg (by exact Bool.false_ne_true)]
 refine wpAny_bind (wpAny_pure (wpAny_bind (wpAny_dictEntries e dt ?_)))
 rw[if_neg (by simp)]
 refine wpAny_bind (wpAny_pure (wpAny_bind (wpAny_dictEpoch e dt ?_)))
 rw[if_neg (by simp)]
 refine wpAny_pure ?_
 simp only[show ¬ ((i:Int) < 0) from by omega,if_false,Int.toNat_natCast,Array.getElem?_eq_getElem lt]
 refine wpAny_bind ?_
 first|refine wpAny_bind (wpAny_typeNameOfWhole_valiter hI.typeIs (wpAny_pure ?_))|refine wpAny_bind (wpAny_typeNameOf_valiter hI.typeIs (wpAny_pure ?_))
 refine wpAny_bind (wpAny_isOneOf_valiter hI.typeIs ?_)
 show wpAny _ _ (setField (.ref it) 1 (rawInt ((i:Int)+1)) >>= _) _ _ s
 refine wpAny_bind (wpAny_setField ei di (by simp) ?_)
 have hJ:(s.heap.update it (Obj.mapFields (·.setIfInBounds 1 (rawInt ((i:Int)+1))))).IsValIter it d (i+1) es.size ep :=
  ⟨_,Heap.get?_update_self _ ei (Obj.isFreed_of_fields (Obj.data_mapFields di _)),(Obj.cls_mapFields ..).trans ci,by rw[Obj.data_mapFields di];simp[rawInt]⟩
 refine wpAny_bind (wpAny_holding (wpAny_bind (wpAny_isOneOf_valiter (s:={ s with heap:=s.heap.update it (Obj.mapFields (·.setIfInBounds 1 (rawInt ((i:Int)+1)))) }) hJ.typeIs ?_)))
 refine wpAny_bind (wpAny_isOneOf_valiter (s:={ s with heap:=s.heap.update it (Obj.mapFields (·.setIfInBounds 1 (rawInt ((i:Int)+1)))) }) hJ.typeIs ?_)
 show wpAny _ _ (pure es[i].val) _ _ _
 exact wpAny_pure (wpAny_pure ⟨_,rfl,wpAny_pure (q _ hJ (Heap.SameBut.update ..))⟩)
theorem Xb{Q:Option Value→Shared→Prop}(hh:A.handled=none)(hI:s.heap.IsValIter it d i es.size ep)(x:qj s.heap d es ep)(ge:es.size≤i)
 (q:∀ h',Heap.ExtBut it s.heap h'→Q none { s with heap:=h' }):wpAny (model P w) A (pyNext (.ref it)) Q E s:=by
 obtain⟨oi,ei,ci,di⟩:=id hI
 obtain⟨o,e,c,dt⟩:=id x
 unfold pyNext
 refine wpAny_bind (wpAny_attempt (wpAny_callSpecial?_slot (name:=Str.ofString "__next__") hI.typeIs F.slot_dict_valueiterator_next (wpAny_call_entry F.slot_dict_valueiterator_next hI.typeIs F.entry_dict_valueiterator_next ?_ (F.args_dict_valueiterator_next_1 _))))
 refine wpAny_bind (wpAny_pure (wpAny_bind (wpAny_bind ?_)))
 first|refine wpAny_bind (wpAny_typeNameOfWhole_valiter hI.typeIs (wpAny_pure ?_))|refine wpAny_bind (wpAny_typeNameOf_valiter hI.typeIs (wpAny_pure ?_))
 refine wpAny_bind (wpAny_fieldsOf ei di ?_)
 simp only[show Builtin.Dict_items.ownsTuple "dict_valueiterator" = false by decide,Bool.false_eq_true,if_false]
 show wpAny _ _ (if (Value.ref d == Value.none)=true then _ else _) _ _ s
 rw[if_neg (by exact Bool.false_ne_true)]
 refine wpAny_bind (wpAny_pure (wpAny_bind (wpAny_dictEntries e dt ?_)))
 rw[if_neg (by simp)]
 refine wpAny_bind (wpAny_pure (wpAny_bind (wpAny_dictEpoch e dt ?_)))
 rw[if_neg (by simp)]
 refine wpAny_pure ?_
 simp only[show ¬ ((i:Int) < 0) from by omega,if_false,Int.toNat_natCast,Array.getElem?_eq_none ge]
 refine wpAny_bind ?_
 first|refine wpAny_bind (wpAny_typeNameOfWhole_valiter hI.typeIs (wpAny_pure ?_))|refine wpAny_bind (wpAny_typeNameOf_valiter hI.typeIs (wpAny_pure ?_))
 show wpAny _ _ (setField (.ref it) 0 .none >>= _) _ _ s
 refine wpAny_bind (wpAny_setField ei di (by simp) ?_)
 show wpAny _ _ (newExc (.type "StopIteration") [] >>= _) _ _ _
 refine wpAny_bind ?_
 simp only[newExc,newTuple]
 refine wpAny_bind (wpAny_newObj_type ?_ (by size_fits))
 refine wpAny_bind (m:=firstArgMember _ _) (wpAny_of_eq (a:=Value.none) (by first|rfl|(simp only[firstArgMember];rfl)) (wpAny_newObj_type ?_ (by size_fits)))
 simp only[raiseNew]
 refine wpAny_bind (wpAny_handled ?_)
 rw[show A.in1.handled=none from hh]
 refine wpAny_bind (wpAny_pure (wpAny_throw ?_))
 exact wpAny_bind (wpAny_isInstance (b:=true) (T := "StopIteration") ⟨_,Heap.get?_push_size _ rfl,rfl⟩ isSubtype_stop (wpAny_pure (q _ (((Heap.SameBut.update ..).extBut.push _).push _))))
theorem abw{h h':Heap}{it d:Addr}{i n ep:Nat}(x:h.IsValIter it d i n ep)(e:∀ o,h.get? it=some o→h'.get? it=some o):h'.IsValIter it d i n ep:=let ⟨o,ho,r⟩:=x;⟨o,e _ ho,r⟩
theorem T7(hh:A.handled=none)(I d:Addr)(hne:d≠I)(es:Array DictEntry)(ep:Nat):Walks P w A I [I,d] [I] es.size (fun i v=>∃ lt:i < es.size,v=es[i].val) (fun i h=>h.IsValIter I d i es.size ep∧qj h d es ep) where
 sub:=fun b hb=>by cases List.mem_singleton.mp hb;simp
 frame:=fun _ _ _ st hk=>⟨abw st.1 fun o e=>hk I (by simp) o e,st.2.go fun o e=>hk d (by simp) o e⟩
 item:=fun i s Q E hi st hQ=>T8 st.1 st.2 hi fun h' st' hs=>hQ _ h' s.toks ⟨hi,rfl⟩ ⟨st',st.2.go fun o e=>hs.extBut d o hne e⟩ fun b o hb e=>hs.extBut b o (fun z=>hb (by simp[z])) e
 done:=fun s Q E st hQ=>Xb hh st.1 st.2 (Nat.le_refl _) fun h' he=>hQ h' s.toks fun b o hb e=>he b o (fun z=>hb (by simp[z])) e
 self:=fun _ _ _ _ st hQ=>wpAny_pyIter_valiter st.1 hQ
theorem aam{r d:Addr}:PySem.W.KdlSrc P w "dict_values" r d es.size (fun i v=>∃ lt:i < es.size,v=es[i].val) (fun h=>h.IsValuesView r d∧qj h d es ep) where
 type:=fun _ hm=>hm.1.typeIs
 there:=fun _ hm=>⟨let ⟨_,ho,_⟩:=hm.1;Heap.lt_size ho,hm.2.lt⟩
 keep:=fun _ _ hm hk=>⟨let ⟨o,ho,x⟩:=hm.1;⟨o,hk r (.inl rfl) o ho,x⟩,hm.2.go fun o e=>hk d (.inr rfl) o e⟩
 notList:=by decide
 notTuple:=by decide
 hint:=fun _ _ _ _ hm hq=>PySem.W.kdl_hint_values hm.1.typeIs hq
 iter:=fun _ _ hh hm=>⟨_,_,(fun _ _ hq=>T9 hm.1 hm.2 hq),T7 hh _ d (Nat.ne_of_lt hm.2.lt) es ep,⟨⟨_,Heap.get?_push_size _ rfl,rfl,rfl⟩,hm.2.go fun o e=>Heap.get?_push_of_some _ e⟩⟩
end
section
variable{X:Cx}{pins:List (Addr×Obj)}{σ : St}{H:Hp}{s:Shared}{a:Addr}{kv:List (List Key×V)}
theorem Nx(I:Inv X pins σ H s)(q:Rd H a (.dT kv)):(a == sysModules)=false∧kv.length≤sizeLine∧∃ es ep,qj s.heap a es ep∧es.size=kv.length∧∀ i k v,kv[i]? = some (k,v)→∃ lt:i < es.size,RelV v es[i].val:=by
 obtain⟨z1,z2,xs,r,ob,es,ep,e,c1,c2,c3,c4⟩:=(show bW X.prog X.w H s.heap a (.dT kv) from q.ok I.hok)
 have hl:es.size=xs.length:=size_of_entries c3
 have hl2:kv.length=xs.length:=Paired.length r
 refine⟨z2,z1,es,ep,⟨ob,e,c1,c2⟩,by omega,fun i k v hk=>?_⟩
 obtain⟨x,hx,h1,h2,h3⟩:=xV r hk
 have lt:i < es.size:=by rw[hl];exact(List.getElem?_eq_some_iff.mp hx).1
 have he:=entry_at c3 i
 rw[hx,Option.map_some,Array.getElem?_eq_getElem lt] at he
 have he:=Option.some.inj he
 exact⟨lt,by rw[he];exact h3⟩
def Ug:List V→Hp→VK→Prop:=fun xs H Q=>∃ a kv,xs=[V.ref a]∧Rd H a (.dT kv)∧Q (.int kv.length) H
theorem Fl:jo X (.builtin "len") Ug:=by
 intro pins s σ H xs us Q I r h
 obtain⟨a,kv,rfl,ha,q⟩:=h
 obtain⟨u,rfl,ru⟩:=vals1 r
 cases ru
 obtain⟨nd,z,es,ep,x,hl,_⟩:=Nx I ha
 rw[sizeLine_eq] at z
 refine aao nd x (by omega) ⟨.int kv.length,H,I.tok _,⟨_,by rw[hl]⟩,q⟩
def Jm(p a:Addr):Heap→Prop:=fun h=>h.IsValuesView p a
def Zh:V→List V→Hp→VK→Prop:=fun x xs H Q=>∃ a kv,x=.ref a∧xs=[]∧H a=some (.dT kv)∧∀ p,H p=none→Q (.ref p) (upd H p (.ext (Jm p a)))
theorem Xz:SM X "dict.values" Zh:=by
 intro pins s σ H x xs v us Q I rx r h
 obtain⟨a,kv,rfl,rfl,ha,q⟩:=h
 cases rx
 cases r
 obtain⟨nd,z,es,ep,x,hl,_⟩:=Nx I (.inl ha)
 refine call_meetsIn PySem.F.slot_dict_values x.ty PySem.F.entry_dict_values (PySem.F.args_dict_values_1 _) (Xc nd) ⟨⟨es,ep,x⟩,.ref s.heap.objs.size,_,I.laid (a:=s.heap.objs.size) (o:=.ext (Jm s.heap.objs.size a)) (t':=s.toks) (fun _ _ q=>Heap.get?_push_of_some _ q) (Nat.le_refl _) ⟨⟨_,Heap.get?_push_size _ rfl,rfl,rfl⟩,⟨_,Heap.get?_push_size _ rfl⟩,fun h1 h2 z k=>let ⟨o,e,y⟩:=z;⟨o,k o e,y⟩⟩,rfl,q _ I.fresh⟩
def Ue:List V→Hp→VK→Prop:=fun xs H Q=>∃ p a kv,xs=[V.ref p]∧H p=some (.ext (Jm p a))∧H a=some (.dT kv)∧∀ r,H r=none→Q (.ref r) (upd H r (.lst (kv.map (·.2))))
theorem N6(hc:X.calm=true):jo X (.type "list") Ue:=by
 intro pins s σ H xs us Q I r h
 obtain⟨p,a,kv,rfl,hp,ha,q⟩:=h
 obtain⟨u,rfl,ru⟩:=vals1 r
 cases ru
 obtain⟨nd,z,es,ep,x,hl,at_⟩:=Nx I (.inl ha)
 obtain⟨vw,_,_⟩:=(show bW X.prog X.w H s.heap p (.ext (Jm p a)) from I.hok p _ hp)
 refine PySem.W.kdl_call (aam (es:=es) (ep:=ep)) (I.ok.hd hc) ⟨vw,x⟩ (by omega) fun h' tk acc c' hk hD hacc=>?_
 refine⟨.ref s.heap.objs.size,_,I.laid (a:=s.heap.objs.size) (o:=.lst (kv.map (·.2))) (t':=tk) hk (Nat.le_refl _) ⟨by rw[List.length_map];exact z,acc.toList,c',?_,by rw[Array.toArray_toList];exact hD⟩,rfl,q _ I.fresh⟩
 have hn:acc.size=es.size:=hacc.1
 have all:∀ (l:List (List Key×V)) (m:List Value),l.length=m.length→(∀ (i:Nat) p v,l[i]? = some p→m[i]? = some v→RelV p.2 v)→Vals (l.map (·.2)) m:=by
  intro l
  induction l with
  | nil=>intro m e _;cases m with
   | nil=>exact .nil
   | cons _ _=>cases e
  | cons p l ih=>intro m e f;cases m with
   | nil=>cases e
   | cons v m=>exact .cons (f 0 p v rfl rfl) (ih m (by simpa using e) fun i p v h1 h2=>f (i+1) p v (by simpa using h1) (by simpa using h2))
 refine all kv acc.toList (by rw[show acc.toList.length=acc.size from Array.length_toList];omega) fun i p v h1 h2=>?_
 obtain⟨lt,rv⟩:=at_ i p.1 p.2 h1
 obtain⟨lt',e⟩:=hacc.2 i v (by rw[← Array.getElem?_toList];exact h2)
 rw[e];exact rv
end
end L2
namespace A
open PySem L2 PyProof.Rows
open Mi (D W Rs Fin aq)
variable[Tb:fK]{M:Nat→Bool}{K:PySem.W.Frag}
theorem WK(i:Nat):AE M qV (WN Ug (iW (pA i) pB)) (Mi.Bw i):=fun e σ H Hv Q I h=>by
 obtain⟨w,he,h⟩:=vX (aq.mp h)
 obtain⟨x,q,z⟩:=I.any he
 have fin:∀ kvs:List (List Mi.Ky×D),(∃ a kv,x=.ref a∧Rd H a (.dT kv)∧kvs.length=kv.length)→Fin (Rs.ok (D.int kvs.length)) (fun d=>∀ v H' Hv',cY H Hv H' Hv'→qV H H' Hv' (.d d) v→Q v H')→WN Ug (iW (pA i) pB) σ H Q:=fun kvs ⟨a,kv,e1,r,e2⟩ h =>
  ⟨x,q,a,kv,by rw[e1],r,by rw[← e2];exact h _ H Hv (.refl I.vw) jK⟩
 cases w with
 | dt kvs =>
  refine fin kvs ?_ h
  rcases z with ⟨a,kv,e,z,c⟩|⟨a,o,e,z,c⟩
  ·exact⟨a,kv,e,.inl (I.vw.sub _ _ z),P2.len c⟩
  ·cases o with
   | dT kv=>exact⟨a,kv,e,.inl z,P2.len c⟩
   | _=>exact c.elim
 | df kvs =>
  refine fin kvs ?_ h
  rcases z with ⟨a,ob,kv,e,z,c⟩|⟨a,o,e,z,c⟩
  ·exact⟨a,kv,e,.inr ⟨ob,I.vw.sub _ _ z⟩,P2.len c⟩
  ·exact c.elim
 | _=>exact h.elim
theorem Jl{H:Hp}:∀ {kvs:List (List Mi.Ky×D)} {kv:List (List Key×V)},Dz H kvs kv→P2 (Rep H) (kvs.map (·.2)) (kv.map (·.2))
 | _,_,.nil=>.nil
 | _,_,.cons x t=>.cons x.2 (Jl t)
theorem YW(i:Nat):AE M qN (WN Ue (iW (aaa K "dict" Zh (pA i)) pB)) (Mi.Vk i):=fun e σ H Hv Q I h=>by
 obtain⟨w,he,h⟩:=vX (aq.mp h)
 obtain⟨x,q,z⟩:=I.any he
 cases w with
 | dt kvs =>
  have:∃ a kv,x=.ref a∧H a=some (.dT kv)∧Dz Hv kvs kv:=by
   rcases z with ⟨a,kv,e,z,c⟩|⟨a,o,e,z,c⟩
   ·exact⟨a,kv,e,I.vw.sub _ _ z,c⟩
   ·cases o with
    | dT kv=>exact⟨a,kv,e,z,c⟩
    | _=>exact c.elim
  obtain⟨a,kv,rfl,ha,c⟩:=this
  refine⟨.ref a,q,.inr (.inr (.inl ⟨rfl,.inr ⟨kv,ha⟩⟩)),a,kv,rfl,rfl,ha,fun p hp=>?_⟩
  have g1:cY H Hv (upd H p (.ext (Jm p a))) Hv:=.Ri I.vw trivial hp
  refine⟨p,a,kv,rfl,aV,by rw[aF (aX ha hp)];exact ha,fun r hr=>?_⟩
  obtain⟨g2,k⟩:=Bu g1.vw (Jl c) hr
  exact h (.ref r) _ Hv (g1.trans g2) (KM.mono (κ:=qN) g1.old k)
 | _=>exact h.elim
theorem YX{fn:Mi.Fn}{ws:List Mi.EW}{tr:TA}{E:XK}(ha:AAW M qP tr (Mi.bO ws)):AE M qV (yx (t6 fn) [] E tr) (Mi.Bx fn ws):=fun e σ H Hv Q I h =>
 ha e σ H Hv _ I ((aq.mp (aq.mp h)).mono fun ds hx vs H1 Hv1 g1 rx=>by
  rw[List.append_nil]
  refine⟨Rh H1,ds,.all g1.vw.cd,rx.imp fun w v z=>RB.ZJ g1.vw z,hx.mono fun w hd v H3 Hv3 g3 rw=>?_⟩
  cases w with
  | d x =>
   cases x with
   | lst xs =>
    obtain⟨hi,hd⟩:=Mi.aR hd
    obtain⟨a,o,rfl,n,q,nv,c⟩:=rw
    cases o with
    | lst ys =>
     have g4:=Ep g1.vw g3.old g3.vw.cd
     have c:P2 (Rep Hv3) xs ys:=c
     refine hd (.ref a) H3 _ (g1.trans g4) (mO.mpr ⟨a,ys,rfl,.inl ?_,jJ.mp (Be g4.vw.tup hi (t7 g3.vw.sub (jJ.mpr c)))⟩)
     unfold seen
     rw[nq g1.vw n,n]
     exact ji q trivial
    | _=>exact c.elim
   | _=>exact hd.elim
  | _=>exact hd.elim)
end A
namespace L2
open PySem PySem.Spec PyProof.Rows
namespace Rv
theorem nx:Slot "reversed" "__next__" "reversed.__next__" :=
 .of (owner := "reversed") (n := "__next__") (by rw[typeLookup_type,builtinLookup_eq_fast];kernel_rfl) (by decide +kernel) (by decide +kernel) (by decide +kernel) (by first|exact .inl (by decide +kernel)|exact .inr (by decide +kernel)) (by rw[isSubtype_type];kernel_rfl)
theorem ne_:entryFor table "reversed.__next__" = some Builtin.«reversed.__next__»:=entryFor_of_tree (by kernel_rfl)
theorem own:Manifest.owners.lookup (String.ofList ['d','e','s','r','e','v','e','r'].reverse)=some Manifest.sig_reversed:=by kernel_rfl
theorem na(a:Value):argsOk "reversed.__next__" ⟨[a],[]⟩:=by
 unfold argsOk;rw[signature?_of (id := "reversed.__next__") (n:=['_','_','t','x','e','n','_','_']) (o:=['d','e','s','r','e','v','e','r']) (by kernel_rfl) own];kernel_rfl
theorem it:Slot "reversed" "__iter__" "reversed.__iter__" :=
 .of (owner := "reversed") (n := "__iter__") (by rw[typeLookup_type,builtinLookup_eq_fast];kernel_rfl) (by decide +kernel) (by decide +kernel) (by decide +kernel) (by first|exact .inl (by decide +kernel)|exact .inr (by decide +kernel)) (by rw[isSubtype_type];kernel_rfl)
theorem ia(a:Value):argsOk "reversed.__iter__" ⟨[a],[]⟩:=by
 unfold argsOk;rw[signature?_of (id := "reversed.__iter__") (n:=['_','_','r','e','t','i','_','_']) (o:=['d','e','s','r','e','v','e','r']) (by kernel_rfl) own];kernel_rfl
theorem ie:entryFor table "reversed.__iter__" = some Builtin.«dict_keyiterator.__iter__» :=
 entryFor_alias (id' := "dict_keyiterator.__iter__") (by kernel_rfl) (by first|rfl|decide +kernel|(unfold String.splitOn;simp +decide [String.splitOnAux])) (by decide +kernel) (by kernel_rfl)
theorem tr:typeLookup (.type "tuple") "__reversed__" = pure none:=by rw[typeLookup_type,builtinLookup_eq_fast];kernel_rfl
theorem sl:Slot "reversed" "__init__" "object.__init__" :=
 .of (owner := "object") (n := "__init__") (by rw[typeLookup_type,builtinLookup_eq_fast];kernel_rfl) (by decide +kernel) (by decide +kernel) (by decide +kernel) (by first|exact .inl (by decide +kernel)|exact .inr (by decide +kernel)) (by rw[isSubtype_type];kernel_rfl)
theorem cl:TypeCalled "reversed" "reversed.__new__" "object.__init__" :=
 ⟨by decide +kernel,by decide +kernel,⟨_,_,F.mro_reversed⟩,F.made_reversed,by decide +kernel,by rw[isSubtype_type];kernel_rfl,sl⟩
end Rv
section
variable{P:Program}{w:World}{A:Around}{E:Value→Shared→Prop}{s:Shared}{t it:Addr}{its:Array Value}
def abP(t:Addr)(i:Int):Obj:={ cls:=.type "reversed", data:=.fields #[.ref t,rawInt i] }
theorem aai{Q:Value→Shared→Prop}(ht:s.heap.IsTuple t its)(hf:(its.size:Int) < 2 ^ 62)(h:∀ tk,Q (.ref s.heap.objs.size) { s with heap:=s.heap.push (abP t ((its.size:Int) - 1)),toks:=tk }) :
 wpAny (model P w) A (call (.type "reversed") [.ref t]) Q E s:=by
 refine callType_codes (Q₁:=fun obj s₁=>s₁.TypeIs obj "reversed" ∧ Q obj s₁) Rv.cl (F.typeCall_reversed_1 _) F.entry_object_init ?_ fun obj s₁ h₁=>?_
 ·refine codeAny_of_tree ?_
  show wpAny _ _ (do checkBuiltinCall "reversed.__new__" ⟨[.type "reversed", .ref t],[]⟩;again (.builtin "reversed.__new__" ⟨[.type "reversed", .ref t],[]⟩)) _ _ s
  refine wpAny_bind (wpAny_of_eq (F.newCall_reversed_1 _) (wpAny_pure ⟨plainId_quiet F.plain_reversed_new _,codeAny_builtin F.entry_reversed_new ?_⟩))
  rw[Around.under_plainId F.plain_reversed_new _]
  unfold Builtin.«reversed.__new__»
  refine wpAny_bind (wpAny_of_eq (newClass_reversed _) ?_)
  try dsimp only
  refine wpAny_bind (wpAny_of_eq (a:=()) (by first|rfl|kernel_rfl) (wpAny_bind (wpAny_of_eq (a:=()) (by first|rfl|kernel_rfl) ?_)))
  try dsimp only
  refine wpAny_bind (wpAny_specialOf ht.typeIs Rv.tr ?_)
  try dsimp only
  refine wpAny_bind ?_
  wp_delta
  refine wpAny_bind (wpAny_isInstance (T := "tuple") (b:=false) ht.typeIs (by rw[isSubtype_type];kernel_rfl) ?_)
  rw[if_neg (by decide)]
  refine wpAny_bind (wpAny_specialOf (name:=Str.ofString "__getitem__") ht.typeIs PyProof.Rows.slot_tuple_getitem.lookup ?_)
  try dsimp only
  rw[if_pos (by decide +kernel)]
  refine wpAny_pure ?_
  rw[if_neg (by decide)]
  refine wpAny_bind (PyProof.Rows.len_tuple ht (by omega) ?_)
  refine wpAny_bind (wpAny_of_eq (a:=some (its.size:Int)) rfl ?_)
  dsimp only
  refine wpAny_bind ?_
  unfold Builtin.SmallTypes.newRecord
  refine wpAny_newObj_type (wpAny_pure ⟨⟨_,Heap.get?_push_size _ rfl,rfl⟩,h _⟩)
 ·exact⟨h₁.1,F.args_object_init_2 obj _,object_init_meets Rv.cl.init.lookup Rv.cl.made (by decide) P w A.in1 _ s₁ ⟨h₁.1,rfl,h₁.2⟩⟩
def tU(h:Heap)(it t:Addr)(i:Int):Prop:=∃ o,h.get? it=some o∧o.cls=.type "reversed" ∧ o.data=.fields #[.ref t,rawInt i]
theorem tU.ty{i:Int}(x:tU s.heap it t i):s.TypeIs (.ref it) "reversed" := let ⟨o,e,c,_⟩:=x;⟨o,e,c⟩
theorem tU.go{h h':Heap}{i:Int}(x:tU h it t i)(k:∀ o,h.get? it=some o→h'.get? it=some o):tU h' it t i:=let ⟨o,e,r⟩:=x;⟨o,k o e,r⟩
theorem W7{i:Nat}{v:Value}{Q:Option Value→Shared→Prop}(x:tU s.heap it t (i:Int))(ht:s.heap.IsTuple t its)(hne:t≠it)(hv:its[i]? = some v)(hf:(its.size:Int) < 2 ^ 62)
 (q:∀ h' tk,tU h' it t ((i:Int) - 1)→Heap.SameBut it s.heap h'→Q (some v) { s with heap:=h',toks:=tk }):wpAny (model P w) A (pyNext (.ref it)) Q E s:=by
 obtain⟨o,e,c,d⟩:=id x
 have lt:i < its.size:=by
  rcases Nat.lt_or_ge i its.size with h|h
  ·exact h
  ·rw[Array.getElem?_eq_none h] at hv;cases hv
 unfold pyNext
 refine wpAny_bind (wpAny_attempt (wpAny_callSpecial?_slot (name:=Str.ofString "__next__") x.ty Rv.nx (wpAny_call_entry Rv.nx x.ty Rv.ne_ ?_ (Rv.na _))))
 unfold Builtin.«reversed.__next__»
 refine wpAny_bind (wpAny_of_eq (a:=(Value.ref it,[])) rfl ?_)
 try dsimp only
 refine wpAny_bind (wpAny_field e d (x:=.ref t) rfl (wpAny_bind (wpAny_field e d (x:=rawInt (i:Int)) rfl ?_)))
 show wpAny _ _ (if (i:Int) < 0 then _ else _) _ _ s
 rw[if_neg (by omega)]
 refine wpAny_bind (wpAny_specialOf (name:=Str.ofString "__getitem__") ht.typeIs PyProof.Rows.slot_tuple_getitem.lookup ?_)
 rw[if_neg (by decide)]
 refine wpAny_bind (wpAny_mkInt ?_)
 refine wpAny_bind (wpAny_attempt (PyProof.Rows.getItem_tuple (s:={ s with toks:=s.toks+1 }) ht (by omega) (by omega) (j:=i) (by unfold seqIndex?;simp[lt,show ¬ ((i:Int) < 0) by omega]) hv ?_))
 try dsimp only
 refine wpAny_bind (wpAny_field (s:={ s with toks:=s.toks+1 }) e d (x:=rawInt (i:Int)) rfl ?_)
 show wpAny _ _ (setField (.ref it) 1 (rawInt ((i:Int) - 1)) >>= _) _ _ _
 refine wpAny_bind (wpAny_setField (s:={ s with toks:=s.toks+1 }) e d (by simp) (wpAny_pure ⟨v,rfl,wpAny_pure (q _ _ ?_ (Heap.SameBut.update ..))⟩))
 exact⟨_,Heap.get?_update_self _ e (Obj.isFreed_of_fields (Obj.data_mapFields d _)),(Obj.cls_mapFields ..).trans c,by rw[Obj.data_mapFields d];simp⟩
theorem aaj{Q:Option Value→Shared→Prop}(hh:A.handled=none)(x:tU s.heap it t (-1))(q:∀ h',Heap.ExtBut it s.heap h'→Q none { s with heap:=h' }):wpAny (model P w) A (pyNext (.ref it)) Q E s:=by
 obtain⟨o,e,c,d⟩:=id x
 unfold pyNext
 refine wpAny_bind (wpAny_attempt (wpAny_callSpecial?_slot (name:=Str.ofString "__next__") x.ty Rv.nx (wpAny_call_entry Rv.nx x.ty Rv.ne_ ?_ (Rv.na _))))
 unfold Builtin.«reversed.__next__»
 refine wpAny_bind (wpAny_of_eq (a:=(Value.ref it,[])) rfl ?_)
 try dsimp only
 refine wpAny_bind (wpAny_field e d (x:=.ref t) rfl (wpAny_bind (wpAny_field e d (x:=rawInt (-1)) rfl ?_)))
 show wpAny _ _ (if (-1:Int) < 0 then _ else _) _ _ s
 rw[if_pos (by decide)]
 refine wpAny_bind (wpAny_rule (wpAny_bind ?_))
 show wpAny _ _ (setField (.ref it) 1 (rawInt (-1)) >>= fun _=>setField (.ref it) 0 .none) _ _ s
 refine wpAny_bind (wpAny_setField e d (by simp) ?_)
 have e2:=Heap.get?_update_self (Obj.mapFields (·.setIfInBounds 1 (rawInt (-1)))) e (Obj.isFreed_of_fields (Obj.data_mapFields d _))
 have d2:=Obj.data_mapFields d (·.setIfInBounds 1 (rawInt (-1)))
 refine wpAny_setField (s:={ s with heap:=s.heap.update it (Obj.mapFields (·.setIfInBounds 1 (rawInt (-1)))) }) e2 d2 (by simp) ?_
 show wpAny _ _ (Builtin.SmallTypes.stopIteration >>= _) _ _ _
 unfold Builtin.SmallTypes.stopIteration
 refine wpAny_bind (wpAny_bind ?_)
 simp only[newExc,newTuple]
 refine wpAny_bind (wpAny_newObj_type ?_ (by size_fits))
 refine wpAny_bind (m:=firstArgMember _ _) (wpAny_of_eq (a:=Value.none) (by first|rfl|(simp only[firstArgMember];rfl)) (wpAny_newObj_type ?_ (by size_fits)))
 simp only[raiseNew]
 refine wpAny_bind (wpAny_handled ?_)
 rw[show A.in1.handled=none from hh]
 refine wpAny_bind (wpAny_pure (wpAny_throw ?_))
 exact wpAny_bind (wpAny_isInstance (b:=true) (T := "StopIteration") ⟨_,Heap.get?_push_size _ rfl,rfl⟩ isSubtype_stop (wpAny_pure (q _ ((((Heap.SameBut.update ..).extBut.trans (Heap.SameBut.update ..).extBut).push _).push _))))
theorem W5{i:Int}{Q:Value→Shared→Prop}(x:tU s.heap it t i)(h:Q (.ref it) s):wpAny (model P w) A (pyIter (.ref it)) Q E s:=by
 refine wpAny_pyIter_slot x.ty Rv.it (wpAny_call_entry Rv.it x.ty Rv.ie ?_ (Rv.ia _))
 show wpAny _ _ (ret (.ref it)) _ _ s
 exact wpAny_pure ⟨_,rfl, "reversed", _,x.ty,Rv.nx.lookup,h⟩
theorem TX(hh:A.handled=none)(I t:Addr)(hne:t≠I)(its:Array Value)(hf:(its.size:Int) < 2 ^ 62) :
 Walks P w A I [I,t] [I] its.size (fun i v=>its[its.size - 1 - i]? = some v) (fun i h=>i≤its.size∧tU h I t ((its.size:Int) - 1 - (i:Int))∧h.IsTuple t its) where
 sub:=fun b hb=>by cases List.mem_singleton.mp hb;simp
 frame:=fun _ _ _ x hk=>⟨x.1,x.2.1.go fun o e=>hk I (by simp) o e,let ⟨o,e,r⟩:=x.2.2;⟨o,hk t (by simp) o e,r⟩⟩
 item:=fun i s Q E hi x hQ=>by
  have y:=x.2.1
  rw[show (its.size:Int) - 1 - (i:Int)=((its.size - 1 - i:Nat):Int) by omega] at y
  have hv:its[its.size - 1 - i]? = some (its[its.size - 1 - i]'(by omega)):=Array.getElem?_eq_getElem (by omega)
  refine W7 y x.2.2 hne hv hf fun h' tk z sb=>?_
  rw[show ((its.size - 1 - i:Nat):Int) - 1=(its.size:Int) - 1 - ((i+1:Nat):Int) by omega] at z
  exact hQ _ h' tk hv ⟨hi,z,let ⟨o,e,r⟩:=x.2.2;⟨o,(sb.2 t hne).trans e,r⟩⟩ fun b o hb e=>sb.extBut b o (fun z=>hb (by simp[z])) e
 done:=fun s Q E x hQ=>by
  have y:=x.2.1
  rw[show (its.size:Int) - 1 - (its.size:Int) = -1 by omega] at y
  exact aaj hh y fun h' he=>hQ h' s.toks fun b o hb e=>he b o (fun z=>hb (by simp[z])) e
 self:=fun _ _ _ _ x hQ=>W5 x.2.1 hQ
theorem T3:typeLookup (.type "reversed") "__len__" = pure none:=by rw[typeLookup_type,builtinLookup_eq_fast];kernel_rfl
theorem O3:typeLookup (.type "reversed") "__length_hint__" = pure (some (.builtin "reversed.__length_hint__")):=by rw[typeLookup_type,builtinLookup_eq_fast];kernel_rfl
theorem Rv.ls:Slot "reversed" "__length_hint__" "reversed.__length_hint__" :=
 .of (owner := "reversed") (n := "__length_hint__") O3 (by decide +kernel) (by decide +kernel) (by decide +kernel) (by first|exact .inl (by decide +kernel)|exact .inr (by decide +kernel)) (by rw[isSubtype_type];kernel_rfl)
theorem Rv.le_:entryFor table "reversed.__length_hint__" = some Builtin.«reversed.__length_hint__»:=entryFor_of_tree (by kernel_rfl)
theorem Rv.la(a:Value):argsOk "reversed.__length_hint__" ⟨[a],[]⟩:=by
 unfold argsOk;rw[signature?_of (id := "reversed.__length_hint__") (n:=['_','_','t','n','i','h','_','h','t','g','n','e','l','_','_']) (o:=['d','e','s','r','e','v','e','r']) (by kernel_rfl) Rv.own];kernel_rfl
theorem W6{Q:Bool→Shared→Prop}(x:tU s.heap it t ((its.size:Int) - 1))(ht:s.heap.IsTuple t its)(hf:its.size≤1000)(h:∀ b tk,s.toks≤tk→Q b { s with toks:=tk }):wpAny (model P w) A (Builtin.List.listLengthHint (.ref it)) Q E s:=by
 obtain⟨o,e,c,d⟩:=id x
 unfold Builtin.List.listLengthHint
 refine wpAny_bind (wpAny_specialOf x.ty T3 ?_)
 show wpAny _ A (specialOf (Value.ref it) (Str.ofString "__length_hint__") >>= _) _ _ _
 refine wpAny_bind (wpAny_specialOf x.ty O3 ?_)
 generalize hid:("reversed.__length_hint__" : String)=id0
 (fail_if_success (clear hid id0))
 wp_delta
 rw[show splitId id0=some ("reversed", "__length_hint__") from by subst hid;decide +kernel]
 subst hid
 refine wpAny_bind (wpAny_isInstance (b:=true) x.ty F.sub_reversed_self ?_)
 rw[if_neg (by decide)]
 dsimp only
 rw[if_neg (by decide +kernel)]
 refine wpAny_bind (wpAny_rule (wpAny_bind (wpAny_of_eq (Rv.ls.bind _) ?_)))
 try dsimp only
 refine wpAny_bind (wpAny_attempt (wpAny_call_entry Rv.ls x.ty Rv.le_ ?_ (Rv.la _)))
 unfold Builtin.«reversed.__length_hint__»
 refine wpAny_bind (wpAny_of_eq (a:=Value.ref it) rfl ?_)
 refine wpAny_bind (wpAny_field e d (x:=.ref t) rfl ?_)
 rw[if_neg (by exact Bool.false_ne_true)]
 refine wpAny_bind (PyProof.Rows.len_tuple ht (by omega) (wpAny_bind (wpAny_of_eq (a:=some (its.size:Int)) rfl ?_)))
 dsimp only
 refine wpAny_bind (wpAny_field (s:={ s with toks:=s.toks+1+1 }) e d (x:=rawInt ((its.size:Int) - 1)) rfl ?_)
 show wpAny _ _ (if (its.size:Int) < ((its.size:Int) - 1)+1 then _ else _) _ _ _
 rw[if_neg (by omega)]
 refine wpAny_ret_mkInt ?_
 have e1:((its.size:Int) - 1)+1=(its.size:Int):=by omega
 rw[e1]
 generalize hk0:({ heap:=s.heap,gens:=s.gens,drawn:=s.drawn,toks:=s.toks+1+1,os:=s.os }:Shared).toks=tk0
 dsimp only
 have ea:asInt? (Value.int (its.size:Int) tk0)=pure (some (its.size:Int)):=by unfold asInt?;rfl
 rw[ea,pure_bind]
 dsimp only
 rw[if_neg (by unfold Builtin.List.listFitsIndex;simp;omega),if_neg (by omega),if_neg (by rw[Int.toNat_natCast,JZ (by rw[sizeLine_eq];omega)];decide)]
 exact wpAny_pure (h _ _ (by have hk0:s.toks+1+1=tk0:=hk0;omega))
end
section
variable{P:Program}{w:World}{A:Around}{E:Value→Shared→Prop}{s:Shared}{I:Addr}{fp wr:List Addr}{G:Array GenState→Array GenState→Prop}{n:Nat}{Pv:Nat→Value→Prop}{St:Nat→Shared→Prop}
theorem Mm{Q:List Value→Shared→Prop}(W:WalksS P w A.in1 I fp wr G n Pv St)(hT:∀ i s,St i s→s.TypeIs (.ref I) "reversed")(hst:St 0 s)(hfp:∀ b∈fp,b < s.heap.objs.size)(hI:I∈fp)
 (hint:∀ (s:Shared) (Q:Bool→Shared→Prop) (E:Value→Shared→Prop),St 0 s→(∀ b tk,s.toks≤tk→Q b { s with toks:=tk })→wpAny (model P w) A.in1 (Builtin.List.listLengthHint (.ref I)) Q E s)
 (hQ:∀ s' acc,Moved wr G s s'→ItemsOf Pv acc n→Q acc.toList s') (hn:n≤sizeLine):wpAny (model P w) A (collect (.ref I)) Q E s:=by
 have nf:s.heap.objs.size∉fp:=fun hm=>Nat.lt_irrefl _ (hfp _ hm)
 have nI:s.heap.objs.size≠I:=fun e=>nf (e ▸ hI)
 unfold collect
 refine wpAny_bind (wpAny_runValue (codeAny_builtin F.entry_proto_collect ?_))
 rw[Around.under_plainId F.plain_proto_collect _]
 show wpAny _ A.in1 (newList [] >>= fun l=>again (.builtin "list.__iadd__" ⟨[l,.ref I],[]⟩)) _ _ s
 refine wpAny_bind (wpAny_newObj_type (wpAny_pure ⟨plainId_quiet F.plain_list_iadd _,codeAny_builtin F.entry_list_iadd ?_⟩))
 rw[Around.under_plainId F.plain_list_iadd _]
 have st1:=W.frame 0 s (s.heap.push { cls:=.type "list", data:=.seq ([]:List Value).toArray }) s.toks hst (Nat.le_refl _) fun b _ o e=>Heap.get?_push_of_some _ e
 have hS:(s.heap.push { cls:=.type "list", data:=.seq ([]:List Value).toArray }).get? s.heap.objs.size=some { cls:=.type "list", data:=.seq ([]:List Value).toArray }:=Heap.get?_push_size _ rfl
 have h1:Builtin.List.listSameRef (.ref s.heap.objs.size) (.ref I)=false:=by simp[Builtin.List.listSameRef,nI]
 show wpAny _ A.in1 (Builtin.List.listExtendWith (.ref s.heap.objs.size) (.ref I) (.ref s.heap.objs.size)) _ _ _
 unfold Builtin.List.listExtendWith
 refine wpAny_bind (wpAny_typeOf (hT 0 _ st1) ?_)
 rw[if_neg (by rw[h1];decide)]
 refine wpAny_bind (W.self 0 _ _ _ st1 (wpAny_bind (wpAny_holding ?_)))
 refine hint _ _ _ st1 fun b tk htk=>?_
 have fin:∀ (R:Result→Shared→Prop) (h:Heap) (c₁:Nat),(∀ b∈fp,∀ o,s.heap.get? b=some o→h.get? b=some o)→(∀ b o,b≠s.heap.objs.size→s.heap.get? b=some o→h.get? b=some o)→h.get? s.heap.objs.size=some { cls:=.type "list", data:=.seq #[] c₁ } →
  (∀ s' acc c',Moved wr G s s'→ItemsOf Pv acc n→s'.heap.get? s.heap.objs.size=some { cls:=.type "list", dict:=none,data:=.seq acc c',slots:=#[] }→R (.ok (.ret (.ref s.heap.objs.size))) s') →
  codeAny (model P w) A (.builtin "list.extend.loop" ⟨[.ref s.heap.objs.size,.ref I,.ref s.heap.objs.size],[]⟩) R { s with heap:=h,toks:=tk }:=fun R h c₁ kf ka hS₁ hR=>by
  refine codeAny_extend_loopS W hn _ nf _ n 0 _ _ _ rfl (Nat.zero_le _) (W.frame 0 s h tk hst htk kf) hS₁ (ItemsOf.nil Pv) fun s' acc' c' hm hS' hacc=>hR s' acc' c' ⟨fun b o hb e=>?_,hm.gens,hm.drawn,hm.os,Nat.le_trans htk hm.toks⟩ hacc hS'
  have nb:b≠s.heap.objs.size:=fun z=>absurd (Heap.lt_size e) (by rw[z];exact Nat.lt_irrefl _)
  exact hm.heap b o (fun z=>(List.mem_cons.mp z).elim nb hb) (ka b o nb e)
 have end_:∀ s' acc c',Moved wr G s s'→ItemsOf Pv acc n→s'.heap.get? s.heap.objs.size=some { cls:=.type "list", dict:=none,data:=.seq acc c',slots:=#[] }→wpAny (model P w) A (load s.heap.objs.size >>= fun o=>match o.data with
  | .seq xs _=>pure xs.toList
  | _=>unsupported "internal:collect") Q E s':=fun s' acc c' mv it g=>wpAny_bind (wpAny_load g (wpAny_pure (hQ s' acc mv it)))
 refine wpAny_ite_split (fun _=>?_) (fun _=>wpAny_pure ⟨plainId_quiet F.plain_extend_loop _,fin _ _ _ (fun b _ o e=>Heap.get?_push_of_some _ e) (fun b o _ e=>Heap.get?_push_of_some _ e) hS fun s' acc c' mv it g=>end_ s' acc c' mv it g⟩)
 refine wpAny_bind (wpAny_rule (wpAny_bind ?_))
 show wpAny _ _ (updateSeq s.heap.objs.size (·.push .none) >>= fun _=>updateSeq s.heap.objs.size (·.pop)) _ _ _
 refine wpAny_bind (wpAny_updateSeq hS rfl ?_)
 have hS₂:=Heap.get?_update_self (Obj.mapSeq (·.push Value.none)) hS rfl
 refine wpAny_updateSeq (hz:=by seq_fits) hS₂ rfl ?_
 have hS₃:=Heap.get?_update_self (Obj.mapSeq (·.pop)) hS₂ rfl
 have oth:∀ b o,b≠s.heap.objs.size→s.heap.get? b=some o→(((s.heap.push { cls:=.type "list", data:=.seq ([]:List Value).toArray }).update s.heap.objs.size (Obj.mapSeq (·.push Value.none))).update s.heap.objs.size (Obj.mapSeq (·.pop))).get? b=some o :=
  fun b o hb e=>(Heap.get?_update_other _ _ (Ne.symm hb)).trans ((Heap.get?_update_other _ _ (Ne.symm hb)).trans (Heap.get?_push_of_some _ e))
 exact wpAny_pure ⟨plainId_quiet F.plain_extend_loop _,fin _ _ _ (fun b hb o e=>oth b o (fun z=>nf (z ▸ hb)) e) oth hS₃ fun s' acc c' mv it g=>end_ s' acc c' mv it g⟩
end
end L2
namespace L2
open PySem PySem.Spec PyProof.Rows
open PySem.AutoSeq1 (wpAny_loadPart')
section
variable{P:Program}{w:World}{A:Around}{E:Value→Shared→Prop}{s:Shared}{t I:Addr}{its:Array Value}
theorem W8{Q:Value→Shared→Prop}(hh:A.handled=none)(x:tU s.heap I t ((its.size:Int) - 1))(ht:s.heap.IsTuple t its)(hne:t≠I)(hf:its.size≤1000)
 (h:∀ s' acc,Moved [I] (fun a b=>b=a) s s'→ItemsOf (fun i v=>its[its.size - 1 - i]? = some v) acc its.size→Q (.ref s'.heap.objs.size) { s' with heap:=s'.heap.push { cls:=.type "tuple", data:=.seq acc } }) :
 codeAny (model P w) A (.call (.builtin "tuple.__new__") ⟨[.type "tuple", .ref I],[]⟩) (wants Q E) s:=by
 refine codeAny_of_tree ?_
 show wpAny _ _ (do checkBuiltinCall "tuple.__new__" ⟨[.type "tuple", .ref I],[]⟩;again (.builtin "tuple.__new__" ⟨[.type "tuple", .ref I],[]⟩)) _ _ s
 refine wpAny_bind (wpAny_of_eq (F.newCall_tuple_1 _) (wpAny_pure ⟨plainId_quiet F.plain_tuple_new _,codeAny_builtin F.entry_tuple_new ?_⟩))
 rw[Around.under_plainId F.plain_tuple_new _]
 have hsub:=sub_tuple_self
 have hinit:=init_tuple_lookup
 have hmh:=madeHere_tuple
 have hTI:=x.ty
 have W:=(TX (P:=P) (w:=w) (A:=A.in1.in1) hh I t hne its (by omega)).toS
 have st0:(fun i (s:Shared)=>i≤its.size∧tU s.heap I t ((its.size:Int) - 1 - (i:Int))∧s.heap.IsTuple t its) 0 s:=⟨Nat.zero_le _,by rw[show (its.size:Int) - 1 - ((0:Nat):Int)=(its.size:Int) - 1 by omega];exact x,ht⟩
 have lt:∀ b∈[I,t],b < s.heap.objs.size:=fun b hb=>by
  rcases List.mem_cons.mp hb with rfl|hb
  ·obtain⟨o,e,_⟩:=x;exact Heap.lt_size e
  ·cases List.mem_singleton.mp hb;obtain⟨o,e,_⟩:=ht;exact Heap.lt_size e
 have hint:∀ (s:Shared) (Q:Bool→Shared→Prop) (E:Value→Shared→Prop),(0≤its.size∧tU s.heap I t ((its.size:Int) - 1 - ((0:Nat):Int))∧s.heap.IsTuple t its)→(∀ b tk,s.toks≤tk→Q b { s with toks:=tk })→wpAny (model P w) A.in1.in1 (Builtin.List.listLengthHint (.ref I)) Q E s:=fun s Q E st h=>by
  have y:=st.2.1
  rw[show (its.size:Int) - 1 - ((0:Nat):Int)=(its.size:Int) - 1 by omega] at y
  exact W6 y st.2.2 hf h
 wp_walk using wpAny_typeOf hTI,Mm (hn:=by rw[sizeLine_eq];omega) W (fun i s st=>st.2.1.ty) st0 lt (by simp) hint
 intro s' acc hm hacc
 show wpAny _ _ (Builtin.Tuple.tupleExact acc.toList.toArray >>= fun v=>ret v) _ _ _
 unfold Builtin.Tuple.tupleExact
 refine wpAny_bind (wpAny_newObj_type ?_ (by show acc.toList.toArray.size≤sizeLine;simp only[Array.toArray_toList];rw[hacc.1,sizeLine_eq];omega))
 rw[show acc.toList.toArray=acc by simp]
 exact wpAny_pure (h s' acc hm hacc)
theorem Rr{acc:Array Value}(h:ItemsOf (fun i v=>its[its.size - 1 - i]? = some v) acc its.size):acc.toList=its.toList.reverse:=by
 have hl:acc.size=its.size:=h.1
 refine List.ext_getElem? fun i=>?_
 rcases Nat.lt_or_ge i its.size with lt|ge
 ·have lt':i < acc.size:=by omega
  have:=h.2 i acc[i] (Array.getElem?_eq_getElem lt')
  rw[Array.getElem?_toList,Array.getElem?_eq_getElem lt',List.getElem?_reverse (by simpa using lt),Array.length_toList,Array.getElem?_toList]
  exact this.symm
 ·rw[List.getElem?_eq_none (by rw[Array.length_toList];omega),List.getElem?_eq_none (by rw[List.length_reverse,Array.length_toList];omega)]
theorem TY{Q:Value→Shared→Prop}(hh:A.handled=none)(x:tU s.heap I t ((its.size:Int) - 1))(ht:s.heap.IsTuple t its)(hne:t≠I)(hf:its.size≤1000)
 (q:∀ (h':Heap) (tk:Nat),(∀ b o,b≠I→s.heap.get? b=some o→h'.get? b=some o)→Q (.ref h'.objs.size) { s with heap:=h'.push { cls:=.type "tuple", data:=.seq its.toList.reverse.toArray },toks:=tk }):wpAny (model P w) A (call (.type "tuple") [.ref I]) Q E s:=by
 refine callType_codes (Q₁:=fun obj s₁=>s₁.TypeIs obj "tuple" ∧ Q obj s₁) F.called_tuple (F.typeCall_tuple_1 _) F.entry_object_init (W8 hh x ht hne hf fun s' acc mv hi=>⟨⟨_,Heap.get?_push_size _ rfl,rfl⟩,?_⟩) fun obj s₁ h₁=>?_
 ·have e:acc=its.toList.reverse.toArray:=by rw[← Rr hi]
  obtain⟨h',g',d',t',o'⟩:=s'
  obtain⟨m1,m2,m3,m4,m5⟩:=mv
  dsimp only at m1 m2 m3 m4 m5 ⊢
  subst m2 m3 m4 e
  exact q h' t' fun b o hb z=>m1 b o (fun y=>hb (List.mem_singleton.mp y)) z
 ·exact⟨h₁.1,F.args_object_init_2 obj _,object_init_meets F.called_tuple.init.lookup F.called_tuple.made (by decide) P w A.in1 _ s₁ ⟨h₁.1,rfl,h₁.2⟩⟩
end
section
variable{X:Cx}
def rvX(p a:Addr)(n:Nat):Heap→Prop:=fun h=>tU h p a ((n:Int) - 1)
def ZL(H:Hp)(p:Addr):Hp:=fun b=>if b=p then none else H b
theorem vJ{H:Hp}{p b:Addr}(h:b≠p):ZL H p b=H b:=by unfold ZL;rw[if_neg h]
def abX(X:Cx):List V→Hp→VK→Prop:=fun xs H Q=>∃ a ys,xs=[V.ref a]∧H a=some (.tup ys)∧ys.length≤1000∧∀ p,H p=none→X.s₀.heap.objs.size≤p→Q (.ref p) (upd H p (.ext (rvX p a ys.length)))
theorem Wa:jo X (.type "reversed") (abX X):=by
 intro pins s σ H xs us Q I r h
 obtain⟨a,ys,rfl,ha,hl,q⟩:=h
 obtain⟨u,rfl,ru⟩:=vals1 r
 cases ru
 obtain⟨_,its,rv,tn⟩:=(show bW X.prog X.w H s.heap a (.tup ys) from I.hok a _ ha)
 have e:=rv.length
 refine aai (its:=its.toArray) tn.tup (by rw[List.size_toArray];omega) fun tk=>?_
 refine⟨.ref s.heap.objs.size,_,I.laid (a:=s.heap.objs.size) (o:=.ext (rvX s.heap.objs.size a ys.length)) (t':=tk) (fun _ _ q=>Heap.get?_push_of_some _ q) (Nat.le_refl _) ⟨⟨_,Heap.get?_push_size _ rfl,rfl,?_⟩,⟨_,Heap.get?_push_size _ rfl⟩,fun h1 h2 z k=>z.go k⟩,rfl,q _ I.fresh I.sz⟩
 show Data.fields _=_
 rw[List.size_toArray,e]
def Zi(X:Cx):List V→Hp→VK→Prop:=fun xs H Q=>∃ p a ys,xs=[V.ref p]∧H p=some (.ext (rvX p a ys.length))∧X.s₀.heap.objs.size≤p∧H a=some (.tup ys)∧ys.length≤1000∧∀ r,ZL H p r=none→Q (.ref r) (upd (ZL H p) r (.tup ys.reverse))
theorem Jk:∀ {xs:List V} {us:List Value},Vals xs us→Vals xs.reverse us.reverse
 | _,_,.nil=>.nil
 | _,_,.cons r t=>by rw[List.reverse_cons,List.reverse_cons];exact(Jk t).append (.cons r .nil)
theorem RZ(hc:X.calm=true):jo X (.type "tuple") (Zi X):=by
 intro pins s σ H xs us Q I r h
 obtain⟨p,a,ys,rfl,hp,hs0,ha,hl,q⟩:=h
 obtain⟨u,rfl,ru⟩:=vals1 r
 cases ru
 obtain⟨hz,its,rv,tn⟩:=(show bW X.prog X.w H s.heap a (.tup ys) from I.hok a _ ha)
 obtain⟨x,_,_⟩:=(show bW X.prog X.w H s.heap p (.ext (rvX p a ys.length)) from I.hok p _ hp)
 have e:=rv.length
 have x:tU s.heap p a ((its.toArray.size:Int) - 1):=by rw[List.size_toArray,← e];exact x
 have hne:a≠p:=fun z=>by subst z;rw[ha] at hp;cases hp
 have np:∀ b,H b=none→b≠p:=fun b n z=>by subst z;rw[hp] at n;cases n
 have nt:∀ b u,H b=some u→u≠.ext (rvX p a ys.length)→b≠p:=fun b u n m z=>by subst z;rw[hp] at n;exact m (Option.some.inj n).symm
 refine TY (I.ok.hd hc) x tn.tup hne (by rw[List.size_toArray];omega) fun h' tk hk=>?_
 have I1:Inv X pins σ (ZL H p) { s with heap:=h',toks:=tk }:=by
  refine I.step (g':=s.gens) (d':=s.drawn) (ch:=[p]) (fun b hb=>?_) (fun b o _ _ hc e _=>hk b o (fun z=>hc (by simp[z])) e) (fun b o _ _ hc e _=>⟨o.slots,hk b o (fun z=>hc (by simp[z])) e⟩) (fun b o hc e n=>by rw[vJ (fun z=>hc (by simp[z]))];exact n)
   (fun b o hc e=>⟨o,hk b o (fun z=>hc (by simp[z])) e⟩) (fun b xs e=>by rw[vJ (nt b _ e (by simp))];exact e) (fun b o u e=>by rw[vJ (nt b _ e (by simp))];exact e) (fun b w ps e=>⟨#[],by rw[vJ (nt b _ e (by simp)),e];simp⟩) (fun m hm=>?_) (fun b u e=>?_) I.bare
  ·cases List.mem_singleton.mp hb
   exact⟨.inr hs0,(np _ I.free).symm,fun x c e=>np c (I.pY x c e),fun y hy=>np y.1 (I.pin y hy).2.1⟩
  ·obtain⟨o,es,ep,ho,r⟩:=hm
   exact⟨o,es,ep,hk _ o (np _ I.free) ho,r⟩
  ·have hb:b≠p:=fun z=>by subst z;unfold ZL at e;rw[if_pos rfl] at e;cases e
   rw[vJ hb] at e
   refine(I.hok b u e).stay (fun c v hc z=>hk c v ?_ z) (fun c z=>by rw[vJ (nt c _ z (by simp))];exact z) fun c xs z=>by rw[vJ (nt c _ z (by simp))];exact z
   rcases hc with rfl|hc
   ·exact hb
   ·exact nt c _ hc (by simp)
 refine⟨.ref h'.objs.size,_,I1.laid (a:=h'.objs.size) (o:=.tup ys.reverse) (t':=tk) (fun _ _ q=>Heap.get?_push_of_some _ q) (Nat.le_refl _) ⟨by rw[List.length_reverse];exact hz,its.reverse,Jk rv,?_⟩,rfl,q _ I1.fresh⟩
 exact Li.new h' _
end
end L2
namespace A
open PySem L2 PyProof.Rows
open Mi (D W Rs Fin aq)
variable[Tb:fK]{M:Nat→Bool}
theorem abf{X:Cx}{ta:TE}{a:Mi.E}(ha:AE M qP ta a):AE M qV (WN (Zi X) (iW (WN (abX X) (iW ta pB)) pB)) (Mi.m1 Mi.Kw a):=fun e σ H Hv Q I h =>
 ha e σ H Hv _ I ((aq.mp h).mono fun d hd v H1 Hv1 g1 r=>by
  cases d with
  | tup ds =>
   obtain⟨hl,hd⟩:=Mi.aR hd
   obtain⟨a,xs,rfl,ha,hv,c⟩:=RD.tup g1.vw r
   have e:=c.len
   refine⟨a,xs,rfl,ha,by omega,fun p hp hs=>⟨p,a,xs,rfl,aV,hs,by rw[aF (aX ha hp)];exact ha,by omega,fun r hr=>?_⟩⟩
   have ed:ZL (upd H1 p (.ext (rvX p a xs.length))) p=H1:=by
    funext b
    unfold ZL
    split
    ·rename_i z;rw[z,hp]
    ·rename_i z;exact aF z
   rw[ed] at hr ⊢
   obtain⟨g2,k⟩:=qJ g1.vw c.rev hr
   exact hd (.ref r) _ _ (g1.trans g2) k
  | _=>exact hd.elim)
end A
namespace So
end So
namespace L2
end L2
namespace A
end A
namespace Mi
open PySem
def Ny:D→D→Rs D
 | .str x,.str y=>aO (y.length≠0∧x.length≤1000000) (.ok (.lst ((Txt.split x y).map D.str)))
 | _,_=>.no
def sS(x y:Str):List Str:=[(Txt.partition x y).1,(Txt.partition x y).2.1,(Txt.partition x y).2.2]
def Qo:D→D→Rs D
 | .str x,.str y=>aO (y.length≠0∧x.length≤1000000) (.ok (.tup ((sS x y).map D.str)))
 | _,_=>.no
end Mi
namespace L2
open PySem PySem.Spec PyProof.Rows
open PySem.Builtin PySem.Builtin.Str
section
variable{X:Cx}
def Uc:V→List V→Hp→VK→Prop:=fun x vs H Q=>∃ a b:Str,x=.str a∧vs=[.str b]∧b.length≠0∧a.length≤1000000∧∀ p,H p=none→Q (.ref p) (upd H p (.lst ((Txt.split a b).map V.str)))
theorem Ad:∀ (l:List (Str×Tok)),Vals ((l.map (·.1)).map V.str) (strValues l)
 | []=>.nil
 | p::l=>.cons ⟨p.2,rfl⟩ (Ad l)
theorem Ve:SM X "str.split" Uc:=by
 intro pins s σ H x vs v us Q I rx rv h
 obtain⟨a,b,rfl,rfl,hb,ha,q⟩:=h
 obtain⟨t,rfl⟩:=rx
 obtain⟨u,rfl,ru⟩:=rv.one
 obtain⟨t2,rfl⟩:=ru
 have hy:(b.length == 0)=false:=beq_eq_false_iff_ne.mpr hb
 have hz:a.length≤sizeLine:=by rw[sizeLine_eq];omega
 have sl:(Txt.split a b).length≤sizeLine:=by have:=(fact_split a b).2;rw[sizeLine_eq];omega
 have fin:∀ (l:List (Str×Tok)) (k:Nat),l.map (·.1)=Txt.split a b→∃ y H',Inv X pins σ H' { s with toks:=k,heap:=s.heap.push { cls:=.type "list", data:=.seq (strValues l).toArray } }∧RelV y (.ref s.heap.objs.size)∧Q y H':=fun l k e=>by
  refine⟨.ref s.heap.objs.size,_,I.laid (a:=s.heap.objs.size) (o:=.lst ((Txt.split a b).map V.str)) (t':=k) (fun _ _ q=>Heap.get?_push_of_some _ q) (Nat.le_refl _) ⟨by rw[List.length_map];exact sl,strValues l,0,?_,Heap.get?_push_size _ rfl⟩,rfl,q _ I.fresh⟩
  rw[← e];exact Ad l
 cases h1:(decide (a.length < b.length) || decide (strKind a < strKind b))
 ·cases hf:(occurrences a b 0 a.length (a.length+1)).isEmpty
  ·have e:Txt.split a b=partsBetween a (occurrences a b 0 a.length (a.length+1)) b.length:=(if_neg (ne_true_of_eq_false h1)).trans (if_neg (ne_true_of_eq_false hf))
   refine call_meets F.slot_str_split (typeIs_str _ _ _) F.entry_str_split (F.args_str_split_2 _ _) (meets_str_split_sep a b t t2 h1 hy hf hz (by rw[← e];exact sl)) ?_
   rw[strsFrom_eq]
   exact fin (numbered s.toks _) _ ((numbered_texts _ _).trans e.symm)
  ·exact call_meets F.slot_str_split (typeIs_str _ _ _) F.entry_str_split (F.args_str_split_2 _ _) (meets_str_split_not_found a b t t2 h1 hy hf) (fin [(a,t)] _ ((if_neg (ne_true_of_eq_false h1)).trans (if_pos hf)).symm)
 ·exact call_meets F.slot_str_split (typeIs_str _ _ _) F.entry_str_split (F.args_str_split_2 _ _) (meets_str_split_cannot_occur a b t t2 h1) (fin [(a,t)] _ (if_pos h1).symm)
def Zj:V→List V→Hp→VK→Prop:=fun x vs H Q=>∃ a b:Str,x=.str a∧vs=[.str b]∧b.length≠0∧a.length≤1000000∧∀ p,H p=none→Q (.ref p) (upd H p (.tup ((Mi.sS a b).map V.str)))
theorem XC:SM X "str.partition" Zj:=by
 intro pins s σ H x vs v us Q I rx rv h
 obtain⟨a,b,rfl,rfl,hb,ha,q⟩:=h
 obtain⟨t,rfl⟩:=rx
 obtain⟨u,rfl,ru⟩:=rv.one
 obtain⟨t2,rfl⟩:=ru
 have hy:(b.length == 0)=false:=beq_eq_false_iff_ne.mpr hb
 have hz:a.length≤sizeLine:=by rw[sizeLine_eq];omega
 have fin:∀ (l:List (Str×Tok)) (k:Nat),l.map (·.1)=Mi.sS a b→∃ y H',Inv X pins σ H' { s with toks:=k,heap:=s.heap.push { cls:=.type "tuple", data:=.seq (strValues l).toArray } }∧RelV y (.ref s.heap.objs.size)∧Q y H':=fun l k e=>by
  refine⟨.ref s.heap.objs.size,_,I.laid (a:=s.heap.objs.size) (o:=.tup ((Mi.sS a b).map V.str)) (t':=k) (fun _ _ q=>Heap.get?_push_of_some _ q) (Nat.le_refl _) ⟨by rw[List.length_map,sizeLine_eq];show (3:Nat)≤_;decide,strValues l,?_,Li.new _ _⟩,rfl,q _ I.fresh⟩
  rw[← e];exact Ad l
 refine call_meets F.slot_str_partition (typeIs_str _ _ _) F.entry_str_partition (F.args_str_partition_2 _ _) (meets_str_partition a b t t2 hy hz) ?_
 have f':=fin
 unfold Mi.sS Txt.partition at f'
 revert f'
 cases occurrences a b 0 a.length 1 with
 | nil=>intro f';exact f' [(a,t),(Str.empty,s.toks),(Str.empty,s.toks)] _ rfl
 | cons i r=>intro f';exact f' [(strSub a 0 i,s.toks),(b,t2),(strSub a (i+b.length) a.length,s.toks+1)] _ rfl
end
end L2
namespace A
open PySem L2 PyProof.Rows So
open Mi (D W Rs Fin aq)
variable[Tb:fK]
section
variable{K:PySem.W.Frag}{M:Nat→Bool}{ta tb:TE}{a b:Mi.E}
theorem Mx(Hv:Hp):∀ l:List Str,P2 (Rep Hv) (l.map D.str) (l.map V.str)
 | []=>.nil
 | x::l=>.cons (mL.mpr rfl) (Mx Hv l)
theorem YS(ha:AE M qP ta a)(hb:AE M qP tb b):AE M qN (Ze K "str" Uc ta (iW tb pB)) (Mi.m2 Mi.Ny a b):=fun e σ H Hv Q I h=>by
 obtain⟨x,hx,h⟩:=iZ (aq.mp h)
 obtain⟨y,hy,h⟩:=iZ (aq.mp h)
 cases x with
 | str x=>cases y with
  | str y =>
   obtain⟨⟨h1,h2⟩,h⟩:=Mi.aR h
   refine ha e σ H Hv _ I (by
    rw[hx]
    intro v H1 Hv1 g1 r1
    cases RD.str r1
    refine⟨rfl,hb e σ H1 Hv1 _ (I.grow g1) (by
     rw[hy]
     intro v2 H2 Hv2 g2 r2
     cases RD.str r2
     refine⟨x,y,rfl,rfl,h1,h2,fun p hp=>?_⟩
     obtain⟨g3,k⟩:=Bu g2.vw (Mx Hv2 (Txt.split x y)) hp
     exact(Mi.gf h) _ _ _ ((g1.trans g2).trans g3) (KM.mono (g1.trans g2).old k))⟩)
  | _=>exact h.elim
 | _=>cases y<;>exact h.elim
theorem abg(ha:AE M qP ta a)(hb:AE M qP tb b):AE M qV (Ze K "str" Zj ta (iW tb pB)) (Mi.m2 Mi.Qo a b):=fun e σ H Hv Q I h=>by
 obtain⟨x,hx,h⟩:=iZ (aq.mp h)
 obtain⟨y,hy,h⟩:=iZ (aq.mp h)
 cases x with
 | str x=>cases y with
  | str y =>
   obtain⟨⟨h1,h2⟩,h⟩:=Mi.aR h
   refine ha e σ H Hv _ I (by
    rw[hx]
    intro v H1 Hv1 g1 r1
    cases RD.str r1
    refine⟨rfl,hb e σ H1 Hv1 _ (I.grow g1) (by
     rw[hy]
     intro v2 H2 Hv2 g2 r2
     cases RD.str r2
     refine⟨x,y,rfl,rfl,h1,h2,fun p hp=>?_⟩
     obtain⟨g3,k⟩:=qJ g2.vw (Mx Hv2 (Mi.sS x y)) hp
     exact(Mi.gf h) _ _ _ ((g1.trans g2).trans g3) (KM.mono (g1.trans g2).old k))⟩)
  | _=>exact h.elim
 | _=>cases y<;>exact h.elim
end
end A
namespace Mi
open PySem
def Yy(ys:List Str):Str:=ys.foldl (· ++ ·) Str.empty
def dFs(ds:List D):Rs D:=(uC (rM ds)).bind fun ys=>aO (∀ y∈ys,y.length≤100000) (.ok (.str (Yy ys)))
end Mi
namespace L2
open PySem PySem.Spec PyProof.Rows
abbrev TQ:=St→Hp→Str→Prop
def FQ(X:Cx)(e:Expr)(q:TQ):Prop:=∀ (pins:List (Addr×Obj)) (s:Shared) (σ : St) (H:Hp) (y:Str),Inv X pins σ H s→q σ H y→y.length≤100000 →
 wpAny (model X.prog X.w) X.A (eval e X.env) (fun v s1=>∃ t,v=.str y t∧Inv X pins σ H s1) X.xe s
def FQs(X:Cx):List Expr→List TQ→Prop
 | [],[]=>True
 | e::es,p::ps=>FQ X e p∧FQs X es ps
 | _,_=>False
def tFs(qs:List TQ):TE:=fun σ H Q=>∃ ys,A.P2 (fun q y=>q σ H y) qs ys∧(∀ y∈ys,y.length≤100000)∧Q (.str (Mi.Yy ys)) H
def Zu(x:Str):TQ:=fun _ _ y=>y=x
def acb(i:Nat):TQ:=fun σ _ y=>σ[i]? = some (some (.str y))
section
variable{X:Cx}
theorem Qh{x:Str}{j pos}:FQ X (.Constant (.str x) j pos) (Zu x):=fun pins s σ H y I e _=>by
 have e:y=x:=e
 subst e
 exact wpAny_mono (fB (X:=X) pins s σ H (fun v H'=>v=.str y∧H'=H) I ⟨rfl,rfl⟩) (fun v s1 ⟨v',H',I',r,e1,e2⟩=>by
  subst e1 e2
  obtain⟨t,rfl⟩:=r
  exact⟨t,rfl,I'⟩) fun _ _ z=>z
theorem HW{e:Expr}{i:Nat}{pos:Pos}(he:PE X e (pA i)):FQ X (.FormattedValue e (-1) none pos) (acb i):=fun pins s σ H y I h hy=>by
 refine wpAny_FormattedValue_plain (eU (he pins s σ H (fun v H'=>v=.str y∧H'=H) I ⟨_,h,rfl,rfl⟩) fun v s1 ⟨v',H',I',r,e1,e2⟩=>?_)
 subst e1 e2
 obtain⟨t,rfl⟩:=r
 exact wpAny_formatField_str ⟨_,rfl,I'⟩ ⟨_,rfl,I'.tok _⟩ (by rw[sizeLine_eq];omega)
theorem Qg:FQs X [] []:=trivial
theorem pZ{e:Expr}{es:List Expr}{p:TQ}{ps:List TQ}(h:FQ X e p)(t:FQs X es ps):FQs X (e::es) (p::ps):=⟨h,t⟩
theorem Vs{pins:List (Addr×Obj)}{σ : St}{H:Hp}{Q:Str→Shared→Prop}:∀ (es:List Expr) (qs:List TQ) (ys:List Str) (acc:Str) (s:Shared),FQs X es qs→A.P2 (fun q y=>q σ H y) qs ys→(∀ y∈ys,y.length≤100000)→acc.length+100000 * es.length≤sizeLine→Inv X pins σ H s →
 (∀ s',(ys.foldl (· ++ ·) acc).length≤sizeLine→Inv X pins σ H s'→Q (ys.foldl (· ++ ·) acc) s')→Joins (model X.prog X.w) X.A X.xe (evalEach es X.env) acc Q s
 | [],[],ys,acc,s,_,p,_,hl,I,q=>by
  cases p
  exact q s (by simp at hl;exact hl) I
 | [],_::_,_,_,_,f,_,_,_,_,_=>f.elim
 | _::_,[],_,_,_,f,_,_,_,_,_=>f.elim
 | e::es,p::ps,ys,acc,s,f,hp,hy,hl,I,q=>by
  cases hp with
  | @cons _ y _ ys h t =>
  refine wpAny_mono (f.1 pins s σ H y I h (hy y List.mem_cons_self)) (fun v s1 ⟨t',ev,I1⟩=>?_) fun _ _ z=>z
  rw[List.length_cons] at hl
  have ha:(acc++y).length≤acc.length+100000:=by rw[strLen_append];have:=hy y List.mem_cons_self;omega
  exact⟨y,t',ev,by omega,Vs es ps ys (acc++y) s1 f.2 t (fun p' h'=>hy p' (List.mem_cons_of_mem _ h')) (by omega) I1 q⟩
theorem Zv{e1 e2:Expr}{es:List Expr}{qs:List TQ}{pos:Pos}(f:FQs X (e1::e2::es) qs)(hl:(e1::e2::es).length≤100):PE X (.JoinedStr (e1::e2::es) pos) (tFs qs):=fun pins s σ H Q I ⟨ys,p,hy,q⟩ =>
 wpAny_JoinedStr (Vs _ qs ys Str.empty s f p hy (by rw[sizeLine_eq];have:Str.empty.length=0:=rfl;omega) I fun s' hz I'=>⟨hz,.str (Mi.Yy ys),H,I'.tok _,⟨_,rfl⟩,q⟩)
end
end L2
namespace A
open PySem L2 PyProof.Rows So
open Mi (D W Rs Fin aq)
variable[Tb:fK]
section
variable{M:Nat→Bool}
def AQ(M:Nat→Bool)(q:TQ)(m:Mi.E):Prop:=∀ e σ H Hv y,R0 M e σ H Hv→m e=.ok (.str y)→q σ H y
theorem QF{x:Str}:AQ M (Zu x) (Mi.mC (.str x)):=fun e σ H Hv y I h=>by
 cases h;rfl
theorem Ir(i:Nat)(hM:M i=false):AQ M (acb i) (Mi.mV i):=fun e σ H Hv y I h=>by
 have h2:Fin (Mi.mV i e) (fun d=>d=.str y):=by rw[h];rfl
 obtain⟨d,he,h3⟩:=Vj h2
 subst h3
 obtain⟨v,q,z⟩:=I.nob i _ he hM
 rw[(mL (H:=Hv)).mp z] at q
 exact q
inductive Z3(M:Nat→Bool):List TQ→List Mi.E→Prop
 | nil:Z3 M [] []
 | cons {q m qs ms}:AQ M q m→Z3 M qs ms→Z3 M (q::qs) (m::ms)
theorem Z3.all{e:Mi.Env}{σ : L2.St}{H Hv:Hp}(I:R0 M e σ H Hv):∀ {qs:List TQ} {ms:List Mi.E} {ds:List D} {ys:List Str},Z3 M qs ms→Mi.fV ms e=.ok ds→Mi.rM ds=some ys→P2 (fun q y=>q σ H y) qs ys
 | _,_,_,_,.nil,h,hs=>by
  cases h;cases hs;exact .nil
 | _,m::ms,ds,ys,.cons a t,h,hs=>by
  rw[Mi.fV] at h
  cases hm:m e with
  | ok x =>
   rw[hm] at h
   cases hr:Mi.fV ms e with
   | ok xs =>
    rw[hr] at h
    cases h
    cases x with
    | str b =>
     cases hb:Mi.rM xs with
     | some zs =>
      rw[Mi.rM,hb] at hs
      cases hs
      exact .cons (a e σ H Hv b I hm) (Z3.all I t hr hb)
     | none=>rw[Mi.rM,hb] at hs;cases hs
    | _=>cases hs
   | _=>rw[hr] at h;cases h
  | _=>rw[hm] at h;cases h
theorem acY{qs:List TQ}{ms:List Mi.E}(h:Z3 M qs ms):AE M qV (tFs qs) (Mi.mN Mi.dFs ms):=fun e σ H Hv Q I hf=>by
 obtain⟨ds,hd,hf⟩:=iZ (aq.mp hf)
 obtain⟨ys,hs,hf⟩:=jP (aq.mp hf)
 obtain⟨hz,hf⟩:=Mi.aR hf
 exact⟨ys,Z3.all I h hd hs,hz,(Mi.gf hf) _ H Hv (.refl I.vw) xQ⟩
end
end A
namespace Mr
open PySem Mi
def jy:S :=
 (mj (lY (mV 1)) (.n 2)
 (jE (cB (m2 gh (mV 2) (mV 0)))
 gW
 bK))
def bu:Fn:=vH 2 3 jy
def yW:S :=
 (bc (sI (aQ bu [(wD (m2 gA (mV 0) (mC (.int 0)))),(wD (mN oR [(mV 1)]))]))
 (c7 (wD (mN oU [(cF [some 1,none,none] (lY (m2 gA (mV 0) (mC (.int 1)))) (.t [1,2]) (cB (m2 Jg (mV 2) (mV 0))) (mV 1))]))))
def jB:Fn:=vH 2 2 yW
def uT:S :=
 (bc (mj (lY (m2 gA (mV 0) (mC (.int 0)))) (.n 2)
 (jE (nO (cB (m2 gh (mV 2) (mV 1))) (cB (mN CZ [(cF [some 1,none] (lY (aQ jB [(wD (mV 0)),(wD (mV 2))])) (.n 1) dX (m2 Ie (mV 1) (mV 0)))])))
 (c7 (wD (mV 2)))
 bK))
 (c7 (wD (mC .non))))
def dm:Fn:=vH 2 3 uT
def FT:S :=
 (bc (bV 1 (mN oR []))
 (bc (bV 2 (sV dm [(wD (mV 0)),(wD (mV 1))]))
 (bc (Bb 100 (cB (m2 Cv (mV 2) (mC .non)))
 (bc (dj 1 (mV 2))
 (bV 2 (sV dm [(wD (mV 0)),(wD (mV 1))]))))
 (c7 (wV 1)))))
def pP:Fn:=Je 1 3 FT
def FJ:S :=
 (bc (bV 2 (mC (.str "etaoinshrdlucmfwypvbgkqjxz")))
 (bc (jE (cB (m2 Jf (m2 fJ (mV 0) (mC (.int 4))) (mC (.int 2))))
 (bc (bV 3 (m2 Cr (mC (.str "")) (cF [some 2,some 0,none] (iR (mC (.int 8))) (.n 2) dX (m2 gA (mV 0) (m2 fJ (m2 lu (mV 1) (m2 bQ (mC (.int 4)) (m2 dI (mC (.int 3)) (mV 2)))) (mC (.int 26)))))))
 (bc (jE (cB (m2 Jg (m2 fJ (mV 0) (mC (.int 4))) (mC (.int 0))))
 (c7 (wD (cF [some 3,none] (iR (mV 1)) (.n 1) dX (gq Qn (mV 0) none (some (m2 bQ (mV 1) (mC (.int 1))))))))
 bK)
 (c7 (wD (cF [some 3,none] (iR (mV 1)) (.n 1) dX (gq Qn (mV 0) (some (m2 HY (mC (.int 7)) (mV 1))) none))))))
 bK)
 (bc (bV 4 (m2 fJ (m2 lu (mV 0) (mC (.int 4))) (mC (.int 8))))
 (bc (bV 5 (m2 Cr (mC (.str "")) (cF [some 2,some 0,none] (iR (mV 4)) (.n 2) dX (m2 gA (mV 0) (m2 fJ (m2 bQ (m2 bQ (m2 lu (mV 1) (mC (.int 32))) (m2 dI (mC (.int 5)) (mV 2))) (m2 dI (mV 2) (mV 2))) (mC (.int 26)))))))
 (bc (bV 6 (m2 fJ (m2 lu (mV 0) (mC (.int 256))) (m2 bQ (mV 4) (mC (.int 1)))))
 (c7 (wD (cF [some 5,some 2,some 6,some 0,none] (iR (mV 1)) (.n 4) dX (m2 bQ (m2 bQ (gq Qn (mV 0) none (some (mV 2))) (m2 gA (mV 1) (m2 fJ (m2 bQ (m2 lu (mV 3) (mC (.int 7))) (m2 dI (mC (.int 5)) (mV 4))) (mC (.int 26))))) (gq Qn (mV 0) (some (mV 2)) none))))))))))
def pN:Fn:=Je 2 7 FJ
def K7:S :=
 (bc (jE (cB (m2 Jf (mV 1) (mN mY [(mV 0)])))
 (c7 (wD (m2 gA (mV 0) (mV 1))))
 bK)
 (bc (bV 2 (m2 bQ (mC (.int 30011)) (m2 dI (m2 dI (mC (.int 709)) (mV 1)) (mV 1))))
 (bc (jE (cB (m2 dGt (mN mY [(mV 0)]) (mC (.int 0))))
 (bV 2 (m2 bQ (mV 2) (m2 dI (m2 fJ (m2 gA (mV 0) (mC (.int 0))) (mC (.int 99991))) (m2 bQ (m2 bQ (m2 dI (mV 1) (mV 1)) (m2 dI (mC (.int 2)) (mV 1))) (mC (.int 5))))))
 bK)
 (c7 (wD (mV 2))))))
def dU:Fn:=vH 2 3 K7
def yV:S :=
 (bc (bV 2 (cF [none] (iR (mV 1)) (.n 0) dX (mV 0)))
 (bc (bV 3 (mN oR []))
 (bc (bV 4 (m2 fJ (mV 0) (mC (.int 2147483647))))
 (bc (mj (iR (mV 1)) (.n 5)
 (bc (bV 4 (m2 fJ (m2 bQ (m2 bQ (m2 dI (mV 4) (mC (.int 48271))) (m2 dI (mC (.int 7)) (mV 5))) (mC (.int 1))) (mC (.int 2147483647))))
 (qC 3 2 (m2 fJ (m2 lu (mV 4) (mC (.int 32))) (mN mY [(mV 2)])))))
 (c7 (wV 3))))))
def lN:Fn:=Je 2 6 yV
def FN:S :=
 (bc (bV 2 (m2 bQ (mC (.int 1)) (m2 fJ (aQ dU [(wD (mV 0)),(wD (mC (.int 0)))]) (mV 1))))
 (bc (bV 3 (aQ pN [(wD (aQ dU [(wD (mV 0)),(wD (mC (.int 1)))])),(wD (mV 2))]))
 (bc (bV 4 (aQ lN [(wD (aQ dU [(wD (mV 0)),(wD (mC (.int 2)))])),(wD (mV 2))]))
 (bc (bV 5 (m2 gA (mN oR [(mC (.int 4)),(mC (.int 1)),(mC (.int 2)),(mC (.int 3)),(mC (.int 2)),(mC (.int 3))]) (m2 fJ (aQ dU [(wD (mV 0)),(wD (mC (.int 3)))]) (mC (.int 6)))))
 (bc (bV 6 (mN oR []))
 (bc (mj (iR (mV 2)) (.n 7)
 (mj (iR (mV 2)) (.n 8)
 (bc (bV 9 (aQ dU [(wD (mV 0)),(wD (m2 bQ (m2 bQ (mC (.int 4)) (m2 lu (m2 dI (mN yl [(mV 7),(mV 8)]) (m2 HY (mN yl [(mV 7),(mV 8)]) (mC (.int 1)))) (mC (.int 2)))) (mN K9 [(mV 7),(mV 8)])))]))
 (jE (nO (cB (m2 Jf (m2 gA (mV 4) (mV 7)) (m2 gA (mV 4) (mV 8)))) (cB (m2 Jf (m2 fJ (m2 lu (m2 fJ (m2 dI (mV 9) (mC (.int 48271))) (mC (.int 2147483647))) (mC (.int 16))) (mC (.int 4))) (mV 5))))
 (dj 6 (mN dTup [(m2 gA (mV 3) (mV 7)),(m2 gA (mV 3) (mV 8))]))
 bK))))
 (c7 (wD (mN dTup [(mN oU [(mV 3)]),(mN oU [(mV 6)])])))))))))
def pO:Fn:=vH 2 10 FN
def qg(F:Fn):S :=
 (bc (jE (Fp (cB (m1 (yZ ["str"]) (mV 1))) (cB (m1 (yZ ["int"]) (mV 1))))
 (bc (jE (Fp (cB (m2 KD (m1 (yZ ["bool"]) (mV 0)) (m1 (yZ ["bool"]) (mV 1)))) (cB (m2 KD (m1 (yZ ["str"]) (mV 0)) (m1 (yZ ["str"]) (mV 1)))))
 (c7 (wD (mC (.bl false))))
 bK)
 (c7 (wD (DX (m1 (yZ ["int", "str"]) (mV 0)) (m2 Jg (mV 0) (mV 1))))))
 bK)
 (bc (jE (Fp (cB (m2 KD (m1 (yZ ["list"]) (mV 0)) (m1 (yZ ["list"]) (mV 1)))) (jf (cB (m1 (yZ ["list", "tuple"]) (mV 0)))))
 (c7 (wD (mC (.bl false))))
 bK)
 (bc (jE (cB (m2 KD (mN mY [(mV 0)]) (mN mY [(mV 1)])))
 (c7 (wD (mC (.bl false))))
 bK)
 (bc (mj (Nh (mV 0) (mV 1)) (.t [2,3])
 (jE (jf (cB (aQ F [(wD (mV 2)),(wD (mV 3))])))
 (c7 (wD (mC (.bl false))))
 bK))
 (c7 (wD (mC (.bl true))))))))
def bw:Nat→Fn
 | 0=>fnZ
 | n+1=>vH 2 4 (qg (bw n))
def CV:S :=
 (bc (sI (aQ bu [(wD (m2 gA (mV 0) (mC (.int 0)))),(wD (mN oR [(mV 1),(mV 2)]))]))
 (c7 (wD (mOr (m2 Ie (mN dTup [(mV 1),(mV 2)]) (m2 gA (mV 0) (mC (.int 1)))) (m2 Ie (mN dTup [(mV 2),(mV 1)]) (m2 gA (mV 0) (mC (.int 1))))))))
def fG:Fn:=vH 3 3 CV
def uP:S :=
 (c7 (wD (Hr [0] (mV 1) (cF [some 1,none] (lY (mV 0)) (.n 1) dX (m2 NB (mV 0) (mV 1))))))
def bN:Fn:=Je 2 2 uP
def vO:S :=
 (bc (bV 1 (mN oR []))
 (bc (mj (HJ (mV 0)) (.t [2,3])
 (nZ 1 (cF [some 3,none] (lY (gq Kv (mV 0) (some (m2 bQ (mV 2) (mC (.int 1)))) none)) (.n 1) dX (mN dTup [(mV 0),(mV 1)]))))
 (c7 (wV 1))))
def cP:Fn:=Je 1 4 vO
def Fx:S :=
 (c7 (wD (cF [some 0,none,none] (lY (aQ cP [(wD (m2 gA (mV 0) (mC (.int 0))))])) (.t [1,2]) (cB (aQ fG [(wD (mV 0)),(wD (mV 1)),(wD (mV 2))])) (mN dTup [(mV 1),(mV 2)]))))
def m7:Fn:=Je 1 1 Fx
def w6:S :=
 (bc (W4 (.t [1,2]) (mV 0))
 (bc (bV 3 (mN oR []))
 (bc (mj (lY (aQ cP [(wD (mV 1))])) (.t [4,5])
 (jE (jf (cB (aQ fG [(wD (mV 0)),(wD (mV 4)),(wD (mV 5))])))
 (bc (bV 6 (cF [some 2,some 4,some 5,none] (lY (mV 1)) (.n 3) (nO (cB (m2 Ie (mN dTup [(mV 1),(mV 3)]) (mV 0))) (cB (m2 Ie (mN dTup [(mV 2),(mV 3)]) (mV 0)))) (mV 3)))
 (nZ 3 (cF [some 4,some 5,none] (lY (mV 6)) (.n 2) dX (mN dTup [(mV 0),(mV 2),(mV 1)]))))
 bK))
 (c7 (wD (aQ bN [(wD (mV 1)),(wD (mV 3))]))))))
def iM:Fn:=Je 1 7 w6
def FP:S :=
 (c7 (wD (DX (yc Yr Yr (mC (.int 1)) (mN mY [(mV 0)]) (mC (.int 8))) (mN CZ [(cF [none] (lY (mV 0)) (.n 0) dX (m2 Ie (mV 0) (mC (.str "abcdefghijklmnopqrstuvwxyz"))))]))))
def cj:Fn:=vH 1 1 FP
def lR:S :=
 (bc (jE (jf (cB (yc Yr Yr (mC (.int 1)) (mN mY [(mV 0)]) (mC (.int 8)))))
 gW
 bK)
 (bc (uL 1 (fun _=>.ok (.dk [])))
 (mj (lY (mV 0)) (.n 2)
 (bc (jE (jf (cB (aQ cj [(wD (mV 2))])))
 gW
 bK)
 (bc (jE (cB (j7 1 (mV 2)))
 gW
 bK)
 (gK 1 (mV 2) (mC (.bl true))))))))
def dB:Fn:=vH 1 3 lR
def lQ:S :=
 (bc (uL 2 (fun _=>.ok (.dt [])))
 (mj (lY (mV 1)) (.t [3,4])
 (bc (sI (aQ bu [(wD (mV 0)),(wD (mN oR [(mV 3),(mV 4)]))]))
 (bc (jE (cB (m2 Jg (mV 3) (mV 4)))
 gW
 bK)
 (bc (jE (cB (j7 2 (mN dTup [(mV 3),(mV 4)])))
 gW
 bK)
 (bc (gK 2 (mN dTup [(mV 3),(mV 4)]) (mC (.bl true)))
 (gK 2 (mN dTup [(mV 4),(mV 3)]) (mC (.bl true)))))))))
def dw:Fn:=vH 2 5 lQ
def uQ:S :=
 (bc (bV 1 (aQ pP [(wD (mV 0))]))
 (bc (bV 2 (cF [some 1,none] (lY (m2 gA (mV 0) (mC (.int 0)))) (.n 1) (cB (m2 gh (mV 1) (mV 0))) (mV 1)))
 (jE (K4 (mV 2))
 gW
 bK)))
def jj:Fn:=vH 1 3 uQ
def CQ:S :=
 (bc (sI (aQ dB [(wD (mV 0))]))
 (bc (sI (aQ dw [(wD (mV 0)),(wD (mV 1))]))
 (bc (bV 2 (cF [none,none] (lY (mV 1)) (.t [0,1]) dX (mN dTup [(mV 0),(mV 1)])))
 (bc (bV 3 (mN dTup [(mN oU [(mV 0)]),(mN oU [(aQ bN [(wD (mV 0)),(wD (mV 2))])])]))
 (bc (sI (aQ jj [(wD (mV 3))]))
 (c7 (wD (mV 3))))))))
def iu:Fn:=vH 2 4 CQ
def yU:S :=
 (c7 (wD (cF [some 1,none,none] (lY (mV 0)) (.t [1,2]) (nO (cB (m2 gh (mN dTup [(mV 1),(mV 2)]) (mV 0))) (cB (m2 gh (mN dTup [(mV 2),(mV 1)]) (mV 0)))) (mN dTup [(mV 1),(mV 2)]))))
def jA:Fn:=Je 2 2 yU
def uR:S :=
 (c7 (wD (DX (m2 KD (mV 0) (mV 2)) (DX (mR 3 (mN dTup [(mV 0),(mV 2)])) (mR 4 (mN dTup [(mV 0),(mV 1),(mV 2)]))))))
def cO:Fn:=vH 5 5 uR
def CN:S :=
 (bc (bV 6 (mN oR []))
 (bc (mj (lY (mV 2)) (.n 7)
 (bc (jE (cB (j7 4 (mN dTup [(mV 0),(mV 1),(mV 7)])))
 (dj 6 (mN dTup [(mV 0),(mV 1),(mC (.str "corner")),(mN dTup [(mV 7)])]))
 bK)
 (bc (jE (nO (cB (j7 5 (mN dTup [(mV 7),(mV 0)]))) (cB (aQ cO [(wD (mV 7)),(wD (mV 0)),(wD (mV 1)),(wV 3),(wV 4)])))
 (dj 6 (mN dTup [(mV 0),(mV 1),(mC (.str "on")),(mN dTup [(mV 7)])]))
 bK)
 (jE (nO (cB (j7 5 (mN dTup [(mV 0),(mV 7)]))) (cB (j7 5 (mN dTup [(mV 7),(mV 1)]))))
 (dj 6 (mN dTup [(mV 0),(mV 1),(mC (.str "over")),(mN dTup [(mV 7)])]))
 bK))))
 (bc (bV 8 (cF [some 5,some 3,some 1,some 0,none] (lY (mV 2)) (.n 4) (nO (cB (j7 0 (mN dTup [(mV 4),(mV 2)]))) (cB (j7 1 (mN dTup [(mV 4),(mV 3)])))) (mV 4)))
 (bc (mj (lY (aQ cP [(wD (mV 8))])) (.t [7,9])
 (jE (cB (aQ cO [(wD (mV 7)),(wD (mV 0)),(wD (mV 9)),(wV 3),(wV 4)]))
 (dj 6 (mN dTup [(mV 0),(mV 1),(mC (.str "both")),(mN dTup [(mV 7),(mV 9)])]))
 bK))
 (c7 (wV 6))))))
def jx:Fn:=Je 6 10 CN
def yX:S :=
 (bc (uL 1 (fun _=>.ok (.dt [])))
 (bc (mj (lY (mV 0)) (.n 2)
 (bc (gK 1 (mV 2) (mC (.bl true)))
 (gK 1 (m1 Kw (mV 2)) (mC (.bl true)))))
 (c7 (wV 1))))
def fU:Fn:=Je 1 3 yX
def wW:S :=
 (bc (uL 3 (S7 (jG fU [(wD (mV 1))])))
 (bc (uL 4 (S7 (jG fU [(wD (mV 2))])))
 (bc (uL 5 (fun _=>.ok (.dt [])))
 (bc (bV 6 (mC .non))
 (bc (Bb 200 (cB (m2 KD (Bw 5) (mV 6)))
 (bc (bV 6 (Bw 5))
 (mj (HN 3) (.t [7,8])
 (jE (cB (mR 5 (mN dTup [(mV 7),(mV 8)])))
 (bc (bV 9 (Bx jx [(wD (mV 7)),(wD (mV 8)),(wD (mV 0)),(wV 3),(wV 4),(wV 5)]))
 (jE (K4 (mV 9))
 (gK 5 (mN dTup [(mV 7),(mV 8)]) (m2 gA (mV 9) (mC (.int 0))))
 bK))
 bK))))
 (c7 (wD (Vk 5))))))))
def f9:Fn:=Je 3 10 wW
def wY:S :=
 (bc (bV 3 (cF [none] (lY (aQ f9 [(wD (mV 0)),(wD (mV 1)),(wD (mV 2))])) (.n 0) dX (gq zE (mV 0) none (some (mC (.int 2))))))
 (bc (bV 4 (cF [some 3,none,none] (lY (mV 3)) (.t [1,2]) (cB (m2 gh (mN dTup [(mV 2),(mV 1)]) (mV 0))) (mN dTup [(mV 1),(mV 2)])))
 (c7 (wD (mN dTup [(mV 0),(mN oU [(aQ bN [(wD (mV 0)),(wD (mV 4))])]),(mN oU [(aQ jA [(wD (mV 1)),(wD (mV 4))])])])))))
def fc:Fn:=vH 3 5 wY
def wX:S :=
 (c7 (wD (aQ fc [(wD (m2 gA (mV 0) (mC (.int 0)))),(wD (aQ m7 [(wD (mV 0))])),(wD (aQ iM [(wD (mV 0))]))])))
def iK:Fn:=vH 1 1 wX
def tL:S :=
 (c7 (wD (cF [none,none] (lY (mV 0)) (.t [0,1]) dX (mN dFs [(mV 0),(mC (.str ">")),(mV 1)]))))
def cQ:Fn:=Je 1 1 tL
def CK:S :=
 (bc (W4 (.t [1,2]) (mV 0))
 (c7 (wD (m2 Cr (mC (.str " ")) (m2 bQ (m2 bQ (mN CW [(mV 1)]) (mN oR [(mC (.str ":"))])) (aQ cQ [(wD (mV 2))]))))))
def ir:Fn:=vH 1 3 CK
def tK:S :=
 (bc (W4 (.t [1,2,3]) (mV 0))
 (bc (bV 4 (cF [none,none] (lY (mV 3)) (.t [0,1]) dX (mN dFs [(mV 0),(mC (.str "-")),(mV 1)])))
 (c7 (wD (m2 Cr (mC (.str " ")) (m2 bQ (m2 bQ (m2 bQ (mN CW [(mV 1)]) (mN oR [(mC (.str ":"))])) (aQ cQ [(wD (mV 2))])) (mV 4)))))))
def du:Fn:=vH 1 5 tK
def CT:S :=
 (c7 (wD (DX (aQ cj [(wD (m2 gA (mV 0) (mC (.int 0))))]) (aQ cj [(wD (m2 gA (mV 0) (mC (.int 2))))]))))
def lg:Fn:=vH 1 1 CT
def CP:S :=
 (bc (bV 1 (m2 Ny (mV 0) (mC (.str " "))))
 (bc (jE (cB (m2 gh (mC (.str ":")) (mV 1)))
 gW
 bK)
 (bc (bV 2 (m2 NB (mV 1) (mC (.str ":"))))
 (bc (bV 3 (gq Qn (mV 1) none (some (mV 2))))
 (bc (bV 4 (cF [none] (lY (gq Qn (mV 1) (some (m2 bQ (mV 2) (mC (.int 1)))) none)) (.n 0) dX (m2 Qo (mV 0) (mC (.str ">")))))
 (bc (jE (Fp (jf (K4 (mV 3))) (jf (cB (mN CZ [(cF [none] (lY (mV 3)) (.n 0) dX (aQ cj [(wD (mV 0))]))]))))
 gW
 bK)
 (bc (jE (jf (cB (mN CZ [(cF [none] (lY (mV 4)) (.n 0) dX (aQ lg [(wD (mV 0))]))])))
 gW
 bK)
 (c7 (wD (aQ iu [(wD (mV 3)),(wD (cF [none,none,none] (lY (mV 4)) (.t [0,1,2]) dX (mN dTup [(mV 0),(mV 2)])))]))))))))))
def eF:Fn:=vH 1 5 CP
def K6:S :=
 (bc (bV 1 (mC (.str "")))
 (bc (mj (lY (m2 gA (mV 0) (mC (.int 0)))) (.n 2)
 (bV 1 (m2 bQ (m2 bQ (mV 1) (mV 2)) (mC (.str " ")))))
 (bc (bV 1 (m2 bQ (mV 1) (mC (.str ":"))))
 (bc (mj (lY (m2 gA (mV 0) (mC (.int 1)))) (.t [3,4])
 (bV 1 (m2 bQ (m2 bQ (m2 bQ (m2 bQ (mV 1) (mC (.str " "))) (mV 3)) (mC (.str ">"))) (mV 4))))
 (c7 (wD (mV 1)))))))
def iw:Fn:=vH 1 5 K6
def rB:S :=
 (bc (jE (Fp (jf (cB (m1 (yZ ["tuple"]) (mV 0)))) (Fp (cB (m2 KD (mN mY [(mV 0)]) (mC (.int 3)))) (jf (cB (aQ (bw 4) [(wD (m2 gA (mV 0) (mC (.int 0)))),(wD (m2 gA (mV 1) (mC (.int 0))))])))))
 (c7 (wD (mC (.str ""))))
 bK)
 (bc (bV 2 (aQ iw [(wD (m2 KH (gq zE (mV 1) none (some (mC (.int 1)))) (mN dTup [(m2 gA (mV 0) (mC (.int 1)))])))]))
 (bc (mj (lY (m2 gA (mV 0) (mC (.int 2)))) (.t [3,4])
 (bV 2 (m2 bQ (m2 bQ (m2 bQ (m2 bQ (mV 2) (mC (.str " "))) (mV 3)) (mC (.str "-"))) (mV 4))))
 (c7 (wD (mV 2))))))
def eY:Fn:=vH 2 5 rB
def qe:S :=
 (bc (bV 2 (m2 fJ (m2 lu (mV 1) (mC (.int 2))) (m2 bQ (mN mY [(mV 0)]) (mC (.int 1)))))
 (bc (bV 3 (mN CW [(m2 KH (gq zE (mV 0) (some (mV 2)) none) (gq zE (mV 0) none (some (mV 2))))]))
 (bc (jE (cB (m2 Jg (m2 fJ (mV 1) (mC (.int 2))) (mC (.int 1))))
 (Bc 3)
 bK)
 (c7 (wD (mN oU [(mV 3)]))))))
def eE:Fn:=vH 2 4 qe
def Fz:S :=
 (bc (bV 1 (aQ pO [(wD (mV 0)),(wD (mC (.int 8)))]))
 (bc (bV 2 (aQ iw [(wD (mV 1))]))
 (bc (jE (Fp (jf (cB (aQ (bw 4) [(wD (aQ ir [(wD (mV 1))])),(wD (mV 2))]))) (jf (cB (aQ (bw 4) [(wD (aQ eF [(wD (mV 2))])),(wD (mV 1))]))))
 (c7 (wD (mC (.bl false))))
 bK)
 (bc (bV 3 (mN dTup [(m2 gA (mV 1) (mC (.int 0))),(aQ eE [(wD (m2 gA (mV 1) (mC (.int 1)))),(wD (aQ dU [(wD (mV 0)),(wD (mC (.int 32)))]))])]))
 (bc (jE (jf (cB (aQ (bw 4) [(wD (aQ eF [(wD (aQ iw [(wD (mV 3))]))])),(wD (mV 1))])))
 (c7 (wD (mC (.bl false))))
 bK)
 (bc (bV 4 (aQ iK [(wD (mV 1))]))
 (bc (bV 5 (aQ eY [(wD (mV 4)),(wD (mV 1))]))
 (bc (jE (Fp (cB (m2 Jg (mV 5) (mC (.str "")))) (jf (cB (aQ (bw 4) [(wD (aQ du [(wD (mV 4))])),(wD (mV 5))]))))
 (c7 (wD (mC (.bl false))))
 bK)
 (c7 (wD (DX (aQ (bw 4) [(wD (aQ ir [(wD (aQ eF [(wD (mV 2))]))])),(wD (mV 2))]) (aQ (bw 4) [(wD (aQ du [(wD (mV 4))])),(wD (mV 5))]))))))))))))
def xZ:Fn:=vH 1 6 Fz
end Mr
namespace Ot
open PySem L2 PyProof.Rows A
open Mr
def XS(x:Str):Str:=x ++ ".<locals>." ++ "<lambda>"
def top(i:Nat):Stmt:=PySem.Challenge.pw_arrowfind_k80_written_and_read.main.body.getD i (.Pass ⟨0,0,0,0⟩)
structure Txt(mg:Str→Option Value):Prop where
 jm:mg "len" = none
 mX:mg "range" = none
 K5:mg "max" = none
 Wi:mg "min" = none
 dM:mg "tuple" = none
 nP:mg "list" = none
 cV:mg "isinstance" = none
 xf:mg "all" = none
 aep:mg "any" = none
 Wj:mg "bool" = none
 Qx:mg "str" = none
 ZV:mg "int" = none
 acV:mg "zip" = none
 K8:mg "enumerate" = none
 Wh:mg "sorted" = none
 Ob:mg "reversed" = none
 aeo:mg "set" = none
 R6:∃ t,mg "LETTERS" = some (.str "abcdefghijklmnopqrstuvwxyz" t)
 CG:∃ t,mg "MOST_LETTERS" = some (.int 8 t)
 Ij:∃ t,mg "MOST_NAMES" = some (.int 8 t)
 Ik:∃ t,mg "COLON" = some (.str ":" t)
section
variable{P:Program}{w:World}{K:PySem.W.Frag}{mg:Str→Option Value}{base:Heap}[Tb:fK]
abbrev nA:Stmt:=top 30
theorem q8:bB ["arrows"] ["arrows"] (aW nA):=⟨rfl,rfl,rfl,by decide +kernel,rfl,by decide +kernel,by decide +kernel⟩
theorem zu{f:Addr}{fd:FuncData}(F:oV K "arrows_shown" "arrows_shown" nA f fd)(T:Txt mg)  : cW P w K mg base cD 1 f fd ["arrows"] (t6 cQ) :=
 F.ok q8 (fun vs H Q E h=>zx h) (fun cdv A outer s H vs Q E hr h=>by
  have nd:=q8.nd
  have hu:=dC hr
  have cM:=hr.units
  exact⟨_,(aG (bG (eG (N':=["tail", "head"]) (ρ:=[none,none]) rfl (cH.of rfl (by kernel_rfl)) (cG (pv 0)) (fun _ _ _ _ _=>(fY rfl (bh (aN (i:=0) (by show (["tail", "head"]:List Str).Nodup;decide +kernel) rfl (Or.inl rfl)) (bh (aN (i:=1) (by show (["tail", "head"]:List Str).Nodup;decide +kernel) rfl (Or.inl rfl)) d9)))) (tu (dD rfl (dD rfl tD iB) (lH iB))) (fun _ _ _ _ _=>d8) (fun _ _ _ _ _=>(Zv (pZ (HW (pv 0)) (pZ Qh (pZ (HW (pv 1)) Qg))) (by decide)))))),
  _root_.A.runN (N:=["arrows"]) (M:=Mo []) (oF (AE.w (dF (K:=K) (tg:=(.t [0,1])) (dN (AE.p (ao 0 rfl))) (by decide) gj (acY (.cons (Ir 0 rfl) (.cons QF (.cons (Ir 1 rfl) .nil))))))) (by decide) h⟩)
abbrev u6:Stmt:=top 27
theorem yC:bB ["net", "names", "arrows"] ["net"] (aW u6):=⟨rfl,rfl,rfl,by decide +kernel,rfl,by decide +kernel,by decide +kernel⟩
theorem JP{f:Addr}{fd:FuncData}(F:oV K "show_net" "show_net" u6 f fd)(T:Txt mg)(fQ:kE P w K mg base cD 1 "arrows_shown" ["arrows"] (t6 cQ)):cW P w K mg base cD 2 f fd ["net"] (jr ir) :=
 F.ok yC (fun vs H Q E h=>nH h) (fun cdv A outer s H vs Q E hr h=>by
  have nd:=yC.nd
  have hu:=dC hr
  have cM:=hr.units
  have mz:=hr.mono (show 1≤_ by decide)
  obtain⟨_,uo⟩:=T.Ik
  exact⟨_,(aC (Mu (pv 0) (fY rfl (bh (aN (i:=1) nd rfl (Or.inl rfl)) (bh (aN (i:=2) nd rfl (Or.inl rfl)) d9))))
 (aG (bG (mH PySem.F.plainAttrs_str PySem.F.slot_str_join PySem.F.type_str_join zL fB (aj (bj bF (bj bF (dG vN rfl T.nP boot_list (aj (pv 1) az)) (mq (aj (qH (v:=(.str ":")) rfl uo ⟨_,rfl⟩) az))) (aY fQ mz rfl bA (aj (pv 2) az))) az))))),
  _root_.A.nC (N:=["net", "names", "arrows"]) (M:=Mo []) (aK (Og (K:=K) (.t [1,2]) (by decide) (ao 0 rfl))
 (cL (AE.w (Iw (AE.p gB) (AE.p (aJ dh (AE.p (aJ dh (AE.np (lB nP (aA (AE.p (ao 1 rfl)) aP))) (AE.np (rD (aA gB aP))))) (AE.np (gm (aD (AE.w (ao 2 rfl)) aZ))))))))) (by decide) h⟩)
abbrev nu:Stmt:=top 28
theorem qZ:bB ["picture", "names", "arrows", "ties", "ties_shown"] ["picture"] (aW nu):=⟨rfl,rfl,rfl,by decide +kernel,rfl,by decide +kernel,by decide +kernel⟩
theorem zr{f:Addr}{fd:FuncData}(F:oV K "show_picture" "show_picture" nu f fd)(T:Txt mg)(fQ:kE P w K mg base cD 1 "arrows_shown" ["arrows"] (t6 cQ)):cW P w K mg base cD 2 f fd ["picture"] (jr du) :=
 F.ok qZ (fun vs H Q E h=>nH h) (fun cdv A outer s H vs Q E hr h=>by
  have nd:=qZ.nd
  have hu:=dC hr
  have cM:=hr.units
  have mz:=hr.mono (show 1≤_ by decide)
  obtain⟨_,uo⟩:=T.Ik
  exact⟨_,(aC (Mu (pv 0) (fY rfl (bh (aN (i:=1) nd rfl (Or.inl rfl)) (bh (aN (i:=2) nd rfl (Or.inl rfl)) (bh (aN (i:=3) nd rfl (Or.inl rfl)) d9)))))
 (aC (oh (i:=4) (N':=["one", "other"]) (ρ:=[none,none]) rfl nd rfl (Or.inl rfl) (cH.of rfl (by kernel_rfl)) (cG (pv 3)) (fun _ _ _ _ _=>(fY rfl (bh (aN (i:=0) (by show (["one", "other"]:List Str).Nodup;decide +kernel) rfl (Or.inl rfl)) (bh (aN (i:=1) (by show (["one", "other"]:List Str).Nodup;decide +kernel) rfl (Or.inl rfl)) d9)))) (tu (dD rfl (dD rfl tD iB) (lH iB))) (fun _ _ _ _ _=>d8) (fun _ _ _ _ _=>(Zv (pZ (HW (pv 0)) (pZ Qh (pZ (HW (pv 1)) Qg))) (by decide))))
 (aG (bG (mH PySem.F.plainAttrs_str PySem.F.slot_str_join PySem.F.type_str_join zL fB (aj (bj bF (bj bF (bj bF (dG vN rfl T.nP boot_list (aj (pv 1) az)) (mq (aj (qH (v:=(.str ":")) rfl uo ⟨_,rfl⟩) az))) (aY fQ mz rfl bA (aj (pv 2) az))) (pv 4)) az)))))),
  _root_.A.nC (N:=["picture", "names", "arrows", "ties", "ties_shown"]) (M:=Mo []) (aK (Og (K:=K) (.t [1,2,3]) (by decide) (ao 0 rfl))
 (aK (bI 4 rfl (AE.nv (dF (K:=K) (tg:=(.t [0,1])) (dN (AE.p (ao 3 rfl))) (by decide) gj (acY (.cons (Ir 0 rfl) (.cons QF (.cons (Ir 1 rfl) .nil)))))))
 (cL (AE.w (Iw (AE.p gB) (AE.p (aJ dh (AE.p (aJ dh (AE.p (aJ dh (AE.np (lB nP (aA (AE.p (ao 1 rfl)) aP))) (AE.np (rD (aA gB aP))))) (AE.np (gm (aD (AE.w (ao 2 rfl)) aZ))))) (AE.p (ao 4 rfl))))))))) (by decide) h⟩)
abbrev xO:Stmt:=top 13
theorem Ax:bB ["text"] ["text"] (aW xO):=⟨rfl,rfl,rfl,by decide +kernel,rfl,by decide +kernel,by decide +kernel⟩
theorem MN{f:Addr}{fd:FuncData}(F:oV K "is_word" "is_word" xO f fd)(T:Txt mg)  : cW P w K mg base cD 1 f fd ["text"] (jr cj) :=
 F.ok Ax (fun vs H Q E h=>nH h) (fun cdv A outer s H vs Q E hr h=>by
  have nd:=Ax.nd
  have hu:=dC hr
  have cM:=hr.units
  obtain⟨_,RJ⟩:=T.R6
  obtain⟨_,Cg⟩:=T.CG
  exact⟨_,(aG (bG (xT (Ut Ph Ph aM (bH iT rfl T.jm PySem.boot_len (aj (pv 0) az)) (qH (v:=(.int 8)) rfl Cg ⟨_,rfl⟩)) (xR (bH (wR rfl) rfl T.xf boot_all (aj (eG (N':=["sign"]) (ρ:=[none]) rfl (cH.of rfl (by kernel_rfl)) (cG (pv 0)) (fun _ _ _ _ _=>(aN (i:=0) (by show (["sign"]:List Str).Nodup;decide +kernel) rfl (Or.inl rfl))) (eQ rfl) (fun _ _ _ _ _=>d8) (fun _ _ _ _ _=>(uf (xW cM) (pv 0) (qH (v:=(.str "abcdefghijklmnopqrstuvwxyz")) rfl RJ ⟨_,rfl⟩) rfl))) az)))))),
  _root_.A.nC (N:=["text"]) (M:=Mo []) (cL (AE.w (Ge (AE.p (QG YC YC (AE.p bf) (AE.p (lB jm (aA (AE.p (ao 0 rfl)) aP))) (AE.p bf))) (lB xf (aA (AE.np (dF (K:=K) (tg:=(.n 0)) (dN (AE.p (ao 0 rfl))) (by decide) gj (aJ R7 (AE.p (ao 0 rfl)) (AE.p gB)))) aP))))) (by decide) h⟩)
abbrev oJ:Stmt:=top 18
theorem rU:bB ["names", "rows"] ["names", "rows"] (aW oJ):=⟨rfl,rfl,rfl,by decide +kernel,rfl,by decide +kernel,by decide +kernel⟩
theorem Bm{f:Addr}{fd:FuncData}{cc TT:Addr}(F:WM K "sorted_rows" "sorted_rows" oJ cc f fd)(T:Txt mg)(hB:BM mg base)(hC:PySem.W.CodeHd base cc TT)(hTb:(TT,XS "sorted_rows")∈Tb.l)  : cW P w K mg base cD 4 f fd ["names", "rows"] (t6 bN) :=
 F.ok rU (fun vs H Q E h=>zx h) (fun A outer s H vs Q E hr h=>by
  have nd:=rU.nd
  have hu:=dC hr
  have cM:=hr.units
  exact⟨_,(aG (bG (Up (x := "row") (ρ:=[0]) (N':=["row", "names"]) (k:=0) (qual:=XS "sorted_rows") rfl T.Wh (pv 1) (hr.mono (by decide)) rfl hC hB rfl rfl rfl (Gg.one rfl rfl rfl rfl rfl rfl rfl rfl) (fun pm c' ctv u=>rfl) (fun A f c' s H env hrl he=>by subst he;exact(eG (N':=["names", "name"]) (ρ:=[some 1,none]) rfl (cH.of rfl (by kernel_rfl)) (cG (pv 0)) (fun _ _ _ _ _=>(aN (i:=1) (by show (["names", "name"]:List Str).Nodup;decide +kernel) rfl (Or.inl rfl))) (eQ rfl) (fun _ _ _ _ _=>d8) (fun _ _ _ _ _=>(Uu PySem.F.plainAttrs_tuple PySem.F.slot_tuple_index PySem.F.type_tuple_index Zy PySem.F.plainAttrs_list PySem.F.slot_list_index PySem.F.type_list_index Zz (pv 0) (aj (pv 1) az)))))))),
  _root_.A.runN (N:=["names", "rows"]) (M:=Mo []) (oF (AE.w (YT hTb (by decide) (AE.p (ao 1 rfl)) (dF (K:=K) (tg:=(.n 1)) (dN (AE.p (ao 0 rfl))) (by decide) gj (ZZ (AE.p (ao 0 rfl)) (AE.p (ao 1 rfl))))))) (by decide) h⟩)
abbrev gV:Stmt:=top 20
theorem kj:bB ["names", "stood", "name"] ["names"] (aW gV):=⟨rfl,rfl,rfl,by decide +kernel,rfl,by decide +kernel,by decide +kernel⟩
theorem rH{f:Addr}{fd:FuncData}(F:oV K "refuse_wrong_names" "refuse_wrong_names" gV f fd)(T:Txt mg)(gF:kE P w K mg base cD 1 "is_word" ["text"] (jr cj)):cW P w K mg base cD 2 f fd ["names"] (jr dB) :=
 F.ok kj (fun vs H Q E h=>nH h) (fun cdv A outer s H vs Q E hr h=>by
  have nd:=kj.nd
  have hu:=dC hr
  have cM:=hr.units
  have lr:=hr.mono (show 1≤_ by decide)
  obtain⟨_,HS⟩:=T.Ij
  exact⟨_,(aC (dR (jL (Ui Ph Ph aM (bH iT rfl T.jm PySem.boot_len (aj (pv 0) az)) (qH (v:=(.int 8)) rfl HS ⟨_,rfl⟩)))
 (aG jh)
 bL)
 (aC (bz (i:=1) nd rfl (Or.inl rfl) Ur)
 (aG (gY PassesOwn.never rfl (cG (pv 0)) (aN (i:=2) nd rfl (Or.inl rfl))
 (aC (dR (jL (gH (aY gF lr rfl bA (aj (pv 2) az))))
 (aG jh)
 bL)
 (aC (dR (qG (sO hu (pv 2) (pv 1)) rfl)
 (aG jh)
 bL)
 (aG (uc hu (pv 1) (pv 2) pL rfl)))))))),
  _root_.A.nC (N:=["names", "stood", "name"]) (M:=Mo [1]) (aK (dY (jX (bY (AE.p (QG YC YC (AE.p bf) (AE.p (lB jm (aA (AE.p (ao 0 rfl)) aP))) (AE.p bf)))))
 jn
 bM)
 (aK (z6 1 rfl Wm)
 (iG (K:=K) (tg:=(.n 2)) (nQ (ao 0 rfl)) (by decide)
 (aK (dY (jX (j8 (AE.p (bD (aD (AE.w (ao 2 rfl)) aZ)))))
 jn
 bM)
 (aK (dY (j8 (AE.p (zc 1 (ao 2 rfl))))
 jn
 bM)
 (ux 1 rfl (ao 2 rfl) yo)))))) (by decide) h⟩)
abbrev jw:Stmt:=top 19
theorem mG:bB ["names", "asked", "name"] ["names", "asked"] (aW jw):=⟨rfl,rfl,rfl,by decide +kernel,rfl,by decide +kernel,by decide +kernel⟩
theorem uB{f:Addr}{fd:FuncData}(F:oV K "refuse_strangers" "refuse_strangers" jw f fd)(T:Txt mg)  : cW P w K mg base cD 1 f fd ["names", "asked"] (jr bu) :=
 F.ok mG (fun vs H Q E h=>nH h) (fun cdv A outer s H vs Q E hr h=>by
  have nd:=mG.nd
  have hu:=dC hr
  have cM:=hr.units
  exact⟨_,(aG (gY PassesOwn.never rfl (cG (pv 1)) (aN (i:=2) nd rfl (Or.inl rfl))
 (aG (dR (cg (kO cM) (pv 2) (pv 0) rfl)
 (aG jh)
 bL)))),
  _root_.A.nC (N:=["names", "asked", "name"]) (M:=Mo []) (iG (K:=K) (tg:=(.n 2)) (nQ (ao 1 rfl)) (by decide)
 (dY (bY (AE.p (aJ qR (AE.p (ao 2 rfl)) (AE.p (ao 0 rfl)))))
 jn
 bM)) (by decide) h⟩)
abbrev gU:Stmt:=top 21
theorem kh:bB ["names", "arrows", "stood", "tail", "head"] ["names", "arrows"] (aW gU):=⟨rfl,rfl,rfl,by decide +kernel,rfl,by decide +kernel,by decide +kernel⟩
theorem rG{f:Addr}{fd:FuncData}(F:oV K "refuse_wrong_pairs" "refuse_wrong_pairs" gU f fd)(T:Txt mg)(bR:kE P w K mg base cD 1 "refuse_strangers" ["names", "asked"] (jr bu)):cW P w K mg base cD 2 f fd ["names", "arrows"] (jr dw) :=
 F.ok kh (fun vs H Q E h=>nH h) (fun cdv A outer s H vs Q E hr h=>by
  have nd:=kh.nd
  have hu:=dC hr
  have cM:=hr.units
  have dW:=hr.mono (show 1≤_ by decide)
  exact⟨_,(aC (bz (i:=2) nd rfl (Or.inl rfl) Bk)
 (aG (gY PassesOwn.never rfl (cG (pv 1)) (fY rfl (bh (aN (i:=3) nd rfl (Or.inl rfl)) (bh (aN (i:=4) nd rfl (Or.inl rfl)) d9)))
 (aC (fM (aY bR dW rfl bA (aj (pv 0) (aj (mq (aj (pv 3) (aj (pv 4) az))) az))))
 (aC (dR (cg (xX cM) (pv 3) (pv 4) (fZ _))
 (aG jh)
 bL)
 (aC (dR (qG (sO hu (bJ (aj (pv 3) (aj (pv 4) az))) (pv 2)) rfl)
 (aG jh)
 bL)
 (aC (uc hu (pv 2) (bJ (aj (pv 3) (aj (pv 4) az))) pL rfl)
 (aG (uc hu (pv 2) (bJ (aj (pv 4) (aj (pv 3) az))) pL rfl))))))))),
  _root_.A.nC (N:=["names", "arrows", "stood", "tail", "head"]) (M:=Mo [2]) (aK (z6 2 rfl De)
 (iG (K:=K) (tg:=(.t [3,4])) (nQ (ao 1 rfl)) (by decide)
 (aK (uw (AE.p (bD (aD (AE.w (ao 0 rfl)) (aD (AW.nv (AE.w (rD (aA (ao 3 rfl) (aA (ao 4 rfl) aP))))) aZ)))))
 (aK (dY (bY (AE.p (aJ R8 (AE.p (ao 3 rfl)) (AE.p (ao 4 rfl)))))
 jn
 bM)
 (aK (dY (j8 (AE.p (zc 2 (cI (aA (ao 3 rfl) (aA (ao 4 rfl) aP))))))
 jn
 bM)
 (aK (ux 2 rfl (cI (aA (ao 3 rfl) (aA (ao 4 rfl) aP))) yo)
 (ux 2 rfl (cI (aA (ao 4 rfl) (aA (ao 3 rfl) aP))) yo))))))) (by decide) h⟩)
abbrev sG:Stmt:=top 15
theorem v8:bB ["net", "name"] ["net", "name"] (aW sG):=⟨rfl,rfl,rfl,by decide +kernel,rfl,by decide +kernel,by decide +kernel⟩
theorem Hm{f:Addr}{fd:FuncData}(F:oV K "elders_of" "elders_of" sG f fd)(T:Txt mg)(bR:kE P w K mg base cD 1 "refuse_strangers" ["names", "asked"] (jr bu)):cW P w K mg base cD 2 f fd ["net", "name"] (jr jB) :=
 F.ok v8 (fun vs H Q E h=>nH h) (fun cdv A outer s H vs Q E hr h=>by
  have nd:=v8.nd
  have hu:=dC hr
  have cM:=hr.units
  have dW:=hr.mono (show 1≤_ by decide)
  exact⟨_,(aC (fM (aY bR dW rfl bA (aj (eV cJ (pv 0) aM (fun _ _=>rfl)) (aj (mq (aj (pv 1) az)) az))))
 (aG (bG (dG fW rfl T.dM boot_tuple (aj (eG (N':=["name", "tail", "head"]) (ρ:=[some 1,none,none]) rfl (cH.of rfl (by kernel_rfl)) (cG (eV cJ (pv 0) aM (fun _ _=>rfl))) (fun _ _ _ _ _=>(fY rfl (bh (aN (i:=1) (by show (["name", "tail", "head"]:List Str).Nodup;decide +kernel) rfl (Or.inl rfl)) (bh (aN (i:=2) (by show (["name", "tail", "head"]:List Str).Nodup;decide +kernel) rfl (Or.inl rfl)) d9)))) (tu (dD rfl (dD rfl tD iB) (lH iB))) (fun _ _ _ _ _=>(qF (cg (xX cM) (pv 2) (pv 0) (fZ _)))) (fun _ _ _ _ _=>(pv 1))) az))))),
  _root_.A.nC (N:=["net", "name"]) (M:=Mo []) (aK (uw (AE.p (bD (aD (AE.w (aJ jD (AE.p (ao 0 rfl)) (AE.p bf))) (aD (AW.nv (AE.w (rD (aA (ao 1 rfl) aP)))) aZ)))))
 (cL (AE.w (lB dM (aA (AE.np (dF (K:=K) (tg:=(.t [1,2])) (dN (AE.p (aJ jD (AE.p (ao 0 rfl)) (AE.p bf)))) (by decide) (bY (AE.p (aJ R8 (AE.p (ao 2 rfl)) (AE.p (ao 0 rfl))))) (ao 1 rfl))) aP))))) (by decide) h⟩)
abbrev oN:Stmt:=top 24
theorem rZ:bB ["net", "told", "name"] ["net", "told"] (aW oN):=⟨rfl,rfl,rfl,by decide +kernel,rfl,by decide +kernel,by decide +kernel⟩
theorem Br{f:Addr}{fd:FuncData}(F:oV K "first_ready" "first_ready" oN f fd)(T:Txt mg)(tZ:kE P w K mg base cD 2 "elders_of" ["net", "name"] (jr jB)):cW P w K mg base cD 3 f fd ["net", "told"] (jr dm) :=
 F.ok rZ (fun vs H Q E h=>nH h) (fun cdv A outer s H vs Q E hr h=>by
  have nd:=rZ.nd
  have hu:=dC hr
  have cM:=hr.units
  have HR:=hr.mono (show 2≤_ by decide)
  exact⟨_,(aC (gY PassesOwn.never rfl (cG (eV cJ (pv 0) aM (fun _ _=>rfl))) (aN (i:=2) nd rfl (Or.inl rfl))
 (aG (dR (PW.pt (pw_and (cg (kO cM) (pv 2) (pv 1) rfl) (pw_and1 (gH (bH (wR rfl) rfl T.xf boot_all (aj (eG (N':=["told", "elder"]) (ρ:=[some 1,none]) rfl (cH.of rfl (by kernel_rfl)) (cG (aY tZ HR rfl bA (aj (pv 0) (aj (pv 2) az)))) (fun _ _ _ _ _=>(aN (i:=1) (by show (["told", "elder"]:List Str).Nodup;decide +kernel) rfl (Or.inl rfl))) (eQ rfl) (fun _ _ _ _ _=>d8) (fun _ _ _ _ _=>(uf (xW cM) (pv 1) (pv 0) rfl))) az))))))
 (aG (bG (pv 2)))
 bL)))
 (aG (bG Mw))),
  _root_.A.nC (N:=["net", "told", "name"]) (M:=Mo []) (aK (iG (K:=K) (tg:=(.n 2)) (nQ (aJ jD (AE.p (ao 0 rfl)) (AE.p bf))) (by decide)
 (dY (vP (bY (AE.p (aJ qR (AE.p (ao 2 rfl)) (AE.p (ao 1 rfl))))) (j8 (AE.p (lB xf (aA (AE.np (dF (K:=K) (tg:=(.n 1)) (dN (AE.p (bD (aD (AE.w (ao 0 rfl)) (aD (AE.w (ao 2 rfl)) aZ))))) (by decide) gj (aJ R7 (AE.p (ao 1 rfl)) (AE.p (ao 0 rfl))))) aP)))))
 (cL (AE.w (ao 2 rfl)))
 bM))
 (cL (AE.w WD))) (by decide) h⟩)
abbrev xP:Stmt:=top 17
theorem Ay:bB ["net", "told", "name"] ["net"] (aW xP):=⟨rfl,rfl,rfl,by decide +kernel,rfl,by decide +kernel,by decide +kernel⟩
theorem MP{f:Addr}{fd:FuncData}(F:oV K "in_turn" "in_turn" xP f fd)(T:Txt mg)(lL:kE P w K mg base cD 3 "first_ready" ["net", "told"] (jr dm)):cW P w K mg base cD 4 f fd ["net"] (t6 pP) :=
 F.ok Ay (fun vs H Q E h=>zx h) (fun cdv A outer s H vs Q E hr h=>by
  have nd:=Ay.nd
  have hu:=dC hr
  have cM:=hr.units
  have sY:=hr.mono (show 3≤_ by decide)
  exact⟨_,(aC (bz (i:=1) nd rfl (Or.inl rfl) (mq az))
 (aC (bz (i:=2) nd rfl (Or.inl rfl) (aY lL sY rfl bA (aj (pv 0) (aj (pv 1) az))))
 (aC (JH PassesOwn.never (cg UG (pv 2) Mw (fZ _))
 (aC (fM (mH PySem.F.plainAttrs_list PySem.F.slot_list_append PySem.F.type_list_append kY (pv 1) (aj (pv 2) az)))
 (aG (bz (i:=2) nd rfl (Or.inl rfl) (aY lL sY rfl bA (aj (pv 0) (aj (pv 1) az)))))))
 (aG (bG (pv 1)))))),
  _root_.A.runN (N:=["net", "told", "name"]) (M:=Mo [1]) (aK (tM 1 rfl (rD aP))
 (aK (bI 2 rfl (QH (aD (AW.p (AE.w (ao 0 rfl))) (aD (AE.w (Dk 1)) aZ))))
 (aK (Ld 100 (bY (AE.p (aJ YD (AE.p (ao 2 rfl)) (AE.p WD))))
 (aK (m8 1 rfl (ao 2 rfl))
 (bI 2 rfl (QH (aD (AW.p (AE.w (ao 0 rfl))) (aD (AE.w (Dk 1)) aZ))))))
 (qi 1 rfl)))) (by decide) h⟩)
abbrev oK:Stmt:=top 22
theorem rW:bB ["net", "told", "left"] ["net"] (aW oK):=⟨rfl,rfl,rfl,by decide +kernel,rfl,by decide +kernel,by decide +kernel⟩
theorem Bo{f:Addr}{fd:FuncData}(F:oV K "refuse_ring" "refuse_ring" oK f fd)(T:Txt mg)(yt:kE P w K mg base cD 4 "in_turn" ["net"] (t6 pP)):cW P w K mg base cD 5 f fd ["net"] (jr jj) :=
 F.ok rW (fun vs H Q E h=>nH h) (fun cdv A outer s H vs Q E hr h=>by
  have nd:=rW.nd
  have hu:=dC hr
  have cM:=hr.units
  have Nm:=hr.mono (show 4≤_ by decide)
  exact⟨_,(aC (bz (i:=1) nd rfl (Or.inr rfl) (aY yt Nm rfl bA (aj (pv 0) az)))
 (aC (oh (i:=2) (N':=["told", "name"]) (ρ:=[some 1,none]) rfl nd rfl (Or.inl rfl) (cH.of rfl (by kernel_rfl)) (cG (eV cJ (pv 0) aM (fun _ _=>rfl))) (fun _ _ _ _ _=>(aN (i:=1) (by show (["told", "name"]:List Str).Nodup;decide +kernel) rfl (Or.inl rfl))) (eQ rfl) (fun _ _ _ _ _=>(qF (cg (kO cM) (pv 1) (pv 0) rfl))) (fun _ _ _ _ _=>(pv 1)))
 (aG (dR (Bg (pv 2) (by intro _;rfl))
 (aG jh)
 bL)))),
  _root_.A.nC (N:=["net", "told", "left"]) (M:=Mo []) (aK (bI 1 rfl (AE.nv (gm (aD (AE.w (ao 0 rfl)) aZ))))
 (aK (bI 2 rfl (AE.nv (dF (K:=K) (tg:=(.n 1)) (dN (AE.p (aJ jD (AE.p (ao 0 rfl)) (AE.p bf)))) (by decide) (bY (AE.p (aJ qR (AE.p (ao 1 rfl)) (AE.p (ao 0 rfl))))) (ao 1 rfl))))
 (dY (Dg (AE.p (ao 2 rfl)))
 jn
 bM))) (by decide) h⟩)
abbrev vg:Stmt:=top 14
theorem yG:bB ["names", "arrows", "pairs", "net"] ["names", "arrows"] (aW vg):=⟨rfl,rfl,rfl,by decide +kernel,rfl,by decide +kernel,by decide +kernel⟩
theorem JT{f:Addr}{fd:FuncData}(F:oV K "net_made" "net_made" vg f fd)(T:Txt mg)(dq:kE P w K mg base cD 4 "sorted_rows" ["names", "rows"] (t6 bN))(iI:kE P w K mg base cD 2 "refuse_wrong_names" ["names"] (jr dB))(iH:kE P w K mg base cD 2 "refuse_wrong_pairs" ["names", "arrows"] (jr dw))(oX:kE P w K mg base cD 5 "refuse_ring" ["net"] (jr jj)):cW P w K mg base cD 6 f fd ["names", "arrows"] (jr iu) :=
 F.ok yG (fun vs H Q E h=>nH h) (fun cdv A outer s H vs Q E hr h=>by
  have nd:=yG.nd
  have hu:=dC hr
  have cM:=hr.units
  have iz:=hr.mono (show 4≤_ by decide)
  have rK:=hr.mono (show 2≤_ by decide)
  have rJ:=hr.mono (show 2≤_ by decide)
  have Cd:=hr.mono (show 5≤_ by decide)
  exact⟨_,(aC (fM (aY iI rK rfl bA (aj (pv 0) az)))
 (aC (fM (aY iH rJ rfl bA (aj (pv 0) (aj (pv 1) az))))
 (aC (oh (i:=2) (N':=["tail", "head"]) (ρ:=[none,none]) rfl nd rfl (Or.inl rfl) (cH.of rfl (by kernel_rfl)) (cG (pv 1)) (fun _ _ _ _ _=>(fY rfl (bh (aN (i:=0) (by show (["tail", "head"]:List Str).Nodup;decide +kernel) rfl (Or.inl rfl)) (bh (aN (i:=1) (by show (["tail", "head"]:List Str).Nodup;decide +kernel) rfl (Or.inl rfl)) d9)))) (tu (dD rfl (dD rfl tD iB) (lH iB))) (fun _ _ _ _ _=>d8) (fun _ _ _ _ _=>(bJ (aj (pv 0) (aj (pv 1) az)))))
 (aC (bz (i:=3) nd rfl (Or.inl rfl) (bJ (aj (dG fW rfl T.dM boot_tuple (aj (pv 0) az)) (aj (dG fW rfl T.dM boot_tuple (aj (aY dq iz rfl bA (aj (pv 0) (aj (pv 2) az))) az)) az))))
 (aC (fM (aY oX Cd rfl bA (aj (pv 3) az)))
 (aG (bG (pv 3)))))))),
  _root_.A.nC (N:=["names", "arrows", "pairs", "net"]) (M:=Mo []) (aK (uw (AE.p (bD (aD (AE.w (ao 0 rfl)) aZ))))
 (aK (uw (AE.p (bD (aD (AE.w (ao 0 rfl)) (aD (AE.w (ao 1 rfl)) aZ)))))
 (aK (bI 2 rfl (AE.nv (dF (K:=K) (tg:=(.t [0,1])) (dN (AE.p (ao 1 rfl))) (by decide) gj (cI (aA (ao 0 rfl) (aA (ao 1 rfl) aP))))))
 (aK (bI 3 rfl (cI (aA (lB dM (aA (AE.p (ao 0 rfl)) aP)) (aA (lB dM (aA (AE.np (gm (aD (AE.w (ao 0 rfl)) (aD (AE.w (ao 2 rfl)) aZ)))) aP)) aP))))
 (aK (uw (AE.p (bD (aD (AE.w (ao 3 rfl)) aZ))))
 (cL (AE.w (ao 3 rfl)))))))) (by decide) h⟩)
abbrev vh:Stmt:=top 31
theorem yH:bB ["parts"] ["parts"] (aW vh):=⟨rfl,rfl,rfl,by decide +kernel,rfl,by decide +kernel,by decide +kernel⟩
theorem JV{f:Addr}{fd:FuncData}(F:oV K "is_arrow" "is_arrow" vh f fd)(T:Txt mg)(gF:kE P w K mg base cD 1 "is_word" ["text"] (jr cj)):cW P w K mg base cD 2 f fd ["parts"] (jr lg) :=
 F.ok yH (fun vs H Q E h=>nH h) (fun cdv A outer s H vs Q E hr h=>by
  have nd:=yH.nd
  have hu:=dC hr
  have cM:=hr.units
  have lr:=hr.mono (show 1≤_ by decide)
  exact⟨_,(aG (bG (xT (aY gF lr rfl bA (aj (eV cJ (pv 0) aM (fun _ _=>rfl)) az)) (xR (aY gF lr rfl bA (aj (eV cJ (pv 0) aM (fun _ _=>rfl)) az)))))),
  _root_.A.nC (N:=["parts"]) (M:=Mo []) (cL (AE.w (Ge (AE.p (bD (aD (AE.w (aJ jD (AE.p (ao 0 rfl)) (AE.p bf))) aZ))) (bD (aD (AE.w (aJ jD (AE.p (ao 0 rfl)) (AE.p bf))) aZ))))) (by decide) h⟩)
abbrev vd:Stmt:=top 29
theorem yE:bB ["text", "pieces", "place", "names", "arrows"] ["text"] (aW vd):=⟨rfl,rfl,rfl,by decide +kernel,rfl,by decide +kernel,by decide +kernel⟩
theorem JR{f:Addr}{fd:FuncData}(F:oV K "read_net" "read_net" vd f fd)(T:Txt mg)(gF:kE P w K mg base cD 1 "is_word" ["text"] (jr cj))(vV:kE P w K mg base cD 6 "net_made" ["names", "arrows"] (jr iu))(vW:kE P w K mg base cD 2 "is_arrow" ["parts"] (jr lg)):cW P w K mg base cD 7 f fd ["text"] (jr eF) :=
 F.ok yE (fun vs H Q E h=>nH h) (fun cdv A outer s H vs Q E hr h=>by
  have nd:=yE.nd
  have hu:=dC hr
  have cM:=hr.units
  have lr:=hr.mono (show 1≤_ by decide)
  have Kh:=hr.mono (show 6≤_ by decide)
  have Kl:=hr.mono (show 2≤_ by decide)
  obtain⟨_,uo⟩:=T.Ik
  exact⟨_,(aC (bz (i:=1) nd rfl (Or.inl rfl) (mH PySem.F.plainAttrs_str PySem.F.slot_str_split PySem.F.type_str_split Ve (pv 0) (aj fB az)))
 (aC (dR (cg (kO cM) (qH (v:=(.str ":")) rfl uo ⟨_,rfl⟩) (pv 1) rfl)
 (aG jh)
 bL)
 (aC (bz (i:=2) nd rfl (Or.inl rfl) (Uu PySem.F.plainAttrs_tuple PySem.F.slot_tuple_index PySem.F.type_tuple_index Zy PySem.F.plainAttrs_list PySem.F.slot_list_index PySem.F.type_list_index Zz (pv 1) (aj (qH (v:=(.str ":")) rfl uo ⟨_,rfl⟩) az)))
 (aC (bz (i:=3) nd rfl (Or.inl rfl) (gZ QW (pv 1) jN (jM (pv 2))))
 (aC (oh (i:=4) (N':=["piece"]) (ρ:=[none]) rfl nd rfl (Or.inl rfl) (cH.of rfl (by kernel_rfl)) (cG (gZ QW (pv 1) (jM (bj bF (pv 2) aM)) jN)) (fun _ _ _ _ _=>(aN (i:=0) (by show (["piece"]:List Str).Nodup;decide +kernel) rfl (Or.inl rfl))) (eQ rfl) (fun _ _ _ _ _=>d8) (fun _ _ _ _ _=>(mH PySem.F.plainAttrs_str PySem.F.slot_str_partition PySem.F.type_str_partition XC (pv 0) (aj fB az))))
 (aC (dR (PW.pt (pw_or (jL (Bg (pv 3) (by intro _;rfl))) (pw_or1 (jL (gH (bH (wR rfl) rfl T.xf boot_all (aj (eG (N':=["name"]) (ρ:=[none]) rfl (cH.of rfl (by kernel_rfl)) (cG (pv 3)) (fun _ _ _ _ _=>(aN (i:=0) (by show (["name"]:List Str).Nodup;decide +kernel) rfl (Or.inl rfl))) (eQ rfl) (fun _ _ _ _ _=>d8) (fun _ _ _ _ _=>(aY gF lr rfl bA (aj (pv 0) az)))) az)))))))
 (aG jh)
 bL)
 (aC (dR (jL (gH (bH (wR rfl) rfl T.xf boot_all (aj (eG (N':=["arrow"]) (ρ:=[none]) rfl (cH.of rfl (by kernel_rfl)) (cG (pv 4)) (fun _ _ _ _ _=>(aN (i:=0) (by show (["arrow"]:List Str).Nodup;decide +kernel) rfl (Or.inl rfl))) (eQ rfl) (fun _ _ _ _ _=>d8) (fun _ _ _ _ _=>(aY vW Kl rfl bA (aj (pv 0) az)))) az))))
 (aG jh)
 bL)
 (aG (bG (aY vV Kh rfl bA (aj (pv 3) (aj (eG (N':=["tail", "sign", "head"]) (ρ:=[none,none,none]) rfl (cH.of rfl (by kernel_rfl)) (cG (pv 4)) (fun _ _ _ _ _=>(fY rfl (bh (aN (i:=0) (by show (["tail", "sign", "head"]:List Str).Nodup;decide +kernel) rfl (Or.inl rfl)) (bh (aN (i:=1) (by show (["tail", "sign", "head"]:List Str).Nodup;decide +kernel) rfl (Or.inl rfl)) (bh (aN (i:=2) (by show (["tail", "sign", "head"]:List Str).Nodup;decide +kernel) rfl (Or.inl rfl)) d9))))) (tu (dD rfl (dD rfl (dD rfl tD iB) (lH iB)) (lH (lH iB)))) (fun _ _ _ _ _=>d8) (fun _ _ _ _ _=>(bJ (aj (pv 0) (aj (pv 2) az))))) az)))))))))))),
  _root_.A.nC (N:=["text", "pieces", "place", "names", "arrows"]) (M:=Mo []) (aK (bI 1 rfl (AE.nv (YS (AE.p (ao 0 rfl)) (AE.p gB))))
 (aK (dY (bY (AE.p (aJ qR (AE.p gB) (AE.p (ao 1 rfl)))))
 jn
 bM)
 (aK (bI 2 rfl (ZZ (AE.p (ao 1 rfl)) (AE.p gB)))
 (aK (bI 3 rfl (Dl Fy (AE.p (ao 1 rfl)) jZ (jY (AE.p (ao 2 rfl)))))
 (aK (bI 4 rfl (AE.nv (dF (K:=K) (tg:=(.n 0)) (dN (AE.p (Dl Fy (AE.p (ao 1 rfl)) (jY (AE.p (aJ dh (AE.p (ao 2 rfl)) (AE.p bf)))) jZ))) (by decide) gj (abg (AE.p (ao 0 rfl)) (AE.p gB)))))
 (aK (dY (za (jX (Dg (AE.p (ao 3 rfl)))) (jX (j8 (AE.p (lB xf (aA (AE.np (dF (K:=K) (tg:=(.n 0)) (dN (AE.p (ao 3 rfl))) (by decide) gj (bD (aD (AE.w (ao 0 rfl)) aZ)))) aP))))))
 jn
 bM)
 (aK (dY (jX (j8 (AE.p (lB xf (aA (AE.np (dF (K:=K) (tg:=(.n 0)) (dN (AE.p (ao 4 rfl))) (by decide) gj (bD (aD (AE.w (ao 0 rfl)) aZ)))) aP)))))
 jn
 bM)
 (cL (AE.w (bD (aD (AE.w (ao 3 rfl)) (aD (AW.nv (AE.w (dF (K:=K) (tg:=(.t [0,1,2])) (dN (AE.p (ao 4 rfl))) (by decide) gj (cI (aA (ao 0 rfl) (aA (ao 2 rfl) aP)))))) aZ)))))))))))) (by decide) h⟩)
abbrev vm:Stmt:=top 16
theorem yI:bB ["net", "one", "other"] ["net", "one", "other"] (aW vm):=⟨rfl,rfl,rfl,by decide +kernel,rfl,by decide +kernel,by decide +kernel⟩
theorem JW{f:Addr}{fd:FuncData}(F:oV K "are_tied" "are_tied" vm f fd)(T:Txt mg)(bR:kE P w K mg base cD 1 "refuse_strangers" ["names", "asked"] (jr bu)):cW P w K mg base cD 2 f fd ["net", "one", "other"] (jr fG) :=
 F.ok yI (fun vs H Q E h=>nH h) (fun cdv A outer s H vs Q E hr h=>by
  have nd:=yI.nd
  have hu:=dC hr
  have cM:=hr.units
  have dW:=hr.mono (show 1≤_ by decide)
  exact⟨_,(aC (fM (aY bR dW rfl bA (aj (eV cJ (pv 0) aM (fun _ _=>rfl)) (aj (mq (aj (pv 1) (aj (pv 2) az))) az))))
 (aG (bG (ace (uf (xW cM) (bJ (aj (pv 1) (aj (pv 2) az))) (eV cJ (pv 0) aM (fun _ _=>rfl)) rfl) (xR (uf (xW cM) (bJ (aj (pv 2) (aj (pv 1) az))) (eV cJ (pv 0) aM (fun _ _=>rfl)) rfl)))))),
  _root_.A.nC (N:=["net", "one", "other"]) (M:=Mo []) (aK (uw (AE.p (bD (aD (AE.w (aJ jD (AE.p (ao 0 rfl)) (AE.p bf))) (aD (AW.nv (AE.w (rD (aA (ao 1 rfl) (aA (ao 2 rfl) aP))))) aZ)))))
 (cL (AE.w (aea (AE.p (aJ R7 (AE.p (cI (aA (ao 1 rfl) (aA (ao 2 rfl) aP)))) (AE.p (aJ jD (AE.p (ao 0 rfl)) (AE.p bf))))) (aJ R7 (AE.p (cI (aA (ao 2 rfl) (aA (ao 1 rfl) aP)))) (AE.p (aJ jD (AE.p (ao 0 rfl)) (AE.p bf)))))))) (by decide) h⟩)
abbrev vf:Stmt:=top 35
theorem yF:bB ["names", "pairs", "place", "one"] ["names"] (aW vf):=⟨rfl,rfl,rfl,by decide +kernel,rfl,by decide +kernel,by decide +kernel⟩
theorem JS{f:Addr}{fd:FuncData}(F:oV K "pairs_of" "pairs_of" vf f fd)(T:Txt mg)  : cW P w K mg base cD 1 f fd ["names"] (t6 cP) :=
 F.ok yF (fun vs H Q E h=>zx h) (fun cdv A outer s H vs Q E hr h=>by
  have nd:=yF.nd
  have hu:=dC hr
  have cM:=hr.units
  exact⟨_,(aC (bz (i:=1) nd rfl (Or.inl rfl) (mq az))
 (aC (gY PassesOwn.never rfl (Zp.Uo rfl T.K8 (pv 0)) (fY rfl (bh (aN (i:=2) nd rfl (Or.inl rfl)) (bh (aN (i:=3) nd rfl (Or.inr rfl)) d9)))
 (aG (fM (mH PySem.F.plainAttrs_list PySem.F.slot_list_extend PySem.F.type_list_extend Bv (pv 1) (aj (eG (N':=["one", "other"]) (ρ:=[some 3,none]) rfl (cH.of rfl (by kernel_rfl)) (cG (gZ adx (pv 0) (jM (bj bF (pv 2) aM)) jN)) (fun _ _ _ _ _=>(aN (i:=1) (by show (["one", "other"]:List Str).Nodup;decide +kernel) rfl (Or.inl rfl))) (eQ rfl) (fun _ _ _ _ _=>d8) (fun _ _ _ _ _=>(bJ (aj (pv 0) (aj (pv 1) az))))) az)))))
 (aG (bG (pv 1))))),
  _root_.A.runN (N:=["names", "pairs", "place", "one"]) (M:=Mo [1]) (aK (tM 1 rfl (rD aP))
 (aK (iG (K:=K) (tg:=(.t [2,3])) (Zp.Wy (ao 0 rfl)) (by decide)
 (FW 1 rfl (AE.nv (dF (K:=K) (tg:=(.n 1)) (dN (AE.p (Dl acW (AE.p (ao 0 rfl)) (jY (AE.p (aJ dh (AE.p (ao 2 rfl)) (AE.p bf)))) jZ))) (by decide) gj (cI (aA (ao 0 rfl) (aA (ao 1 rfl) aP)))))))
 (qi 1 rfl))) (by decide) h⟩)
abbrev xJ:Stmt:=top 33
theorem Ao:bB ["net"] ["net"] (aW xJ):=⟨rfl,rfl,rfl,by decide +kernel,rfl,by decide +kernel,by decide +kernel⟩
theorem MF{f:Addr}{fd:FuncData}(F:oV K "ties_of" "ties_of" xJ f fd)(T:Txt mg)(lE:kE P w K mg base cD 2 "are_tied" ["net", "one", "other"] (jr fG))(gn:kE P w K mg base cD 1 "pairs_of" ["names"] (t6 cP)):cW P w K mg base cD 3 f fd ["net"] (t6 m7) :=
 F.ok Ao (fun vs H Q E h=>zx h) (fun cdv A outer s H vs Q E hr h=>by
  have nd:=Ao.nd
  have hu:=dC hr
  have cM:=hr.units
  have sZ:=hr.mono (show 2≤_ by decide)
  have lO:=hr.mono (show 1≤_ by decide)
  exact⟨_,(aG (bG (eG (N':=["net", "one", "other"]) (ρ:=[some 0,none,none]) rfl (cH.of rfl (by kernel_rfl)) (cG (aY gn lO rfl bA (aj (eV cJ (pv 0) aM (fun _ _=>rfl)) az))) (fun _ _ _ _ _=>(fY rfl (bh (aN (i:=1) (by show (["net", "one", "other"]:List Str).Nodup;decide +kernel) rfl (Or.inl rfl)) (bh (aN (i:=2) (by show (["net", "one", "other"]:List Str).Nodup;decide +kernel) rfl (Or.inl rfl)) d9)))) (tu (dD rfl (dD rfl tD iB) (lH iB))) (fun _ _ _ _ _=>(qF (gH (aY lE sZ rfl bA (aj (pv 0) (aj (pv 1) (aj (pv 2) az))))))) (fun _ _ _ _ _=>(bJ (aj (pv 1) (aj (pv 2) az))))))),
  _root_.A.runN (N:=["net"]) (M:=Mo []) (oF (AE.w (dF (K:=K) (tg:=(.t [1,2])) (dN (AE.np (gm (aD (AE.w (aJ jD (AE.p (ao 0 rfl)) (AE.p bf))) aZ)))) (by decide) (j8 (AE.p (bD (aD (AE.w (ao 0 rfl)) (aD (AE.w (ao 1 rfl)) (aD (AE.w (ao 2 rfl)) aZ)))))) (cI (aA (ao 1 rfl) (aA (ao 2 rfl) aP)))))) (by decide) h⟩)
abbrev qz:Stmt:=top 34
theorem uK:bB ["net", "names", "arrows", "corners", "one", "other", "middles"] ["net"] (aW qz):=⟨rfl,rfl,rfl,by decide +kernel,rfl,by decide +kernel,by decide +kernel⟩
theorem DW{f:Addr}{fd:FuncData}(F:oV K "corners_of" "corners_of" qz f fd)(T:Txt mg)(lE:kE P w K mg base cD 2 "are_tied" ["net", "one", "other"] (jr fG))(dq:kE P w K mg base cD 4 "sorted_rows" ["names", "rows"] (t6 bN))(gn:kE P w K mg base cD 1 "pairs_of" ["names"] (t6 cP)):cW P w K mg base cD 5 f fd ["net"] (t6 iM) :=
 F.ok uK (fun vs H Q E h=>zx h) (fun cdv A outer s H vs Q E hr h=>by
  have nd:=uK.nd
  have hu:=dC hr
  have cM:=hr.units
  have sZ:=hr.mono (show 2≤_ by decide)
  have iz:=hr.mono (show 4≤_ by decide)
  have lO:=hr.mono (show 1≤_ by decide)
  exact⟨_,(aC (Mu (pv 0) (fY rfl (bh (aN (i:=1) nd rfl (Or.inl rfl)) (bh (aN (i:=2) nd rfl (Or.inr rfl)) d9))))
 (aC (bz (i:=3) nd rfl (Or.inl rfl) (mq az))
 (aC (gY PassesOwn.never rfl (cG (aY gn lO rfl bA (aj (pv 1) az))) (fY rfl (bh (aN (i:=4) nd rfl (Or.inr rfl)) (bh (aN (i:=5) nd rfl (Or.inr rfl)) d9)))
 (aG (dR (jL (gH (aY lE sZ rfl bA (aj (pv 0) (aj (pv 4) (aj (pv 5) az))))))
 (aC (oh (i:=6) (N':=["arrows", "one", "other", "name"]) (ρ:=[some 2,some 4,some 5,none]) rfl nd rfl (Or.inl rfl) (cH.of rfl (by kernel_rfl)) (cG (pv 1)) (fun _ _ _ _ _=>(aN (i:=3) (by show (["arrows", "one", "other", "name"]:List Str).Nodup;decide +kernel) rfl (Or.inl rfl))) (eQ rfl) (fun _ _ _ _ _=>(qF (PW.pt (pw_and (cg (xW cM) (bJ (aj (pv 1) (aj (pv 3) az))) (pv 0) rfl) (pw_and1 (cg (xW cM) (bJ (aj (pv 2) (aj (pv 3) az))) (pv 0) rfl)))))) (fun _ _ _ _ _=>(pv 3)))
 (aG (fM (mH PySem.F.plainAttrs_list PySem.F.slot_list_extend PySem.F.type_list_extend Bv (pv 3) (aj (eG (N':=["one", "other", "middle"]) (ρ:=[some 4,some 5,none]) rfl (cH.of rfl (by kernel_rfl)) (cG (pv 6)) (fun _ _ _ _ _=>(aN (i:=2) (by show (["one", "other", "middle"]:List Str).Nodup;decide +kernel) rfl (Or.inl rfl))) (eQ rfl) (fun _ _ _ _ _=>d8) (fun _ _ _ _ _=>(bJ (aj (pv 0) (aj (pv 2) (aj (pv 1) az)))))) az)))))
 bL)))
 (aG (bG (aY dq iz rfl bA (aj (pv 1) (aj (pv 3) az)))))))),
  _root_.A.runN (N:=["net", "names", "arrows", "corners", "one", "other", "middles"]) (M:=Mo [3]) (aK (Og (K:=K) (.t [1,2]) (by decide) (ao 0 rfl))
 (aK (tM 3 rfl (rD aP))
 (aK (iG (K:=K) (tg:=(.t [4,5])) (nQ (AE.nv (gm (aD (AE.w (ao 1 rfl)) aZ)))) (by decide)
 (dY (jX (j8 (AE.p (bD (aD (AE.w (ao 0 rfl)) (aD (AE.w (ao 4 rfl)) (aD (AE.w (ao 5 rfl)) aZ)))))))
 (aK (bI 6 rfl (AE.nv (dF (K:=K) (tg:=(.n 3)) (dN (AE.p (ao 1 rfl))) (by decide) (vP (bY (AE.p (aJ R7 (AE.p (cI (aA (ao 1 rfl) (aA (ao 3 rfl) aP)))) (AE.p (ao 0 rfl))))) (bY (AE.p (aJ R7 (AE.p (cI (aA (ao 2 rfl) (aA (ao 3 rfl) aP)))) (AE.p (ao 0 rfl)))))) (ao 3 rfl))))
 (FW 3 rfl (AE.nv (dF (K:=K) (tg:=(.n 2)) (dN (AE.p (ao 6 rfl))) (by decide) gj (cI (aA (ao 0 rfl) (aA (ao 2 rfl) (aA (ao 1 rfl) aP))))))))
 bM))
 (R9 3 rfl (AE.w (gm (aD (AE.w (ao 1 rfl)) (aD (AE.w (ao 3 rfl)) aZ)))))))) (by decide) h⟩)
abbrev sE:Stmt:=top 39
theorem v7:bB ["ties", "arrows"] ["ties", "arrows"] (aW sE):=⟨rfl,rfl,rfl,by decide +kernel,rfl,by decide +kernel,by decide +kernel⟩
theorem Hl{f:Addr}{fd:FuncData}(F:oV K "ties_left" "ties_left" sE f fd)(T:Txt mg)  : cW P w K mg base cD 1 f fd ["ties", "arrows"] (t6 jA) :=
 F.ok v7 (fun vs H Q E h=>zx h) (fun cdv A outer s H vs Q E hr h=>by
  have nd:=v7.nd
  have hu:=dC hr
  have cM:=hr.units
  exact⟨_,(aG (bG (eG (N':=["arrows", "one", "other"]) (ρ:=[some 1,none,none]) rfl (cH.of rfl (by kernel_rfl)) (cG (pv 0)) (fun _ _ _ _ _=>(fY rfl (bh (aN (i:=1) (by show (["arrows", "one", "other"]:List Str).Nodup;decide +kernel) rfl (Or.inl rfl)) (bh (aN (i:=2) (by show (["arrows", "one", "other"]:List Str).Nodup;decide +kernel) rfl (Or.inl rfl)) d9)))) (tu (dD rfl (dD rfl tD iB) (lH iB))) (fun _ _ _ _ _=>(qF (PW.pt (pw_and (cg (kO cM) (bJ (aj (pv 1) (aj (pv 2) az))) (pv 0) rfl) (pw_and1 (cg (kO cM) (bJ (aj (pv 2) (aj (pv 1) az))) (pv 0) rfl)))))) (fun _ _ _ _ _=>(bJ (aj (pv 1) (aj (pv 2) az))))))),
  _root_.A.runN (N:=["ties", "arrows"]) (M:=Mo []) (oF (AE.w (dF (K:=K) (tg:=(.t [1,2])) (dN (AE.p (ao 0 rfl))) (by decide) (vP (bY (AE.p (aJ qR (AE.p (cI (aA (ao 1 rfl) (aA (ao 2 rfl) aP)))) (AE.p (ao 0 rfl))))) (bY (AE.p (aJ qR (AE.p (cI (aA (ao 2 rfl) (aA (ao 1 rfl) aP)))) (AE.p (ao 0 rfl)))))) (cI (aA (ao 1 rfl) (aA (ao 2 rfl) aP)))))) (by decide) h⟩)
abbrev oM:Stmt:=top 42
theorem rY:bB ["one", "middle", "other", "tied", "bent"] ["one", "middle", "other", "tied", "bent"] (aW oM):=⟨rfl,rfl,rfl,by decide +kernel,rfl,by decide +kernel,by decide +kernel⟩
theorem Bq{f:Addr}{fd:FuncData}(F:oV K "is_straight" "is_straight" oM f fd)(T:Txt mg)  : cW P w K mg base cD 1 f fd ["one", "middle", "other", "tied", "bent"] (jr cO) :=
 F.ok rY (fun vs H Q E h=>nH h) (fun cdv A outer s H vs Q E hr h=>by
  have nd:=rY.nd
  have hu:=dC hr
  have cM:=hr.units
  exact⟨_,(aG (bG (xT (uf (vA cM) (pv 0) (pv 2) (fZ _)) (xT (Us (xU hu (bJ (aj (pv 0) (aj (pv 2) az))) (pv 3)) rfl) (xR (Us (xU hu (bJ (aj (pv 0) (aj (pv 1) (aj (pv 2) az)))) (pv 4)) rfl)))))),
  _root_.A.nC (N:=["one", "middle", "other", "tied", "bent"]) (M:=Mo []) (cL (AE.w (Ge (AE.p (aJ Oc (AE.p (ao 0 rfl)) (AE.p (ao 2 rfl)))) (Ge (AE.p (Dm 3 (cI (aA (ao 0 rfl) (aA (ao 2 rfl) aP))))) (Dm 4 (cI (aA (ao 0 rfl) (aA (ao 1 rfl) (aA (ao 2 rfl) aP))))))))) (by decide) h⟩)
abbrev u9:Stmt:=top 41
theorem yD:bB ["tail", "head", "names", "tied", "bent", "told", "rows", "third", "nears", "fourth"] ["tail", "head", "names", "tied", "bent", "told"] (aW u9):=⟨rfl,rfl,rfl,by decide +kernel,rfl,by decide +kernel,by decide +kernel⟩
theorem JQ{f:Addr}{fd:FuncData}(F:oV K "rows_for" "rows_for" u9 f fd)(T:Txt mg)(gn:kE P w K mg base cD 1 "pairs_of" ["names"] (t6 cP))(lK:kE P w K mg base cD 1 "is_straight" ["one", "middle", "other", "tied", "bent"] (jr cO)):cW P w K mg base cD 2 f fd ["tail", "head", "names", "tied", "bent", "told"] (t6 jx) :=
 F.ok yD (fun vs H Q E h=>zx h) (fun cdv A outer s H vs Q E hr h=>by
  have nd:=yD.nd
  have hu:=dC hr
  have cM:=hr.units
  have lO:=hr.mono (show 1≤_ by decide)
  have sX:=hr.mono (show 1≤_ by decide)
  exact⟨_,(aC (bz (i:=6) nd rfl (Or.inl rfl) (mq az))
 (aC (gY PassesOwn.never rfl (cG (pv 2)) (aN (i:=7) nd rfl (Or.inl rfl))
 (aC (dR (qG (sO hu (bJ (aj (pv 0) (aj (pv 1) (aj (pv 7) az)))) (pv 4)) rfl)
 (aG (fM (mH PySem.F.plainAttrs_list PySem.F.slot_list_append PySem.F.type_list_append kY (pv 6) (aj (bJ (aj (pv 0) (aj (pv 1) (aj fB (aj (bJ (aj (pv 7) az)) az))))) az))))
 bL)
 (aC (dR (PW.pt (pw_and (qG (sO hu (bJ (aj (pv 7) (aj (pv 0) az))) (pv 5)) rfl) (pw_and1 (gH (aY lK sX rfl bA (aj (pv 7) (aj (pv 0) (aj (pv 1) (aj (pv 3) (aj (pv 4) az))))))))))
 (aG (fM (mH PySem.F.plainAttrs_list PySem.F.slot_list_append PySem.F.type_list_append kY (pv 6) (aj (bJ (aj (pv 0) (aj (pv 1) (aj fB (aj (bJ (aj (pv 7) az)) az))))) az))))
 bL)
 (aG (dR (PW.pt (pw_and (qG (sO hu (bJ (aj (pv 0) (aj (pv 7) az))) (pv 5)) rfl) (pw_and1 (qG (sO hu (bJ (aj (pv 7) (aj (pv 1) az))) (pv 5)) rfl))))
 (aG (fM (mH PySem.F.plainAttrs_list PySem.F.slot_list_append PySem.F.type_list_append kY (pv 6) (aj (bJ (aj (pv 0) (aj (pv 1) (aj fB (aj (bJ (aj (pv 7) az)) az))))) az))))
 bL)))))
 (aC (oh (i:=8) (N':=["told", "tied", "head", "tail", "name"]) (ρ:=[some 5,some 3,some 1,some 0,none]) rfl nd rfl (Or.inl rfl) (cH.of rfl (by kernel_rfl)) (cG (pv 2)) (fun _ _ _ _ _=>(aN (i:=4) (by show (["told", "tied", "head", "tail", "name"]:List Str).Nodup;decide +kernel) rfl (Or.inl rfl))) (eQ rfl) (fun _ _ _ _ _=>(qF (PW.pt (pw_and (qG (sO hu (bJ (aj (pv 4) (aj (pv 2) az))) (pv 0)) rfl) (pw_and1 (qG (sO hu (bJ (aj (pv 4) (aj (pv 3) az))) (pv 1)) rfl)))))) (fun _ _ _ _ _=>(pv 4)))
 (aC (gY PassesOwn.never rfl (cG (aY gn lO rfl bA (aj (pv 8) az))) (fY rfl (bh (aN (i:=7) nd rfl (Or.inl rfl)) (bh (aN (i:=9) nd rfl (Or.inl rfl)) d9)))
 (aG (dR (gH (aY lK sX rfl bA (aj (pv 7) (aj (pv 0) (aj (pv 9) (aj (pv 3) (aj (pv 4) az)))))))
 (aG (fM (mH PySem.F.plainAttrs_list PySem.F.slot_list_append PySem.F.type_list_append kY (pv 6) (aj (bJ (aj (pv 0) (aj (pv 1) (aj fB (aj (bJ (aj (pv 7) (aj (pv 9) az))) az))))) az))))
 bL)))
 (aG (bG (pv 6))))))),
  _root_.A.runN (N:=["tail", "head", "names", "tied", "bent", "told", "rows", "third", "nears", "fourth"]) (M:=Mo [6]) (aK (tM 6 rfl (rD aP))
 (aK (iG (K:=K) (tg:=(.n 7)) (nQ (ao 2 rfl)) (by decide)
 (aK (dY (j8 (AE.p (zc 4 (cI (aA (ao 0 rfl) (aA (ao 1 rfl) (aA (ao 7 rfl) aP)))))))
 (m8 6 rfl (cI (aA (ao 0 rfl) (aA (ao 1 rfl) (aA gB (aA (cI (aA (ao 7 rfl) aP)) aP))))))
 bM)
 (aK (dY (vP (j8 (AE.p (zc 5 (cI (aA (ao 7 rfl) (aA (ao 0 rfl) aP)))))) (j8 (AE.p (bD (aD (AE.w (ao 7 rfl)) (aD (AE.w (ao 0 rfl)) (aD (AE.w (ao 1 rfl)) (aD (ym 3 rfl) (aD (ym 4 rfl) aZ)))))))))
 (m8 6 rfl (cI (aA (ao 0 rfl) (aA (ao 1 rfl) (aA gB (aA (cI (aA (ao 7 rfl) aP)) aP))))))
 bM)
 (dY (vP (j8 (AE.p (zc 5 (cI (aA (ao 0 rfl) (aA (ao 7 rfl) aP)))))) (j8 (AE.p (zc 5 (cI (aA (ao 7 rfl) (aA (ao 1 rfl) aP)))))))
 (m8 6 rfl (cI (aA (ao 0 rfl) (aA (ao 1 rfl) (aA gB (aA (cI (aA (ao 7 rfl) aP)) aP))))))
 bM))))
 (aK (bI 8 rfl (AE.nv (dF (K:=K) (tg:=(.n 4)) (dN (AE.p (ao 2 rfl))) (by decide) (vP (j8 (AE.p (zc 0 (cI (aA (ao 4 rfl) (aA (ao 2 rfl) aP)))))) (j8 (AE.p (zc 1 (cI (aA (ao 4 rfl) (aA (ao 3 rfl) aP))))))) (ao 4 rfl))))
 (aK (iG (K:=K) (tg:=(.t [7,9])) (nQ (AE.nv (gm (aD (AE.w (ao 8 rfl)) aZ)))) (by decide)
 (dY (j8 (AE.p (bD (aD (AE.w (ao 7 rfl)) (aD (AE.w (ao 0 rfl)) (aD (AE.w (ao 9 rfl)) (aD (ym 3 rfl) (aD (ym 4 rfl) aZ))))))))
 (m8 6 rfl (cI (aA (ao 0 rfl) (aA (ao 1 rfl) (aA gB (aA (cI (aA (ao 7 rfl) (aA (ao 9 rfl) aP))) aP))))))
 bM))
 (qi 6 rfl))))) (by decide) h⟩)
abbrev sH:Stmt:=top 43
theorem v9:bB ["rows", "kept", "row"] ["rows"] (aW sH):=⟨rfl,rfl,rfl,by decide +kernel,rfl,by decide +kernel,by decide +kernel⟩
theorem Ho{f:Addr}{fd:FuncData}(F:oV K "both_ways" "both_ways" sH f fd)(T:Txt mg)  : cW P w K mg base cD 1 f fd ["rows"] (t6 fU) :=
 F.ok v9 (fun vs H Q E h=>zx h) (fun cdv A outer s H vs Q E hr h=>by
  have nd:=v9.nd
  have hu:=dC hr
  have cM:=hr.units
  exact⟨_,(aC (bz (i:=1) nd rfl (Or.inl rfl) Bk)
 (aC (gY PassesOwn.never rfl (cG (pv 0)) (aN (i:=2) nd rfl (Or.inl rfl))
 (aC (uc hu (pv 1) (pv 2) pL rfl)
 (aG (uc hu (pv 1) (dG (RZ rfl) rfl T.dM boot_tuple (aj (dG Wa rfl T.Ob boot_reversed (aj (pv 2) az)) az)) pL rfl))))
 (aG (bG (pv 1))))),
  _root_.A.runN (N:=["rows", "kept", "row"]) (M:=Mo [1]) (aK (z6 1 rfl De)
 (aK (iG (K:=K) (tg:=(.n 2)) (nQ (ao 0 rfl)) (by decide)
 (aK (ux 1 rfl (ao 2 rfl) yo)
 (ux 1 rfl (abf (AE.p (ao 2 rfl))) yo)))
 (qi 1 rfl))) (by decide) h⟩)
abbrev qw:Stmt:=top 40
theorem uH:bB ["names", "ties", "corners", "tied", "bent", "told", "before", "tail", "head", "rows"] ["names", "ties", "corners"] (aW qw):=⟨rfl,rfl,rfl,by decide +kernel,rfl,by decide +kernel,by decide +kernel⟩
theorem DP{f:Addr}{fd:FuncData}(F:oV K "reasons_by" "reasons_by" qw f fd)(T:Txt mg)(vU:kE P w K mg base cD 2 "rows_for" ["tail", "head", "names", "tied", "bent", "told"] (t6 jx))(oG:kE P w K mg base cD 1 "both_ways" ["rows"] (t6 fU)):cW P w K mg base cD 3 f fd ["names", "ties", "corners"] (t6 f9) :=
 F.ok uH (fun vs H Q E h=>zx h) (fun cdv A outer s H vs Q E hr h=>by
  have nd:=uH.nd
  have hu:=dC hr
  have cM:=hr.units
  have Kg:=hr.mono (show 2≤_ by decide)
  have wG:=hr.mono (show 1≤_ by decide)
  exact⟨_,(aC (bz (i:=3) nd rfl (Or.inl rfl) (Uq (aY oG wG rfl bA (aj (pv 1) az))))
 (aC (bz (i:=4) nd rfl (Or.inl rfl) (Uq (aY oG wG rfl bA (aj (pv 2) az))))
 (aC (bz (i:=5) nd rfl (Or.inl rfl) Bk)
 (aC (bz (i:=6) nd rfl (Or.inl rfl) Mw)
 (aC (JH PassesOwn.never (cg (vA cM) (bH Fl rfl T.jm PySem.boot_len (aj (pv 5) az)) (pv 6) (fZ _))
 (aC (bz (i:=6) nd rfl (Or.inl rfl) (bH Fl rfl T.jm PySem.boot_len (aj (pv 5) az)))
 (aG (gY PassesOwn.never rfl (Xl (pv 3)) (fY rfl (bh (aN (i:=7) nd rfl (Or.inl rfl)) (bh (aN (i:=8) nd rfl (Or.inl rfl)) d9)))
 (aG (dR (qG (xU hu (bJ (aj (pv 7) (aj (pv 8) az))) (pv 5)) rfl)
 (aC (bz (i:=9) nd rfl (Or.inl rfl) (aY vU Kg rfl bA (aj (pv 7) (aj (pv 8) (aj (pv 0) (aj (pv 3) (aj (pv 4) (aj (pv 5) az))))))))
 (aG (dR (Bg (pv 9) (by intro _;rfl))
 (aG (uc hu (pv 5) (bJ (aj (pv 7) (aj (pv 8) az))) (eV cJ (pv 9) aM (fun _ _=>rfl)) rfl))
 bL)))
 bL))))))
 (aG (bG (dG (N6 rfl) rfl T.nP boot_list (aj (Uv PySem.F.plainAttrs_dict PySem.F.slot_dict_values PySem.F.type_dict_values Xz (pv 5)) az))))))))),
  _root_.A.runN (N:=["names", "ties", "corners", "tied", "bent", "told", "before", "tail", "head", "rows"]) (M:=Mo [5]) (aK (QB 3 rfl (Wl (Df (aD (AE.w (ao 1 rfl)) aZ))))
 (aK (QB 4 rfl (Wl (Df (aD (AE.w (ao 2 rfl)) aZ))))
 (aK (z6 5 rfl De)
 (aK (bI 6 rfl WD)
 (aK (Ld 200 (bY (AE.p (aJ Oc (AE.p (WK 5)) (AE.p (ao 6 rfl)))))
 (aK (bI 6 rfl (WK 5))
 (iG (K:=K) (tg:=(.t [7,8])) (YQ 3 rfl) (by decide)
 (dY (j8 (AE.p (Dm 5 (cI (aA (ao 7 rfl) (aA (ao 8 rfl) aP))))))
 (aK (bI 9 rfl (YX (aD (AW.p (AE.w (ao 7 rfl))) (aD (AW.p (AE.w (ao 8 rfl))) (aD (AW.p (AE.w (ao 0 rfl))) (aD (AW.p (ym 3 rfl)) (aD (AW.p (ym 4 rfl)) (aD (YF 5) aZ))))))))
 (dY (Dg (AE.p (ao 9 rfl)))
 (ux 5 rfl (cI (aA (ao 7 rfl) (aA (ao 8 rfl) aP))) (aJ jD (AE.p (ao 9 rfl)) (AE.p bf)))
 bM))
 bM))))
 (oF (AE.w (YW 5)))))))) (by decide) h⟩)
abbrev qy:Stmt:=top 38
theorem uJ:bB ["names", "ties", "corners", "told", "arrows"] ["names", "ties", "corners"] (aW qy):=⟨rfl,rfl,rfl,by decide +kernel,rfl,by decide +kernel,by decide +kernel⟩
theorem DR{f:Addr}{fd:FuncData}(F:oV K "picture_by" "picture_by" qy f fd)(T:Txt mg)(dq:kE P w K mg base cD 4 "sorted_rows" ["names", "rows"] (t6 bN))(tY:kE P w K mg base cD 1 "ties_left" ["ties", "arrows"] (t6 jA))(qU:kE P w K mg base cD 3 "reasons_by" ["names", "ties", "corners"] (t6 f9)):cW P w K mg base cD 5 f fd ["names", "ties", "corners"] (jr fc) :=
 F.ok uJ (fun vs H Q E h=>nH h) (fun cdv A outer s H vs Q E hr h=>by
  have nd:=uJ.nd
  have hu:=dC hr
  have cM:=hr.units
  have iz:=hr.mono (show 4≤_ by decide)
  have HQ:=hr.mono (show 1≤_ by decide)
  have DY:=hr.mono (show 3≤_ by decide)
  exact⟨_,(aC (bz (i:=3) nd rfl (Or.inr rfl) (eG (N':=["row"]) (ρ:=[none]) rfl (cH.of rfl (by kernel_rfl)) (cG (aY qU DY rfl bA (aj (pv 0) (aj (pv 1) (aj (pv 2) az))))) (fun _ _ _ _ _=>(aN (i:=0) (by show (["row"]:List Str).Nodup;decide +kernel) rfl (Or.inl rfl))) (eQ rfl) (fun _ _ _ _ _=>d8) (fun _ _ _ _ _=>(gZ W2 (pv 0) jN (jM aM)))))
 (aC (oh (i:=4) (N':=["told", "tail", "head"]) (ρ:=[some 3,none,none]) rfl nd rfl (Or.inl rfl) (cH.of rfl (by kernel_rfl)) (cG (pv 3)) (fun _ _ _ _ _=>(fY rfl (bh (aN (i:=1) (by show (["told", "tail", "head"]:List Str).Nodup;decide +kernel) rfl (Or.inl rfl)) (bh (aN (i:=2) (by show (["told", "tail", "head"]:List Str).Nodup;decide +kernel) rfl (Or.inl rfl)) d9)))) (tu (dD rfl (dD rfl tD iB) (lH iB))) (fun _ _ _ _ _=>(qF (cg (kO cM) (bJ (aj (pv 2) (aj (pv 1) az))) (pv 0) rfl))) (fun _ _ _ _ _=>(bJ (aj (pv 1) (aj (pv 2) az)))))
 (aG (bG (bJ (aj (pv 0) (aj (dG fW rfl T.dM boot_tuple (aj (aY dq iz rfl bA (aj (pv 0) (aj (pv 4) az))) az)) (aj (dG fW rfl T.dM boot_tuple (aj (aY tY HQ rfl bA (aj (pv 1) (aj (pv 4) az))) az)) az)))))))),
  _root_.A.nC (N:=["names", "ties", "corners", "told", "arrows"]) (M:=Mo []) (aK (bI 3 rfl (AE.nv (dF (K:=K) (tg:=(.n 0)) (dN (AE.np (gm (aD (AE.w (ao 0 rfl)) (aD (AE.w (ao 1 rfl)) (aD (AE.w (ao 2 rfl)) aZ)))))) (by decide) gj (Dl Qy (AE.p (ao 0 rfl)) jZ (jY (AE.p bf))))))
 (aK (bI 4 rfl (AE.nv (dF (K:=K) (tg:=(.t [1,2])) (dN (AE.p (ao 3 rfl))) (by decide) (bY (AE.p (aJ qR (AE.p (cI (aA (ao 2 rfl) (aA (ao 1 rfl) aP)))) (AE.p (ao 0 rfl))))) (cI (aA (ao 1 rfl) (aA (ao 2 rfl) aP))))))
 (cL (AE.w (cI (aA (ao 0 rfl) (aA (lB dM (aA (AE.np (gm (aD (AE.w (ao 0 rfl)) (aD (AE.w (ao 4 rfl)) aZ)))) aP)) (aA (lB dM (aA (AE.np (gm (aD (AE.w (ao 1 rfl)) (aD (AE.w (ao 4 rfl)) aZ)))) aP)) aP)))))))) (by decide) h⟩)
abbrev qx:Stmt:=top 37
theorem uI:bB ["net"] ["net"] (aW qx):=⟨rfl,rfl,rfl,by decide +kernel,rfl,by decide +kernel,by decide +kernel⟩
theorem DQ{f:Addr}{fd:FuncData}(F:oV K "picture_of" "picture_of" qx f fd)(T:Txt mg)(yp:kE P w K mg base cD 3 "ties_of" ["net"] (t6 m7))(qY:kE P w K mg base cD 5 "corners_of" ["net"] (t6 iM))(qX:kE P w K mg base cD 5 "picture_by" ["names", "ties", "corners"] (jr fc)):cW P w K mg base cD 6 f fd ["net"] (jr iK) :=
 F.ok uI (fun vs H Q E h=>nH h) (fun cdv A outer s H vs Q E hr h=>by
  have nd:=uI.nd
  have hu:=dC hr
  have cM:=hr.units
  have Ni:=hr.mono (show 3≤_ by decide)
  have Ec:=hr.mono (show 5≤_ by decide)
  have Eb:=hr.mono (show 5≤_ by decide)
  exact⟨_,(aG (bG (aY qX Eb rfl bA (aj (eV cJ (pv 0) aM (fun _ _=>rfl)) (aj (aY yp Ni rfl bA (aj (pv 0) az)) (aj (aY qY Ec rfl bA (aj (pv 0) az)) az)))))),
  _root_.A.nC (N:=["net"]) (M:=Mo []) (cL (AE.w (bD (aD (AE.w (aJ jD (AE.p (ao 0 rfl)) (AE.p bf))) (aD (AW.nv (AE.w (gm (aD (AE.w (ao 0 rfl)) aZ)))) (aD (AW.nv (AE.w (gm (aD (AE.w (ao 0 rfl)) aZ)))) aZ)))))) (by decide) h⟩)
abbrev Ba:Stmt:=top 45
theorem Es:bB ["_law_script", "_law_k", "_law_spare"] ["_law_script", "_law_k"] (aW Ba):=⟨rfl,rfl,rfl,by decide +kernel,rfl,by decide +kernel,by decide +kernel⟩
theorem Rf{f:Addr}{fd:FuncData}(F:oV K "_law_cell" "_law_cell" Ba f fd)(T:Txt mg)  : cW P w K mg base cD 1 f fd ["_law_script", "_law_k"] (jr dU) :=
 F.ok Es (fun vs H Q E h=>nH h) (fun cdv A outer s H vs Q E hr h=>by
  have nd:=Es.nd
  have hu:=dC hr
  have cM:=hr.units
  exact⟨_,(aC (dR (cg Hk (pv 1) (bH iT rfl T.jm PySem.boot_len (aj (pv 0) az)) (fZ _))
 (aG (bG (eV cJ (pv 0) (pv 1) (fun _ _=>rfl))))
 bL)
 (aC (bz (i:=2) nd rfl (Or.inl rfl) (bj bF aM (bj kW (bj kW aM (pv 1)) (pv 1))))
 (aC (dR (cg aaB (bH iT rfl T.jm PySem.boot_len (aj (pv 0) az)) aM (fZ _))
 (aG (bz (i:=2) nd rfl (Or.inl rfl) (bj bF (pv 2) (bj kW (bj ig (eV cJ (pv 0) aM (fun _ _=>rfl)) aM) (bj bF (bj bF (bj kW (pv 1) (pv 1)) (bj kW aM (pv 1))) aM)))))
 bL)
 (aG (bG (pv 2)))))),
  _root_.A.nC (N:=["_law_script", "_law_k", "_law_spare"]) (M:=Mo []) (aK (dY (bY (AE.p (aJ YB (AE.p (ao 1 rfl)) (AE.p (lB jm (aA (AE.p (ao 0 rfl)) aP))))))
 (cL (AE.w (aJ jD (AE.p (ao 0 rfl)) (AE.p (ao 1 rfl)))))
 bM)
 (aK (bI 2 rfl (aJ dh (AE.p bf) (AE.p (aJ qd (AE.p (aJ qd (AE.p bf) (AE.p (ao 1 rfl)))) (AE.p (ao 1 rfl))))))
 (aK (dY (bY (AE.p (aJ ad8 (AE.p (lB jm (aA (AE.p (ao 0 rfl)) aP))) (AE.p bf))))
 (bI 2 rfl (aJ dh (AE.p (ao 2 rfl)) (AE.p (aJ qd (AE.p (aJ lU (AE.p (aJ jD (AE.p (ao 0 rfl)) (AE.p bf))) (AE.p bf))) (AE.p (aJ dh (AE.p (aJ dh (AE.p (aJ qd (AE.p (ao 1 rfl)) (AE.p (ao 1 rfl)))) (AE.p (aJ qd (AE.p bf) (AE.p (ao 1 rfl)))))) (AE.p bf)))))))
 bM)
 (cL (AE.w (ao 2 rfl)))))) (by decide) h⟩)
abbrev xK:Stmt:=top 46
theorem Aq:bB ["_law_cell_here", "_law_many", "_law_letters", "_law_long", "_law_size", "_law_stem", "_law_at"] ["_law_cell_here", "_law_many"] (aW xK):=⟨rfl,rfl,rfl,by decide +kernel,rfl,by decide +kernel,by decide +kernel⟩
theorem MJ{f:Addr}{fd:FuncData}(F:oV K "_law_words" "_law_words" xK f fd)(T:Txt mg)  : cW P w K mg base cD 1 f fd ["_law_cell_here", "_law_many"] (t6 pN) :=
 F.ok Aq (fun vs H Q E h=>zx h) (fun cdv A outer s H vs Q E hr h=>by
  have nd:=Aq.nd
  have hu:=dC hr
  have cM:=hr.units
  exact⟨_,(aC (bz (i:=2) nd rfl (Or.inr rfl) fB)
 (aC (dR (cg Hk (bj ig (pv 0) aM) aM (fZ _))
 (aC (bz (i:=3) nd rfl (Or.inr rfl) (mH PySem.F.plainAttrs_str PySem.F.slot_str_join PySem.F.type_str_join zL fB (aj (eG (N':=["_law_letters", "_law_cell_here", "_law_k"]) (ρ:=[some 2,some 0,none]) rfl (cH.of rfl (by kernel_rfl)) (iJ rfl T.mX (aj aM az)) (fun _ _ _ _ _=>(aN (i:=2) (by show (["_law_letters", "_law_cell_here", "_law_k"]:List Str).Nodup;decide +kernel) rfl (Or.inl rfl))) (eQ rfl) (fun _ _ _ _ _=>d8) (fun _ _ _ _ _=>(eV cJ (pv 0) (bj ig (bj jO (pv 1) (bj bF aM (bj kW aM (pv 2)))) aM) (fun _ _=>rfl)))) az)))
 (aC (dR (cg (xX cM) (bj ig (pv 0) aM) aM (fZ _))
 (aG (bG (eG (N':=["_law_long", "_law_k"]) (ρ:=[some 3,none]) rfl (cH.of rfl (by kernel_rfl)) (iJ rfl T.mX (aj (pv 1) az)) (fun _ _ _ _ _=>(aN (i:=1) (by show (["_law_long", "_law_k"]:List Str).Nodup;decide +kernel) rfl (Or.inl rfl))) (eQ rfl) (fun _ _ _ _ _=>d8) (fun _ _ _ _ _=>(gZ QW (pv 0) jN (jM (bj bF (pv 1) aM)))))))
 bL)
 (aG (bG (eG (N':=["_law_long", "_law_k"]) (ρ:=[some 3,none]) rfl (cH.of rfl (by kernel_rfl)) (iJ rfl T.mX (aj (pv 1) az)) (fun _ _ _ _ _=>(aN (i:=1) (by show (["_law_long", "_law_k"]:List Str).Nodup;decide +kernel) rfl (Or.inl rfl))) (eQ rfl) (fun _ _ _ _ _=>d8) (fun _ _ _ _ _=>(gZ QW (pv 0) (jM (bj Uz aM (pv 1))) jN)))))))
 bL)
 (aC (bz (i:=4) nd rfl (Or.inl rfl) (bj ig (bj jO (pv 0) aM) aM))
 (aC (bz (i:=5) nd rfl (Or.inr rfl) (mH PySem.F.plainAttrs_str PySem.F.slot_str_join PySem.F.type_str_join zL fB (aj (eG (N':=["_law_letters", "_law_cell_here", "_law_k"]) (ρ:=[some 2,some 0,none]) rfl (cH.of rfl (by kernel_rfl)) (iJ rfl T.mX (aj (pv 4) az)) (fun _ _ _ _ _=>(aN (i:=2) (by show (["_law_letters", "_law_cell_here", "_law_k"]:List Str).Nodup;decide +kernel) rfl (Or.inl rfl))) (eQ rfl) (fun _ _ _ _ _=>d8) (fun _ _ _ _ _=>(eV cJ (pv 0) (bj ig (bj bF (bj bF (bj jO (pv 1) aM) (bj kW aM (pv 2))) (bj kW (pv 2) (pv 2))) aM) (fun _ _=>rfl)))) az)))
 (aC (bz (i:=6) nd rfl (Or.inr rfl) (bj ig (bj jO (pv 0) aM) (bj bF (pv 4) aM)))
 (aG (bG (eG (N':=["_law_stem", "_law_letters", "_law_at", "_law_cell_here", "_law_k"]) (ρ:=[some 5,some 2,some 6,some 0,none]) rfl (cH.of rfl (by kernel_rfl)) (iJ rfl T.mX (aj (pv 1) az)) (fun _ _ _ _ _=>(aN (i:=4) (by show (["_law_stem", "_law_letters", "_law_at", "_law_cell_here", "_law_k"]:List Str).Nodup;decide +kernel) rfl (Or.inl rfl))) (eQ rfl) (fun _ _ _ _ _=>d8) (fun _ _ _ _ _=>(bj bF (bj bF (gZ QW (pv 0) jN (jM (pv 2))) (eV cJ (pv 1) (bj ig (bj bF (bj jO (pv 3) aM) (bj kW aM (pv 4))) aM) (fun _ _=>rfl))) (gZ QW (pv 0) (jM (pv 2)) jN))))))))))),
  _root_.A.runN (N:=["_law_cell_here", "_law_many", "_law_letters", "_law_long", "_law_size", "_law_stem", "_law_at"]) (M:=Mo []) (aK (bI 2 rfl gB)
 (aK (dY (bY (AE.p (aJ YB (AE.p (aJ lU (AE.p (ao 0 rfl)) (AE.p bf))) (AE.p bf))))
 (aK (bI 3 rfl (Iw (AE.p gB) (AE.np (dF (K:=K) (tg:=(.n 2)) (QL.c (iV (AE.p bf))) (by decide) gj (aJ jD (AE.p (ao 0 rfl)) (AE.p (aJ lU (AE.p (aJ wZ (AE.p (ao 1 rfl)) (AE.p (aJ dh (AE.p bf) (AE.p (aJ qd (AE.p bf) (AE.p (ao 2 rfl)))))))) (AE.p bf))))))))
 (aK (dY (bY (AE.p (aJ R8 (AE.p (aJ lU (AE.p (ao 0 rfl)) (AE.p bf))) (AE.p bf))))
 (oF (AE.w (dF (K:=K) (tg:=(.n 1)) (QL.c (iV (AE.p (ao 1 rfl)))) (by decide) gj (Dl Fy (AE.p (ao 0 rfl)) jZ (jY (AE.p (aJ dh (AE.p (ao 1 rfl)) (AE.p bf))))))))
 bM)
 (oF (AE.w (dF (K:=K) (tg:=(.n 1)) (QL.c (iV (AE.p (ao 1 rfl)))) (by decide) gj (Dl Fy (AE.p (ao 0 rfl)) (jY (AE.p (aJ ZS (AE.p bf) (AE.p (ao 1 rfl))))) jZ))))))
 bM)
 (aK (bI 4 rfl (aJ lU (AE.p (aJ wZ (AE.p (ao 0 rfl)) (AE.p bf))) (AE.p bf)))
 (aK (bI 5 rfl (Iw (AE.p gB) (AE.np (dF (K:=K) (tg:=(.n 2)) (QL.c (iV (AE.p (ao 4 rfl)))) (by decide) gj (aJ jD (AE.p (ao 0 rfl)) (AE.p (aJ lU (AE.p (aJ dh (AE.p (aJ dh (AE.p (aJ wZ (AE.p (ao 1 rfl)) (AE.p bf))) (AE.p (aJ qd (AE.p bf) (AE.p (ao 2 rfl)))))) (AE.p (aJ qd (AE.p (ao 2 rfl)) (AE.p (ao 2 rfl)))))) (AE.p bf))))))))
 (aK (bI 6 rfl (aJ lU (AE.p (aJ wZ (AE.p (ao 0 rfl)) (AE.p bf))) (AE.p (aJ dh (AE.p (ao 4 rfl)) (AE.p bf)))))
 (oF (AE.w (dF (K:=K) (tg:=(.n 4)) (QL.c (iV (AE.p (ao 1 rfl)))) (by decide) gj (aJ dh (AE.p (aJ dh (AE.p (Dl Fy (AE.p (ao 0 rfl)) jZ (jY (AE.p (ao 2 rfl))))) (AE.p (aJ jD (AE.p (ao 1 rfl)) (AE.p (aJ lU (AE.p (aJ dh (AE.p (aJ wZ (AE.p (ao 3 rfl)) (AE.p bf))) (AE.p (aJ qd (AE.p bf) (AE.p (ao 4 rfl)))))) (AE.p bf))))))) (AE.p (Dl Fy (AE.p (ao 0 rfl)) (jY (AE.p (ao 2 rfl))) jZ))))))))))) (by decide) h⟩)
abbrev xM:Stmt:=top 47
theorem Av:bB ["_law_cell_here", "_law_many", "_law_left", "_law_ranks_here", "_law_draw", "_law_k"] ["_law_cell_here", "_law_many"] (aW xM):=⟨rfl,rfl,rfl,by decide +kernel,rfl,by decide +kernel,by decide +kernel⟩
theorem MK{f:Addr}{fd:FuncData}(F:oV K "_law_ranks" "_law_ranks" xM f fd)(T:Txt mg)  : cW P w K mg base cD 1 f fd ["_law_cell_here", "_law_many"] (t6 lN) :=
 F.ok Av (fun vs H Q E h=>zx h) (fun cdv A outer s H vs Q E hr h=>by
  have nd:=Av.nd
  have hu:=dC hr
  have cM:=hr.units
  exact⟨_,(aC (oh (i:=2) (N':=["_law_k"]) (ρ:=[none]) rfl nd rfl (Or.inl rfl) (cH.of rfl (by kernel_rfl)) (iJ rfl T.mX (aj (pv 1) az)) (fun _ _ _ _ _=>(aN (i:=0) (by show (["_law_k"]:List Str).Nodup;decide +kernel) rfl (Or.inl rfl))) (eQ rfl) (fun _ _ _ _ _=>d8) (fun _ _ _ _ _=>(pv 0)))
 (aC (bz (i:=3) nd rfl (Or.inl rfl) (mq az))
 (aC (bz (i:=4) nd rfl (Or.inl rfl) (bj ig (pv 0) aM))
 (aC (gY PassesOwn.never rfl (iJ rfl T.mX (aj (pv 1) az)) (aN (i:=5) nd rfl (Or.inl rfl))
 (aC (bz (i:=4) nd rfl (Or.inl rfl) (bj ig (bj bF (bj bF (bj kW (pv 4) aM) (bj kW aM (pv 5))) aM) aM))
 (aG (fM (mH PySem.F.plainAttrs_list PySem.F.slot_list_append PySem.F.type_list_append kY (pv 3) (aj (mH PySem.F.plainAttrs_list PySem.F.slot_list_pop PySem.F.type_list_pop Vf (pv 2) (aj (bj ig (bj jO (pv 4) aM) (bH iT rfl T.jm PySem.boot_len (aj (pv 2) az))) az)) az))))))
 (aG (bG (pv 3))))))),
  _root_.A.runN (N:=["_law_cell_here", "_law_many", "_law_left", "_law_ranks_here", "_law_draw", "_law_k"]) (M:=Mo [2,3]) (aK (tM 2 rfl (dF (K:=K) (tg:=(.n 0)) (QL.c (iV (AE.p (ao 1 rfl)))) (by decide) gj (ao 0 rfl)))
 (aK (tM 3 rfl (rD aP))
 (aK (bI 4 rfl (aJ lU (AE.p (ao 0 rfl)) (AE.p bf)))
 (aK (iG (K:=K) (tg:=(.n 5)) (iV (AE.p (ao 1 rfl))) (by decide)
 (aK (bI 4 rfl (aJ lU (AE.p (aJ dh (AE.p (aJ dh (AE.p (aJ qd (AE.p (ao 4 rfl)) (AE.p bf))) (AE.p (aJ qd (AE.p bf) (AE.p (ao 5 rfl)))))) (AE.p bf))) (AE.p bf)))
 (Im 3 2 (by decide) rfl rfl (AE.p (aJ lU (AE.p (aJ wZ (AE.p (ao 4 rfl)) (AE.p bf))) (AE.p (lB jm (aA (Dk 2) aP))))))))
 (qi 3 rfl))))) (by decide) h⟩)
abbrev G4:Stmt:=top 48
theorem Jz:bB ["_law_script", "_law_most", "_law_many", "_law_names", "_law_ranks_here", "_law_thick", "_law_arrows", "_law_j", "_law_k", "_law_cell_here"] ["_law_script", "_law_most"] (aW G4):=⟨rfl,rfl,rfl,by decide +kernel,rfl,by decide +kernel,by decide +kernel⟩
theorem UL{f:Addr}{fd:FuncData}(F:oV K "_law_net" "_law_net" G4 f fd)(T:Txt mg)(jq:kE P w K mg base cD 1 "_law_cell" ["_law_script", "_law_k"] (jr dU))(yq:kE P w K mg base cD 1 "_law_words" ["_law_cell_here", "_law_many"] (t6 pN))(yr:kE P w K mg base cD 1 "_law_ranks" ["_law_cell_here", "_law_many"] (t6 lN)):cW P w K mg base cD 2 f fd ["_law_script", "_law_most"] (jr pO) :=
 F.ok Jz (fun vs H Q E h=>nH h) (fun cdv A outer s H vs Q E hr h=>by
  have nd:=Jz.nd
  have hu:=dC hr
  have cM:=hr.units
  have lq:=hr.mono (show 1≤_ by decide)
  have Nj:=hr.mono (show 1≤_ by decide)
  have Nk:=hr.mono (show 1≤_ by decide)
  exact⟨_,(aC (bz (i:=2) nd rfl (Or.inl rfl) (bj bF aM (bj ig (aY jq lq rfl bA (aj (pv 0) (aj aM az))) (pv 1))))
 (aC (bz (i:=3) nd rfl (Or.inl rfl) (aY yq Nj rfl bA (aj (aY jq lq rfl bA (aj (pv 0) (aj aM az))) (aj (pv 2) az))))
 (aC (bz (i:=4) nd rfl (Or.inl rfl) (aY yr Nk rfl bA (aj (aY jq lq rfl bA (aj (pv 0) (aj aM az))) (aj (pv 2) az))))
 (aC (bz (i:=5) nd rfl (Or.inl rfl) (eV cJ (mq (aj aM (aj aM (aj aM (aj aM (aj aM (aj aM az))))))) (bj ig (aY jq lq rfl bA (aj (pv 0) (aj aM az))) aM) (fun _ _=>rfl)))
 (aC (bz (i:=6) nd rfl (Or.inl rfl) (mq az))
 (aC (gY PassesOwn.never rfl (iJ rfl T.mX (aj (pv 2) az)) (aN (i:=7) nd rfl (Or.inl rfl))
 (aG (gY PassesOwn.never rfl (iJ rfl T.mX (aj (pv 2) az)) (aN (i:=8) nd rfl (Or.inl rfl))
 (aC (bz (i:=9) nd rfl (Or.inl rfl) (aY jq lq rfl bA (aj (pv 0) (aj (bj bF (bj bF aM (bj jO (bj kW (bH (Fj rfl) rfl T.K5 boot_max (aj (pv 7) (aj (pv 8) az))) (bj Uz (bH (Fj rfl) rfl T.K5 boot_max (aj (pv 7) (aj (pv 8) az))) aM)) aM)) (bH (R3 rfl) rfl T.Wi boot_min (aj (pv 7) (aj (pv 8) az)))) az))))
 (aG (dR (PW.pt (pw_and (cg Hk (eV cJ (pv 4) (pv 7) (fun _ _=>rfl)) (eV cJ (pv 4) (pv 8) (fun _ _=>rfl)) (fZ _)) (pw_and1 (cg Hk (bj ig (bj jO (bj ig (bj kW (pv 9) aM) aM) aM) aM) (pv 5) (fZ _)))))
 (aG (fM (mH PySem.F.plainAttrs_list PySem.F.slot_list_append PySem.F.type_list_append kY (pv 6) (aj (bJ (aj (eV cJ (pv 3) (pv 7) (fun _ _=>rfl)) (aj (eV cJ (pv 3) (pv 8) (fun _ _=>rfl)) az))) az))))
 bL))))))
 (aG (bG (bJ (aj (dG fW rfl T.dM boot_tuple (aj (pv 3) az)) (aj (dG fW rfl T.dM boot_tuple (aj (pv 6) az)) az))))))))))),
  _root_.A.nC (N:=["_law_script", "_law_most", "_law_many", "_law_names", "_law_ranks_here", "_law_thick", "_law_arrows", "_law_j", "_law_k", "_law_cell_here"]) (M:=Mo [6]) (aK (bI 2 rfl (aJ dh (AE.p bf) (AE.p (aJ lU (AE.p (bD (aD (AE.w (ao 0 rfl)) (aD (AE.w bf) aZ)))) (AE.p (ao 1 rfl))))))
 (aK (bI 3 rfl (AE.nv (gm (aD (AE.w (bD (aD (AE.w (ao 0 rfl)) (aD (AE.w bf) aZ)))) (aD (AE.w (ao 2 rfl)) aZ)))))
 (aK (bI 4 rfl (AE.nv (gm (aD (AE.w (bD (aD (AE.w (ao 0 rfl)) (aD (AE.w bf) aZ)))) (aD (AE.w (ao 2 rfl)) aZ)))))
 (aK (bI 5 rfl (aJ jD (AE.np (rD (aA bf (aA bf (aA bf (aA bf (aA bf (aA bf aP)))))))) (AE.p (aJ lU (AE.p (bD (aD (AE.w (ao 0 rfl)) (aD (AE.w bf) aZ)))) (AE.p bf)))))
 (aK (tM 6 rfl (rD aP))
 (aK (iG (K:=K) (tg:=(.n 7)) (iV (AE.p (ao 2 rfl))) (by decide)
 (iG (K:=K) (tg:=(.n 8)) (iV (AE.p (ao 2 rfl))) (by decide)
 (aK (bI 9 rfl (bD (aD (AE.w (ao 0 rfl)) (aD (AE.w (aJ dh (AE.p (aJ dh (AE.p bf) (AE.p (aJ wZ (AE.p (aJ qd (AE.p (lB K5 (aA (AE.p (ao 7 rfl)) (aA (AE.p (ao 8 rfl)) aP)))) (AE.p (aJ ZS (AE.p (lB K5 (aA (AE.p (ao 7 rfl)) (aA (AE.p (ao 8 rfl)) aP)))) (AE.p bf))))) (AE.p bf))))) (AE.p (lB Wi (aA (AE.p (ao 7 rfl)) (aA (AE.p (ao 8 rfl)) aP)))))) aZ))))
 (dY (vP (bY (AE.p (aJ YB (AE.p (aJ jD (AE.p (ao 4 rfl)) (AE.p (ao 7 rfl)))) (AE.p (aJ jD (AE.p (ao 4 rfl)) (AE.p (ao 8 rfl))))))) (bY (AE.p (aJ YB (AE.p (aJ lU (AE.p (aJ wZ (AE.p (aJ lU (AE.p (aJ qd (AE.p (ao 9 rfl)) (AE.p bf))) (AE.p bf))) (AE.p bf))) (AE.p bf))) (AE.p (ao 5 rfl))))))
 (m8 6 rfl (cI (aA (aJ jD (AE.p (ao 3 rfl)) (AE.p (ao 7 rfl))) (aA (aJ jD (AE.p (ao 3 rfl)) (AE.p (ao 8 rfl))) aP))))
 bM))))
 (cL (AE.w (cI (aA (lB dM (aA (AE.p (ao 3 rfl)) aP)) (aA (lB dM (aA (Dk 6) aP)) aP))))))))))) (by decide) h⟩)
abbrev xN:Stmt:=top 49
theorem Aw:bB ["_law_found", "_law_due", "_law_one", "_law_other"] ["_law_found", "_law_due"] (aW xN):=⟨rfl,rfl,rfl,by decide +kernel,rfl,by decide +kernel,by decide +kernel⟩
theorem Bp{f:Addr}{fd:FuncData}(F:oV K "_law_alike" "_law_alike" xN f fd)(T:Txt mg)  (self:∀ n,cW P w K mg base cD (n+1) f fd ["_law_found", "_law_due"] (jr (bw n))→kE P w K mg base cD (n+1) "_law_alike" ["_law_found", "_law_due"] (jr (bw n))):∀ n,cW P w K mg base cD (n+1) f fd ["_law_found", "_law_due"] (jr (bw n))
 | 0=>RK
 | n+1=>F.ok Aw (fun vs H Q E h=>nH h) (fun cdv A outer s H vs Q E hr h=>by
  have dg:∀ m:Nat,m=n→kE P w K mg base cD (m+1) "_law_alike" ["_law_found", "_law_due"] (jr (bw m)):=fun m e=>by subst e;exact self m (Bp F T  self m)
  have dg:=fun m:Nat=>(dg n rfl:kE P w K mg base cD (n+1) "_law_alike" ["_law_found", "_law_due"] (jr (bw n)))
  have nd:=Aw.nd
  have hu:=dC hr
  have cM:=hr.units
  have fH:=hr.mono (show (n+1)≤_ by omega)
  exact⟨_,(aC (dR (PW.pt (pw_or (gH (bH jW rfl T.cV boot_isinstance (aj (pv 1) (aj (pK rfl T.Qx boot_str) az)))) (pw_or1 (gH (bH jW rfl T.cV boot_isinstance (aj (pv 1) (aj (pK rfl T.ZV boot_int) az)))))))
 (aC (dR (PW.pt (pw_or (cg (vA cM) (bH jW rfl T.cV boot_isinstance (aj (pv 0) (aj (pK rfl T.Wj boot_bool) az))) (bH jW rfl T.cV boot_isinstance (aj (pv 1) (aj (pK rfl T.Wj boot_bool) az))) (fZ _)) (pw_or1 (cg (vA cM) (bH jW rfl T.cV boot_isinstance (aj (pv 0) (aj (pK rfl T.Qx boot_str) az))) (bH jW rfl T.cV boot_isinstance (aj (pv 1) (aj (pK rfl T.Qx boot_str) az))) (fZ _)))))
 (aG (bG pL))
 bL)
 (aG (bG (xT (bH Zp.Fo rfl T.cV boot_isinstance (aj (pv 0) (aj (bJ (aj (pK rfl T.ZV boot_int) (aj (pK rfl T.Qx boot_str) az))) az))) (xR (uf (xX cM) (pv 0) (pv 1) (fZ _)))))))
 bL)
 (aC (dR (PW.pt (pw_or (cg (vA cM) (bH jW rfl T.cV boot_isinstance (aj (pv 0) (aj (pK rfl T.nP boot_list) az))) (bH jW rfl T.cV boot_isinstance (aj (pv 1) (aj (pK rfl T.nP boot_list) az))) (fZ _)) (pw_or1 (jL (gH (bH Zp.Fo rfl T.cV boot_isinstance (aj (pv 0) (aj (bJ (aj (pK rfl T.nP boot_list) (aj (pK rfl T.dM boot_tuple) az))) az))))))))
 (aG (bG pL))
 bL)
 (aC (dR (cg (vA cM) (bH iT rfl T.jm PySem.boot_len (aj (pv 0) az)) (bH iT rfl T.jm PySem.boot_len (aj (pv 1) az)) (fZ _))
 (aG (bG pL))
 bL)
 (aC (gY PassesOwn.never rfl (Zp.Xj rfl T.acV (pv 0) (pv 1)) (fY rfl (bh (aN (i:=2) nd rfl (Or.inl rfl)) (bh (aN (i:=3) nd rfl (Or.inl rfl)) d9)))
 (aG (dR (jL (gH (aY (dg n) fH rfl bA (aj (pv 2) (aj (pv 3) az)))))
 (aG (bG pL))
 bL)))
 (aG (bG pL)))))),
  _root_.A.nC (N:=["_law_found", "_law_due", "_law_one", "_law_other"]) (M:=Mo []) (aK (dY (za (j8 (AE.p (Iz (ty_str K) (AE.p (ao 1 rfl))))) (j8 (AE.p (Iz (ty_int K) (AE.p (ao 1 rfl))))))
 (aK (dY (za (bY (AE.p (aJ Oc (AE.p (Iz (ty_bool K) (AE.p (ao 0 rfl)))) (AE.p (Iz (ty_bool K) (AE.p (ao 1 rfl))))))) (bY (AE.p (aJ Oc (AE.p (Iz (ty_str K) (AE.p (ao 0 rfl)))) (AE.p (Iz (ty_str K) (AE.p (ao 1 rfl))))))))
 (cL (AE.w yo))
 bM)
 (cL (AE.w (Ge (AE.p (Zp.ZX (Zp.aby (ty_int K) (ty_str K)) (by decide) (AE.p (ao 0 rfl)))) (aJ R8 (AE.p (ao 0 rfl)) (AE.p (ao 1 rfl)))))))
 bM)
 (aK (dY (za (bY (AE.p (aJ Oc (AE.p (Iz (ty_list K) (AE.p (ao 0 rfl)))) (AE.p (Iz (ty_list K) (AE.p (ao 1 rfl))))))) (jX (j8 (AE.p (Zp.ZX (Zp.aby (ty_list K) (ty_tuple K)) (by decide) (AE.p (ao 0 rfl)))))))
 (cL (AE.w yo))
 bM)
 (aK (dY (bY (AE.p (aJ Oc (AE.p (lB jm (aA (AE.p (ao 0 rfl)) aP))) (AE.p (lB jm (aA (AE.p (ao 1 rfl)) aP))))))
 (cL (AE.w yo))
 bM)
 (aK (iG (K:=K) (tg:=(.t [2,3])) (Zp.YM (ao 0 rfl) (ao 1 rfl)) (by decide)
 (dY (jX (j8 (AE.p (bD (aD (AE.w (ao 2 rfl)) (aD (AE.w (ao 3 rfl)) aZ))))))
 (cL (AE.w yo))
 bM))
 (cL (AE.w yo)))))) (by decide) h⟩)
abbrev Az:Stmt:=top 50
theorem Er:bB ["_law_net_here", "_law_text_here", "_law_name", "_law_tail", "_law_head"] ["_law_net_here"] (aW Az):=⟨rfl,rfl,rfl,by decide +kernel,rfl,by decide +kernel,by decide +kernel⟩
theorem Rc{f:Addr}{fd:FuncData}(F:oV K "_law_text" "_law_text" Az f fd)(T:Txt mg)  : cW P w K mg base cD 1 f fd ["_law_net_here"] (jr iw) :=
 F.ok Er (fun vs H Q E h=>nH h) (fun cdv A outer s H vs Q E hr h=>by
  have nd:=Er.nd
  have hu:=dC hr
  have cM:=hr.units
  exact⟨_,(aC (bz (i:=1) nd rfl (Or.inl rfl) fB)
 (aC (gY PassesOwn.never rfl (cG (eV cJ (pv 0) aM (fun _ _=>rfl))) (aN (i:=2) nd rfl (Or.inl rfl))
 (aG (bz (i:=1) nd rfl (Or.inl rfl) (bj bF (bj bF (pv 1) (pv 2)) fB))))
 (aC (bz (i:=1) nd rfl (Or.inl rfl) (bj bF (pv 1) fB))
 (aC (gY PassesOwn.never rfl (cG (eV cJ (pv 0) aM (fun _ _=>rfl))) (fY rfl (bh (aN (i:=3) nd rfl (Or.inl rfl)) (bh (aN (i:=4) nd rfl (Or.inl rfl)) d9)))
 (aG (bz (i:=1) nd rfl (Or.inl rfl) (bj bF (bj bF (bj bF (bj bF (pv 1) fB) (pv 3)) fB) (pv 4)))))
 (aG (bG (pv 1))))))),
  _root_.A.nC (N:=["_law_net_here", "_law_text_here", "_law_name", "_law_tail", "_law_head"]) (M:=Mo []) (aK (bI 1 rfl gB)
 (aK (iG (K:=K) (tg:=(.n 2)) (nQ (aJ jD (AE.p (ao 0 rfl)) (AE.p bf))) (by decide)
 (bI 1 rfl (aJ dh (AE.p (aJ dh (AE.p (ao 1 rfl)) (AE.p (ao 2 rfl)))) (AE.p gB))))
 (aK (bI 1 rfl (aJ dh (AE.p (ao 1 rfl)) (AE.p gB)))
 (aK (iG (K:=K) (tg:=(.t [3,4])) (nQ (aJ jD (AE.p (ao 0 rfl)) (AE.p bf))) (by decide)
 (bI 1 rfl (aJ dh (AE.p (aJ dh (AE.p (aJ dh (AE.p (aJ dh (AE.p (ao 1 rfl)) (AE.p gB))) (AE.p (ao 3 rfl)))) (AE.p gB))) (AE.p (ao 4 rfl)))))
 (cL (AE.w (ao 1 rfl))))))) (by decide) h⟩)
abbrev lZ:Stmt:=top 51
theorem pF:bB ["_law_picture", "_law_net_here", "_law_text_here", "_law_one", "_law_other"] ["_law_picture", "_law_net_here"] (aW lZ):=⟨rfl,rfl,rfl,by decide +kernel,rfl,by decide +kernel,by decide +kernel⟩
theorem xY{f:Addr}{fd:FuncData}(F:oV K "_law_picture_due" "_law_picture_due" lZ f fd)(T:Txt mg)(dg:∀ n,kE P w K mg base cD (n+1) "_law_alike" ["_law_found", "_law_due"] (jr (bw n)))(nW:kE P w K mg base cD 1 "_law_text" ["_law_net_here"] (jr iw)):cW P w K mg base cD 6 f fd ["_law_picture", "_law_net_here"] (jr eY) :=
 F.ok pF (fun vs H Q E h=>nH h) (fun cdv A outer s H vs Q E hr h=>by
  have nd:=pF.nd
  have hu:=dC hr
  have cM:=hr.units
  have fH:=hr.mono (show (4+1)≤_ by decide)
  have um:=hr.mono (show 1≤_ by decide)
  exact⟨_,(aC (dR (PW.pt (pw_or (jL (gH (bH jW rfl T.cV boot_isinstance (aj (pv 0) (aj (pK rfl T.dM boot_tuple) az))))) (pw_or (cg (vA cM) (bH iT rfl T.jm PySem.boot_len (aj (pv 0) az)) aM (fZ _)) (pw_or1 (jL (gH (aY (dg 4) fH rfl bA (aj (eV cJ (pv 0) aM (fun _ _=>rfl)) (aj (eV cJ (pv 1) aM (fun _ _=>rfl)) az)))))))))
 (aG (bG fB))
 bL)
 (aC (bz (i:=2) nd rfl (Or.inl rfl) (aY nW um rfl bA (aj (bj Pj (gZ W2 (pv 1) jN (jM aM)) (bJ (aj (eV cJ (pv 0) aM (fun _ _=>rfl)) az))) az)))
 (aC (gY PassesOwn.never rfl (cG (eV cJ (pv 0) aM (fun _ _=>rfl))) (fY rfl (bh (aN (i:=3) nd rfl (Or.inl rfl)) (bh (aN (i:=4) nd rfl (Or.inl rfl)) d9)))
 (aG (bz (i:=2) nd rfl (Or.inl rfl) (bj bF (bj bF (bj bF (bj bF (pv 2) fB) (pv 3)) fB) (pv 4)))))
 (aG (bG (pv 2)))))),
  _root_.A.nC (N:=["_law_picture", "_law_net_here", "_law_text_here", "_law_one", "_law_other"]) (M:=Mo []) (aK (dY (za (jX (j8 (AE.p (Iz (ty_tuple K) (AE.p (ao 0 rfl)))))) (za (bY (AE.p (aJ Oc (AE.p (lB jm (aA (AE.p (ao 0 rfl)) aP))) (AE.p bf)))) (jX (j8 (AE.p (bD (aD (AE.w (aJ jD (AE.p (ao 0 rfl)) (AE.p bf))) (aD (AE.w (aJ jD (AE.p (ao 1 rfl)) (AE.p bf))) aZ))))))))
 (cL (AE.w gB))
 bM)
 (aK (bI 2 rfl (bD (aD (AE.w (aJ Wk (AE.p (Dl Qy (AE.p (ao 1 rfl)) jZ (jY (AE.p bf)))) (AE.p (cI (aA (aJ jD (AE.p (ao 0 rfl)) (AE.p bf)) aP))))) aZ)))
 (aK (iG (K:=K) (tg:=(.t [3,4])) (nQ (aJ jD (AE.p (ao 0 rfl)) (AE.p bf))) (by decide)
 (bI 2 rfl (aJ dh (AE.p (aJ dh (AE.p (aJ dh (AE.p (aJ dh (AE.p (ao 2 rfl)) (AE.p gB))) (AE.p (ao 3 rfl)))) (AE.p gB))) (AE.p (ao 4 rfl)))))
 (cL (AE.w (ao 2 rfl)))))) (by decide) h⟩)
abbrev kJ:Stmt:=top 52
theorem nY:bB ["_law_arrows", "_law_cell_here", "_law_at", "_law_some"] ["_law_arrows", "_law_cell_here"] (aW kJ):=⟨rfl,rfl,rfl,by decide +kernel,rfl,by decide +kernel,by decide +kernel⟩
theorem wg{f:Addr}{fd:FuncData}(F:oV K "_law_turned_about" "_law_turned_about" kJ f fd)(T:Txt mg)  : cW P w K mg base cD 1 f fd ["_law_arrows", "_law_cell_here"] (jr eE) :=
 F.ok nY (fun vs H Q E h=>nH h) (fun cdv A outer s H vs Q E hr h=>by
  have nd:=nY.nd
  have hu:=dC hr
  have cM:=hr.units
  exact⟨_,(aC (bz (i:=2) nd rfl (Or.inl rfl) (bj ig (bj jO (pv 1) aM) (bj bF (bH iT rfl T.jm PySem.boot_len (aj (pv 0) az)) aM)))
 (aC (bz (i:=3) nd rfl (Or.inl rfl) (dG vN rfl T.nP boot_list (aj (bj Pj (gZ W2 (pv 0) (jM (pv 2)) jN) (gZ W2 (pv 0) jN (jM (pv 2)))) az)))
 (aC (dR (cg (xX cM) (bj ig (pv 1) aM) aM (fZ _))
 (aG (fM (Uv PySem.F.plainAttrs_list PySem.F.slot_list_reverse PySem.F.type_list_reverse M6 (pv 3))))
 bL)
 (aG (bG (dG fW rfl T.dM boot_tuple (aj (pv 3) az))))))),
  _root_.A.nC (N:=["_law_arrows", "_law_cell_here", "_law_at", "_law_some"]) (M:=Mo [3]) (aK (bI 2 rfl (aJ lU (AE.p (aJ wZ (AE.p (ao 1 rfl)) (AE.p bf))) (AE.p (aJ dh (AE.p (lB jm (aA (AE.p (ao 0 rfl)) aP))) (AE.p bf)))))
 (aK (tM 3 rfl (lB nP (aA (AE.p (aJ Wk (AE.p (Dl Qy (AE.p (ao 0 rfl)) (jY (AE.p (ao 2 rfl))) jZ)) (AE.p (Dl Qy (AE.p (ao 0 rfl)) jZ (jY (AE.p (ao 2 rfl))))))) aP)))
 (aK (dY (bY (AE.p (aJ R8 (AE.p (aJ lU (AE.p (ao 1 rfl)) (AE.p bf))) (AE.p bf))))
 (Oe 3 rfl)
 bM)
 (cL (AE.w (lB dM (aA (Dk 3) aP))))))) (by decide) h⟩)
abbrev TF:Stmt:=top 53
theorem Tz:bB ["_law_script", "_law_net_here", "_law_text_here", "_law_other", "_law_picture", "_law_due"] ["_law_script"] (aW TF):=⟨rfl,rfl,rfl,by decide +kernel,rfl,by decide +kernel,by decide +kernel⟩
theorem aaE{f:Addr}{fd:FuncData}(F:oV K "law" "law" TF f fd)(T:Txt mg)(qT:kE P w K mg base cD 2 "show_net" ["net"] (jr ir))(j4:kE P w K mg base cD 2 "show_picture" ["picture"] (jr du))(nU:kE P w K mg base cD 7 "read_net" ["text"] (jr eF))(qW:kE P w K mg base cD 6 "picture_of" ["net"] (jr iK))(jq:kE P w K mg base cD 1 "_law_cell" ["_law_script", "_law_k"] (jr dU))(Ja:kE P w K mg base cD 2 "_law_net" ["_law_script", "_law_most"] (jr pO))(dg:∀ n,kE P w K mg base cD (n+1) "_law_alike" ["_law_found", "_law_due"] (jr (bw n)))(nW:kE P w K mg base cD 1 "_law_text" ["_law_net_here"] (jr iw))(mF:kE P w K mg base cD 6 "_law_picture_due" ["_law_picture", "_law_net_here"] (jr eY))(lD:kE P w K mg base cD 1 "_law_turned_about" ["_law_arrows", "_law_cell_here"] (jr eE)):cW P w K mg base cD 8 f fd ["_law_script"] (jr xZ) :=
 F.ok Tz (fun vs H Q E h=>nH h) (fun cdv A outer s H vs Q E hr h=>by
  have nd:=Tz.nd
  have hu:=dC hr
  have cM:=hr.units
  have yL:=hr.mono (show 2≤_ by decide)
  have rA:=hr.mono (show 2≤_ by decide)
  have sW:=hr.mono (show 7≤_ by decide)
  have Ea:=hr.mono (show 6≤_ by decide)
  have lq:=hr.mono (show 1≤_ by decide)
  have Vu:=hr.mono (show 2≤_ by decide)
  have fH:=hr.mono (show (4+1)≤_ by decide)
  have um:=hr.mono (show 1≤_ by decide)
  have yd:=hr.mono (show 6≤_ by decide)
  have wF:=hr.mono (show 1≤_ by decide)
  exact⟨_,(aC (bz (i:=1) nd rfl (Or.inl rfl) (aY Ja Vu rfl bA (aj (pv 0) (aj aM az))))
 (aC (bz (i:=2) nd rfl (Or.inl rfl) (aY nW um rfl bA (aj (pv 1) az)))
 (aC (dR (PW.pt (pw_or (jL (gH (aY (dg 4) fH rfl bA (aj (aY qT yL rfl bA (aj (pv 1) az)) (aj (pv 2) az))))) (pw_or1 (jL (gH (aY (dg 4) fH rfl bA (aj (aY nU sW rfl bA (aj (pv 2) az)) (aj (pv 1) az))))))))
 (aG (bG pL))
 bL)
 (aC (bz (i:=3) nd rfl (Or.inl rfl) (bJ (aj (eV cJ (pv 1) aM (fun _ _=>rfl)) (aj (aY lD wF rfl bA (aj (eV cJ (pv 1) aM (fun _ _=>rfl)) (aj (aY jq lq rfl bA (aj (pv 0) (aj aM az))) az))) az))))
 (aC (dR (jL (gH (aY (dg 4) fH rfl bA (aj (aY nU sW rfl bA (aj (aY nW um rfl bA (aj (pv 3) az)) az)) (aj (pv 1) az)))))
 (aG (bG pL))
 bL)
 (aC (bz (i:=4) nd rfl (Or.inl rfl) (aY qW Ea rfl bA (aj (pv 1) az)))
 (aC (bz (i:=5) nd rfl (Or.inl rfl) (aY mF yd rfl bA (aj (pv 4) (aj (pv 1) az))))
 (aC (dR (PW.pt (pw_or (cg (xX cM) (pv 5) fB (fZ _)) (pw_or1 (jL (gH (aY (dg 4) fH rfl bA (aj (aY j4 rA rfl bA (aj (pv 4) az)) (aj (pv 5) az))))))))
 (aG (bG pL))
 bL)
 (aG (bG (xT (aY (dg 4) fH rfl bA (aj (aY qT yL rfl bA (aj (aY nU sW rfl bA (aj (pv 2) az)) az)) (aj (pv 2) az))) (xR (aY (dg 4) fH rfl bA (aj (aY j4 rA rfl bA (aj (pv 4) az)) (aj (pv 5) az))))))))))))))),
  _root_.A.nC (N:=["_law_script", "_law_net_here", "_law_text_here", "_law_other", "_law_picture", "_law_due"]) (M:=Mo []) (aK (bI 1 rfl (bD (aD (AE.w (ao 0 rfl)) (aD (AE.w bf) aZ))))
 (aK (bI 2 rfl (bD (aD (AE.w (ao 1 rfl)) aZ)))
 (aK (dY (za (jX (j8 (AE.p (bD (aD (AE.w (bD (aD (AE.w (ao 1 rfl)) aZ))) (aD (AE.w (ao 2 rfl)) aZ)))))) (jX (j8 (AE.p (bD (aD (AE.w (bD (aD (AE.w (ao 2 rfl)) aZ))) (aD (AE.w (ao 1 rfl)) aZ)))))))
 (cL (AE.w yo))
 bM)
 (aK (bI 3 rfl (cI (aA (aJ jD (AE.p (ao 1 rfl)) (AE.p bf)) (aA (bD (aD (AE.w (aJ jD (AE.p (ao 1 rfl)) (AE.p bf))) (aD (AE.w (bD (aD (AE.w (ao 0 rfl)) (aD (AE.w bf) aZ)))) aZ))) aP))))
 (aK (dY (jX (j8 (AE.p (bD (aD (AE.w (bD (aD (AE.w (bD (aD (AE.w (ao 3 rfl)) aZ))) aZ))) (aD (AE.w (ao 1 rfl)) aZ))))))
 (cL (AE.w yo))
 bM)
 (aK (bI 4 rfl (bD (aD (AE.w (ao 1 rfl)) aZ)))
 (aK (bI 5 rfl (bD (aD (AE.w (ao 4 rfl)) (aD (AE.w (ao 1 rfl)) aZ))))
 (aK (dY (za (bY (AE.p (aJ R8 (AE.p (ao 5 rfl)) (AE.p gB)))) (jX (j8 (AE.p (bD (aD (AE.w (bD (aD (AE.w (ao 4 rfl)) aZ))) (aD (AE.w (ao 5 rfl)) aZ)))))))
 (cL (AE.w yo))
 bM)
 (cL (AE.w (Ge (AE.p (bD (aD (AE.w (bD (aD (AE.w (bD (aD (AE.w (ao 2 rfl)) aZ))) aZ))) (aD (AE.w (ao 2 rfl)) aZ)))) (bD (aD (AE.w (bD (aD (AE.w (ao 4 rfl)) aZ))) (aD (AE.w (ao 5 rfl)) aZ)))))))))))))) (by decide) h⟩)
end
end Ot
namespace L2
open PySem PySem.Spec PyProof.Rows
theorem qm.adL{P:Program}{w:World}{K:PySem.W.Frag}{mg:Str→Option Value}{CX:Lr}{k:Nat}{x p:Str}{st:Stmt}{sp:Sp}{fa c T:Addr}(F:qm K mg x st [p])(hm:mg x=some (.ref fa))(h:∀ base,K.In base→base.Ns mainGlobals mg→BM mg base→PySem.W.CodeHd base c T→∀ f fd,oV K x x st f fd→cW P w K mg base CX k f fd [p] sp) :
 ∃ fd:FuncData,(∀ (s:Shared) (u:Value),BindsTo s fd ⟨[u],[]⟩ [(p,u)])∧∀ base:Heap,K.In base→base.Ns mainGlobals mg→BM mg base→PySem.W.CodeHd base c T→cW P w K mg base CX k fa fd [p] sp:=by
 obtain⟨f,fd,h1,h2,h3,h5,h4⟩:=F.ex
 rw[h1] at hm;cases hm
 exact⟨fd,fun s u=>h5 s [u] rfl,fun base kb nb b1 b2=>h base kb nb b1 b2 _ fd h4⟩
theorem ad6{P:Program}{w:World}{K:PySem.W.Frag}{mg:Str→Option Value}{base:Heap}{CX:Lr}{lv:Nat→Nat}{x:Str}{st:Stmt}{ps:List Str}{sp:Nat→Sp}(F:qm K mg x st ps)
 (h:∀ f fd,oV K x x st f fd→(∀ n,cW P w K mg base CX (lv n) f fd ps (sp n)→kE P w K mg base CX (lv n) x ps (sp n))→∀ n,cW P w K mg base CX (lv n) f fd ps (sp n)) (n:Nat):kE P w K mg base CX (lv n) x ps (sp n):=by
 obtain⟨f,fd,h1,h2,h3,_,h4⟩:=F.ex
 have self:∀ n,cW P w K mg base CX (lv n) f fd ps (sp n)→kE P w K mg base CX (lv n) x ps (sp n):=fun n k=>⟨f,fd,h1,h2,h3,k⟩
 exact self n (h f fd h4 self n)
def Zx(K:PySem.W.Frag):Bool:=K.all fun p=>match p.2.cls with|.type "list" => false|_=>true
theorem Vb{K:PySem.W.Frag}(h:Zx K=true){a:Addr}{o:Obj}(e:K.lookup a=some o)(c:o.cls=.type "list"):False:=by
 have hm:(a,o)∈K:=by
  clear h
  induction K with
  | nil=>cases e
  | cons p r ih =>
   obtain⟨b,x⟩:=p
   simp only[List.lookup] at e
   split at e
   ·rename_i q;cases e;rw[beq_iff_eq.mp q];exact List.Mem.head _
   ·exact List.Mem.tail _ (ih e)
 have h2:=List.all_eq_true.mp h _ hm
 simp only[c] at h2
 cases h2
end L2
namespace Mi
open PySem
@[simp] theorem ik {α : Type} (a:α):uC (some a)=.ok a:=rfl
@[simp] theorem aaV {α : Type} {c:Prop} [Decidable c] (h:c) (r:Rs α):aO c r=r:=if_pos h
@[simp] theorem sJ (a b:Str):cX (.str a) (.str b)=decide (a=b):=by rw[cX];by_cases h:a=b<;>simp[h]
@[simp] theorem JG (a b:Int):cX (.int a) (.int b)=decide (a=b):=by rw[cX];by_cases h:a=b<;>simp[h]
@[simp] theorem Yn (x:Str):(D.str x).dep=0:=by simp[D.dep]
@[simp] theorem adi (x:Int):(D.int x).dep=0:=by simp[D.dep]
@[simp] theorem adZ (x:Bool):(D.bl x).dep=0:=by simp[D.dep]
@[simp] theorem adg:D.non.dep=0:=by simp[D.dep]
@[simp] theorem adh (ds:List D):(D.lst ds).dep=cU ds+1:=by simp[D.dep]
@[simp] theorem adf (ds:List D):(D.tup ds).dep=cU ds+1:=by simp[D.dep]
@[simp] theorem aa3:cU []=0:=rfl
@[simp] theorem yO (d:D) (r:List D):cU (d::r)=max d.dep (cU r):=by rw[cU]
@[simp] theorem qM:∀ xs:List Str,cU (xs.map D.str)=0
 | []=>rfl
 | x::r=>by rw[List.map_cons,yO,Yn,qM r];rfl
theorem Iv(xs:List Str)(x:Str):((xs.map D.str).any fun e=>cX e (.str x))=decide (x∈xs):=by
 induction xs with
 | nil=>rfl
 | cons y r ih =>
  rw[List.map_cons,List.any_cons,ih,sJ]
  by_cases h:y=x
  ·simp[h]
  ·have h2:¬ x=y:=fun z=>h z.symm
   simp[h,h2]
theorem Ys(xs:List Str)(x:Str):Ie (.str x) (.lst (xs.map D.str))=.ok (.bl (decide (x∈xs))):=by
 show aO _ _=_
 rw[au (by rw[qM];omega),Iv]
theorem qO(xs:List Str)(x:Str):gh (.str x) (.lst (xs.map D.str))=.ok (.bl (!decide (x∈xs))):=by
 show aO _ _=_
 rw[au (by rw[qM];omega),Iv]
theorem Kz(xs:List Str)(x:Str):gh (.str x) (.tup (xs.map D.str))=.ok (.bl (!decide (x∈xs))):=by
 show aO _ _=_
 rw[au (by rw[qM];omega),Iv]
theorem zX(x y:Str):Jg (.str x) (.str y)=.ok (.bl (decide (x=y))):=by
 show aO _ _=_
 rw[au (by simp),sJ]
theorem Yp(x y:Str):KD (.str x) (.str y)=.ok (.bl (!decide (x=y))):=by
 show aO _ _=_
 rw[au (by simp),sJ]
theorem Ig(x y:Int):Jg (.int x) (.int y)=.ok (.bl (decide (x=y))):=by
 show aO _ _=_
 rw[au (by simp),JG]
theorem Yq(x y:Int):KD (.int x) (.int y)=.ok (.bl (!decide (x=y))):=by
 show aO _ _=_
 rw[au (by simp),JG]
theorem Di{α : Type}(f:α→Bool)(xs:List α):Io (xs.map fun x=>D.bl (f x))=some (xs.map f):=by
 induction xs with
 | nil=>rfl
 | cons a r ih=>rw[List.map_cons,Io,ih];rfl
theorem tQ(xs:List Str):rM (xs.map D.str)=some xs:=by
 induction xs with
 | nil=>rfl
 | cons a r ih=>rw[List.map_cons,rM,ih];rfl
theorem Ef(n:Nat)(b:S)(a0:W):vH 1 n b [a0]=(b ([some a0]++List.replicate (n - 1) none)).bind wJ:=au rfl
theorem zB(n:Nat)(b:S)(a0 a1:W):vH 2 n b [a0,a1]=(b ([some a0,some a1]++List.replicate (n - 2) none)).bind wJ:=au rfl
theorem acK(n:Nat)(b:S)(a0 a1 a2:W):vH 3 n b [a0,a1,a2]=(b ([some a0,some a1,some a2]++List.replicate (n - 3) none)).bind wJ:=au rfl
theorem Nr(n:Nat)(b:S)(a0:W):Je 1 n b [a0]=(b ([some a0]++List.replicate (n - 1) none)).bind nJ:=au rfl
theorem Yk(n:Nat)(b:S)(a0 a1:W):Je 2 n b [a0,a1]=(b ([some a0,some a1]++List.replicate (n - 2) none)).bind nJ:=au rfl
theorem adW(n:Nat)(b:S)(a0 a1 a2:W):Je 3 n b [a0,a1,a2]=(b ([some a0,some a1,some a2]++List.replicate (n - 3) none)).bind nJ:=au rfl
theorem acI{α : Type}(r:Rs α):aO (1≤16777216) r=r:=au (by decide)
theorem Dj(i j:Int):bQ (.int i) (.int j)=.ok (.int (i+j)):=rfl
theorem Ol(i j:Str):bQ (.str i) (.str j)=aO (i.length+j.length≤16777216) (.ok (.str (i++j))):=rfl
theorem abe(i j:List D):bQ (.lst i) (.lst j)=aO (i.length+j.length≤16777216) (.ok (.lst (i++j))):=rfl
theorem aac(i j:Int):HY (.int i) (.int j)=.ok (.int (i - j)):=rfl
theorem Vd(i j:Int):dI (.int i) (.int j)=aO (wj i j) (.ok (.int (i * j))):=rfl
theorem div_ii(i j:Int):lu (.int i) (.int j)=aO (wu j) (.ok (.int (i / j))):=rfl
theorem Vg(i j:Int):fJ (.int i) (.int j)=aO (0 < j) (.ok (.int (i % j))):=rfl
theorem Vm(i j:Int):Jf (.int i) (.int j)=.ok (.bl (decide (i < j))):=rfl
theorem P0(x:D):Cv x .non=.ok (.bl (!Ka x)):=rfl
theorem acn:Ka .non=true:=rfl
theorem ack(x:Str):Ka (.str x)=false:=rfl
theorem acw(z:Str):mY [.str z]=aO (z.length≤16777216) (.ok (.int z.length)):=rfl
theorem aaI(i j:Int):yl [.int i,.int j]=.ok (.int (max i j)):=rfl
theorem aaH(i j:Int):K9 [.int i,.int j]=.ok (.int (min i j)):=rfl
theorem Wx(ds:List D):CZ [.lst ds]=(uC (Io ds)).bind fun bs=>.ok (.bl (bs.all id)):=rfl
theorem GF(ds:List D):oU [.lst ds]=.ok (.tup ds):=rfl
theorem aaf(z:Str)(lo hi:Option Int):Qn (.str z) lo hi=aO (z.length≤16777216) (.ok (.str (tH z lo hi))):=rfl
theorem X8(ds:List D):H9 (.lst ds)=.ok ds:=rfl
theorem HD(ds:List D):H9 (.tup ds)=.ok ds:=rfl
theorem xg(b:Bool):asB (.bl b)=.ok b:=rfl
theorem Lg(b:Int):asI (.int b)=.ok b:=rfl
theorem FZ(x:D):asD (.d x)=.ok x:=rfl
theorem YL(x:D):Wu (.d x)=aO (RC x=true) (.ok x):=rfl
theorem acd(i:Nat)(d:D)(e:Mi.Env):(Tg.n i).put d e=.ok (e.set i (some (.d d))):=rfl
theorem all_cons(i:Nat)(is:List Nat)(d:D)(ds:List D)(e:Mi.Env):xH (i::is) (d::ds) e=xH is ds (e.set i (some (.d d))):=rfl
theorem aax(w:W):wJ (.rt w)=.ok w:=rfl
theorem aay(e:Mi.Env):wJ (.nx e)=.ok (.d .non):=rfl
theorem Xq(w:W):nJ (.rt w)=.ok w:=rfl
theorem aL{f:D→D→Rs D}{a b:E}{e:Mi.Env}{x y:D}{z:Rs D}(ha:a e=.ok x)(hb:b e=.ok y)(h:f x y=z):m2 f a b e=z:=by
 unfold m2;rw[ha,aB,hb,aB,h]
theorem aH{s t:S}{e e':Mi.Env}(h:s e=.ok (.nx e')):bc s t e=t e':=by unfold bc;rw[h];rfl
theorem An{s t:S}{e:Mi.Env}{w:W}(h:s e=.ok (.rt w)):bc s t e=.ok (.rt w):=by unfold bc;rw[h];rfl
theorem bx{i:Nat}{a:E}{e:Mi.Env}{d:D}(h:a e=.ok d):bV i a e=.ok (.nx (e.set i (some (.d d)))):=by unfold bV;rw[h];rfl
theorem dZ{a:EW}{e:Mi.Env}{w:W}(h:a e=.ok w):c7 a e=.ok (.rt w):=by unfold c7;rw[h];rfl
theorem bT{a:E}{e:Mi.Env}{d:D}(h:a e=.ok d):wD a e=.ok (.d d):=by unfold wD;rw[h];rfl
theorem pW{c:C}{s t:S}{e:Mi.Env}(h:c e=.ok true):jE c s t e=s e:=by unfold jE;rw[h];rfl
theorem fu{c:C}{s t:S}{e:Mi.Env}(h:c e=.ok false):jE c s t e=t e:=by unfold jE;rw[h];rfl
theorem cz{a:E}{e:Mi.Env}{b:Bool}(h:a e=.ok (.bl b)):cB a e=.ok b:=by unfold cB;rw[h];rfl
theorem cC{ρ : List (Option Nat)}{it:I}{tg:Tg}{c:C}{a:E}{e:Mi.Env}{xs ys:List D}(h:it e=.ok xs)(hl:xs.length≤16777216)(hc:dJ tg c a (ou ρ e) xs=.ok ys):cF ρ it tg c a e=.ok (.lst ys):=by
 unfold cF;rw[h,aB,au hl,hc,aB]
theorem oO{a:E}{e:Mi.Env}{n:Int}(h:a e=.ok (.int n))(hr:okR n):iR a e=.ok (dO 0 n):=by
 unfold iR;rw[h,aB,Lg,aB,au hr]
theorem iC{it:I}{tg:Tg}{b:S}{e:Mi.Env}{xs:List D}(h:it e=.ok xs):mj it tg b e=tE tg b xs e:=by unfold mj;rw[h];rfl
theorem cR{a:E}{e:Mi.Env}{x:D}{xs:List D}(h:a e=.ok x)(hx:H9 x=.ok xs):lY a e=.ok xs:=by unfold lY;rw[h,aB,hx]
theorem Ga{i:Nat}{a:E}{e:Mi.Env}{d:D}{ds:List D}(h:a e=.ok d)(hg:getL e i=.ok ds)(hl:ds.length < 16777216):dj i a e=.ok (.nx (putL e i (ds++[d]))):=by
 unfold dj;rw[h,aB,hg,aB,au hl]
theorem km{f:List D→Rs D}{a:E}{e:Mi.Env}{x:D}(h:a e=.ok x):mN f [a] e=f [x]:=by unfold mN;rw[fV,h];rfl
theorem Pr{f:List D→Rs D}{a b:E}{e:Mi.Env}{x y:D}(h:a e=.ok x)(h':b e=.ok y):mN f [a,b] e=f [x,y]:=by unfold mN;rw[fV,h,aB,fV,h'];rfl
theorem j5{a b:E}{e:Mi.Env}{x y:D}(h:a e=.ok x)(h':b e=.ok y):mN dTup [a,b] e=.ok (.tup [x,y]):=by
 rw[Pr h h']
 exact au (by simp)
theorem fX{f:Fn}{a:EW}{e:Mi.Env}{x:W}{d:D}(h:a e=.ok x)(hf:f [x]=.ok (.d d)):aQ f [a] e=.ok d:=by unfold aQ jG;rw[bO,h];simp only[aB,bO,hf,FZ]
theorem call2{f:Fn}{a b:EW}{e:Mi.Env}{x y:W}{d:D}(h:a e=.ok x)(h':b e=.ok y)(hf:f [x,y]=.ok (.d d)):aQ f [a,b] e=.ok d:=by unfold aQ jG;rw[bO,h,aB,bO,h'];simp only[aB,bO,hf,FZ]
theorem Qu{f:Fn}{a b c:EW}{e:Mi.Env}{x y z:W}{d:D}(h:a e=.ok x)(h':b e=.ok y)(h'':c e=.ok z)(hf:f [x,y,z]=.ok (.d d)):aQ f [a,b,c] e=.ok d:=by unfold aQ jG;rw[bO,h,aB,bO,h',aB,bO,h''];simp only[aB,bO,hf,FZ]
theorem cu{α : Type}{tg:Tg}{c:C}{a:E}{e:Mi.Env}(f g:α→D)(p:α→Bool):∀ (xs:List α),(∀ x∈xs,∃ e1,tg.put (f x) e=.ok e1∧c e1=.ok (p x)∧(p x=true→a e1=.ok (g x)))→dJ tg c a e (xs.map f)=.ok ((xs.filter p).map g)
 | [],_=>rfl
 | x::r,h=>by
  obtain⟨e1,h1,h2,h3⟩:=h x List.mem_cons_self
  have ih:=cu (tg:=tg) (c:=c) (a:=a) (e:=e) f g p r fun y hy=>h y (List.mem_cons_of_mem _ hy)
  rw[List.map_cons,dJ,h1,aB,h2,aB]
  cases hp:p x with
  | true=>rw[if_pos rfl,h3 hp,aB,ih,aB,List.filter_cons_of_pos hp];rfl
  | false=>rw[if_neg Bool.false_ne_true,ih,List.filter_cons_of_neg (by rw[hp];exact Bool.false_ne_true)]
theorem gP{tg:Tg}{body:S}(Inv:Nat→Mi.Env→Prop):∀ (xs:List D) (k:Nat),(∀ i x e,xs[i]? = some x→Inv (k+i) e→∃ e1 e2,tg.put x e=.ok e1∧body e1=.ok (.nx e2)∧Inv (k+i+1) e2)→∀ e,Inv k e→∃ e',tE tg body xs e=.ok (.nx e')∧Inv (k+xs.length) e'
 | [],k,_,e,h=>⟨e,rfl,h⟩
 | x::r,k,hs,e,h=>by
  obtain⟨e1,e2,h1,h2,h3⟩:=hs 0 x e rfl h
  obtain⟨e',h4,h5⟩:=gP Inv r (k+1) (fun i y e hy hi=>by
   have:=hs (i+1) y e (by simpa using hy) (by rw[show k+(i+1)=k+1+i by omega];exact hi)
   rw[show k+(i+1)+1=k+1+i+1 by omega] at this
   exact this) e2 h3
  refine⟨e',?_,by rw[List.length_cons,show k+(r.length+1)=k+1+r.length by omega];exact h5⟩
  rw[tE,h1,aB,h2,aB]
  exact h4
theorem Kq{α : Type}{tg:Tg}{body:S}{e:Mi.Env}{w:Out}(f:α→D)(st:Option α→Mi.Env)(p:α→Bool)(out:α→Out):∀ (xs:List α) (o:Option α),
 (∀ x∈xs,∀ o,∃ e1,tg.put (f x) (st o)=.ok e1∧body e1=.ok (if p x=true then out x else .nx (st (some x)))) →
 (∀ x∈xs,p x=true→∃ w,out x=.rt w) →
 tE tg body (xs.map f) (st o)=.ok (match xs.find? p with|some x=>out x|none=>.nx (st (xs.getLast?.or o)))
 | [],o,_,_=>by cases o<;>rfl
 | x::r,o,h,ho=>by
  obtain⟨e1,h1,h2⟩:=h x List.mem_cons_self o
  rw[List.map_cons,tE,h1,aB,h2,aB]
  cases hp:p x with
  | true =>
   obtain⟨w,hw⟩:=ho x List.mem_cons_self hp
   rw[List.find?_cons_of_pos hp]
   simp only[if_true,hw]
  | false =>
   rw[List.find?_cons_of_neg (by rw[hp];exact Bool.false_ne_true)]
   have ih:=Kq (e:=e) (w:=w) f st p out r (some x) (fun y hy=>h y (List.mem_cons_of_mem _ hy)) fun y hy=>ho y (List.mem_cons_of_mem _ hy)
   simp only[Bool.false_eq_true,if_false]
   rw[ih]
   have:(r.getLast?.or (some x))=((x::r).getLast?.or o):=by
    cases r with
    | nil=>rfl
    | cons y t=>simp[List.getLast?_cons]
   rw[this]
end Mi
namespace Mr
open PySem Mi
abbrev Ar:=Str×Str
def pairD(p:Ar):D:=.tup [.str p.1,.str p.2]
def gJ(names:List Str):D:=.tup (names.map D.str)
def iU(ak:List Ar):D:=.tup (ak.map pairD)
def bC(names:List Str)(ak:List Ar):D:=.tup [gJ names,iU ak]
def aU(xs:List Str):D:=.lst (xs.map D.str)
theorem at0{α : Type}(a:α)(r:List α):uU (a::r) 0=some a:=by simp[uU,Jd]
theorem at1{α : Type}(a b:α)(r:List α):uU (a::b::r) 1=some b:=by
 unfold uU Jd
 rw[if_pos (by decide),if_pos (by simp only[List.length_cons];omega)];rfl
theorem X7(names:List Str)(ak:List Ar):gA (bC names ak) (.int 0)=.ok (gJ names):=by
 unfold bC gA
 simp[at0]
theorem ix1(names:List Str)(ak:List Ar):gA (bC names ak) (.int 1)=.ok (iU ak):=by
 unfold bC gA
 simp[at1]
theorem Et{names asked:List Str}(h:∀ x∈asked,x∈names):bu [.d (gJ names),.d (aU asked)]=.ok (.d .non):=by
 have key:∀ (xs:List Str) (o:Option W),(∀ x∈xs,x∈names)→∃ o',tE (.n 2) (jE (cB (m2 gh (mV 2) (mV 0))) gW bK) (xs.map D.str) [some (.d (gJ names)),some (.d (aU asked)),o]=.ok (.nx [some (.d (gJ names)),some (.d (aU asked)),o']):=by
  intro xs
  induction xs with
  | nil=>exact fun o _=>⟨o,rfl⟩
  | cons x r ih =>
   intro o hx
   obtain⟨o',e⟩:=ih (some (.d (.str x))) fun y hy=>hx y (List.mem_cons_of_mem _ hy)
   refine⟨o',?_⟩
   rw[List.map_cons,tE]
   have:x∈names:=hx x List.mem_cons_self
   simp only[gJ,acd,List.set_cons_succ,List.set_cons_zero,jE,cB,m2,mV,bK,aB,List.getElem?_cons_succ,List.getElem?_cons_zero,Kz,this,decide_true,Bool.not_true,xg,Bool.false_eq_true,if_false]
   exact e
 obtain⟨o',e⟩:=key asked none h
 unfold aU at e
 unfold bu jy
 rw[zB]
 simp only[mj,lY,mV,aU,Nat.reduceSub,List.replicate_succ,List.replicate_zero,List.cons_append,List.nil_append,List.getElem?_cons_succ,List.getElem?_cons_zero,aB,X8,e,aay]
def jU(ak:List Ar)(x:Str):List Str:=(ak.filter fun p=>decide (p.2=x)).map (·.1)
theorem RM{names:List Str}{ak:List Ar}{x:Str}(hx:x∈names)(hl:ak.length≤64):jB [.d (bC names ak),.d (.str x)]=.ok (.d (.tup ((jU ak x).map D.str))):=by
 have hr:=Et (names:=names) (asked:=[x]) (by simpa using hx)
 unfold jB yW
 rw[zB]
 have hc:dJ (.t [1,2]) (cB (m2 Jg (mV 2) (mV 0))) (mV 1) [some (.d (.str x)),none,none] (ak.map pairD)=.ok ((ak.filter fun p=>decide (p.2=x)).map fun p=>D.str p.1) :=
  cu pairD (fun p=>D.str p.1) (fun p=>decide (p.2=x)) ak fun p _=>⟨[some (.d (.str x)),some (.d (.str p.1)),some (.d (.str p.2))],rfl,by simp only[cB,m2,mV,List.getElem?_cons_succ,List.getElem?_cons_zero,aB,zX,xg],fun _=>by simp only[mV,List.getElem?_cons_succ,List.getElem?_cons_zero]⟩
 have hg:aO (([D.str x]:List D).length≤16777216) (Rs.ok (D.lst [D.str x]))=.ok (.lst [.str x]):=au (by simp)
 unfold aU at hr
 have hp:ou [some 1,none,none] [some (W.d (bC names ak)),some (W.d (D.str x))]=[some (.d (.str x)),none,none]:=rfl
 simp only[List.length_cons,List.length_nil,Nat.zero_add,acI] at hg
 simp only[List.map_cons,List.map_nil,bc,sI,aQ,jG,bO,wD,m2,mV,Nat.reduceSub,List.replicate_zero,List.cons_append,List.nil_append,List.getElem?_cons_zero,mC,aB,X7,mN,fV,List.getElem?_cons_succ,oR,List.length_cons,List.length_nil,Nat.zero_add,acI,c7] at hr ⊢
 rw[hr]
 simp only[aB,FZ,cF,lY,m2,mV,mC,List.getElem?_cons_zero,ix1,iU,HD,hp]
 rw[au (by rw[List.length_map];omega),hc]
 simp only[aB,GF,aax,jU,List.map_map]
 rfl
def ready(ak:List Ar)(told:List Str)(x:Str):Bool:=!decide (x∈told) && (jU ak x).all fun y=>decide (y∈told)
def nxt(names:List Str)(ak:List Ar)(told:List Str):Option Str:=names.find? (ready ak told)
def JM:Option Str→D
 | some x=>.str x
 | none=>.non
theorem Q7(x:Str):JM (some x)=.str x:=rfl
theorem Q8:JM none=.non:=rfl
theorem Nv{ak:List Ar}{x:Str}(hl:ak.length≤64):(jU ak x).length≤64:=by
 unfold jU
 rw[List.length_map]
 exact Nat.le_trans (List.length_filter_le _ _) hl
theorem Ck{names:List Str}{ak:List Ar}(hl:ak.length≤64)(told:List Str):dm [.d (bC names ak),.d (aU told)]=.ok (.d (JM (nxt names ak told))):=by
 unfold dm uT
 rw[zB]
 have step:∀ x∈names,∀ o:Option Str,∃ e1,(Tg.n 2).put (D.str x) [some (.d (bC names ak)),some (.d (aU told)),o.map fun y=>W.d (.str y)]=.ok e1 ∧
  (jE (nO (cB (m2 gh (mV 2) (mV 1))) (cB (mN CZ [(cF [some 1,none] (lY (aQ jB [(wD (mV 0)),(wD (mV 2))])) (.n 1) dX (m2 Ie (mV 1) (mV 0)))]))) (c7 (wD (mV 2))) bK) e1 =
   .ok (if ready ak told x=true then .rt (.d (.str x)) else .nx [some (.d (bC names ak)),some (.d (aU told)),(some x).map fun y=>W.d (.str y)]):=by
  intro x hx o
  refine⟨[some (.d (bC names ak)),some (.d (aU told)),some (.d (.str x))],rfl,?_⟩
  have hc:dJ (.n 1) dX (m2 Ie (mV 1) (mV 0)) [some (.d (aU told)),none] ((jU ak x).map D.str)=.ok (((jU ak x).filter fun _=>true).map fun y=>D.bl (decide (y∈told))) :=
   cu D.str (fun y=>D.bl (decide (y∈told))) (fun _=>true) _ fun y _=>⟨[some (.d (aU told)),some (.d (.str y))],rfl,rfl,fun _=>by simp only[m2,mV,aU,List.getElem?_cons_succ,List.getElem?_cons_zero,aB,Ys]⟩
  have hf:((jU ak x).filter fun _=>true)=jU ak x:=List.filter_eq_self.mpr fun _ _=>rfl
  rw[hf] at hc
  have hp:ou [some 1,none] [some (W.d (bC names ak)),some (W.d (aU told)),some (W.d (D.str x))]=[some (.d (aU told)),none]:=rfl
  have hn:gh (.str x) (aU told)=.ok (.bl (!decide (x∈told))):=qO told x
  simp only[jE,nO,cB,m2,mV,List.getElem?_cons_succ,List.getElem?_cons_zero,aB,hn,xg,mN,fV,c7,wD,bK]
  unfold ready
  cases hm:decide (x∈told) with
  | true=>rfl
  | false =>
   simp only[Bool.not_false,cF,lY,aQ,jG,bO,wD,mV,List.getElem?_cons_zero,aB,List.getElem?_cons_succ,RM hx hl,FZ,HD,hp,if_true]
   rw[au (by rw[List.length_map];have:=Nv (x:=x) hl;omega),hc]
   simp only[aB,Wx,Di,ik,List.all_map,xg,Bool.true_and]
   have:(List.all (jU ak x) (id ∘ fun y=>decide (y∈told)))=(jU ak x).all fun y=>decide (y∈told):=rfl
   rw[this]
   cases (jU ak x).all fun y=>decide (y∈told)<;>rfl
 have hf:=Kq (e:=[]) (w:=.rt (.d .non)) D.str (fun o=>[some (.d (bC names ak)),some (.d (aU told)),o.map fun y=>W.d (.str y)]) (ready ak told) (fun x=>.rt (.d (.str x))) names none step fun x _ _=>⟨_,rfl⟩
 simp only[Option.map_none] at hf
 simp only[bc,mj,lY,m2,mV,Nat.reduceSub,List.replicate_succ,List.replicate_zero,List.cons_append,List.nil_append,List.getElem?_cons_zero,mC,aB,X7,gJ,HD,hf,c7,wD]
 unfold nxt
 cases names.find? (ready ak told) with
 | none=>rfl
 | some x=>rfl
structure Ss(names:List Str)(ak:List Ar):Prop where
 nd:names.Nodup
 pos:1≤names.length
 le:names.length≤8
 al:ak.length≤64
 tl:∀ p∈ak,p.1∈names
 rk:∃ r:Str→Int,∀ p∈ak,r p.1 < r p.2
theorem M7{ak:List Ar}{x y:Str}:y∈jU ak x↔(y,x)∈ak:=by
 unfold jU
 constructor
 ·intro h
  obtain⟨p,hp,rfl⟩:=List.mem_map.mp h
  obtain⟨h1,h2⟩:=List.mem_filter.mp hp
  have:p.2=x:=by simpa using h2
  rw[← this];exact h1
 ·intro h
  exact List.mem_map.mpr ⟨(y,x),List.mem_filter.mpr ⟨h,by simp⟩,rfl⟩
theorem Vh{α : Type}(f:α→Int):∀ (l:List α),l≠[]→∃ x∈l,∀ y∈l,f x≤f y
 | [],h=>absurd rfl h
 | [a],_=>⟨a,by simp,by simp⟩
 | a::b::r,_=>by
  obtain⟨x,hx,hm⟩:=Vh f (b::r) (by simp)
  by_cases h:f a≤f x
  ·refine⟨a,List.mem_cons_self,fun y hy=>?_⟩
   rcases List.mem_cons.mp hy with rfl|hy
   ·exact Int.le_refl _
   ·exact Int.le_trans h (hm y hy)
  ·refine⟨x,List.mem_cons_of_mem _ hx,fun y hy=>?_⟩
   rcases List.mem_cons.mp hy with rfl|hy
   ·omega
   ·exact hm y hy
theorem Ss.next{names:List Str}{ak:List Ar}(N:Ss names ak){told:List Str}(h:∃ x∈names,x∉told):∃ x,nxt names ak told=some x∧x∈names∧x∉told:=by
 obtain⟨r,hr⟩:=N.rk
 obtain⟨x0,h1,h2⟩:=h
 obtain⟨x,hx,hm⟩:=Vh r (names.filter fun x=>!decide (x∈told)) (fun z=>by
  have:x0∈names.filter fun x=>!decide (x∈told):=List.mem_filter.mpr ⟨h1,by simpa using h2⟩
  rw[z] at this;cases this)
 obtain⟨hx1,hx2⟩:=List.mem_filter.mp hx
 have hx2:x∉told:=by simpa using hx2
 have rd:ready ak told x=true:=by
  unfold ready
  rw[Bool.and_eq_true]
  refine⟨by simpa using hx2,List.all_eq_true.mpr fun y hy=>?_⟩
  have hy:=M7.mp hy
  by_cases hyt:y∈told
  ·simpa using hyt
  ·have:=hm y (List.mem_filter.mpr ⟨N.tl _ hy,by simpa using hyt⟩)
   have:=hr _ hy
   have:r y < r x:=this
   omega
 unfold nxt
 cases hf:names.find? (ready ak told) with
 | none=>exact absurd rd (by simpa using List.find?_eq_none.mp hf x hx1)
 | some z =>
  have hz:=List.find?_some hf
  refine⟨z,rfl,List.mem_of_find?_eq_some hf,fun hzt=>?_⟩
  unfold ready at hz
  rw[Bool.and_eq_true] at hz
  simp[hzt] at hz
def ord(names:List Str)(ak:List Ar):Nat→List Str
 | 0=>[]
 | k+1=>match nxt names ak (ord names ak k) with
  | some x=>ord names ak k++[x]
  | none=>ord names ak k
theorem gD{α : Type}[DecidableEq α]:∀ {l m:List α},l.Nodup→(∀ x∈l,x∈m)→l.length≤m.length
 | [],_,_,_=>Nat.zero_le _
 | a::l,m,nd,h=>by
  have nd:=List.nodup_cons.mp nd
  have:l.length≤(m.erase a).length:=gD nd.2 fun x hx=>(List.mem_erase_of_ne (fun z:x=a=>nd.1 (z ▸ hx))).mpr (h x (List.mem_cons_of_mem _ hx))
  have hm:=h a List.mem_cons_self
  rw[List.length_erase_of_mem hm] at this
  have:0 < m.length:=List.length_pos_of_mem hm
  rw[List.length_cons];omega
theorem Ss.Hj{names:List Str}{ak:List Ar}(N:Ss names ak):∀ k,k≤names.length→(ord names ak k).length=k∧(ord names ak k).Nodup∧(∀ x∈ord names ak k,x∈names)
 | 0,_=>⟨rfl,List.nodup_nil,by simp[ord]⟩
 | k+1,h=>by
  obtain⟨h1,h2,h3⟩:=N.Hj k (by omega)
  have ex:∃ x∈names,x∉ord names ak k:=by
   refine Classical.byContradiction fun z=>?_
   have hall:∀ x∈names,x∈ord names ak k:=fun x hx=>Classical.byContradiction fun y=>z ⟨x,hx,y⟩
   have:=gD N.nd hall
   omega
  obtain⟨x,hx,hm,hn⟩:=N.next ex
  rw[ord,hx]
  refine⟨by simp[h1],?_,fun y hy=>?_⟩
  ·rw[List.nodup_append]
   refine⟨h2,by simp,fun a ha b hb=>?_⟩
   have:b=x:=by simpa using hb
   subst this
   exact fun z=>hn (z ▸ ha)
  ·rcases List.mem_append.mp hy with hy|hy
   ·exact h3 y hy
   ·have:y=x:=by simpa using hy
    rw[this];exact hm
theorem Ss.U5{names:List Str}{ak:List Ar}(N:Ss names ak){k:Nat}(h:k < names.length):∃ x,nxt names ak (ord names ak k)=some x∧ord names ak (k+1)=ord names ak k++[x]:=by
 obtain⟨h1,h2,h3⟩:=N.Hj k (by omega)
 have ex:∃ x∈names,x∉ord names ak k:=by
  refine Classical.byContradiction fun z=>?_
  have hall:∀ x∈names,x∈ord names ak k:=fun x hx=>Classical.byContradiction fun y=>z ⟨x,hx,y⟩
  have:=gD N.nd hall
  omega
 obtain⟨x,hx,_⟩:=N.next ex
 exact⟨x,hx,by rw[ord,hx]⟩
theorem Ss.Pg{names:List Str}{ak:List Ar}(N:Ss names ak):∀ x∈names,x∈ord names ak names.length:=fun x hx=>by
 obtain⟨h1,h2,h3⟩:=N.Hj names.length (Nat.le_refl _)
 refine Classical.byContradiction fun z=>?_
 have:(x::ord names ak names.length).length≤names.length:=gD (List.nodup_cons.mpr ⟨z,h2⟩) fun y hy=>by
  rcases List.mem_cons.mp hy with rfl|hy
  ·exact hx
  ·exact h3 y hy
 rw[List.length_cons] at this
 omega
theorem Ss.U6{names:List Str}{ak:List Ar}(N:Ss names ak):nxt names ak (ord names ak names.length)=none:=by
 unfold nxt
 refine List.find?_eq_none.mpr fun x hx=>?_
 unfold ready
 simp[N.Pg x hx]
theorem Qd(o:Option Str):RC (JM o)=true:=by cases o<;>simp[JM,RC]
theorem Ng{names:List Str}{ak:List Ar}(N:Ss names ak):pP [.d (bC names ak)]=.ok (.d (aU (ord names ak names.length))):=by
 have fr:=fun told=>Ck (names:=names) N.al told
 have fr':∀ told:List Str,dm [.d (bC names ak),.d (.lst (told.map D.str))]=.ok (.d (JM (nxt names ak told))):=fr
 have key:∀ (j k:Nat),k+j=names.length→∃ o,gG (cB (m2 Cv (mV 2) (mC .non))) (bc (dj 1 (mV 2)) (bV 2 (sV dm [(wD (mV 0)),(wD (mV 1))]))) (j+92)
  [some (.d (bC names ak)),some (.d (aU (ord names ak k))),some (.d (JM (nxt names ak (ord names ak k))))]=.ok (.nx [some (.d (bC names ak)),some (.d (aU (ord names ak names.length))),o]):=by
  intro j
  induction j with
  | zero =>
   intro k hk
   obtain rfl:k=names.length:=by omega
   refine⟨some (.d .non),?_⟩
   rw[gG,N.U6]
   simp only[cB,m2,mV,Q8,List.getElem?_cons_succ,List.getElem?_cons_zero,mC,aB,P0,acn,Bool.not_true,xg,bc,dj,getL,putL,List.set_cons_succ,List.set_cons_zero,bV,sV,jG,bO,wD,Bool.false_eq_true,if_false]
  | succ j ih =>
   intro k hk
   obtain⟨x,hx,e⟩:=N.U5 (k:=k) (by omega)
   obtain⟨o,ho⟩:=ih (k+1) (by omega)
   refine⟨o,?_⟩
   have hl:=(N.Hj k (by omega)).1
   have hg:((ord names ak k).map D.str).length < 16777216:=by rw[List.length_map,hl];have:=N.le;omega
   have hs:D.lst ((ord names ak k).map D.str++[D.str x])=aU (ord names ak (k+1)):=by rw[e,aU,List.map_append];rfl
   rw[show j+1+92=(j+92)+1 by omega,gG,hx]
   simp only[cB,m2,mV,aU,Q7,List.getElem?_cons_succ,List.getElem?_cons_zero,mC,aB,P0,ack,Bool.not_false,xg,bc,dj,getL,putL,List.set_cons_succ,List.set_cons_zero,au hg,hs,bV,sV,jG,bO,wD,fr',YL,au (Qd _),if_true]
   exact ho
 obtain⟨o,ho⟩:=key names.length 0 (by omega)
 unfold pP FT
 rw[Nr]
 have hw:∀ (c:C) (b:S) (e e':Mi.Env) (n m:Nat),gG c b n e=.ok (.nx e')→gG c b (n+m) e=.ok (.nx e'):=by
  intro c b e e' n m
  induction n generalizing e with
  | zero=>intro h;cases h
  | succ n ih =>
   intro h
   rw[show n+1+m=(n+m)+1 by omega,gG]
   rw[gG] at h
   revert h
   cases c e with
   | ok k =>
    cases k with
    | false=>exact id
    | true =>
     simp only[aB,if_true]
     cases b e with
     | ok o' =>
      cases o' with
      | nx e2=>exact ih _
      | ct e2=>exact ih _
      | bk e2=>exact id
      | rt w=>exact id
     | ex x=>exact id
     | no=>exact id
   | ex x=>exact id
   | no=>exact id
 have ho:=hw _ _ _ _ _ (8 - names.length) ho
 rw[show names.length+92+(8 - names.length)=100 by have:=N.le;omega] at ho
 have f0:=fr []
 have h0:aU []=D.lst []:=rfl
 rw[h0] at f0
 have hg0:aO (([]:List D).length≤16777216) (Rs.ok (D.lst []))=.ok (.lst []):=au (by simp)
 simp only[List.length_nil] at hg0
 have ho:gG (cB (m2 Cv (mV 2) (mC .non))) (bc (dj 1 (mV 2)) (bV 2 (sV dm [(wD (mV 0)),(wD (mV 1))]))) 100 [some (.d (bC names ak)),some (.d (.lst [])),some (.d (JM (nxt names ak [])))]=.ok (.nx [some (.d (bC names ak)),some (.d (aU (ord names ak names.length))),o]):=ho
 simp only[bc,bV,Bb,mN,fV,oR,aB,hg0,List.length_nil,List.cons_append,List.nil_append,List.replicate_succ,List.replicate_zero,Nat.reduceSub,List.set_cons_zero,List.set_cons_succ,sV,jG,bO,wD,mV,List.getElem?_cons_zero,List.getElem?_cons_succ,f0,Wu,au (Qd _),List.map_cons,List.map_nil]
 rw[ho]
 rfl
end Mr
namespace Mr
open PySem Mi
theorem aa4{α : Type}(xs:List α)(k:Nat):wN xs none (some (k:Int))=xs.take k:=by
 show (xs.drop 0).take ((if (k:Int) < 0 then ((k:Int)+(xs.length:Int)).toNat else min (k:Int).toNat xs.length) - 0)=_
 rw[if_neg (by omega),List.drop_zero,Nat.sub_zero,Int.toNat_natCast]
 rcases Nat.le_total k xs.length with h|h
 ·rw[Nat.min_eq_left h]
 ·rw[Nat.min_eq_right h,List.take_of_length_le (Nat.le_refl _),List.take_of_length_le h]
end Mr
namespace My
def wl:List Nat:=[101,116,97,111,105,110,115,104,114,100,108,117,99,109,102,119,121,112,118,98,103,107,113,106,120,122]
def qK(n:Int):Nat:=wl.getD (n % 26).toNat 0
def jF(c:Int):List Nat:=(List.range 8).map fun (k:Nat)=>qK (c / (4+3 * (k:Int)))
def j9(c:Int)(n:Nat):List Nat:=(List.range n).map fun (k:Nat)=>qK (c / 32+5 * (k:Int)+(k:Int) * (k:Int))
def words(c:Int)(many:Nat):List (List Nat) :=
 if c % 4 < 2 then
  if c % 4=0 then (List.range many).map fun (k:Nat)=>(jF c).take (k+1)
  else (List.range many).map fun (k:Nat)=>(jF c).drop (7 - k)
 else
  (List.range many).map fun (k:Nat)=>(j9 c (c / 4 % 8).toNat).take (c / 256 % (c / 4 % 8+1)).toNat++[qK (c / 7+5 * (k:Int))]++(j9 c (c / 4 % 8).toNat).drop (c / 256 % (c / 4 % 8+1)).toNat
def rN(x:List Nat):Prop:=1≤x.length∧x.length≤8∧∀ c∈x,97≤c∧c≤122
theorem Lx:∀ c∈wl,97≤c∧c≤122:=by decide
theorem abv:wl.Nodup:=by decide
theorem GC:wl.length=26:=by decide
theorem By(n:Int):qK n∈wl:=by
 unfold qK
 have h1:=Int.emod_nonneg n (b:=26) (by decide)
 have h2:=Int.emod_lt_of_pos n (b:=26) (by decide)
 have h3:(n % 26).toNat < wl.length:=by rw[GC];omega
 rw[List.getD_eq_getElem?_getD,List.getElem?_eq_getElem h3]
 exact List.getElem_mem h3
theorem Vn{n m:Int}(h:qK n=qK m):n % 26=m % 26:=by
 unfold qK at h
 have h1:=Int.emod_nonneg n (b:=26) (by decide)
 have h2:=Int.emod_lt_of_pos n (b:=26) (by decide)
 have h3:(n % 26).toNat < wl.length:=by rw[GC];omega
 have h1':=Int.emod_nonneg m (b:=26) (by decide)
 have h2':=Int.emod_lt_of_pos m (b:=26) (by decide)
 have h3':(m % 26).toNat < wl.length:=by rw[GC];omega
 rw[List.getD_eq_getElem?_getD,List.getElem?_eq_getElem h3,List.getD_eq_getElem?_getD,List.getElem?_eq_getElem h3'] at h
 have:=(List.getElem_inj abv).mp h
 omega
theorem gC(c:Int):(jF c).length=8:=by simp[jF]
theorem mZ(c:Int)(n:Nat):(j9 c n).length=n:=by simp[j9]
theorem Ei(c:Int):∀ x∈jF c,97≤x∧x≤122:=fun x hx=>by
 obtain⟨k,_,rfl⟩:=List.mem_map.mp hx
 exact Lx _ (By _)
theorem Eh(c:Int)(n:Nat):∀ x∈j9 c n,97≤x∧x≤122:=fun x hx=>by
 obtain⟨k,_,rfl⟩:=List.mem_map.mp hx
 exact Lx _ (By _)
theorem oZ(c:Int)(many:Nat):(words c many).length=many:=by
 unfold words;split<;>(try split)<;>simp
theorem my{α : Type}(f:Nat→α)(n:Nat)(h:∀ i j,i < n→j < n→f i=f j→i=j):((List.range n).map f).Nodup:=by
 induction n with
 | zero=>simp
 | succ n ih =>
  rw[List.range_succ,List.map_append,List.map_singleton]
  rw[List.nodup_append]
  refine⟨ih fun i j hi hj=>h i j (by omega) (by omega),by simp,fun a ha b hb=>?_⟩
  obtain⟨i,hi,rfl⟩:=List.mem_map.mp ha
  have hi:=List.mem_range.mp hi
  have hb:b=f n:=by simpa using hb
  subst hb
  intro e
  have:=h i n (by omega) (by omega) e
  omega
theorem rP(c:Int)(many:Nat)(hm:many≤8):(words c many).Nodup:=by
 unfold words
 split
 ·split
  ·refine my _ _ fun i j hi hj e=>?_
   have:=congrArg List.length e
   rw[List.length_take,List.length_take,gC] at this
   omega
  ·refine my _ _ fun i j hi hj e=>?_
   have:=congrArg List.length e
   rw[List.length_drop,List.length_drop,gC] at this
   omega
 ·refine my _ _ fun i j hi hj e=>?_
  rw[List.append_assoc,List.append_assoc] at e
  have e1:=List.append_cancel_left e
  have e2:=List.append_cancel_right e1
  have e3:qK (c / 7+5 * (i:Int))=qK (c / 7+5 * (j:Int)):=by simpa using e2
  have:=Vn e3
  omega
theorem bZ(c:Int)(many:Nat)(hm:many≤8):∀ x∈words c many,rN x:=by
 unfold words
 split
 ·split
  ·intro x hx
   obtain⟨k,hk,rfl⟩:=List.mem_map.mp hx
   have hk:=List.mem_range.mp hk
   refine⟨by rw[List.length_take,gC];omega,by rw[List.length_take,gC];omega,fun y hy=>Ei c y (List.mem_of_mem_take hy)⟩
  ·intro x hx
   obtain⟨k,hk,rfl⟩:=List.mem_map.mp hx
   have hk:=List.mem_range.mp hk
   refine⟨by rw[List.length_drop,gC];omega,by rw[List.length_drop,gC];omega,fun y hy=>Ei c y (List.mem_of_mem_drop hy)⟩
 ·intro x hx
  obtain⟨k,hk,rfl⟩:=List.mem_map.mp hx
  have h1:=Int.emod_nonneg (c / 4) (b:=8) (by decide)
  have h2:=Int.emod_lt_of_pos (c / 4) (b:=8) (by decide)
  have h3:=Int.emod_nonneg (c / 256) (b:=c / 4 % 8+1) (by omega)
  have h4:=Int.emod_lt_of_pos (c / 256) (b:=c / 4 % 8+1) (by omega)
  have hl:((j9 c (c / 4 % 8).toNat).take (c / 256 % (c / 4 % 8+1)).toNat++[qK (c / 7+5 * (k:Int))]++(j9 c (c / 4 % 8).toNat).drop (c / 256 % (c / 4 % 8+1)).toNat).length=(c / 4 % 8).toNat+1:=by
   rw[List.length_append,List.length_append,List.length_take,List.length_drop,mZ];simp;omega
  refine⟨by rw[hl];omega,by rw[hl];omega,fun y hy=>?_⟩
  rcases List.mem_append.mp hy with hy|hy
  ·rcases List.mem_append.mp hy with hy|hy
   ·exact Eh c _ y (List.mem_of_mem_take hy)
   ·have:y=qK (c / 7+5 * (k:Int)):=by simpa using hy
    subst this;exact Lx _ (By _)
  ·exact Eh c _ y (List.mem_of_mem_drop hy)
end My
namespace Mi
open PySem
def S'(l:List Nat):Str:=⟨l.toArray⟩
theorem z8(l:List Nat):(S' l).cps.toList=l:=rfl
theorem mD(l:List Nat):(S' l).length=l.length:=by simp[S',Str.length]
theorem vZ{x y:Str}(h:x.cps.toList=y.cps.toList):x=y:=by
 obtain⟨a⟩:=x
 obtain⟨b⟩:=y
 have h:a.toList=b.toList:=h
 rw[Array.toList_inj.mp h]
theorem abi{l m:List Nat}(h:S' l=S' m):l=m:=by
 have:=congrArg (fun x:Str=>x.cps.toList) h
 simpa [S'] using this
theorem abj(l m:List Nat):S' l++S' m=S' (l++m):=by
 show (⟨l.toArray++m.toArray⟩ : Str)=⟨(l++m).toArray⟩
 simp
theorem BR:∀ l:List Str,(Str.join "" l).cps.toList=l.flatMap (·.cps.toList)
 | []=>by simp[Str.join,Str.empty]
 | [x]=>by simp[Str.join]
 | x::y::r=>by
  have ih:=BR (y::r)
  have e:Str.join "" (x::y::r)=x ++ "" ++ Str.join "" (y::r):=rfl
  have e2:("" : Str).cps.toList=[]:=by decide +kernel
  rw[e]
  show ((x.cps++("" : Str).cps)++(Str.join "" (y::r)).cps).toList=_
  rw[Array.toList_append,Array.toList_append,e2,ih]
  simp
theorem join_ones(l:List Nat):Str.join "" (l.map fun x=>S' [x])=S' l:=by
 refine vZ ?_
 rw[BR,z8]
 induction l with
 | nil=>rfl
 | cons a r ih=>rw[List.map_cons,List.flatMap_cons,ih];rfl
theorem V5{α : Type}(xs:List α)(k:Nat):wN xs none (some (k:Int))=xs.take k:=by
 show (xs.drop 0).take ((if (k:Int) < 0 then ((k:Int)+(xs.length:Int)).toNat else min (k:Int).toNat xs.length) - 0)=_
 rw[if_neg (by omega),List.drop_zero,Nat.sub_zero,Int.toNat_natCast]
 rcases Nat.le_total k xs.length with h|h
 ·rw[Nat.min_eq_left h]
 ·rw[Nat.min_eq_right h,List.take_of_length_le (Nat.le_refl _),List.take_of_length_le h]
theorem V3{α : Type}(xs:List α)(k:Nat):wN xs (some (k:Int)) none=xs.drop k:=by
 show (xs.drop (if (k:Int) < 0 then ((k:Int)+(xs.length:Int)).toNat else min (k:Int).toNat xs.length)).take (xs.length - (if (k:Int) < 0 then ((k:Int)+(xs.length:Int)).toNat else min (k:Int).toNat xs.length))=_
 rw[if_neg (by omega),Int.toNat_natCast]
 rcases Nat.le_total k xs.length with h|h
 ·rw[Nat.min_eq_left h]
  exact List.take_of_length_le (by rw[List.length_drop];exact Nat.le_refl _)
 ·rw[Nat.min_eq_right h,List.drop_of_length_le (Nat.le_refl _),List.drop_of_length_le h];simp
theorem yQ(l:List Nat)(k:Nat):tH (S' l) none (some (k:Int))=S' (l.take k):=by
 unfold tH;rw[z8,V5];rfl
theorem yP(l:List Nat)(k:Nat):tH (S' l) (some (k:Int)) none=S' (l.drop k):=by
 unfold tH;rw[z8,V3];rfl
def dH:Str := "etaoinshrdlucmfwypvbgkqjxz"
theorem M8:dH.cps.toList=My.wl:=by decide +kernel
theorem Rj:dH.length≤16777216:=by decide +kernel
theorem Wo{α : Type}{xs:List α}{i:Int}(h0:0≤i)(h1:i < xs.length)(d:α):uU xs i=some (xs.getD i.toNat d):=by
 unfold uU Jd
 rw[if_pos h0,if_pos h1]
 have h3:i.toNat < xs.length:=by omega
 show xs[i.toNat]? = _
 rw[List.getD_eq_getElem?_getD,List.getElem?_eq_getElem h3];rfl
theorem YH(n:Int):uU dH.cps.toList (n % 26)=some (My.qK n):=by
 rw[M8]
 have h1:=Int.emod_nonneg n (b:=26) (by decide)
 have h2:=Int.emod_lt_of_pos n (b:=26) (by decide)
 exact Wo h1 (by rw[My.GC];omega) 0
theorem zT{cs:List Int}{i:Int}(h0:0≤i)(h1:i < cs.length):gA (.lst (cs.map D.int)) (.int i)=.ok (.int (cs.getD i.toNat 0)):=by
 show uC (uU (cs.map D.int) i)=_
 rw[Wo h0 (by rw[List.length_map];exact h1) (.int 0),ik]
 have h3:i.toNat < cs.length:=by omega
 rw[List.getD_eq_getElem?_getD,List.getElem?_map,List.getD_eq_getElem?_getD,List.getElem?_eq_getElem h3];rfl
theorem X4{cs:List Str}{i:Int}(h0:0≤i)(h1:i < cs.length):gA (.lst (cs.map D.str)) (.int i)=.ok (.str (cs.getD i.toNat Str.empty)):=by
 show uC (uU (cs.map D.str) i)=_
 rw[Wo h0 (by rw[List.length_map];exact h1) (.str Str.empty),ik]
 have h3:i.toNat < cs.length:=by omega
 rw[List.getD_eq_getElem?_getD,List.getElem?_map,List.getD_eq_getElem?_getD,List.getElem?_eq_getElem h3];rfl
theorem vK(n:Nat):dO 0 (n:Int)=(List.range n).map fun (k:Nat)=>D.int (k:Int):=by
 unfold dO
 rw[show ((n:Int) - 0).toNat=n by omega]
 exact List.map_congr_left fun k _=>by rw[Int.zero_add]
theorem iD(n:Nat):(dO 0 (n:Int)).length=n:=by rw[vK];simp
theorem vL{n i:Nat}{x:D}(h:(dO 0 (n:Int))[i]? = some x):i < n∧x=.int (i:Int):=by
 rw[vK,List.getElem?_map] at h
 cases hr:(List.range n)[i]? with
 | none=>rw[hr] at h;cases h
 | some k =>
  rw[hr] at h
  obtain⟨h1,h2⟩:=List.getElem?_eq_some_iff.mp hr
  rw[List.getElem_range] at h2
  subst h2
  rw[List.length_range] at h1
  exact⟨h1,(Option.some.inj h).symm⟩
theorem lA{tg:Tg}{a:E}{e:Mi.Env}(g:Nat→D)(n:Nat)(h:∀ k < n,∃ e1,tg.put (.int (k:Int)) e=.ok e1∧a e1=.ok (g k)):dJ tg dX a e (dO 0 (n:Int))=.ok ((List.range n).map g):=by
 rw[vK,cu (fun (k:Nat)=>D.int (k:Int)) g (fun _=>true) (List.range n) fun k hk=>?_]
 ·rw[List.filter_eq_self.mpr fun _ _=>rfl]
 ·obtain⟨e1,h1,h2⟩:=h k (List.mem_range.mp hk)
  exact⟨e1,h1,rfl,fun _=>h2⟩
theorem ug{i:Int}(h0:-1000≤i)(h1:i≤1000):okR i:=by unfold okR;omega
theorem lF{i j:Int}(h0:-(2 ^ 64) < i)(h1:i < 2 ^ 64):wj i j:=.inl ⟨h0,h1⟩
theorem Hq{i j:Int}(h0:-(2 ^ 64) < j)(h1:j < 2 ^ 64):wj i j:=.inr ⟨h0,h1⟩
theorem eZ{j:Int}(h0:0 < j)(h1:j < 2 ^ 64):wu j:=by
 refine⟨h0,?_⟩
 have h2:j.natAbs < 2 ^ 64:=by omega
 have h3:j.natAbs≠0:=by omega
 have:=(Nat.log2_lt h3).mpr h2
 omega
end Mi
namespace Mr
open PySem Mi
open My (words jF j9 qK gC mZ oZ rP)
theorem Cu(n:Int):gA (.str dH) (.int (n % 26))=.ok (.str (S' [qK n])):=by
 show aO _ _=_
 rw[au Rj,YH];rfl
theorem BV(l:List Nat)(h:l.length≤8):Cr (.str "") (.lst (l.map fun x=>D.str (S' [x])))=.ok (.str (S' l)):=by
 show (uC (rM (l.map fun x=>D.str (S' [x])))).bind _=_
 have e:l.map (fun x=>D.str (S' [x]))=(l.map fun x=>S' [x]).map D.str:=by rw[List.map_map];rfl
 rw[e,tQ,ik,aB,au ?_,join_ones]
 have h1:((l.map fun x=>S' [x]).map (·.length)).sum=l.length:=by
  clear h e
  induction l with
  | nil=>rfl
  | cons a r ih=>rw[List.map_cons,List.map_cons,List.sum_cons,ih,mD,List.length_cons];simp;omega
 have h2:("" : Str).length=0:=by decide +kernel
 rw[h1,h2];omega
theorem st1(c:Int)(k:Nat)(d32:wu 32)(m5:wj 5 (k:Int))(mk:wj (k:Int) k):(m2 bQ (m2 bQ (m2 lu (mV 1) (mC (.int 32))) (m2 dI (mC (.int 5)) (mV 2))) (m2 dI (mV 2) (mV 2))) [some (.d (.str dH)),some (.d (.int c)),some (.d (.int k))]=.ok (.int (c / 32+5 * (k:Int)+(k:Int) * (k:Int))) :=
 (aL (aL (aL rfl rfl (au d32)) (aL rfl rfl (au m5)) rfl) (aL rfl rfl (au mk)) rfl)
theorem st2(c:Int)(e:Mi.Env)(a:E)(h:a e=.ok (.int c))(h0:e[0]? = some (some (.d (.str dH)))):m2 gA (mV 0) (m2 fJ a (mC (.int 26))) e=.ok (.str (S' [qK c])) :=
 aL (x:=.str dH) (by unfold mV;rw[h0]) (aL h rfl (au (by decide))) (Cu _)
theorem UT{k n:Nat}(h:k < n)(h8:n < 8):wj (k:Int) k:=lF (by omega) (by omega)
theorem size_of(c:Int):∃ n:Nat,c / 4 % 8=(n:Int)∧n < 8:=by
 have z1:=Int.emod_nonneg (c / 4) (b:=8) (by decide)
 have z2:=Int.emod_lt_of_pos (c / 4) (b:=8) (by decide)
 exact⟨(c / 4 % 8).toNat,by omega,by omega⟩
theorem at_of(c:Int)(n:Nat):∃ t:Nat,c / 256 % ((n:Int)+1)=(t:Int)∧t≤n:=by
 have z3:=Int.emod_nonneg (c / 256) (b:=(n:Int)+1) (by omega)
 have z4:=Int.emod_lt_of_pos (c / 256) (b:=(n:Int)+1) (by omega)
 exact⟨(c / 256 % ((n:Int)+1)).toNat,by omega,by omega⟩
theorem SX(c:Int)(m:Nat)(hm:m≤8):pN [.d (.int c),.d (.int (m:Int))]=.ok (.d (aU ((words c m).map S'))):=by
 unfold pN FJ
 rw[Yk]
 have hr8:okR 8:=ug (by decide) (by decide)
 have hrm:okR (m:Int):=ug (by omega) (by omega)
 have hl0:(PySem.Str.ofString "etaoinshrdlucmfwypvbgkqjxz")=dH:=rfl
 have g4:∀ r:Rs D,aO ((0:Int) < 4) r=r:=fun r=>au (by decide)
 have g26:∀ r:Rs D,aO ((0:Int) < 26) r=r:=fun r=>au (by decide)
 have g8:∀ r:Rs D,aO ((0:Int) < 8) r=r:=fun r=>au (by decide)
 by_cases c1:c % 4 < 2
 ·have Qf:dJ (.n 2) dX (m2 gA (mV 0) (m2 fJ (m2 lu (mV 1) (m2 bQ (mC (.int 4)) (m2 dI (mC (.int 3)) (mV 2)))) (mC (.int 26)))) [some (.d (.str dH)),some (.d (.int c)),none] (dO 0 8)=.ok ((jF c).map fun x=>D.str (S' [x])):=by
   have:=lA (tg:=.n 2) (a:=m2 gA (mV 0) (m2 fJ (m2 lu (mV 1) (m2 bQ (mC (.int 4)) (m2 dI (mC (.int 3)) (mV 2)))) (mC (.int 26)))) (e:=[some (.d (.str dH)),some (.d (.int c)),none]) (fun k=>D.str (S' [qK (c / (4+3 * (k:Int)))])) 8 fun k hk=>⟨[some (.d (.str dH)),some (.d (.int c)),some (.d (.int k))],rfl,by
    simp only[m2,mV,List.getElem?_cons_zero,List.getElem?_cons_succ,mC,aB,Vd]
    rw[au (lF (by decide) (by decide))]
    simp only[aB,Dj,div_ii]
    rw[au (eZ (by omega) (by omega))]
    simp only[aB,Vg,g26,Cu]⟩
   rw[show ((8:Nat):Int)=8 from rfl] at this
   rw[this]
   unfold jF
   rw[List.map_map];rfl
  have hp:ou [some 2,some 0,none] [some (.d (.int c)),some (.d (.int (m:Int))),some (.d (.str dH)),none,none,none,none]=[some (.d (.str dH)),some (.d (.int c)),none]:=rfl
  have hj:=BV (jF c) (by rw[gC];omega)
  have hw8:(dO 0 8).length≤16777216:=by rw[show (8:Int)=((8:Nat):Int) from rfl,iD];omega
  have hwm:(dO 0 (m:Int)).length≤16777216:=by rw[iD];omega
  by_cases c2:c % 4=0
  ·have hc:dJ (.n 1) dX (gq Qn (mV 0) none (some (m2 bQ (mV 1) (mC (.int 1))))) [some (.d (.str (S' (jF c)))),none] (dO 0 (m:Int))=.ok ((words c m).map fun l=>D.str (S' l)):=by
    rw[lA (fun k=>D.str (S' ((jF c).take (k+1)))) m fun k hk=>⟨[some (.d (.str (S' (jF c)))),some (.d (.int k))],rfl,by
     simp only[gq,mV,List.getElem?_cons_zero,pQ,m2,List.getElem?_cons_succ,mC,aB,Dj,Lg,aaf]
     rw[au (by rw[mD,gC];omega),show (k:Int)+1=((k+1:Nat):Int) by omega,yQ]⟩]
    unfold words
    rw[if_pos c1,if_pos c2,List.map_map];rfl
   have hp2:∀ z,ou [some 3,none] [some (.d (.int c)),some (.d (.int (m:Int))),some (.d (.str dH)),some z,none,none,none]=[some z,none]:=fun _=>rfl
   have hmod:cB (m2 Jf (m2 fJ (mV 0) (mC (.int 4))) (mC (.int 2))) [some (.d (.int c)),some (.d (.int (m:Int))),some (.d (.str dH)),none,none,none,none]=.ok true :=
    cz ((aL (aL rfl rfl (g4 _)) rfl rfl).trans (by rw[Vm,decide_eq_true c1]))
   have Vv:cB (m2 Jg (m2 fJ (mV 0) (mC (.int 4))) (mC (.int 0))) [some (.d (.int c)),some (.d (.int (m:Int))),some (.d (.str dH)),some (.d (.str (S' (jF c)))),none,none,none]=.ok true :=
    cz ((aL (aL rfl rfl (g4 _)) rfl rfl).trans (by rw[Ig,decide_eq_true c2]))
   show Rs.bind _ nJ=_
   rw[aH (e':=[some (.d (.int c)),some (.d (.int (m:Int))),some (.d (.str dH)),none,none,none,none]) (bx rfl)]
   refine(congrArg (fun r=>Rs.bind r nJ) (An (w:=.d (aU ((words c m).map S'))) ?_)).trans rfl
   rw[pW hmod,aH (e':=[some (.d (.int c)),some (.d (.int (m:Int))),some (.d (.str dH)),some (.d (.str (S' (jF c)))),none,none,none]) (bx (aL rfl (cC (oO rfl hr8) hw8 Qf) hj))]
   rw[An ((pW Vv).trans (dZ (bT (cC (oO rfl hrm) hwm hc))))]
   rw[aU,List.map_map]
   rfl
  ·have hc:dJ (.n 1) dX (gq Qn (mV 0) (some (m2 HY (mC (.int 7)) (mV 1))) none) [some (.d (.str (S' (jF c)))),none] (dO 0 (m:Int))=.ok ((words c m).map fun l=>D.str (S' l)):=by
    rw[lA (fun k=>D.str (S' ((jF c).drop (7 - k)))) m fun k hk=>⟨[some (.d (.str (S' (jF c)))),some (.d (.int k))],rfl,by
     simp only[gq,mV,List.getElem?_cons_zero,pQ,m2,mC,List.getElem?_cons_succ,aB,aac,Lg,aaf]
     rw[au (by rw[mD,gC];omega),show (7:Int) - (k:Int)=((7 - k:Nat):Int) by omega,yP]⟩]
    unfold words
    rw[if_pos c1,if_neg c2,List.map_map];rfl
   have hp2:∀ z,ou [some 3,none] [some (.d (.int c)),some (.d (.int (m:Int))),some (.d (.str dH)),some z,none,none,none]=[some z,none]:=fun _=>rfl
   have hmod:cB (m2 Jf (m2 fJ (mV 0) (mC (.int 4))) (mC (.int 2))) [some (.d (.int c)),some (.d (.int (m:Int))),some (.d (.str dH)),none,none,none,none]=.ok true :=
    cz ((aL (aL rfl rfl (g4 _)) rfl rfl).trans (by rw[Vm,decide_eq_true c1]))
   have Vv:cB (m2 Jg (m2 fJ (mV 0) (mC (.int 4))) (mC (.int 0))) [some (.d (.int c)),some (.d (.int (m:Int))),some (.d (.str dH)),some (.d (.str (S' (jF c)))),none,none,none]=.ok false :=
    cz ((aL (aL rfl rfl (g4 _)) rfl rfl).trans (by rw[Ig,decide_eq_false c2]))
   show Rs.bind _ nJ=_
   rw[aH (e':=[some (.d (.int c)),some (.d (.int (m:Int))),some (.d (.str dH)),none,none,none,none]) (bx rfl)]
   refine(congrArg (fun r=>Rs.bind r nJ) (An (w:=.d (aU ((words c m).map S'))) ?_)).trans rfl
   rw[pW hmod,aH (e':=[some (.d (.int c)),some (.d (.int (m:Int))),some (.d (.str dH)),some (.d (.str (S' (jF c)))),none,none,none]) (bx (aL rfl (cC (oO rfl hr8) hw8 Qf) hj))]
   rw[aH (fu Vv),dZ (bT (cC (oO rfl hrm) hwm hc))]
   rw[aU,List.map_map]
   rfl
 ·obtain⟨n,hn,hn8⟩:=size_of c
  obtain⟨t,ht,ht8⟩:=at_of c n
  have hrn:okR (n:Int):=ug (by omega) (by omega)
  have d4:wu 4:=eZ (by decide) (by decide)
  have d32:wu 32:=eZ (by decide) (by decide)
  have ad3:wu 256:=eZ (by decide) (by decide)
  have d7:wu 7:=eZ (by decide) (by decide)
  have acD:dJ (.n 2) dX (m2 gA (mV 0) (m2 fJ (m2 bQ (m2 bQ (m2 lu (mV 1) (mC (.int 32))) (m2 dI (mC (.int 5)) (mV 2))) (m2 dI (mV 2) (mV 2))) (mC (.int 26)))) [some (.d (.str dH)),some (.d (.int c)),none] (dO 0 (n:Int))=.ok ((j9 c n).map fun x=>D.str (S' [x])):=by
   rw[lA (fun k=>D.str (S' [qK (c / 32+5 * (k:Int)+(k:Int) * (k:Int))])) n fun k hk=>⟨[some (.d (.str dH)),some (.d (.int c)),some (.d (.int k))],rfl,by
    exact st2 _ _ _ (st1 c k d32 (lF (by decide) (by decide)) (UT hk hn8)) rfl⟩]
   unfold j9
   rw[List.map_map];rfl
  have hp:ou [some 2,some 0,none] [some (.d (.int c)),some (.d (.int (m:Int))),some (.d (.str dH)),none,some (.d (.int (n:Int))),none,none]=[some (.d (.str dH)),some (.d (.int c)),none]:=rfl
  have hj:=BV (j9 c n) (by rw[mZ];omega)
  have hwn:(dO 0 (n:Int)).length≤16777216:=by rw[iD];omega
  have hwm:(dO 0 (m:Int)).length≤16777216:=by rw[iD];omega
  have hc:dJ (.n 4) dX (m2 bQ (m2 bQ (gq Qn (mV 0) none (some (mV 2))) (m2 gA (mV 1) (m2 fJ (m2 bQ (m2 lu (mV 3) (mC (.int 7))) (m2 dI (mC (.int 5)) (mV 4))) (mC (.int 26))))) (gq Qn (mV 0) (some (mV 2)) none))
   [some (.d (.str (S' (j9 c n)))),some (.d (.str dH)),some (.d (.int (t:Int))),some (.d (.int c)),none] (dO 0 (m:Int))=.ok ((words c m).map fun l=>D.str (S' l)):=by
   rw[lA (fun k=>D.str (S' ((j9 c n).take t++[qK (c / 7+5 * (k:Int))]++(j9 c n).drop t))) m fun k hk=>⟨[some (.d (.str (S' (j9 c n)))),some (.d (.str dH)),some (.d (.int (t:Int))),some (.d (.int c)),some (.d (.int k))],rfl,by
    have gS:∀ r:Rs D,aO ((S' (j9 c n)).length≤16777216) r=r:=fun r=>au (by rw[mD,mZ];omega)
    have gM:∀ r:Rs D,aO (wj 5 (k:Int)) r=r:=fun r=>au (lF (by decide) (by decide))
    simp only[m2,gq,mV,List.getElem?_cons_zero,pQ,List.getElem?_cons_succ,aB,Lg,aaf,yQ,gS,mC,div_ii,au d7,Vd,gM,Dj,Vg,g26,Cu,Ol,yP]
    rw[au (by rw[mD,mD,List.length_take,mZ];simp;omega)]
    simp only[abj,aB,Ol]
    rw[au (by rw[mD,mD,List.length_append,List.length_take,List.length_drop,mZ];simp;omega)]⟩]
   unfold words
   rw[if_neg c1,List.map_map,hn,ht]
   rfl
  have hmod:cB (m2 Jf (m2 fJ (mV 0) (mC (.int 4))) (mC (.int 2))) [some (.d (.int c)),some (.d (.int (m:Int))),some (.d (.str dH)),none,none,none,none]=.ok false :=
   cz ((aL (aL rfl rfl (g4 _)) rfl rfl).trans (by rw[Vm,decide_eq_false c1]))
  show Rs.bind _ nJ=_
  rw[aH (e':=[some (.d (.int c)),some (.d (.int (m:Int))),some (.d (.str dH)),none,none,none,none]) (bx rfl)]
  rw[aH (fu hmod)]
  rw[aH (e':=[some (.d (.int c)),some (.d (.int (m:Int))),some (.d (.str dH)),none,some (.d (.int (n:Int))),none,none]) (bx (d:=.int (n:Int)) ((aL (aL rfl rfl (au d4)) rfl (g8 _)).trans (by rw[hn])))]
  rw[aH (e':=[some (.d (.int c)),some (.d (.int (m:Int))),some (.d (.str dH)),none,some (.d (.int (n:Int))),some (.d (.str (S' (j9 c n)))),none]) (bx (aL rfl (cC (oO rfl hrn) hwn acD) hj))]
  rw[aH (e':=[some (.d (.int c)),some (.d (.int (m:Int))),some (.d (.str dH)),none,some (.d (.int (n:Int))),some (.d (.str (S' (j9 c n)))),some (.d (.int (t:Int)))]) (bx (d:=.int (t:Int)) ((aL (aL rfl rfl (au ad3)) (aL rfl rfl rfl) (au (by omega))).trans (by rw[ht])))]
  rw[dZ (bT (cC (oO rfl hrm) hwm hc))]
  simp only[aB,Xq,aU,List.map_map]
  rfl
end Mr
namespace Mr
open PySem Mi
open My (words oZ rP)
theorem W3(n:Nat)(h:n≤8):okR (n:Int):=ug (by omega) (by omega)
theorem Mv{ls:List Int}{z:Int}(h0:0≤z)(h1:z < ls.length)(hl:ls.length≤100):O7 (ls.map D.int) z=.ok (.int (ls.getD z.toNat 0),(ls.eraseIdx z.toNat).map D.int):=by
 have h3:z.toNat < ls.length:=by omega
 unfold O7
 rw[au (by omega),show Jd (ls.map D.int).length z=some z.toNat by
  unfold Jd
  rw[if_pos h0,if_pos (by rw[List.length_map];exact h1)],ik,aB,List.getElem?_map,List.getElem?_eq_getElem h3,List.getD_eq_getElem?_getD,List.getElem?_eq_getElem h3]
 show Rs.ok (D.int ls[z.toNat],(ls.map D.int).eraseIdx z.toNat)=_
 have:∀ (l:List Int) (k:Nat),(l.map D.int).eraseIdx k=(l.eraseIdx k).map D.int:=by
  intro l
  induction l with
  | nil=>intro k;rfl
  | cons a r ih =>
   intro k
   cases k with
   | zero=>rfl
   | succ k=>rw[List.map_cons,List.eraseIdx_cons_succ,ih k];rfl
 rw[this];rfl
theorem Rm(e:Mi.Env):mN oR [] e=.ok (.lst []):=by
 show aO (([]:List D).length≤16777216) (Rs.ok (D.lst []))=_
 exact au (by simp)
end Mr
namespace Mr
open PySem Mi
end Mr
namespace Mr
open PySem Mi
abbrev Ix:=Nat×Nat
def iQ(p q:Ix):Prop:=p.1 < q.1∨(p.1=q.1∧p.2 < q.2)
def nth(names:List Str)(i:Nat):Str:=names.getD i Str.empty
def arrOf(names:List Str)(p:Ix):Ar:=(nth names p.1,nth names p.2)
structure mJ(names:List Str)(A:List Ix)(r:Nat→Int):Prop where
 nd:names.Nodup
 pos:1≤names.length
 le:names.length≤8
 v5:A.Pairwise iQ
 all:∀ p∈A,p.1 < names.length∧p.2 < names.length∧r p.1 < r p.2
 al:A.length≤64
theorem oA{names:List Str}{i:Nat}(h:i < names.length):nth names i∈names:=by
 unfold nth
 rw[List.getD_eq_getElem?_getD,List.getElem?_eq_getElem h]
 exact List.getElem_mem h
theorem jt{names:List Str}(nd:names.Nodup){i j:Nat}(hi:i < names.length)(hj:j < names.length)(h:nth names i=nth names j):i=j:=by
 unfold nth at h
 rw[List.getD_eq_getElem?_getD,List.getElem?_eq_getElem hi,List.getD_eq_getElem?_getD,List.getElem?_eq_getElem hj] at h
 exact(List.getElem_inj nd).mp h
theorem U8{names:List Str}{x:Str}(h:x∈names):∃ i,i < names.length∧nth names i=x:=by
 obtain⟨i,hi,e⟩:=List.getElem_of_mem h
 refine⟨i,hi,?_⟩
 unfold nth
 rw[List.getD_eq_getElem?_getD,List.getElem?_eq_getElem hi];exact e
theorem mJ.ju{names:List Str}{A:List Ix}{r:Nat→Int}(N:mJ names A r):Ss names (A.map (arrOf names)):=by
 refine⟨N.nd,N.pos,N.le,by rw[List.length_map];exact N.al,fun p hp=>?_,fun x=>r (names.idxOf x),fun p hp=>?_⟩
 ·obtain⟨q,hq,rfl⟩:=List.mem_map.mp hp
  exact oA (N.all q hq).1
 ·obtain⟨q,hq,rfl⟩:=List.mem_map.mp hp
  obtain⟨h1,h2,h3⟩:=N.all q hq
  have key:∀ i,i < names.length→names.idxOf (nth names i)=i:=fun i hi=>by
   have hm:=oA hi
   have hl:names.idxOf (nth names i) < names.length:=List.idxOf_lt_length_of_mem hm
   refine jt N.nd hl hi ?_
   have h4:names[names.idxOf (nth names i)]=nth names i:=List.getElem_idxOf hl
   show names.getD (names.idxOf (nth names i)) Str.empty=_
   rw[List.getD_eq_getElem?_getD,List.getElem?_eq_getElem hl]
   exact h4
  show r (names.idxOf (nth names q.1)) < r (names.idxOf (nth names q.2))
  rw[key _ h1,key _ h2];exact h3
def good(m:Nat)(r:Nat→Int)(A:List Ix)(j k:Nat):Prop:=A.Pairwise iQ∧(∀ p∈A,p.1 < m∧p.2 < m∧r p.1 < r p.2∧(p.1 < j∨(p.1=j∧p.2 < k)))∧A.length≤8 * j+k
theorem good.skip{m:Nat}{r:Nat→Int}{A:List Ix}{j k:Nat}(h:good m r A j k):good m r A j (k+1) :=
 ⟨h.1,fun p hp=>⟨(h.2.1 p hp).1,(h.2.1 p hp).2.1,(h.2.1 p hp).2.2.1,by have:=(h.2.1 p hp).2.2.2;omega⟩,by have:=h.2.2;omega⟩
theorem good.add{m:Nat}{r:Nat→Int}{A:List Ix}{j k:Nat}(h:good m r A j k)(hj:j < m)(hk:k < m)(hr:r j < r k):good m r (A++[(j,k)]) j (k+1):=by
 refine⟨List.pairwise_append.mpr ⟨h.1,List.pairwise_singleton _ _,fun p hp q hq=>?_⟩,fun p hp=>?_,by rw[List.length_append];have:=h.2.2;simp;omega⟩
 ·have:q=(j,k):=by simpa using hq
  subst this
  have:=(h.2.1 p hp).2.2.2
  exact this
 ·rcases List.mem_append.mp hp with hp|hp
  ·exact(h.skip.2.1 p hp)
  ·have:p=(j,k):=by simpa using hp
   subst this
   exact⟨hj,hk,hr,.inr ⟨rfl,by omega⟩⟩
theorem good.next{m:Nat}{r:Nat→Int}{A:List Ix}{j k:Nat}(h:good m r A j k)(hk:k≤8):good m r A (j+1) 0 :=
 ⟨h.1,fun p hp=>⟨(h.2.1 p hp).1,(h.2.1 p hp).2.1,(h.2.1 p hp).2.2.1,by have:=(h.2.1 p hp).2.2.2;omega⟩,by have:=h.2.2;omega⟩
def vQ(names:List Str)(A:List Ix):D:=.lst ((A.map (arrOf names)).map pairD)
theorem Z7{a:Int}(h0:0≤a)(h1:a < 8):-(2 ^ 64) < a∧a < 2 ^ 64∧0≤a * (a - 1) / 2∧a * (a - 1) / 2≤21:=by
 have:a=0∨a=1∨a=2∨a=3∨a=4∨a=5∨a=6∨a=7:=by omega
 rcases this with h|h|h|h|h|h|h|h<;>subst h<;>decide
end Mr
namespace Mr
open PySem Mi
open My (words oZ rP)
theorem uv(ns:List Int)(k:Nat)(hk:k≤100):∃ c:Int,dU [.d (.lst (ns.map D.int)),.d (.int (k:Int))]=.ok (.d (.int c)):=by
 unfold dU K7
 rw[zB]
 have hl:mN mY [mV 0] [some (.d (.lst (ns.map D.int))),some (.d (.int (k:Int))),none]=.ok (.int (ns.length:Int)):=by show Rs.ok (D.int ((ns.map D.int).length:Int))=_;rw[List.length_map]
 have c1:cB (m2 Jf (mV 1) (mN mY [(mV 0)])) [some (.d (.lst (ns.map D.int))),some (.d (.int (k:Int))),none]=.ok (decide ((k:Int) < (ns.length:Int))):=cz (aL rfl hl rfl)
 by_cases h:(k:Int) < (ns.length:Int)
 ·rw[decide_eq_true h] at c1
  exact⟨_,by
   rw[show ([some (W.d (.lst (ns.map D.int))),some (.d (.int (k:Int)))]++List.replicate (3 - 2) none)=[some (.d (.lst (ns.map D.int))),some (.d (.int (k:Int))),none] from rfl]
   rw[An ((pW c1).trans (dZ (bT (aL rfl rfl (zT (by omega) h)))))];rfl⟩
 ·rw[decide_eq_false h] at c1
  have s1:bV 2 (m2 bQ (mC (.int 30011)) (m2 dI (m2 dI (mC (.int 709)) (mV 1)) (mV 1))) [some (.d (.lst (ns.map D.int))),some (.d (.int (k:Int))),none]=.ok (.nx [some (.d (.lst (ns.map D.int))),some (.d (.int (k:Int))),some (.d (.int (30011+709 * (k:Int) * (k:Int))))]) :=
   bx (aL rfl (aL (aL rfl rfl (au (lF (by decide) (by decide)))) rfl (au (Hq (by omega) (by omega)))) rfl)
  have hl2:mN mY [mV 0] [some (.d (.lst (ns.map D.int))),some (.d (.int (k:Int))),some (.d (.int (30011+709 * (k:Int) * (k:Int))))]=.ok (.int (ns.length:Int)):=by show Rs.ok (D.int ((ns.map D.int).length:Int))=_;rw[List.length_map]
  have c2:cB (m2 dGt (mN mY [(mV 0)]) (mC (.int 0))) [some (.d (.lst (ns.map D.int))),some (.d (.int (k:Int))),some (.d (.int (30011+709 * (k:Int) * (k:Int))))]=.ok (decide ((0:Int) < (ns.length:Int))):=cz (aL hl2 rfl rfl)
  by_cases h0:(0:Int) < (ns.length:Int)
  ·rw[decide_eq_true h0] at c2
   refine⟨_,by
    rw[show ([some (W.d (.lst (ns.map D.int))),some (.d (.int (k:Int)))]++List.replicate (3 - 2) none)=[some (.d (.lst (ns.map D.int))),some (.d (.int (k:Int))),none] from rfl]
    rw[aH ((fu c1).trans rfl),aH s1,aH ((pW c2).trans (bx (aL rfl (aL (aL (aL rfl rfl (zT (by decide) h0)) rfl (au (by decide))) (aL (aL (aL rfl rfl (au (lF (by omega) (by omega)))) (aL rfl rfl (au (lF (by decide) (by decide)))) rfl) rfl rfl) (au (lF ?_ ?_))) rfl)))]
    rfl⟩
   ·have:=Int.emod_nonneg (ns.getD (0:Int).toNat 0) (b:=99991) (by decide);omega
   ·have:=Int.emod_lt_of_pos (ns.getD (0:Int).toNat 0) (b:=99991) (by decide);omega
  ·rw[decide_eq_false h0] at c2
   exact⟨_,by
    rw[show ([some (W.d (.lst (ns.map D.int))),some (.d (.int (k:Int)))]++List.replicate (3 - 2) none)=[some (.d (.lst (ns.map D.int))),some (.d (.int (k:Int))),none] from rfl]
    rw[aH ((fu c1).trans rfl),aH s1,aH ((fu c2).trans rfl)]
    rfl⟩
theorem Q0(d:Int)(m:Nat)(hm:m≤8):∃ rs:List Int,lN [.d (.int d),.d (.int (m:Int))]=.ok (.d (.lst (rs.map D.int)))∧rs.length=m:=by
 unfold lN yV
 rw[Yk]
 have hw:(dO 0 (m:Int)).length≤16777216:=by rw[iD];omega
 have hc:dJ (.n 0) dX (mV 0) [none] (dO 0 (m:Int))=.ok ((List.range m).map fun (k:Nat)=>D.int (k:Int)) :=
  lA (fun k=>D.int (k:Int)) m fun k _=>⟨[some (.d (.int k))],rfl,rfl⟩
 have hr:((List.range m).map fun (k:Nat)=>D.int (k:Int))=((List.range m).map fun (k:Nat)=>(k:Int)).map D.int:=by rw[List.map_map];rfl
 rw[hr] at hc
 obtain⟨e',h1,h2⟩:=gP (tg:=.n 5) (body:=bc (bV 4 (m2 fJ (m2 bQ (m2 bQ (m2 dI (mV 4) (mC (.int 48271))) (m2 dI (mC (.int 7)) (mV 5))) (mC (.int 1))) (mC (.int 2147483647)))) (qC 3 2 (m2 fJ (m2 lu (mV 4) (mC (.int 32))) (mN mY [(mV 2)]))))
  (fun i e=>∃ (x:Int) (ls rs:List Int) (o:Option W),e=[some (.d (.int d)),some (.d (.int (m:Int))),some (.d (.lst (ls.map D.int))),some (.d (.lst (rs.map D.int))),some (.d (.int x)),o]∧ls.length+i=m∧rs.length=i) (dO 0 (m:Int)) 0 (fun i x e hx ⟨x0,ls,rs,o,he,hl,hrs⟩=>by
   obtain⟨hi,rfl⟩:=vL hx
   subst he
   rw[Nat.zero_add] at hl hrs
   have hpos:(0:Int) < (ls.length:Int):=by omega
   obtain⟨y,hy⟩ : ∃ y,y=(x0 * 48271+7 * (i:Int)+1) % 2147483647:=⟨_,rfl⟩
   have z1:=Int.emod_nonneg (y / 32) (b:=(ls.length:Int)) (by omega)
   have z2:=Int.emod_lt_of_pos (y / 32) hpos
   refine⟨[some (.d (.int d)),some (.d (.int (m:Int))),some (.d (.lst (ls.map D.int))),some (.d (.lst (rs.map D.int))),some (.d (.int x0)),some (.d (.int (i:Int)))],[some (.d (.int d)),some (.d (.int (m:Int))),some (.d (.lst ((ls.eraseIdx (y / 32 % (ls.length:Int)).toNat).map D.int))),some (.d (.lst ((rs++[ls.getD (y / 32 % (ls.length:Int)).toNat 0]).map D.int))),some (.d (.int y)),some (.d (.int (i:Int)))],rfl,?_,y,ls.eraseIdx (y / 32 % (ls.length:Int)).toNat,rs++[ls.getD (y / 32 % (ls.length:Int)).toNat 0],some (.d (.int (i:Int))),rfl,?_,?_⟩
   ·have h0:m2 fJ (m2 lu (mV 4) (mC (.int 32))) (mN mY [(mV 2)]) [some (.d (.int d)),some (.d (.int (m:Int))),some (.d (.lst (ls.map D.int))),some (.d (.lst (rs.map D.int))),some (.d (.int y)),some (.d (.int (i:Int)))]=.ok (.int (y / 32 % (ls.length:Int))) :=
     aL (x:=.int (y / 32)) (y:=.int (ls.length:Int)) (aL rfl rfl (au (eZ (by decide) (by decide)))) (by show Rs.ok (D.int ((ls.map D.int).length:Int))=_;rw[List.length_map]) (au hpos)
    rw[aH (e':=[some (.d (.int d)),some (.d (.int (m:Int))),some (.d (.lst (ls.map D.int))),some (.d (.lst (rs.map D.int))),some (.d (.int y)),some (.d (.int (i:Int)))])]
    ·unfold qC
     rw[h0]
     simp only[aB,Lg,getL,List.getElem?_cons_succ,List.getElem?_cons_zero,Mv z1 z2 (by omega),putL,List.set_cons_succ,List.set_cons_zero]
     rw[au (by rw[List.length_map];omega),List.map_append]
     rfl
    ·rw[hy]
     exact bx (aL (aL (aL (aL rfl rfl (au (Hq (by decide) (by decide)))) (aL rfl rfl (au (lF (by decide) (by decide)))) rfl) rfl rfl) rfl (au (by decide)))
   ·rw[List.length_eraseIdx_of_lt (by omega)];omega
   ·rw[List.length_append,hrs];simp) [some (.d (.int d)),some (.d (.int (m:Int))),some (.d (.lst (((List.range m).map fun (k:Nat)=>(k:Int)).map D.int))),some (.d (.lst [])),some (.d (.int (d % 2147483647))),none] ⟨_,_,[],none,rfl,by simp,rfl⟩
 obtain⟨d2,ls,rs,o,he,hl,hrs⟩:=h2
 subst he
 rw[iD,Nat.zero_add] at hl hrs
 refine⟨rs,?_,hrs⟩
 rw[aH (e':=[some (.d (.int d)),some (.d (.int (m:Int))),some (.d (.lst (((List.range m).map fun (k:Nat)=>(k:Int)).map D.int))),none,none,none]) (bx (cC (oO rfl (W3 m hm)) hw hc))]
 rw[aH (e':=[some (.d (.int d)),some (.d (.int (m:Int))),some (.d (.lst (((List.range m).map fun (k:Nat)=>(k:Int)).map D.int))),some (.d (.lst [])),none,none]) (bx (Rm _))]
 rw[aH (e':=[some (.d (.int d)),some (.d (.int (m:Int))),some (.d (.lst (((List.range m).map fun (k:Nat)=>(k:Int)).map D.int))),some (.d (.lst [])),some (.d (.int (d % 2147483647))),none]) (bx (aL rfl rfl (au (by decide))))]
 rw[aH ((iC (oO rfl (W3 m hm))).trans h1)]
 rfl
end Mr
namespace Mr
open PySem Mi
open My (words oZ rP)
theorem V9(ns:List Int){e:Mi.Env}{j k:Nat}(hj:j < 8)(hk:k < 8)(e0:mV 0 e=.ok (.lst (ns.map D.int)))(e7:mV 7 e=.ok (.int (j:Int)))(e8:mV 8 e=.ok (.int (k:Int))):∃ c:Int,(aQ dU [(wD (mV 0)),(wD (m2 bQ (m2 bQ (mC (.int 4)) (m2 lu (m2 dI (mN yl [(mV 7),(mV 8)]) (m2 HY (mN yl [(mV 7),(mV 8)]) (mC (.int 1)))) (mC (.int 2)))) (mN K9 [(mV 7),(mV 8)])))]) e=.ok (.int c):=by
 have hx:mN yl [(mV 7),(mV 8)] e=.ok (.int (max (j:Int) (k:Int))):=(Pr e7 e8).trans (aaI _ _)
 have hn:mN K9 [(mV 7),(mV 8)] e=.ok (.int (min (j:Int) (k:Int))):=(Pr e7 e8).trans (aaH _ _)
 obtain⟨t1,t2,t3,t4⟩:=Z7 (a:=max (j:Int) (k:Int)) (by omega) (by omega)
 obtain⟨z,hz⟩ : ∃ z:Nat,4+max (j:Int) (k:Int) * (max (j:Int) (k:Int) - 1) / 2+min (j:Int) (k:Int)=(z:Int):=⟨(4+max (j:Int) (k:Int) * (max (j:Int) (k:Int) - 1) / 2+min (j:Int) (k:Int)).toNat,by omega⟩
 obtain⟨c,hc⟩:=uv ns z (by omega)
 refine⟨c,call2 (bT e0) (bT (aL (aL rfl (aL (aL hx (aL hx rfl rfl) (au (lF t1 t2))) rfl (au (eZ (by decide) (by decide)))) rfl) hn rfl)) ?_⟩
 rw[hz];exact hc
theorem Vc(ns:List Int)(hi:Nat)(h0:1≤hi)(h2:hi≤8) :
 ∃ names A r,pO [.d (.lst (ns.map D.int)),.d (.int (hi:Int))]=.ok (.d (bC names (A.map (arrOf names))))∧mJ names A r∧∃ (c:Int) (m:Nat),m≤8∧names=(words c m).map S':=by
 obtain⟨c0,hc0⟩:=uv ns 0 (by decide)
 obtain⟨c1,hc1⟩:=uv ns 1 (by decide)
 obtain⟨c2,hc2⟩:=uv ns 2 (by decide)
 obtain⟨c3,hc3⟩:=uv ns 3 (by decide)
 have hw:(0:Int) < (hi:Int):=by omega
 have q1:=Int.emod_nonneg c0 (b:=(hi:Int)) (by omega)
 have q2:=Int.emod_lt_of_pos c0 hw
 obtain⟨m,hm⟩ : ∃ m:Nat,1+c0 % (hi:Int)=(m:Int):=⟨(1+c0 % (hi:Int)).toNat,by omega⟩
 have hm1:1≤m:=by omega
 have hm2:m≤hi:=by omega
 have hm8:m≤8:=by omega
 obtain⟨names,hnm⟩ : ∃ names,names=(words c1 m).map S':=⟨_,rfl⟩
 have hn:=SX c1 m hm8
 rw[← hnm] at hn
 have hnl:names.length=m:=by rw[hnm,List.length_map];exact oZ c1 m
 have hnd:names.Nodup:=by rw[hnm];exact List.Pairwise.map _ (fun a b h z=>h (abi z)) (rP _ _ hm8)
 obtain⟨rs,hr,hrl⟩:=Q0 c2 m hm8
 have q3:=Int.emod_nonneg c3 (b:=6) (by decide)
 have q4:=Int.emod_lt_of_pos c3 (b:=6) (by decide)
 obtain⟨th,hth⟩ : ∃ th,gA (.lst ([4,1,2,3,2,3].map D.int)) (.int (c3 % 6))=.ok (.int th):=⟨_,zT q3 (by simp;omega)⟩
 have hrx:∀ i:Nat,i < m→gA (.lst (rs.map D.int)) (.int (i:Int))=.ok (.int (rs.getD i 0)):=fun i hi=>by
  have:=zT (cs:=rs) (i:=(i:Int)) (by omega) (by omega)
  rwa [Int.toNat_natCast] at this
 have hnx:∀ i:Nat,i < m→gA (aU names) (.int (i:Int))=.ok (.str (nth names i)):=fun i hi=>by
  have:=X4 (cs:=names) (i:=(i:Int)) (by omega) (by omega)
  rwa [Int.toNat_natCast] at this
 have inner:∀ (j:Nat) (A:List Ix) (o8 o9:Option W),j < m→good m (fun i=>rs.getD i 0) A j 0→∃ (A':List Ix) (p8 p9:Option W),tE (.n 8) (bc (bV 9 (aQ dU [(wD (mV 0)),(wD (m2 bQ (m2 bQ (mC (.int 4)) (m2 lu (m2 dI (mN yl [(mV 7),(mV 8)]) (m2 HY (mN yl [(mV 7),(mV 8)]) (mC (.int 1)))) (mC (.int 2)))) (mN K9 [(mV 7),(mV 8)])))])) (jE (nO (cB (m2 Jf (m2 gA (mV 4) (mV 7)) (m2 gA (mV 4) (mV 8)))) (cB (m2 Jf (m2 fJ (m2 lu (m2 fJ (m2 dI (mV 9) (mC (.int 48271))) (mC (.int 2147483647))) (mC (.int 16))) (mC (.int 4))) (mV 5)))) (dj 6 (mN dTup [(m2 gA (mV 3) (mV 7)),(m2 gA (mV 3) (mV 8))])) bK)) (dO 0 (m:Int)) [some (.d (.lst (ns.map D.int))),some (.d (.int (hi:Int))),some (.d (.int (m:Int))),some (.d (aU names)),some (.d (.lst (rs.map D.int))),some (.d (.int th)),some (.d (vQ names A)),some (.d (.int (j:Int))),o8,o9]=.ok (.nx [some (.d (.lst (ns.map D.int))),some (.d (.int (hi:Int))),some (.d (.int (m:Int))),some (.d (aU names)),some (.d (.lst (rs.map D.int))),some (.d (.int th)),some (.d (vQ names A')),some (.d (.int (j:Int))),p8,p9])∧good m (fun i=>rs.getD i 0) A' (j+1) 0:=by
  intro j A o8 o9 hj hg
  obtain⟨e',f1,A',p8,p9,he,hg'⟩:=gP (tg:=.n 8) (body:=(bc (bV 9 (aQ dU [(wD (mV 0)),(wD (m2 bQ (m2 bQ (mC (.int 4)) (m2 lu (m2 dI (mN yl [(mV 7),(mV 8)]) (m2 HY (mN yl [(mV 7),(mV 8)]) (mC (.int 1)))) (mC (.int 2)))) (mN K9 [(mV 7),(mV 8)])))])) (jE (nO (cB (m2 Jf (m2 gA (mV 4) (mV 7)) (m2 gA (mV 4) (mV 8)))) (cB (m2 Jf (m2 fJ (m2 lu (m2 fJ (m2 dI (mV 9) (mC (.int 48271))) (mC (.int 2147483647))) (mC (.int 16))) (mC (.int 4))) (mV 5)))) (dj 6 (mN dTup [(m2 gA (mV 3) (mV 7)),(m2 gA (mV 3) (mV 8))])) bK))) (fun k e=>∃ (A:List Ix) (o8 o9:Option W),e=[some (.d (.lst (ns.map D.int))),some (.d (.int (hi:Int))),some (.d (.int (m:Int))),some (.d (aU names)),some (.d (.lst (rs.map D.int))),some (.d (.int th)),some (.d (vQ names A)),some (.d (.int (j:Int))),o8,o9]∧good m (fun i=>rs.getD i 0) A j k)
   (dO 0 (m:Int)) 0 (fun k x e hx ⟨A,o8,o9,he,hg⟩=>by
    obtain⟨hk,rfl⟩:=vL hx
    subst he
    rw[Nat.zero_add] at hg
    obtain⟨c,hc⟩:=V9 ns (e:=[some (.d (.lst (ns.map D.int))),some (.d (.int (hi:Int))),some (.d (.int (m:Int))),some (.d (aU names)),some (.d (.lst (rs.map D.int))),some (.d (.int th)),some (.d (vQ names A)),some (.d (.int (j:Int))),some (.d (.int (k:Int))),o9]) (j:=j) (k:=k) (by omega) (by omega) rfl rfl rfl
    have c1:cB (m2 Jf (m2 gA (mV 4) (mV 7)) (m2 gA (mV 4) (mV 8))) [some (.d (.lst (ns.map D.int))),some (.d (.int (hi:Int))),some (.d (.int (m:Int))),some (.d (aU names)),some (.d (.lst (rs.map D.int))),some (.d (.int th)),some (.d (vQ names A)),some (.d (.int (j:Int))),some (.d (.int (k:Int))),some (.d (.int c))]=.ok (decide (rs.getD j 0 < rs.getD k 0)):=cz (aL (aL rfl rfl (hrx j hj)) (aL rfl rfl (hrx k hk)) rfl)
    have c2:cB (m2 Jf (m2 fJ (m2 lu (m2 fJ (m2 dI (mV 9) (mC (.int 48271))) (mC (.int 2147483647))) (mC (.int 16))) (mC (.int 4))) (mV 5)) [some (.d (.lst (ns.map D.int))),some (.d (.int (hi:Int))),some (.d (.int (m:Int))),some (.d (aU names)),some (.d (.lst (rs.map D.int))),some (.d (.int th)),some (.d (vQ names A)),some (.d (.int (j:Int))),some (.d (.int (k:Int))),some (.d (.int c))]=.ok (decide (c * 48271 % 2147483647 / 16 % 4 < th)):=cz (aL (aL (aL (aL (aL rfl rfl (au (Hq (by decide) (by decide)))) rfl (au (by decide))) rfl (au (eZ (by decide) (by decide)))) rfl (au (by decide))) rfl rfl)
    by_cases hb:rs.getD j 0 < rs.getD k 0∧c * 48271 % 2147483647 / 16 % 4 < th
    ·refine⟨[some (.d (.lst (ns.map D.int))),some (.d (.int (hi:Int))),some (.d (.int (m:Int))),some (.d (aU names)),some (.d (.lst (rs.map D.int))),some (.d (.int th)),some (.d (vQ names A)),some (.d (.int (j:Int))),some (.d (.int (k:Int))),o9],[some (.d (.lst (ns.map D.int))),some (.d (.int (hi:Int))),some (.d (.int (m:Int))),some (.d (aU names)),some (.d (.lst (rs.map D.int))),some (.d (.int th)),some (.d (vQ names (A++[(j,k)]))),some (.d (.int (j:Int))),some (.d (.int (k:Int))),some (.d (.int c))],rfl,?_,A++[(j,k)],some (.d (.int (k:Int))),some (.d (.int c)),rfl,by rw[Nat.zero_add];exact hg.add hj hk hb.1⟩
     rw[aH (e':=[some (.d (.lst (ns.map D.int))),some (.d (.int (hi:Int))),some (.d (.int (m:Int))),some (.d (aU names)),some (.d (.lst (rs.map D.int))),some (.d (.int th)),some (.d (vQ names A)),some (.d (.int (j:Int))),some (.d (.int (k:Int))),some (.d (.int c))]) (bx hc)]
     rw[pW (by unfold nO;rw[c1,aB,decide_eq_true hb.1,if_pos rfl,c2,decide_eq_true hb.2])]
     rw[Ga (d:=pairD (nth names j,nth names k)) (ds:=(A.map (arrOf names)).map pairD) (j5 (aL rfl rfl (hnx j hj)) (aL rfl rfl (hnx k hk))) rfl (by rw[List.length_map,List.length_map];have:=hg.2.2;omega)]
     show Rs.ok (Out.nx [_,_,_,_,_,_,some (W.d (D.lst ((A.map (arrOf names)).map pairD++[pairD (nth names j,nth names k)]))),_,_,_])=_
     rw[vQ,List.map_append,List.map_append];rfl
    ·refine⟨[some (.d (.lst (ns.map D.int))),some (.d (.int (hi:Int))),some (.d (.int (m:Int))),some (.d (aU names)),some (.d (.lst (rs.map D.int))),some (.d (.int th)),some (.d (vQ names A)),some (.d (.int (j:Int))),some (.d (.int (k:Int))),o9],[some (.d (.lst (ns.map D.int))),some (.d (.int (hi:Int))),some (.d (.int (m:Int))),some (.d (aU names)),some (.d (.lst (rs.map D.int))),some (.d (.int th)),some (.d (vQ names A)),some (.d (.int (j:Int))),some (.d (.int (k:Int))),some (.d (.int c))],rfl,?_,A,some (.d (.int (k:Int))),some (.d (.int c)),rfl,by rw[Nat.zero_add];exact hg.skip⟩
     rw[aH (e':=[some (.d (.lst (ns.map D.int))),some (.d (.int (hi:Int))),some (.d (.int (m:Int))),some (.d (aU names)),some (.d (.lst (rs.map D.int))),some (.d (.int th)),some (.d (vQ names A)),some (.d (.int (j:Int))),some (.d (.int (k:Int))),some (.d (.int c))]) (bx hc)]
     rw[fu (by
      unfold nO
      rw[c1,aB]
      by_cases hb1:rs.getD j 0 < rs.getD k 0
      ·rw[decide_eq_true hb1,if_pos rfl,c2,decide_eq_false fun z=>hb ⟨hb1,z⟩]
      ·rw[decide_eq_false hb1,if_neg Bool.false_ne_true])]
     rfl) _ ⟨A,o8,o9,rfl,hg⟩
  subst he
  rw[iD,Nat.zero_add] at hg'
  exact⟨A',p8,p9,f1,hg'.next hm8⟩
 obtain⟨e',f1,A,p7,p8,p9,he,hg⟩:=gP (tg:=.n 7) (body:=(mj (iR (mV 2)) (.n 8) (bc (bV 9 (aQ dU [(wD (mV 0)),(wD (m2 bQ (m2 bQ (mC (.int 4)) (m2 lu (m2 dI (mN yl [(mV 7),(mV 8)]) (m2 HY (mN yl [(mV 7),(mV 8)]) (mC (.int 1)))) (mC (.int 2)))) (mN K9 [(mV 7),(mV 8)])))])) (jE (nO (cB (m2 Jf (m2 gA (mV 4) (mV 7)) (m2 gA (mV 4) (mV 8)))) (cB (m2 Jf (m2 fJ (m2 lu (m2 fJ (m2 dI (mV 9) (mC (.int 48271))) (mC (.int 2147483647))) (mC (.int 16))) (mC (.int 4))) (mV 5)))) (dj 6 (mN dTup [(m2 gA (mV 3) (mV 7)),(m2 gA (mV 3) (mV 8))])) bK)))) (fun j e=>∃ (A:List Ix) (o7 o8 o9:Option W),e=[some (.d (.lst (ns.map D.int))),some (.d (.int (hi:Int))),some (.d (.int (m:Int))),some (.d (aU names)),some (.d (.lst (rs.map D.int))),some (.d (.int th)),some (.d (vQ names A)),o7,o8,o9]∧good m (fun i=>rs.getD i 0) A j 0)
  (dO 0 (m:Int)) 0 (fun j x e hx ⟨A,o7,o8,o9,he,hg⟩=>by
   obtain⟨hj,rfl⟩:=vL hx
   subst he
   rw[Nat.zero_add] at hg
   obtain⟨A',p8,p9,f1,hg'⟩:=inner j A o8 o9 hj hg
   exact⟨_,_,rfl,(iC (oO rfl (W3 m hm8))).trans f1,A',_,p8,p9,rfl,by rw[Nat.zero_add];exact hg'⟩)
  [some (.d (.lst (ns.map D.int))),some (.d (.int (hi:Int))),some (.d (.int (m:Int))),some (.d (aU names)),some (.d (.lst (rs.map D.int))),some (.d (.int th)),some (.d (.lst [])),none,none,none] ⟨[],none,none,none,rfl,List.Pairwise.nil,fun p hp=>absurd hp (by simp),Nat.zero_le _⟩
 subst he
 rw[iD,Nat.zero_add] at hg
 refine⟨names,A,fun i=>rs.getD i 0,?_,⟨hnd,by omega,by omega,hg.1,fun p hp=>?_,by have:=hg.2.2;omega⟩,c1,m,hm8,hnm⟩
 ·unfold pO FN
  rw[zB]
  rw[show ((0:Nat):Int)=0 from rfl] at hc0
  rw[show ((1:Nat):Int)=1 from rfl] at hc1
  rw[show ((2:Nat):Int)=2 from rfl] at hc2
  rw[show ((3:Nat):Int)=3 from rfl] at hc3
  rw[aH (e':=[some (.d (.lst (ns.map D.int))),some (.d (.int (hi:Int))),some (.d (.int (m:Int))),none,none,none,none,none,none,none]) (bx (d:=.int (m:Int)) ((aL rfl (aL (call2 rfl rfl hc0) rfl (au hw)) rfl).trans (by rw[Dj,hm])))]
  rw[aH (e':=[some (.d (.lst (ns.map D.int))),some (.d (.int (hi:Int))),some (.d (.int (m:Int))),some (.d (aU names)),none,none,none,none,none,none]) (bx (call2 (bT (call2 rfl rfl hc1)) rfl hn))]
  rw[aH (e':=[some (.d (.lst (ns.map D.int))),some (.d (.int (hi:Int))),some (.d (.int (m:Int))),some (.d (aU names)),some (.d (.lst (rs.map D.int))),none,none,none,none,none]) (bx (call2 (bT (call2 rfl rfl hc2)) rfl hr))]
  have hl6:mN oR [(mC (.int 4)),(mC (.int 1)),(mC (.int 2)),(mC (.int 3)),(mC (.int 2)),(mC (.int 3))] [some (.d (.lst (ns.map D.int))),some (.d (.int (hi:Int))),some (.d (.int (m:Int))),some (.d (aU names)),some (.d (.lst (rs.map D.int))),none,none,none,none,none]=.ok (.lst ([4,1,2,3,2,3].map D.int)):=by
   show aO (([4,1,2,3,2,3].map D.int).length≤16777216) _=_
   exact au (by simp)
  rw[aH (e':=[some (.d (.lst (ns.map D.int))),some (.d (.int (hi:Int))),some (.d (.int (m:Int))),some (.d (aU names)),some (.d (.lst (rs.map D.int))),some (.d (.int th)),none,none,none,none]) (bx (aL hl6 (aL (call2 rfl rfl hc3) rfl (au (by decide))) hth))]
  rw[aH (e':=[some (.d (.lst (ns.map D.int))),some (.d (.int (hi:Int))),some (.d (.int (m:Int))),some (.d (aU names)),some (.d (.lst (rs.map D.int))),some (.d (.int th)),some (.d (.lst [])),none,none,none]) (bx (Rm _))]
  rw[aH ((iC (oO rfl (W3 m hm8))).trans f1)]
  rw[dZ (bT (j5 (x:=gJ names) (y:=iU (A.map (arrOf names))) (km (x:=aU names) rfl) (km (x:=vQ names A) rfl)))]
  rfl
 ·obtain⟨a,b,c,_⟩:=hg.2.1 p hp
  exact⟨by omega,by omega,c⟩
end Mr
namespace Mr
open PySem Mi
end Mr
namespace Mr
open PySem Mi
inductive Rch(ak:List Ar)(x:Str):Str→Prop
 | refl:Rch ak x x
 | step {y z:Str}:Rch ak x y→(y,z)∈ak→Rch ak x z
end Mr
namespace Mr
open PySem Mi
noncomputable def rch (ak:List Ar) (x y:Str):Bool:=@decide (Rch ak x y) (Classical.propDecidable _)
noncomputable def ad7 (names:List Str) (ak:List Ar) (x:Str):List Str:=names.filter (rch ak x)
def RN(fs:List Str):W:=.dk (fs.map fun y=>((Sum.inr y:Ky),D.bl true))
theorem adw(fs:List Str)(y:Str):(uz (fs.map fun y=>((Sum.inr y:Ky),D.bl true)) (Sum.inr y)).isSome=decide (y∈fs):=by
 unfold uz
 induction fs with
 | nil=>rfl
 | cons a r ih =>
  rw[List.map_cons,List.find?_cons]
  by_cases h:a=y
  ·subst h;simp
  ·rw[decide_eq_false (fun z:(Sum.inr a:Ky)=Sum.inr y=>h (Sum.inr.inj z))]
   simp only[ih]
   rw[decide_eq_decide]
   exact⟨fun z=>List.mem_cons_of_mem _ z,fun z=>by
    rcases List.mem_cons.mp z with z|z
    ·exact absurd z.symm h
    ·exact z⟩
theorem acQ{i:Nat}{k:E}{e:Mi.Env}{fs:List Str}{y:Str}(hk:k e=.ok (.str y))(hw:wV i e=.ok (RN fs)):j7 i k e=.ok (.bl (decide (y∈fs))):=by
 unfold j7;rw[hk,aB,hw,aB,← adw];rfl
theorem aa0{i:Nat}{k:E}{e:Mi.Env}{fs:List Str}{y:Str}(hk:k e=.ok (.str y))(hw:wV i e=.ok (RN fs))(hn:y∉fs)(hl:fs.length≤1000):gK i k (mC (.bl true)) e=.ok (.nx (e.set i (some (RN (fs++[y]))))):=by
 unfold gK
 have h1:RQ (RN fs) (.str y) (.bl true)=.ok (RN (fs++[y])):=by
  show aO ((fs.map fun y=>((Sum.inr y:Ky),D.bl true)).length < 16777216) ((uC (RT (.str y))).bind fun k=>Rs.ok (W.dk (Mi.putK k (.bl true) (fs.map fun y=>((Sum.inr y:Ky),D.bl true)))))=_
  rw[au (by rw[List.length_map];omega)]
  show Rs.ok (W.dk (Mi.putK (Sum.inr y:Ky) (.bl true) (fs.map fun y=>((Sum.inr y:Ky),D.bl true))))=_
  unfold Mi.putK
  rw[if_neg (by
   rw[List.any_map,Bool.not_eq_true,List.any_eq_false]
   intro z hz
   simp only[Function.comp,decide_eq_true_eq]
   exact fun q=>hn (Sum.inr.inj q ▸ hz))]
  unfold RN
  rw[List.map_append];rfl
 show (k e).bind _=_
 rw[hk,aB,hw,aB,h1];rfl
end Mr
namespace Mr
open PySem Mi
noncomputable def hb (names:List Str) (ak:List Ar) (held:List Str) (x:Str):Bool:=(ad7 names ak x).any fun y=>decide (y∈held)
end Mr
namespace Mr
open PySem Mi
abbrev Sq:=Str×Str×Str
def fO(t:Sq):D:=.tup [.str t.1,.str t.2.1,.str t.2.2]
theorem Lh(ak:List Ar)(p:Ar):((ak.map pairD).any fun e=>cX e (pairD p))=decide (p∈ak):=by
 induction ak with
 | nil=>rfl
 | cons q r ih =>
  rw[List.map_cons,List.any_cons,ih]
  have:cX (pairD q) (pairD p)=decide (q=p):=by
   unfold pairD
   rw[cX,pI,pI,pI,sJ,sJ]
   obtain⟨a,b⟩:=q
   obtain⟨c,d⟩:=p
   by_cases h1:a=c<;>by_cases h2:b=d<;>simp[h1,h2]
  rw[this]
  by_cases h:q=p
  ·simp[h]
  ·have h2:¬ p=q:=fun z=>h z.symm
   simp[h,h2]
theorem yf:∀ ak:List Ar,cU (ak.map pairD)≤1
 | []=>by simp
 | p::r=>by
  have:=yf r
  rw[List.map_cons,yO]
  have h:(pairD p).dep=1:=by simp[pairD]
  omega
theorem wM(ak:List Ar)(p:Ar):Ie (pairD p) (iU ak)=.ok (.bl (decide (p∈ak))):=by
 show aO _ _=_
 rw[au (by have:=yf ak;omega),Lh]
end Mr
namespace Mr
open PySem Mi
def Rk(ak:List Ar):Prop:=∃ r:Str→Int,∀ p∈ak,r p.1 < r p.2
def NZ(ak:List Ar)(a m b:Str):Bool:=(decide ((a,m)∈ak) && decide ((b,m)∈ak)) && !(decide ((a,b)∈ak) || decide ((b,a)∈ak))
theorem KY(ak:List Ar)(a m b:Str):NZ ak a m b=NZ ak b m a:=by
 unfold NZ
 rw[Bool.and_comm (decide ((a,m)∈ak)),Bool.or_comm (decide ((a,b)∈ak))]
theorem zY{ak:List Ar}{a m b:Str}:NZ ak a m b=true↔(a,m)∈ak∧(b,m)∈ak∧¬ (a,b)∈ak∧¬ (b,a)∈ak:=by
 unfold NZ
 simp[and_assoc]
def jb(names:List Str)(ak:List Ar):List Sq :=
 (List.range names.length).flatMap fun k=>names.flatMap fun m=>((names.drop (k+1)).filter fun b=>NZ ak (nth names k) m b).map fun b=>(nth names k,m,b)
theorem pM{names:List Str}{ak:List Ar}{a m b:Str}:(a,m,b)∈jb names ak↔∃ k,k < names.length∧a=nth names k∧m∈names∧b∈names.drop (k+1)∧NZ ak a m b=true:=by
 unfold jb
 simp only[List.mem_flatMap,List.mem_map,List.mem_filter,List.mem_range,Prod.mk.injEq]
 constructor
 ·rintro ⟨k,hk,m',hm,b',⟨hb,hc⟩,rfl,rfl,rfl⟩
  exact⟨k,hk,rfl,hm,hb,hc⟩
 ·rintro ⟨k,hk,rfl,hm,hb,hc⟩
  exact⟨k,hk,m,hm,b,⟨hb,hc⟩,rfl,rfl,rfl⟩
theorem jT{α β : Type}{f g:α→List β}:∀ {l:List α},(∀ x∈l,f x=g x)→l.flatMap f=l.flatMap g
 | [],_=>rfl
 | x::r,h=>by rw[List.flatMap_cons,List.flatMap_cons,h x List.mem_cons_self,jT fun y hy=>h y (List.mem_cons_of_mem _ hy)]
theorem JX{names:List Str}{i j:Nat}(h:i < j)(hj:j < names.length):nth names j∈names.drop (i+1):=by
 refine List.mem_iff_getElem?.mpr ⟨j - (i+1),?_⟩
 rw[List.getElem?_drop,show i+1+(j - (i+1))=j by omega]
 unfold nth
 rw[List.getD_eq_getElem?_getD,List.getElem?_eq_getElem hj];rfl
theorem zV{names:List Str}(nd:names.Nodup){k:Nat}(hk:k < names.length){b:Str}(hb:b∈names.drop (k+1)):b∈names∧nth names k≠b:=by
 obtain⟨i,hi⟩:=List.mem_iff_getElem?.mp hb
 rw[List.getElem?_drop] at hi
 have hl:k+1+i < names.length:=by
  rcases Nat.lt_or_ge (k+1+i) names.length with z|z
  ·exact z
  ·rw[List.getElem?_eq_none z] at hi;cases hi
 have e:b=nth names (k+1+i):=by
  unfold nth
  rw[List.getD_eq_getElem?_getD,hi];rfl
 rw[e]
 exact⟨oA hl,fun z=>by have:=jt nd hk hl z;omega⟩
end Mr
namespace Mr
open PySem Mi
end Mr
namespace Mr
open PySem Mi
end Mr
namespace Mr
open PySem Mi
def tie(ak:List Ar)(a b:Str):Bool:=decide ((a,b)∈ak) || decide ((b,a)∈ak)
end Mr
namespace Mr
open PySem Mi
end Mr
namespace Mr
open PySem Mi
def sw(t:Sq):Sq:=(t.2.2,t.2.1,t.1)
theorem jC(n:Nat)(x:Str):bw (n+1) [.d (.str x),.d (.str x)]=.ok (.d (.bl true)):=by
 show vH 2 4 (qg (bw n)) _=_
 unfold qg
 rw[zB]
 have c0:Fp (cB (m1 (yZ ["str"]) (mV 1))) (cB (m1 (yZ ["int"]) (mV 1))) [some (.d (.str x)),some (.d (.str x)),none,none]=.ok true:=rfl
 have c1:Fp (cB (m2 KD (m1 (yZ ["bool"]) (mV 0)) (m1 (yZ ["bool"]) (mV 1)))) (cB (m2 KD (m1 (yZ ["str"]) (mV 0)) (m1 (yZ ["str"]) (mV 1)))) [some (.d (.str x)),some (.d (.str x)),none,none]=.ok false:=rfl
 have c2:DX (m1 (yZ ["int", "str"]) (mV 0)) (m2 Jg (mV 0) (mV 1)) [some (.d (.str x)),some (.d (.str x)),none,none]=.ok (.bl true):=by
  show m2 Jg (mV 0) (mV 1) [some (.d (.str x)),some (.d (.str x)),none,none]=_
  exact(aL rfl rfl rfl).trans ((zX x x).trans (by rw[decide_eq_true rfl]))
 exact(congrArg (fun r=>Rs.bind r wJ) (An ((pW c0).trans ((aH ((fu c1).trans rfl)).trans (dZ (bT c2)))))).trans rfl
theorem M4{a:E}{e:Mi.Env}(h:a e=.ok (.bl true)):jf (cB a) e=.ok false:=by unfold jf;rw[cz h];rfl
end Mr
namespace Mr
open PySem Mi
theorem wU{a b:C}{e:Mi.Env}{p q:Bool}(ha:a e=.ok p)(hb:p=true→b e=.ok q):nO a b e=.ok (p && q):=by
 unfold nO;rw[ha,aB]
 cases p with
 | true=>rw[if_pos rfl,hb rfl];rfl
 | false=>rfl
theorem CJ{a b:C}{e:Mi.Env}{p q:Bool}(ha:a e=.ok p)(hb:p=false→b e=.ok q):Fp a b e=.ok (p || q):=by
 unfold Fp;rw[ha,aB]
 cases p with
 | true=>rfl
 | false=>rw[if_neg Bool.false_ne_true,hb rfl];rfl
theorem lJ{a:C}{e:Mi.Env}{p:Bool}(ha:a e=.ok p):jf a e=.ok (!p):=by unfold jf;rw[ha];rfl
theorem wy{a b:E}{e:Mi.Env}{p q:Bool}(ha:a e=.ok (.bl p))(hb:p=true→b e=.ok (.bl q)):DX a b e=.ok (.bl (p && q)):=by
 unfold DX;rw[ha,aB,xg,aB]
 cases p with
 | true=>rw[if_pos rfl,hb rfl];rfl
 | false=>rfl
theorem aaK{a b:E}{e:Mi.Env}{p q:Bool}(ha:a e=.ok (.bl p))(hb:p=false→b e=.ok (.bl q)):mOr a b e=.ok (.bl (p || q)):=by
 unfold mOr;rw[ha,aB,xg,aB]
 cases p with
 | true=>rfl
 | false=>rw[if_neg Bool.false_ne_true,hb rfl];rfl
theorem Iu{i:Nat}{c:C}{a:E}{e:Mi.Env}{ds:List D}{d:D}{p:Bool}(hc:c e=.ok p)(ha:p=true→a e=.ok d)(hg:getL e i=.ok ds)(hl:ds.length+(if p then [d] else []).length≤16777216)(hs:e.set i (some (.d (.lst ds)))=e) :
 jE c (dj i a) bK e=.ok (.nx (putL e i (ds++if p then [d] else []))):=by
 cases p with
 | true=>rw[pW hc,Ga (ha rfl) hg (by simp at hl;omega)];rfl
 | false =>
  rw[fu hc]
  simp only[Bool.false_eq_true,if_false,List.append_nil,putL]
  rw[hs];rfl
theorem Pq{f:List D→Rs D}{a b c:E}{e:Mi.Env}{x y z:D}(h:a e=.ok x)(h':b e=.ok y)(h'':c e=.ok z):mN f [a,b,c] e=f [x,y,z]:=by unfold mN;rw[fV,h,aB,fV,h',aB,fV,h''];rfl
theorem GZ{f:D→Option Int→Option Int→Rs D}{a b:E}{e:Mi.Env}{x:D}{i:Int}(h:a e=.ok x)(h':b e=.ok (.int i)):gq f a (some b) none e=f x (some i) none:=by unfold gq;rw[h,aB,show pQ (some b) e=.ok (some i) from by rw[pQ,h'];rfl];rfl
theorem GR{f:D→Option Int→Option Int→Rs D}{a b:E}{e:Mi.Env}{x:D}{i:Int}(h:a e=.ok x)(h':b e=.ok (.int i)):gq f a none (some b) e=f x none (some i):=by unfold gq;rw[h,aB,show pQ (some b) e=.ok (some i) from by rw[pQ,h'];rfl];rfl
theorem wI{α : Type}{tg:Tg}{body:S}(f:α→D)(g:α→List D)(St:List D→Mi.Env→Prop):∀ (xs:List α) (acc:List D) (e:Mi.Env),acc.length+(xs.flatMap g).length≤16777216→St acc e →
 (∀ x∈xs,∀ acc e,acc.length+(g x).length≤16777216→St acc e→∃ e1 e2,tg.put (f x) e=.ok e1∧body e1=.ok (.nx e2)∧St (acc++g x) e2) →
 ∃ e',tE tg body (xs.map f) e=.ok (.nx e')∧St (acc++xs.flatMap g) e'
 | [],acc,e,_,h,_=>⟨e,rfl,by simpa using h⟩
 | x::r,acc,e,hl,h,hs=>by
  rw[List.flatMap_cons,List.length_append] at hl
  obtain⟨e1,e2,h1,h2,h3⟩:=hs x List.mem_cons_self acc e (by omega) h
  obtain⟨e',h4,h5⟩:=wI f g St r (acc++g x) e2 (by rw[List.length_append];omega) h3 fun y hy=>hs y (List.mem_cons_of_mem _ hy)
  refine⟨e',?_,by rw[List.flatMap_cons,← List.append_assoc];exact h5⟩
  rw[List.map_cons,tE,h1,aB,h2,aB]
  exact h4
theorem jQ{α β γ : Type}(f:β→γ)(g:α→List β):∀ l:List α,(l.flatMap g).map f=l.flatMap fun x=>(g x).map f
 | []=>rfl
 | x::r=>by rw[List.flatMap_cons,List.map_append,jQ f g r,List.flatMap_cons]
theorem tG{α β : Type}{g:α→List β}{m:Nat}:∀ {l:List α},(∀ x∈l,(g x).length≤m)→(l.flatMap g).length≤l.length * m
 | [],_=>by simp
 | x::r,h=>by
  have ih:=tG (l:=r) fun y hy=>h y (List.mem_cons_of_mem _ hy)
  have h1:=h x List.mem_cons_self
  rw[List.flatMap_cons,List.length_append,List.length_cons,Nat.add_mul]
  omega
def gQ(ak:List Ar):D:=.lst (ak.map pairD)
theorem qQ(ak:List Ar)(p:Ar):gh (pairD p) (gQ ak)=.ok (.bl (!decide (p∈ak))):=by
 show aO _ _=_
 rw[au (Nat.le_trans (yf ak) (by decide)),Lh]
theorem Cm(names:List Str):uO 0 (names.map D.str)=(List.range names.length).map fun k=>D.tup [.int (k:Nat),.str (nth names k)]:=by
 have key:∀ (ns:List Str) (j:Nat),uO j (ns.map D.str)=(List.range ns.length).map fun k=>D.tup [.int ((j+k:Nat):Int),.str (nth ns k)]:=fun ns=>by
  induction ns with
  | nil=>exact fun _=>rfl
  | cons x r ih =>
   intro j
   rw[List.map_cons,uO,ih,List.length_cons,List.range_succ_eq_map,List.map_cons,List.map_map]
   congr 1
   refine List.map_congr_left fun k _=>?_
   show D.tup [.int ((j+1+k:Nat):Int),_]=D.tup [.int ((j+(k+1):Nat):Int),_]
   rw[show j+1+k=j+(k+1) by omega];rfl
 rw[key names 0]
 refine List.map_congr_left fun k _=>?_
 rw[Nat.zero_add]
theorem KZ{names:List Str}(hn:names.length≤8)(ak:List Ar):(jb names ak).length≤512:=by
 unfold jb
 refine Nat.le_trans (tG (m:=64) fun k _=>?_) (by rw[List.length_range];omega)
 refine Nat.le_trans (tG (m:=8) fun m _=>?_) (by omega)
 rw[List.length_map]
 refine Nat.le_trans (List.length_filter_le _ _) ?_
 rw[List.length_drop];omega
end Mr
namespace Mr
open PySem Mi
structure Nt(names:List Str)(ak:List Ar):Prop where
 nd:names.Nodup
 le:names.length≤8
 al:ak.length≤64
 inn:∀ p∈ak,p.1∈names∧p.2∈names
 rk:Rk ak
end Mr
namespace Mr
open PySem Mi
def v5(names:List Str)(ak:List Ar):List Ar:=names.flatMap fun t=>(names.filter fun h=>decide ((t,h)∈ak)).map fun h=>(t,h)
theorem zM{names:List Str}{ak:List Ar}{p:Ar}:p∈v5 names ak↔p∈ak∧p.1∈names∧p.2∈names:=by
 obtain⟨a,b⟩:=p
 unfold v5
 simp only[List.mem_flatMap,List.mem_map,List.mem_filter,decide_eq_true_eq,Prod.mk.injEq]
 constructor
 ·rintro ⟨t,ht,h,⟨h1,h2⟩,rfl,rfl⟩
  exact⟨h2,ht,h1⟩
 ·rintro ⟨h1,h2,h3⟩
  exact⟨a,h2,b,⟨h3,h1⟩,rfl,rfl⟩
theorem O1{names:List Str}(hn:names.length≤8)(ak:List Ar):(v5 names ak).length≤64:=by
 unfold v5
 refine Nat.le_trans (tG (m:=8) fun t _=>?_) (by omega)
 rw[List.length_map]
 exact Nat.le_trans (List.length_filter_le _ _) hn
end Mr
namespace Mr
open PySem Mi
theorem Ji:∀ ds:List D,qb ds ds=ds.map fun d=>D.tup [d,d]
 | []=>rfl
 | d::r=>by rw[qb,Ji r];rfl
def sq(k:Bool)(ds:List D):D:=if k then .lst ds else .tup ds
theorem tR{F:Fn}(k:Bool)(ds:List D)(h:∀ d∈ds,F [.d d,.d d]=.ok (.d (.bl true))):vH 2 4 (qg F) [.d (sq k ds),.d (sq k ds)]=.ok (.d (.bl true)):=by
 unfold qg
 rw[zB]
 have c0:Fp (cB (m1 (yZ ["str"]) (mV 1))) (cB (m1 (yZ ["int"]) (mV 1))) [some (.d (sq k ds)),some (.d (sq k ds)),none,none]=.ok false:=by cases k<;>rfl
 have c1:Fp (cB (m2 KD (m1 (yZ ["list"]) (mV 0)) (m1 (yZ ["list"]) (mV 1)))) (jf (cB (m1 (yZ ["list", "tuple"]) (mV 0)))) [some (.d (sq k ds)),some (.d (sq k ds)),none,none]=.ok false:=by cases k<;>rfl
 have c2:cB (m2 KD (mN mY [(mV 0)]) (mN mY [(mV 1)])) [some (.d (sq k ds)),some (.d (sq k ds)),none,none]=.ok false:=by
  cases k<;>exact cz ((aL rfl rfl rfl).trans ((Yq _ _).trans (by rw[decide_eq_true rfl];rfl)))
 obtain⟨e',f1,o2,o3,he⟩:=gP (tg:=.t [2,3]) (body:=(jE (jf (cB (aQ F [(wD (mV 2)),(wD (mV 3))]))) (c7 (wD (mC (.bl false)))) bK))
  (fun i e=>∃ o2 o3:Option W,e=[some (.d (sq k ds)),some (.d (sq k ds)),o2,o3]) (ds.map fun d=>D.tup [d,d]) 0 (fun i d e hi ⟨o2,o3,he⟩=>by
   subst he
   rw[List.getElem?_map] at hi
   obtain⟨x,hx,rfl⟩:=Option.map_eq_some_iff.mp hi
   have ct:jf (cB (aQ F [(wD (mV 2)),(wD (mV 3))])) [some (.d (sq k ds)),some (.d (sq k ds)),some (.d x),some (.d x)]=.ok false:=M4 (call2 rfl rfl (h x (List.mem_of_getElem? hx)))
   exact⟨[some (.d (sq k ds)),some (.d (sq k ds)),some (.d x),some (.d x)],_,rfl,(fu ct).trans rfl,_,_,rfl⟩) [some (.d (sq k ds)),some (.d (sq k ds)),none,none] ⟨none,none,rfl⟩
 subst he
 have hit:Nh (mV 0) (mV 1) [some (.d (sq k ds)),some (.d (sq k ds)),none,none]=.ok (ds.map fun d=>D.tup [d,d]):=by rw[← Ji];cases k<;>rfl
 exact(congrArg (fun r=>Rs.bind r wJ) ((aH ((fu c0).trans rfl)).trans ((aH ((fu c1).trans rfl)).trans ((aH ((fu c2).trans rfl)).trans ((aH ((iC hit).trans f1)).trans (dZ (bT rfl))))))).trans rfl
theorem Oj(n:Nat)(p:Ar):bw (n+2) [.d (pairD p),.d (pairD p)]=.ok (.d (.bl true)) :=
 tR (F:=bw (n+1)) false [.str p.1,.str p.2] fun d hd=>by
  rcases List.mem_cons.mp hd with rfl|hd
  ·exact jC n _
  ·rw[List.mem_singleton.mp hd];exact jC n _
end Mr
namespace Mr
open PySem Mi
theorem wz:∀ a b:List Int,nG a b=true→nG b a=true→False
 | [],[],h,_=>by cases h
 | [],_::_,_,h=>by cases h
 | _::_,[],h,_=>by cases h
 | a::r,b::t,h,k=>by
  rw[nG] at h k
  by_cases e:a=b
  ·subst e
   rw[if_pos (beq_self_eq_true a)] at h k
   exact wz r t h k
  ·rw[if_neg (by simpa using e)] at h
   rw[if_neg (by simpa using Ne.symm e)] at k
   simp at h k;omega
theorem BL{a b:Int}{r t:List Int}(h:a < b):nG (a::r) (b::t)=true:=by
 rw[nG,if_neg (by simp;omega)]
 simpa using h
theorem zQ{a:Int}{r t:List Int}:nG (a::r) (a::t)=nG r t:=by
 rw[nG,if_pos (beq_self_eq_true a)]
section
variable{α : Type}(key:α→List Int)
theorem Ey:∀ {a b:List α},(∀ x,x∈a↔x∈b)→a.Pairwise (fun x y=>nG (key x) (key y)=true)→b.Pairwise (fun x y=>nG (key x) (key y)=true)→a=b
 | [],[],_,_,_=>rfl
 | [],y::t,h,_,_=>absurd ((h y).mpr List.mem_cons_self) (by simp)
 | x::r,[],h,_,_=>absurd ((h x).mp List.mem_cons_self) (by simp)
 | x::r,y::t,h,ha,hb=>by
  have ha':=List.pairwise_cons.mp ha
  have hb':=List.pairwise_cons.mp hb
  have e:x=y:=by
   rcases List.mem_cons.mp ((h x).mp List.mem_cons_self) with z|z
   ·exact z
   ·rcases List.mem_cons.mp ((h y).mpr List.mem_cons_self) with z2|z2
    ·exact z2.symm
    ·exact(wz _ _ (hb'.1 x z) (ha'.1 y z2)).elim
  subst e
  have nr:x∉r:=fun z=>wz _ _ (ha'.1 x z) (ha'.1 x z)
  have nt:x∉t:=fun z=>wz _ _ (hb'.1 x z) (hb'.1 x z)
  rw[Ey (a:=r) (b:=t) (fun z=>⟨fun hz=>?_,fun hz=>?_⟩) ha'.2 hb'.2]
  ·rcases List.mem_cons.mp ((h z).mp (List.mem_cons_of_mem _ hz)) with q|q
   ·exact absurd (q ▸ hz) nr
   ·exact q
  ·rcases List.mem_cons.mp ((h z).mpr (List.mem_cons_of_mem _ hz)) with q|q
   ·exact absurd (q ▸ hz) nt
   ·exact q
theorem Q6{kz:List (List Int)}(nd:kz.Nodup):(zq kz kz.length).Perm (List.range kz.length)∧(zq kz kz.length).Pairwise (fun i j=>nG (kz.getD i []) (kz.getD j [])=true):=by
 have O:=So.Hs nd
 have e:zq kz kz.length=sortI (So.XJ kz) (List.range kz.length):=by
  unfold zq So.XJ
  congr 1
  funext i j
  exact(So.Ht _ _).symm
 rw[e]
 refine⟨So.pD _ _,(So.rT O (fun x hx=>by simpa using hx) List.nodup_range).imp fun {i j} h=>?_⟩
 rw[← So.Ht];exact h
theorem QT[Inhabited α](f:α→D){xs ys:List α}(nd:(xs.map key).Nodup)(hm:∀ a,a∈xs↔a∈ys)(hs:ys.Pairwise fun a b=>nG (key a) (key b)=true):sortBy (xs.map key) (xs.map f)=ys.map f:=by
 obtain⟨h1,h2⟩:=Q6 nd
 rw[List.length_map] at h1 h2
 have lt:∀ i∈zq (xs.map key) xs.length,i < xs.length:=fun i hi=>by simpa using h1.mem_iff.mp hi
 have gd:∀ i,i < xs.length→∀ (β : Type) (g:α→β) (d:β),(xs.map g).getD i d=g (xs.getD i default):=fun i hi β g d=>by simp[hi]
 have e:sortBy (xs.map key) (xs.map f)=((zq (xs.map key) xs.length).map fun i=>xs.getD i default).map f:=by
  unfold sortBy
  rw[List.length_map,List.map_map]
  exact List.map_congr_left fun i hi=>gd i (lt i hi) _ f _
 have e2 : ((zq (xs.map key) xs.length).map fun i => xs.getD i default) = ys := by
  refine Ey key (fun a=>?_) ?_ hs
  ·rw[← hm a,List.mem_map]
   constructor
   ·rintro ⟨i,hi,rfl⟩
    have:=lt i hi
    rw[List.getD_eq_getElem?_getD,List.getElem?_eq_getElem this]
    exact List.getElem_mem this
   ·intro ha
    obtain⟨i,hi,rfl⟩:=List.getElem_of_mem ha
    exact⟨i,h1.mem_iff.mpr (List.mem_range.mpr hi),by simp[hi]⟩
  ·rw[List.pairwise_map]
   refine h2.imp_of_mem fun {i j} hi hj h=>?_
   rw[gd i (lt i hi) _ key,gd j (lt j hj) _ key] at h
   exact h
 rw[e,e2]
end
theorem Lf:∀ l:List Int,Dh (l.map D.int)=some l
 | []=>rfl
 | i::r=>by rw[List.map_cons,Dh,Lf r];rfl
theorem PK{α : Type}{ρ : List Nat}{kf:E}{e:Mi.Env}(f:α→D)(key:α→List Int):∀ {xs:List α},(∀ x∈xs,kf (Hw ρ e (f x))=.ok (.lst ((key x).map D.int)))→pR ρ kf e (xs.map f)=.ok (xs.map key)
 | [],_=>rfl
 | x::r,h=>by
  rw[List.map_cons,pR,h x List.mem_cons_self,aB,Le,Lf,ik,aB,PK f key fun y hy=>h y (List.mem_cons_of_mem _ hy)]
  rfl
def ky(names row:List Str):List Int:=row.map fun x=>((names.idxOf x:Nat):Int)
theorem YJ(names:List Str):YK (gJ names)=some names:=tQ names
theorem JB{α : Type}[Inhabited α]{names:List Str}{nx:D}(hq:YK nx=some names)(hn:names.length≤1000)(row:α→List Str){xs ys:List α}(hr:∀ x∈xs,(row x).length≤1000∧∀ y∈row x,y∈names)(h64:xs.length < 64)(nd:(xs.map fun x=>ky names (row x)).Nodup)
 (hm:∀ a,a∈xs↔a∈ys) (hs:ys.Pairwise fun a b=>nG (ky names (row a)) (ky names (row b))=true) :
 bN [.d nx,.d (.lst (xs.map fun x=>.tup ((row x).map D.str)))]=.ok (.d (.lst (ys.map fun x=>.tup ((row x).map D.str)))):=by
 unfold bN uP
 rw[Yk]
 rw[show ([some (W.d nx),some (W.d (.lst (xs.map fun x=>.tup ((row x).map D.str))))]++List.replicate (2 - 2) none)=[some (W.d nx),some (W.d (.lst (xs.map fun x=>.tup ((row x).map D.str))))] from rfl]
 have hk:pR [0] (cF [some 1,none] (lY (mV 0)) (.n 1) dX (m2 NB (mV 0) (mV 1))) [some (W.d nx),some (W.d (.lst (xs.map fun x=>.tup ((row x).map D.str))))] (xs.map fun x=>.tup ((row x).map D.str))=.ok (xs.map fun x=>ky names (row x)) :=
  PK (fun x=>.tup ((row x).map D.str)) (fun x=>ky names (row x)) fun x hx=>by
   have hc:dJ (.n 1) dX (m2 NB (mV 0) (mV 1)) [some (W.d nx),none] ((row x).map D.str)=.ok (((row x).filter fun _=>true).map fun y=>D.int ((names.idxOf y:Nat):Int)) :=
    cu D.str (fun y=>D.int ((names.idxOf y:Nat):Int)) (fun _=>true) (row x) fun y hy=>⟨[some (W.d nx),some (W.d (.str y))],rfl,rfl,fun _=>aL (x:=nx) (y:=.str y) rfl rfl (by
     show ((uC (YK nx)).bind fun ys=>aO (y∈ys∧ys.length≤1000) (Rs.ok (D.int ((ys.idxOf y:Nat):Int))))=_
     rw[hq,ik,aB]
     exact au ⟨(hr x hx).2 y hy,hn⟩)⟩
   have hm:=cC (ρ:=[some 1,none]) (e:=Hw [0] [some (W.d nx),some (W.d (.lst (xs.map fun x=>.tup ((row x).map D.str))))] (.tup ((row x).map D.str))) (cR (a:=mV 0) (x:=.tup ((row x).map D.str)) rfl rfl) (by rw[List.length_map];have:=(hr x hx).1;omega) hc
   rw[hm,List.filter_eq_self.mpr (fun _ _=>rfl)]
   show Rs.ok (D.lst _)=Rs.ok (D.lst ((ky names (row x)).map D.int))
   unfold ky
   rw[List.map_map];rfl
 have hS:Hr [0] (mV 1) (cF [some 1,none] (lY (mV 0)) (.n 1) dX (m2 NB (mV 0) (mV 1))) [some (W.d nx),some (W.d (.lst (xs.map fun x=>.tup ((row x).map D.str))))]=.ok (.lst (ys.map fun x=>.tup ((row x).map D.str))):=by
  unfold Hr
  rw[show mV 1 [some (W.d nx),some (W.d (.lst (xs.map fun x=>.tup ((row x).map D.str))))]=.ok (.lst (xs.map fun x=>.tup ((row x).map D.str))) from rfl,aB]
  rw[show Ff (.lst (xs.map fun x=>.tup ((row x).map D.str)))=.ok (xs.map fun x=>.tup ((row x).map D.str)) from rfl,aB,au (by rw[List.length_map];exact h64),hk,aB,au nd,QT (fun x=>ky names (row x)) _ nd hm hs]
 rw[dZ (bT hS)];rfl
theorem O4{α : Type}[Inhabited α]{names:List Str}(hn:names.length≤1000)(row:α→List Str){xs ys:List α}(hr:∀ x∈xs,(row x).length≤1000∧∀ y∈row x,y∈names)(h64:xs.length < 64)(nd:(xs.map fun x=>ky names (row x)).Nodup)
 (hm:∀ a,a∈xs↔a∈ys) (hs:ys.Pairwise fun a b=>nG (ky names (row a)) (ky names (row b))=true) :
 bN [.d (gJ names),.d (.lst (xs.map fun x=>.tup ((row x).map D.str)))]=.ok (.d (.lst (ys.map fun x=>.tup ((row x).map D.str)))):=JB (YJ names) hn row hr h64 nd hm hs
end Mr
namespace Mr
open PySem Mi
def prs(names:List Str):List Ar:=(List.range names.length).flatMap fun k=>(names.drop (k+1)).map fun b=>(nth names k,b)
def Sx(names:List Str)(ak:List Ar)(p:Ar):List Str:=names.filter fun m=>decide ((p.1,m)∈ak) && decide ((p.2,m)∈ak)
def Sy(names:List Str)(ak:List Ar):List Sq:=(prs names).flatMap fun p=>if (!tie ak p.1 p.2)=true then (Sx names ak p).map fun m=>(p.1,m,p.2) else []
theorem lG{names:List Str}{a b:Str}:(a,b)∈prs names↔∃ k,k < names.length∧a=nth names k∧b∈names.drop (k+1):=by
 unfold prs
 simp only[List.mem_flatMap,List.mem_map,List.mem_range,Prod.mk.injEq]
 constructor
 ·rintro ⟨k,hk,b',hb,rfl,rfl⟩;exact⟨k,hk,rfl,hb⟩
 ·rintro ⟨k,hk,rfl,hb⟩;exact⟨k,hk,b,hb,rfl,rfl⟩
theorem Pu{names:List Str}{ak:List Ar}(t:Sq):t∈Sy names ak↔t∈jb names ak:=by
 obtain⟨a,m,b⟩:=t
 rw[pM]
 unfold Sy Sx tie NZ
 simp only[List.mem_flatMap]
 constructor
 ·rintro ⟨⟨a',b'⟩,hp,h⟩
  split at h
  ·rename_i ht
   obtain⟨m',hm,e⟩:=List.mem_map.mp h
   cases e
   obtain⟨hm1,hm2⟩:=List.mem_filter.mp hm
   obtain⟨k,hk,e,hb⟩:=lG.mp hp
   exact⟨k,hk,e,hm1,hb,by rw[hm2,ht];rfl⟩
  ·cases h
 ·rintro ⟨k,hk,e,hm,hb,hc⟩
  have hc':=Bool.and_eq_true_iff.mp hc
  refine⟨(a,b),lG.mpr ⟨k,hk,e,hb⟩,?_⟩
  rw[if_pos hc'.2]
  exact List.mem_map.mpr ⟨m,List.mem_filter.mpr ⟨hm,hc'.1⟩,rfl⟩
theorem qL{names:List Str}(nd:names.Nodup){i:Nat}(hi:i < names.length):names.idxOf (nth names i)=i:=by
 have e:nth names i=names[i]:=by unfold nth;rw[List.getD_eq_getElem?_getD,List.getElem?_eq_getElem hi];rfl
 rw[e];exact nd.idxOf_getElem i hi
theorem bU{names:List Str}{x y:Str}(hx:x∈names)(hy:y∈names)(h:names.idxOf x=names.idxOf y):x=y:=by
 have h1:=List.getElem_idxOf (List.idxOf_lt_length_iff.mpr hx)
 have h2:=List.getElem_idxOf (List.idxOf_lt_length_iff.mpr hy)
 rw[← h1,← h2]
 congr 1
theorem J1{names:List Str}(nd:names.Nodup):names.Pairwise fun x y=>names.idxOf x < names.idxOf y:=by
 rw[List.pairwise_iff_getElem]
 intro i j hi hj h
 rw[nd.idxOf_getElem i hi,nd.idxOf_getElem j hj];exact h
theorem Cq{names:List Str}(nd:names.Nodup){k:Nat}{b:Str}(hb:b∈names.drop (k+1)):k < names.idxOf b∧b∈names:=by
 obtain⟨i,hi,rfl⟩:=List.getElem_of_mem hb
 rw[List.getElem_drop]
 rw[List.length_drop] at hi
 rw[nd.idxOf_getElem (k+1+i) (by omega)]
 exact⟨by omega,List.getElem_mem _⟩
def tr(t:Sq):List Str:=[t.1,t.2.1,t.2.2]
theorem KQ{names:List Str}(nd:names.Nodup)(ak:List Ar):(jb names ak).Pairwise fun x y=>nG (ky names (tr x)) (ky names (tr y))=true:=by
 unfold jb
 rw[List.pairwise_flatMap]
 refine⟨fun k hk=>?_,List.pairwise_lt_range.imp_of_mem fun {k1 k2} h1 h2 h x hx y hy=>?_⟩
 ·rw[List.pairwise_flatMap]
  refine⟨fun m hm=>?_,(J1 nd).imp fun {m1 m2} h x hx y hy=>?_⟩
  ·rw[List.pairwise_map]
   refine((J1 nd).sublist (List.Sublist.trans List.filter_sublist (List.drop_sublist _ _))).imp fun {b1 b2} h=>?_
   show nG [_,_,_] [_,_,_]=true
   rw[zQ,zQ]
   exact BL (Int.ofNat_lt.mpr h)
  ·obtain⟨b1,_,rfl⟩:=List.mem_map.mp hx
   obtain⟨b2,_,rfl⟩:=List.mem_map.mp hy
   show nG [_,_,_] [_,_,_]=true
   rw[zQ]
   exact BL (Int.ofNat_lt.mpr h)
 ·obtain⟨m1,_,hx⟩:=List.mem_flatMap.mp hx
  obtain⟨m2,_,hy⟩:=List.mem_flatMap.mp hy
  obtain⟨b1,_,rfl⟩:=List.mem_map.mp hx
  obtain⟨b2,_,rfl⟩:=List.mem_map.mp hy
  have e1:=qL nd (List.mem_range.mp h1)
  have e2:=qL nd (List.mem_range.mp h2)
  exact BL (by show ((names.idxOf (nth names k1):Nat):Int) < ((names.idxOf (nth names k2):Nat):Int);rw[e1,e2];omega)
theorem Uj{names:List Str}(nd:names.Nodup):(prs names).Nodup:=by
 unfold prs
 show List.Pairwise _ _
 rw[List.pairwise_flatMap]
 refine⟨fun k hk=>?_,List.pairwise_lt_range.imp_of_mem fun {k1 k2} h1 h2 h x hx y hy=>?_⟩
 ·rw[List.pairwise_map]
  exact(nd.sublist (List.drop_sublist _ _)).imp fun {b1 b2} h z=>h (by cases z;rfl)
 ·obtain⟨b1,_,rfl⟩:=List.mem_map.mp hx
  obtain⟨b2,_,rfl⟩:=List.mem_map.mp hy
  intro z
  have:=jt nd (List.mem_range.mp h1) (List.mem_range.mp h2) (congrArg Prod.fst z)
  omega
theorem V7{names:List Str}(nd:names.Nodup)(ak:List Ar):(Sy names ak).Nodup:=by
 unfold Sy
 show List.Pairwise _ _
 rw[List.pairwise_flatMap]
 have inn:∀ {p:Ar} {x:Sq},x∈(if (!tie ak p.1 p.2)=true then (Sx names ak p).map fun m=>(p.1,m,p.2) else [])→x.1=p.1∧x.2.2=p.2:=fun {p x} h=>by
  split at h
  ·obtain⟨m,_,rfl⟩:=List.mem_map.mp h;exact⟨rfl,rfl⟩
  ·cases h
 refine⟨fun p hp=>?_,(Uj nd).imp fun {p q} h x hx y hy z=>?_⟩
 ·split
  ·rw[List.pairwise_map]
   exact(nd.sublist List.filter_sublist).imp fun {b1 b2} h z=>h (by cases z;rfl)
  ·exact .nil
 ·subst z
  obtain⟨a1,a2⟩:=inn hx
  obtain⟨b1,b2⟩:=inn hy
  exact h (Prod.ext (a1.symm.trans b1) (a2.symm.trans b2))
theorem Bs{α : Type}[DecidableEq α]:∀ {l L:List α},l.Nodup→(∀ x∈l,x∈L)→l.length≤L.length
 | [],_,_,_=>Nat.zero_le _
 | x::r,L,nd,h=>by
  have nd':=List.nodup_cons.mp nd
  have hx:=h x List.mem_cons_self
  have:=Bs (l:=r) (L:=L.erase x) nd'.2 fun y hy=>(List.mem_erase_of_ne (fun z:y=x=>nd'.1 (z ▸ hy))).mpr (h y (List.mem_cons_of_mem _ hy))
  rw[List.length_erase_of_mem hx] at this
  have:=List.length_pos_of_mem hx
  rw[List.length_cons];omega
def cde(names:List Str)(t:Sq):Nat :=
 if names.idxOf t.2.1 < names.idxOf t.1 then names.idxOf t.2.1 * 64+names.idxOf t.1 * 8+names.idxOf t.2.2
 else if names.idxOf t.2.1 < names.idxOf t.2.2 then names.idxOf t.1 * 64+names.idxOf t.2.1 * 8+names.idxOf t.2.2
 else names.idxOf t.1 * 64+names.idxOf t.2.2 * 8+names.idxOf t.2.1
structure CF(names:List Str)(ak:List Ar)(t:Sq):Prop where
 m1:t.1∈names
 m2:t.2.1∈names
 m3:t.2.2∈names
 l1:names.idxOf t.1 < 8
 l2:names.idxOf t.2.1 < 8
 l3:names.idxOf t.2.2 < 8
 up:names.idxOf t.1 < names.idxOf t.2.2
 n1:names.idxOf t.2.1≠names.idxOf t.1
 n2:names.idxOf t.2.1≠names.idxOf t.2.2
 a1:(t.1,t.2.1)∈ak
 a2:(t.2.2,t.2.1)∈ak
 z1:(t.1,t.2.2)∉ak
 z2:(t.2.2,t.1)∉ak
theorem yh{names:List Str}{ak:List Ar}(N:Nt names ak){t:Sq}(h:t∈Sy names ak):CF names ak t:=by
 obtain⟨a,m,b⟩:=t
 obtain⟨k,hk,e,hm,hb,hc⟩:=pM.mp ((Pu _).mp h)
 obtain⟨c1,c2,c3,c4⟩:=zY.mp hc
 obtain⟨d1,d2⟩:=Cq N.nd hb
 have ha:a∈names:=by rw[e];exact oA hk
 have ei:names.idxOf a=k:=by rw[e];exact qL N.nd hk
 have hn:=N.le
 obtain⟨r,hr⟩:=N.rk
 have i1:=List.idxOf_lt_length_iff.mpr hm
 have i2:=List.idxOf_lt_length_iff.mpr d2
 refine⟨ha,hm,d2,?_,?_,?_,?_,fun z=>?_,fun z=>?_,c1,c2,c3,c4⟩
 ·show names.idxOf a < 8;omega
 ·show names.idxOf m < 8;omega
 ·show names.idxOf b < 8;omega
 ·show names.idxOf a < names.idxOf b;omega
 ·have:=bU hm ha z
  have:=hr _ c1
  simp only at *
  subst m;omega
 ·have:=bU hm d2 z
  have:=hr _ c2
  simp only at *
  subst m;omega
theorem Yx{names:List Str}{ak:List Ar}{t u:Sq}(T:CF names ak t)(U:CF names ak u)(h:cde names t=cde names u):t=u:=by
 obtain⟨a,m,b⟩:=t
 obtain⟨a',m',b'⟩:=u
 obtain⟨m1,m2,m3,l1,l2,l3,up,n1,n2,a1,a2,z1,z2⟩:=T
 obtain⟨m1',m2',m3',l1',l2',l3',up',n1',n2',a1',a2',z1',z2'⟩:=U
 unfold cde at h
 simp only at *
 split at h
 ·split at h
  ·obtain rfl:=bU m1 m1' (by omega)
   obtain rfl:=bU m2 m2' (by omega)
   obtain rfl:=bU m3 m3' (by omega)
   rfl
  ·split at h
   ·obtain rfl:=bU m2 m1' (by omega)
    obtain rfl:=bU m3 m3' (by omega)
    exact absurd a2 z2'
   ·obtain rfl:=bU m2 m1' (by omega)
    obtain rfl:=bU m1 m3' (by omega)
    exact absurd a1 z2'
 ·split at h
  ·split at h
   ·obtain rfl:=bU m1 m2' (by omega)
    obtain rfl:=bU m3 m3' (by omega)
    exact absurd a2' z2
   ·split at h
    ·obtain rfl:=bU m1 m1' (by omega)
     obtain rfl:=bU m2 m2' (by omega)
     obtain rfl:=bU m3 m3' (by omega)
     rfl
    ·obtain rfl:=bU m1 m1' (by omega)
     obtain rfl:=bU m2 m3' (by omega)
     exact absurd a1 z1'
  ·split at h
   ·obtain rfl:=bU m1 m2' (by omega)
    obtain rfl:=bU m3 m1' (by omega)
    exact absurd a1' z2
   ·split at h
    ·obtain rfl:=bU m1 m1' (by omega)
     obtain rfl:=bU m3 m2' (by omega)
     exact absurd a1' z1
    ·obtain rfl:=bU m1 m1' (by omega)
     obtain rfl:=bU m2 m2' (by omega)
     obtain rfl:=bU m3 m3' (by omega)
     rfl
def c56:List Nat:=(List.range 512).filter fun n=>decide (n / 64 < n / 8 % 8) && decide (n / 8 % 8 < n % 8)
theorem Yz:c56.length=56:=by decide +kernel
theorem Yw{names:List Str}{ak:List Ar}{t:Sq}(T:CF names ak t):cde names t∈c56:=by
 obtain⟨m1,m2,m3,l1,l2,l3,up,n1,n2,a1,a2,z1,z2⟩:=T
 have key:∀ x y z:Nat,x < y→y < z→z < 8→x * 64+y * 8+z∈c56:=fun x y z h1 h2 h3=>by
  refine List.mem_filter.mpr ⟨List.mem_range.mpr (by omega),?_⟩
  have e1:(x * 64+y * 8+z) / 64=x:=by omega
  have e2:(x * 64+y * 8+z) / 8 % 8=y:=by omega
  have e3:(x * 64+y * 8+z) % 8=z:=by omega
  rw[e1,e2,e3];simp[h1,h2]
 unfold cde
 split
 ·exact key _ _ _ (by omega) (by omega) (by omega)
 ·split
  ·exact key _ _ _ (by omega) (by omega) (by omega)
  ·exact key _ _ _ (by omega) (by omega) (by omega)
theorem Qp{names:List Str}{ak:List Ar}(N:Nt names ak):(Sy names ak).length≤56:=by
 have h:((Sy names ak).map (cde names)).Nodup:=by
  show List.Pairwise _ _
  rw[List.pairwise_map]
  exact List.Pairwise.imp_of_mem (fun {x y} hx hy h z=>h (Yx (yh N hx) (yh N hy) z)) (V7 N.nd ak)
 have:=Bs h (L:=c56) fun x hx=>by
  obtain⟨t,ht,rfl⟩:=List.mem_map.mp hx
  exact Yw (yh N ht)
 rw[List.length_map,Yz] at this
 exact this
theorem X3{names:List Str}{ak:List Ar}(N:Nt names ak):((Sy names ak).map fun t=>ky names (tr t)).Nodup:=by
 show List.Pairwise _ _
 rw[List.pairwise_map]
 refine List.Pairwise.imp_of_mem (fun {x y} hx hy h z=>h ?_) (V7 N.nd ak)
 have X:=yh N hx
 have Y:=yh N hy
 obtain⟨a,m,b⟩:=x
 obtain⟨a',m',b'⟩:=y
 simp only[ky,tr,List.map_cons,List.map_nil,List.cons.injEq,and_true] at z
 obtain⟨z1,z2,z3⟩:=z
 obtain rfl:=bU X.m1 Y.m1 (by show names.idxOf a=names.idxOf a';omega)
 obtain rfl:=bU X.m2 Y.m2 (by show names.idxOf m=names.idxOf m';omega)
 obtain rfl:=bU X.m3 Y.m3 (by show names.idxOf b=names.idxOf b';omega)
 rfl
theorem NP{names:List Str}{ak:List Ar}(N:Nt names ak):bN [.d (gJ names),.d (.lst ((Sy names ak).map fO))]=.ok (.d (.lst ((jb names ak).map fO))) :=
 O4 (by have:=N.le;omega) tr (fun t ht=>⟨by show 3≤1000;omega,fun y hy=>by
  have T:=yh N ht
  simp only[tr,List.mem_cons,List.not_mem_nil,or_false] at hy
  rcases hy with rfl|rfl|rfl
  ·exact T.m1
  ·exact T.m2
  ·exact T.m3⟩) (by have:=Qp N;omega) (X3 N) (fun t=>Pu t) (KQ N.nd ak)
end Mr
namespace Mr
open PySem Mi
theorem Nu{i:Nat}{a:E}{e:Mi.Env}{ds xs:List D}(ha:a e=.ok (.lst xs))(hg:getL e i=.ok ds)(hl:ds.length+xs.length≤16777216):nZ i a e=.ok (.nx (putL e i (ds++xs))):=by
 unfold nZ
 rw[ha,aB,hg,aB]
 exact au hl
theorem acu{a b:E}{e:Mi.Env}{x y:D}(h:a e=.ok x)(h':b e=.ok y):mN oR [a,b] e=.ok (.lst [x,y]):=by
 unfold mN;rw[fV,h,aB,fV,h',aB];rfl
theorem Cp{a:E}{e:Mi.Env}{x:D}(h:a e=.ok x):sI a e=.ok (.nx e):=by unfold sI;rw[h];rfl
theorem zb{names:List Str}{ak:List Ar}{a b:Str}(ha:a∈names)(hb:b∈names):fG [.d (bC names ak),.d (.str a),.d (.str b)]=.ok (.d (.bl (tie ak a b))):=by
 unfold fG CV
 rw[acK]
 rw[show ([some (W.d (bC names ak)),some (W.d (.str a)),some (W.d (.str b))]++List.replicate (3 - 3) none)=[some (W.d (bC names ak)),some (W.d (.str a)),some (W.d (.str b))] from rfl]
 have hr:bu [.d (gJ names),.d (aU [a,b])]=.ok (.d .non):=Et fun x hx=>by
  rcases List.mem_cons.mp hx with rfl|hx
  ·exact ha
  ·rw[List.mem_singleton.mp hx];exact hb
 rw[aH (Cp (call2 (bT (aL rfl rfl (X7 _ _))) (bT (acu rfl rfl)) hr))]
 have aa:mOr (m2 Ie (mN dTup [(mV 1),(mV 2)]) (m2 gA (mV 0) (mC (.int 1)))) (m2 Ie (mN dTup [(mV 2),(mV 1)]) (m2 gA (mV 0) (mC (.int 1)))) [some (.d (bC names ak)),some (.d (.str a)),some (.d (.str b))]=.ok (.bl (tie ak a b)) :=
  aaK (aL (j5 rfl rfl) (aL rfl rfl (ix1 names ak)) (wM ak (a,b))) fun _=>aL (j5 rfl rfl) (aL rfl rfl (ix1 names ak)) (wM ak (b,a))
 rw[dZ (bT aa)];rfl
theorem ue{names:List Str}(hn:names.length≤8):(prs names).length≤64:=by
 unfold prs
 refine Nat.le_trans (tG (m:=8) fun k _=>?_) (by rw[List.length_range];omega)
 rw[List.length_map,List.length_drop];omega
theorem W0{names:List Str}{a b:E}{e:Mi.Env}{k:Nat}(hk:k < names.length)(hn:names.length≤8)(ha:a e=.ok (gJ names))(hb:b e=.ok (.int (k:Nat))):lY (gq Kv a (some (m2 bQ b (mC (.int 1)))) none) e=.ok ((names.drop (k+1)).map D.str):=by
 have sl:gq Kv a (some (m2 bQ b (mC (.int 1)))) none e=.ok (.tup ((names.map D.str).drop (k+1))):=by
  rw[GZ ha (aL (a:=b) (b:=mC (.int 1)) (x:=.int (k:Nat)) (y:=.int 1) hb rfl rfl)]
  show aO _ _=_
  rw[au (by rw[List.length_map];omega),show ((k:Nat):Int)+1=((k+1:Nat):Int) by omega,Int.toNat_natCast]
 rw[cR sl rfl,List.map_drop]
theorem JL{names:List Str}(hn:names.length≤8):cP [.d (gJ names)]=.ok (.d (gQ (prs names))):=by
 unfold cP vO
 rw[Nr]
 have epr:(prs names).map pairD=(List.range names.length).flatMap fun k=>(names.drop (k+1)).map fun b=>pairD (nth names k,b):=by
  unfold prs
  rw[jQ]
  refine jT fun k _=>?_
  rw[List.map_map];rfl
 have aas:((prs names).map pairD).length≤64:=by rw[List.length_map];exact ue hn
 rw[epr] at aas
 obtain⟨e',f1,o2,o3,he⟩:=wI (tg:=.t [2,3]) (body:=(nZ 1 (cF [some 3,none] (lY (gq Kv (mV 0) (some (m2 bQ (mV 2) (mC (.int 1)))) none)) (.n 1) dX (mN dTup [(mV 0),(mV 1)]))))
  (fun k:Nat=>D.tup [.int (k:Nat),.str (nth names k)]) (fun k=>(names.drop (k+1)).map fun b=>pairD (nth names k,b))
  (fun acc e=>∃ o2 o3:Option W,e=[some (.d (gJ names)),some (.d (.lst acc)),o2,o3]) (List.range names.length) [] [some (.d (gJ names)),some (.d (.lst [])),none,none] (by simp only[List.length_nil];omega) ⟨none,none,rfl⟩
  (fun k hk acc e hl ⟨o2,o3,he⟩=>by
   subst he
   have hk:=List.mem_range.mp hk
   refine⟨[some (.d (gJ names)),some (.d (.lst acc)),some (.d (.int (k:Nat))),some (.d (.str (nth names k)))],putL [some (.d (gJ names)),some (.d (.lst acc)),some (.d (.int (k:Nat))),some (.d (.str (nth names k)))] 1 (acc++(names.drop (k+1)).map fun b=>pairD (nth names k,b)),rfl,?_,_,_,rfl⟩
   have hc:dJ (.n 1) dX (mN dTup [(mV 0),(mV 1)]) [some (.d (.str (nth names k))),none] ((names.drop (k+1)).map D.str)=.ok (((names.drop (k+1)).filter fun _=>true).map fun b=>pairD (nth names k,b)) :=
    cu D.str (fun b=>pairD (nth names k,b)) (fun _=>true) _ fun b _=>⟨[some (.d (.str (nth names k))),some (.d (.str b))],rfl,rfl,fun _=>j5 rfl rfl⟩
   rw[List.filter_eq_self.mpr (fun _ _=>rfl)] at hc
   exact Nu (cC (ρ:=[some 3,none]) (W0 hk hn rfl rfl) (by rw[List.length_map,List.length_drop];omega) hc) rfl hl)
 subst he
 rw[show ([some (W.d (gJ names))]++List.replicate (4 - 1) none)=[some (W.d (gJ names)),none,none,none] from rfl]
 rw[aH (e':=[some (.d (gJ names)),some (.d (.lst [])),none,none]) (bx (Rm _))]
 have hit:HJ (mV 0) [some (.d (gJ names)),some (.d (.lst [])),none,none]=.ok ((List.range names.length).map fun k=>D.tup [.int (k:Nat),.str (nth names k)]):=by
  rw[← Cm];rfl
 rw[aH ((iC hit).trans f1)]
 unfold gQ
 rw[epr];rfl
theorem ud{names:List Str}{p:Ar}(h:p∈prs names):p.1∈names∧p.2∈names:=by
 obtain⟨k,hk,e,hb⟩:=lG.mp (show (p.1,p.2)∈prs names from h)
 exact⟨by rw[e];exact oA hk,List.mem_of_mem_drop hb⟩
def rF(names:List Str)(ak:List Ar):List Ar:=(prs names).filter fun p=>tie ak p.1 p.2
theorem WW{names:List Str}{ak:List Ar}(hn:names.length≤8):m7 [.d (bC names ak)]=.ok (.d (gQ (rF names ak))):=by
 unfold m7 Fx
 rw[Nr]
 rw[show ([some (W.d (bC names ak))]++List.replicate (1 - 1) none)=[some (W.d (bC names ak))] from rfl]
 have hc:dJ (.t [1,2]) (cB (aQ fG [(wD (mV 0)),(wD (mV 1)),(wD (mV 2))])) (mN dTup [(mV 1),(mV 2)]) [some (.d (bC names ak)),none,none] ((prs names).map pairD)=.ok ((rF names ak).map pairD) :=
  cu pairD pairD (fun p=>tie ak p.1 p.2) (prs names) fun p hp=>⟨[some (.d (bC names ak)),some (.d (.str p.1)),some (.d (.str p.2))],rfl,cz (Qu rfl rfl rfl (zb (ud hp).1 (ud hp).2)),fun _=>j5 rfl rfl⟩
 have hm:=cC (ρ:=[some 0,none,none]) (e:=[some (.d (bC names ak))]) (cR (a:=aQ cP [(wD (m2 gA (mV 0) (mC (.int 0))))]) (x:=gQ (prs names)) (fX (bT (aL rfl rfl (X7 names ak))) (JL hn)) rfl) (by rw[List.length_map];have:=ue hn;omega) hc
 rw[dZ (bT hm)];rfl
theorem Yu{names:List Str}{ak:List Ar}:(Sy names ak).map fO=(prs names).flatMap fun p=>if (!tie ak p.1 p.2)=true then (Sx names ak p).map fun m=>fO (p.1,m,p.2) else []:=by
 unfold Sy
 rw[jQ]
 refine jT fun p _=>?_
 split
 ·rw[List.map_map];rfl
 ·rfl
theorem NQ{names:List Str}{ak:List Ar}(N:Nt names ak):iM [.d (bC names ak)]=.ok (.d (.lst ((jb names ak).map fO))):=by
 have hn:=N.le
 have ad5:((Sy names ak).map fO).length≤56:=by rw[List.length_map];exact Qp N
 have v5:=NP N
 rw[Yu] at ad5 v5
 unfold iM w6
 rw[Nr]
 obtain⟨e',f1,o4,o5,o6,he⟩:=wI (tg:=.t [4,5]) (body:=(jE (jf (cB (aQ fG [(wD (mV 0)),(wD (mV 4)),(wD (mV 5))])))
 (bc (bV 6 (cF [some 2,some 4,some 5,none] (lY (mV 1)) (.n 3) (nO (cB (m2 Ie (mN dTup [(mV 1),(mV 3)]) (mV 0))) (cB (m2 Ie (mN dTup [(mV 2),(mV 3)]) (mV 0)))) (mV 3)))
 (nZ 3 (cF [some 4,some 5,none] (lY (mV 6)) (.n 2) dX (mN dTup [(mV 0),(mV 2),(mV 1)]))))
 bK))
  pairD (fun p=>if (!tie ak p.1 p.2)=true then (Sx names ak p).map fun m=>fO (p.1,m,p.2) else [])
  (fun acc e=>∃ o4 o5 o6:Option W,e=[some (.d (bC names ak)),some (.d (gJ names)),some (.d (iU ak)),some (.d (.lst acc)),o4,o5,o6]) (prs names) [] [some (.d (bC names ak)),some (.d (gJ names)),some (.d (iU ak)),some (.d (.lst [])),none,none,none] (by simp only[List.length_nil];omega) ⟨none,none,none,rfl⟩
  (fun p hp acc e hl ⟨o4,o5,o6,he⟩=>by
   subst he
   have hc:=lJ (cz (Qu (f:=fG) (a:=wD (mV 0)) (b:=wD (mV 4)) (c:=wD (mV 5)) (e:=[some (.d (bC names ak)),some (.d (gJ names)),some (.d (iU ak)),some (.d (.lst acc)),some (.d (.str p.1)),some (.d (.str p.2)),o6]) rfl rfl rfl (zb (ak:=ak) (ud hp).1 (ud hp).2)))
   cases ht:(!tie ak p.1 p.2) with
   | false =>
    rw[ht] at hc
    rw[if_neg Bool.false_ne_true,List.append_nil]
    exact⟨[some (.d (bC names ak)),some (.d (gJ names)),some (.d (iU ak)),some (.d (.lst acc)),some (.d (.str p.1)),some (.d (.str p.2)),o6],_,rfl,(fu hc).trans rfl,_,_,_,rfl⟩
   | true =>
    rw[ht] at hc
    rw[ht,if_pos rfl] at hl
    rw[if_pos rfl]
    have hmc:dJ (.n 3) (nO (cB (m2 Ie (mN dTup [(mV 1),(mV 3)]) (mV 0))) (cB (m2 Ie (mN dTup [(mV 2),(mV 3)]) (mV 0)))) (mV 3) [some (.d (iU ak)),some (.d (.str p.1)),some (.d (.str p.2)),none] (names.map D.str)=.ok ((Sx names ak p).map D.str) :=
     cu D.str D.str (fun m=>decide ((p.1,m)∈ak) && decide ((p.2,m)∈ak)) names fun m _=>⟨[some (.d (iU ak)),some (.d (.str p.1)),some (.d (.str p.2)),some (.d (.str m))],rfl,wU (cz (aL (j5 rfl rfl) rfl (wM ak (p.1,m)))) fun _=>cz (aL (j5 rfl rfl) rfl (wM ak (p.2,m))),fun _=>rfl⟩
    have s1:=bx (i:=6) (cC (ρ:=[some 2,some 4,some 5,none]) (e:=[some (.d (bC names ak)),some (.d (gJ names)),some (.d (iU ak)),some (.d (.lst acc)),some (.d (.str p.1)),some (.d (.str p.2)),o6]) (cR (a:=mV 1) (x:=gJ names) rfl rfl) (by rw[List.length_map];omega) hmc)
    have acF:dJ (.n 2) dX (mN dTup [(mV 0),(mV 2),(mV 1)]) [some (.d (.str p.1)),some (.d (.str p.2)),none] ((Sx names ak p).map D.str)=.ok (((Sx names ak p).filter fun _=>true).map fun m=>fO (p.1,m,p.2)) :=
     cu D.str (fun m=>fO (p.1,m,p.2)) (fun _=>true) _ fun m _=>⟨[some (.d (.str p.1)),some (.d (.str p.2)),some (.d (.str m))],rfl,rfl,fun _=>(Pq rfl rfl rfl).trans (au (by simp))⟩
    rw[List.filter_eq_self.mpr (fun _ _=>rfl)] at acF
    have hml:(Sx names ak p).length≤8:=Nat.le_trans (List.length_filter_le _ _) hn
    refine⟨[some (.d (bC names ak)),some (.d (gJ names)),some (.d (iU ak)),some (.d (.lst acc)),some (.d (.str p.1)),some (.d (.str p.2)),o6],putL [some (.d (bC names ak)),some (.d (gJ names)),some (.d (iU ak)),some (.d (.lst acc)),some (.d (.str p.1)),some (.d (.str p.2)),some (.d (.lst ((Sx names ak p).map D.str)))] 3 (acc++(Sx names ak p).map fun m=>fO (p.1,m,p.2)),rfl,?_,_,_,_,rfl⟩
    exact(pW hc).trans ((aH s1).trans (Nu (cC (ρ:=[some 4,some 5,none]) (cR (a:=mV 6) (x:=.lst ((Sx names ak p).map D.str)) rfl rfl) (by rw[List.length_map];omega) acF) rfl hl)))
 subst he
 rw[show ([some (W.d (bC names ak))]++List.replicate (7 - 1) none)=[some (W.d (bC names ak)),none,none,none,none,none,none] from rfl]
 rw[aH (e':=[some (.d (bC names ak)),some (.d (gJ names)),some (.d (iU ak)),none,none,none,none]) rfl]
 rw[aH (e':=[some (.d (bC names ak)),some (.d (gJ names)),some (.d (iU ak)),some (.d (.lst [])),none,none,none]) (bx (Rm _))]
 rw[aH ((iC (cR (a:=aQ cP [(wD (mV 1))]) (x:=gQ (prs names)) (fX rfl (JL hn)) rfl)).trans f1)]
 rw[dZ (bT (call2 rfl rfl v5))];rfl
end Mr
namespace Mr
open PySem Mi
open My (words rN bZ)
theorem Sh:("abcdefghijklmnopqrstuvwxyz" : Str).cps.toList=(List.range 26).map (· + 97):=by decide +kernel
theorem K1{a b c:E}{e:Mi.Env}{i j k:Int}(ha:a e=.ok (.int i))(hb:b e=.ok (.int j))(hc:c e=.ok (.int k))(h1:i≤j)(h2:j≤k):yc Yr Yr a b c e=.ok (.bl true):=by
 unfold yc
 rw[ha,aB,hb,aB]
 show (Rs.ok (D.bl (decide (i≤j)))).bind _=_
 rw[decide_eq_true h1,aB,xg,aB,if_pos rfl,hc,aB]
 show Rs.ok (D.bl (decide (j≤k)))=_
 rw[decide_eq_true h2]
theorem WR{l:List Nat}(hw:rN l):cj [.d (.str (S' l))]=.ok (.d (.bl true)):=by
 unfold cj FP
 rw[Ef]
 rw[show ([some (W.d (.str (S' l)))]++List.replicate (1 - 1) none)=[some (W.d (.str (S' l)))] from rfl]
 obtain⟨h1,h8,hl⟩:=hw
 have hc:dJ (.n 0) dX (m2 Ie (mV 0) (mC (.str "abcdefghijklmnopqrstuvwxyz"))) [none] (l.map fun c=>D.str (S' [c]))=.ok ((l.filter fun _=>true).map fun c=>D.bl ((fun _=>true) c)) :=
  cu (fun c=>D.str (S' [c])) (fun c=>D.bl ((fun _=>true) c)) (fun _=>true) l fun c hcl=>⟨[some (.d (.str (S' [c])))],rfl,rfl,fun _=>aL (x:=.str (S' [c])) rfl rfl (by
   show aO ((S' [c]).length=1) (Rs.ok (D.bl (decide ((S' [c]).cps.getD 0 0∈("abcdefghijklmnopqrstuvwxyz" : Str).cps.toList))))=_
   have hm:(S' [c]).cps.getD 0 0∈("abcdefghijklmnopqrstuvwxyz" : Str).cps.toList:=by
    rw[Sh]
    have:=hl c hcl
    exact List.mem_map.mpr ⟨c - 97,List.mem_range.mpr (by omega),by show c - 97+97=c;omega⟩
   rw[au (by rw[mD];rfl),decide_eq_true hm])⟩
 rw[List.filter_eq_self.mpr (fun _ _=>rfl)] at hc
 have h2:mN CZ [(cF [none] (lY (mV 0)) (.n 0) dX (m2 Ie (mV 0) (mC (.str "abcdefghijklmnopqrstuvwxyz"))))] [some (W.d (.str (S' l)))]=.ok (.bl true):=by
  refine(km (cC (ρ:=[none]) (cR (a:=mV 0) (x:=.str (S' l)) rfl rfl) (by rw[List.length_map,z8];omega) hc)).trans ?_
  rw[Wx,Di,ik,aB,List.all_map]
  show Rs.ok (D.bl (l.all fun _=>true))=_
  rw[List.all_eq_true.mpr (fun _ _=>rfl)]
 have h3:yc Yr Yr (mC (.int 1)) (mN mY [(mV 0)]) (mC (.int 8)) [some (W.d (.str (S' l)))]=.ok (.bl true):=K1 (j:=((l.length:Nat):Int)) rfl ((km (x:=.str (S' l)) rfl).trans (by rw[acw,au (by rw[mD];omega),mD])) rfl (by omega) (by omega)
 rw[dZ (bT (wy h3 fun _=>h2))];rfl
theorem Mt{names asked:List Str}(h:∀ x∈asked,x∈names):bu [.d (aU names),.d (aU asked)]=.ok (.d .non):=by
 unfold bu jy
 rw[zB]
 obtain⟨e',f1,o2,he⟩:=gP (tg:=.n 2) (body:=(jE (cB (m2 gh (mV 2) (mV 0))) gW bK))
  (fun i e=>∃ o2:Option W,e=[some (.d (aU names)),some (.d (aU asked)),o2]) (asked.map D.str) 0 (fun i d e hi ⟨o2,he⟩=>by
   subst he
   rw[List.getElem?_map] at hi
   obtain⟨x,hx,rfl⟩:=Option.map_eq_some_iff.mp hi
   refine⟨[some (.d (aU names)),some (.d (aU asked)),some (.d (.str x))],[some (.d (aU names)),some (.d (aU asked)),some (.d (.str x))],rfl,?_,_,rfl⟩
   exact(fu (cz (aL rfl rfl ((qO names x).trans (by rw[decide_eq_true (h x (List.mem_of_getElem? hx))];rfl))))).trans rfl) [some (.d (aU names)),some (.d (aU asked)),none] ⟨none,rfl⟩
 subst he
 rw[show ([some (W.d (aU names)),some (W.d (aU asked))]++List.replicate (3 - 2) none)=[some (W.d (aU names)),some (W.d (aU asked)),none] from rfl]
 rw[iC (cR (x:=aU asked) rfl rfl),f1]
 rfl
theorem Te{α : Type}{l:List α}(nd:l.Nodup){i:Nat}{x:α}(hx:l[i]? = some x):x∉l.take i:=fun z=>by
 obtain⟨il,hxe⟩:=List.getElem?_eq_some_iff.mp hx
 obtain⟨j,hj⟩:=List.getElem?_of_mem z
 have hj2:=(List.getElem?_eq_some_iff.mp hj).1
 rw[List.length_take] at hj2
 rw[List.getElem?_take_of_lt (by omega)] at hj
 obtain⟨jl,hje⟩:=List.getElem?_eq_some_iff.mp hj
 have:=(List.getElem_inj nd).mp (hje.trans hxe.symm)
 omega
theorem Ac{names:List Str}(h1:1≤names.length)(h8:names.length≤8)(nd:names.Nodup)(hw:∀ x∈names,cj [.d (.str x)]=.ok (.d (.bl true))):dB [.d (aU names)]=.ok (.d .non):=by
 unfold dB lR
 rw[Ef]
 obtain⟨e',f1,o2,he⟩:=gP (tg:=.n 2) (body:=(bc (jE (jf (cB (aQ cj [(wD (mV 2))])))
 gW
 bK)
 (bc (jE (cB (j7 1 (mV 2)))
 gW
 bK)
 (gK 1 (mV 2) (mC (.bl true))))))
  (fun i e=>∃ o2:Option W,e=[some (.d (aU names)),some (RN (names.take i)),o2]) (names.map D.str) 0 (fun i d e hi ⟨o2,he⟩=>by
   subst he
   rw[Nat.zero_add]
   rw[List.getElem?_map] at hi
   obtain⟨x,hx,rfl⟩:=Option.map_eq_some_iff.mp hi
   have hn:=Te nd hx
   refine⟨[some (.d (aU names)),some (RN (names.take i)),some (.d (.str x))],[some (.d (aU names)),some (RN (names.take (i+1))),some (.d (.str x))],rfl,?_,_,rfl⟩
   rw[aH (e':=[some (.d (aU names)),some (RN (names.take i)),some (.d (.str x))]) ((fu (M4 (fX rfl (hw x (List.mem_of_getElem? hx))))).trans rfl)]
   rw[aH (e':=[some (.d (aU names)),some (RN (names.take i)),some (.d (.str x))]) ((fu (cz ((acQ (y:=x) (fs:=names.take i) rfl rfl).trans (by rw[decide_eq_false hn])))).trans rfl)]
   rw[aa0 (y:=x) (fs:=names.take i) rfl rfl hn (by rw[List.length_take];omega)]
   rw[List.take_succ,hx];rfl) [some (.d (aU names)),some (RN []),none] ⟨none,rfl⟩
 subst he
 rw[show ([some (W.d (aU names))]++List.replicate (3 - 1) none)=[some (W.d (aU names)),none,none] from rfl]
 have hl:mN mY [(mV 0)] [some (W.d (aU names)),none,none]=.ok (.int ((names.length:Nat):Int)):=(km (x:=aU names) rfl).trans (by show Rs.ok (D.int (((names.map D.str).length:Nat):Int))=_;rw[List.length_map])
 rw[aH ((fu (M4 (K1 (i:=1) (k:=8) rfl hl rfl (by omega) (by omega)))).trans rfl)]
 rw[aH (e':=[some (.d (aU names)),some (RN []),none]) rfl]
 rw[iC (cR (x:=aU names) rfl rfl),f1]
 rfl
def Hx(p:Ar):List Ky:=[.inr p.1,.inr p.2]
theorem zR{p q:Ar}(h:Hx p=Hx q):p=q:=by
 obtain⟨a,b⟩:=p
 obtain⟨c,d⟩:=q
 simp only[Hx,List.cons.injEq,Sum.inr.injEq,and_true] at h
 rw[h.1,h.2]
def VJ(ps:List Ar):W:=.dt (ps.map fun p=>(Hx p,D.bl true))
theorem adv(ps:List Ar)(p:Ar):(uz (ps.map fun p=>(Hx p,D.bl true)) (Hx p)).isSome=decide (p∈ps):=by
 unfold uz
 induction ps with
 | nil=>rfl
 | cons a r ih =>
  rw[List.map_cons,List.find?_cons]
  by_cases h:a=p
  ·subst h;simp
  ·rw[decide_eq_false (fun z:Hx a=Hx p=>h (zR z))]
   simp only[ih]
   simp[Ne.symm h]
theorem acP{i:Nat}{k:E}{e:Mi.Env}{ps:List Ar}{p:Ar}(hk:k e=.ok (pairD p))(hw:wV i e=.ok (VJ ps)):j7 i k e=.ok (.bl (decide (p∈ps))):=by
 unfold j7;rw[hk,aB,hw,aB,← adv];rfl
theorem VM{i:Nat}{k:E}{e:Mi.Env}{ps:List Ar}{p:Ar}(hk:k e=.ok (pairD p))(hw:wV i e=.ok (VJ ps))(hn:p∉ps)(hl:ps.length≤1000):gK i k (mC (.bl true)) e=.ok (.nx (e.set i (some (VJ (ps++[p]))))):=by
 unfold gK
 have h1:RQ (VJ ps) (pairD p) (.bl true)=.ok (VJ (ps++[p])):=by
  show aO ((ps.map fun p=>(Hx p,D.bl true)).length < 16777216) (Rs.ok (W.dt (Mi.putK (Hx p) (.bl true) (ps.map fun p=>(Hx p,D.bl true)))))=_
  rw[au (by rw[List.length_map];omega)]
  unfold Mi.putK
  rw[if_neg (by
   rw[List.any_map,Bool.not_eq_true,List.any_eq_false]
   intro z hz
   simp only[Function.comp,decide_eq_true_eq]
   exact fun q=>hn (zR q ▸ hz))]
  unfold VJ
  rw[List.map_append];rfl
 rw[show mC (.bl true) e=.ok (.bl true) from rfl,aB,hk,aB,hw,aB,h1];rfl
def both(xs:List Ar):List Ar:=xs.flatMap fun p=>[p,(p.2,p.1)]
theorem J5{xs:List Ar}{q:Ar}:q∈both xs↔∃ p∈xs,q=p∨q=(p.2,p.1):=by
 unfold both
 simp[List.mem_flatMap]
theorem Wf(xs:List Ar):(both xs).length=2 * xs.length:=by
 induction xs with
 | nil=>rfl
 | cons a r ih=>unfold both at *;rw[List.flatMap_cons,List.length_append,ih];simp;omega
structure Apart(names:List Str)(xs:List Ar):Prop where
 inn:∀ p∈xs,p.1∈names∧p.2∈names
 irr:∀ p∈xs,p.1≠p.2
 pw:xs.Pairwise fun p q=>p≠q∧p≠(q.2,q.1)
theorem Ab{names:List Str}{xs:List Ar}(P:Apart names xs)(hl:xs.length≤64):dw [.d (aU names),.d (gQ xs)]=.ok (.d .non):=by
 unfold dw lQ
 rw[zB]
 obtain⟨e',f1,o3,o4,he⟩:=gP (tg:=.t [3,4]) (body:=(bc (sI (aQ bu [(wD (mV 0)),(wD (mN oR [(mV 3),(mV 4)]))]))
 (bc (jE (cB (m2 Jg (mV 3) (mV 4)))
 gW
 bK)
 (bc (jE (cB (j7 2 (mN dTup [(mV 3),(mV 4)])))
 gW
 bK)
 (bc (gK 2 (mN dTup [(mV 3),(mV 4)]) (mC (.bl true)))
 (gK 2 (mN dTup [(mV 4),(mV 3)]) (mC (.bl true))))))))
  (fun i e=>∃ o3 o4:Option W,e=[some (.d (aU names)),some (.d (gQ xs)),some (VJ (both (xs.take i))),o3,o4]) (xs.map pairD) 0 (fun i d e hi ⟨o3,o4,he⟩=>by
   subst he
   rw[Nat.zero_add]
   rw[List.getElem?_map] at hi
   obtain⟨p,hp,rfl⟩:=Option.map_eq_some_iff.mp hi
   have hpm:=List.mem_of_getElem? hp
   have il:=(List.getElem?_eq_some_iff.mp hp).1
   have before:∀ q∈xs.take i,q≠p∧q≠(p.2,p.1):=fun q hq=>by
    obtain⟨j,hj⟩:=List.getElem?_of_mem hq
    have hj2:=(List.getElem?_eq_some_iff.mp hj).1
    rw[List.length_take] at hj2
    rw[List.getElem?_take_of_lt (by omega)] at hj
    obtain⟨jl,hje⟩:=List.getElem?_eq_some_iff.mp hj
    obtain⟨_,hpe⟩:=List.getElem?_eq_some_iff.mp hp
    have:=List.pairwise_iff_getElem.mp P.pw j i jl il (by omega)
    rw[hje,hpe] at this;exact this
   have n1:p∉both (xs.take i):=fun z=>by
    obtain⟨q,hq,e|e⟩:=J5.mp z
    ·exact(before q hq).1 e.symm
    ·exact(before q hq).2 (by rw[e])
   have n2:(p.2,p.1)∉both (xs.take i)++[p]:=fun z=>by
    rcases List.mem_append.mp z with z|z
    ·obtain⟨q,hq,e|e⟩:=J5.mp z
     ·exact(before q hq).2 e.symm
     ·exact(before q hq).1 (by rw[Prod.ext_iff] at e;simp at e;exact Prod.ext e.2.symm e.1.symm)
    ·have:=List.mem_singleton.mp z
     exact P.irr p hpm (congrArg Prod.snd this)
   have hb:(both (xs.take i)).length≤200:=by rw[Wf,List.length_take];omega
   have hst:bu [.d (aU names),.d (aU [p.1,p.2])]=.ok (.d .non):=Mt fun x hx=>by
    rcases List.mem_cons.mp hx with rfl|hx
    ·exact(P.inn p hpm).1
    ·rw[List.mem_singleton.mp hx];exact(P.inn p hpm).2
   refine⟨[some (.d (aU names)),some (.d (gQ xs)),some (VJ (both (xs.take i))),some (.d (.str p.1)),some (.d (.str p.2))],[some (.d (aU names)),some (.d (gQ xs)),some (VJ (both (xs.take (i+1)))),some (.d (.str p.1)),some (.d (.str p.2))],rfl,?_,_,_,rfl⟩
   rw[aH (Cp (call2 rfl (bT (acu rfl rfl)) hst))]
   rw[aH ((fu (cz (aL rfl rfl ((zX p.1 p.2).trans (by rw[decide_eq_false (P.irr p hpm)]))))).trans rfl)]
   rw[aH ((fu (cz ((acP (p:=p) (ps:=both (xs.take i)) (j5 rfl rfl) rfl).trans (by rw[decide_eq_false n1])))).trans rfl)]
   rw[aH (VM (p:=p) (ps:=both (xs.take i)) (j5 rfl rfl) rfl n1 (by omega))]
   rw[VM (p:=(p.2,p.1)) (ps:=both (xs.take i)++[p]) (j5 rfl rfl) rfl n2 (by rw[List.length_append];simp;omega)]
   rw[List.take_succ,hp]
   unfold both
   rw[List.flatMap_append,List.append_assoc];rfl) [some (.d (aU names)),some (.d (gQ xs)),some (VJ (both [])),none,none] ⟨none,none,rfl⟩
 subst he
 rw[show ([some (W.d (aU names)),some (W.d (gQ xs))]++List.replicate (5 - 2) none)=[some (W.d (aU names)),some (W.d (gQ xs)),none,none,none] from rfl]
 rw[aH (e':=[some (.d (aU names)),some (.d (gQ xs)),some (VJ (both [])),none,none]) rfl]
 rw[iC (cR (x:=gQ xs) rfl rfl),f1]
 rfl
theorem Xa{names:List Str}{ak:List Ar}(N:Ss names ak):jj [.d (bC names ak)]=.ok (.d .non):=by
 unfold jj uQ
 rw[Ef]
 rw[show ([some (W.d (bC names ak))]++List.replicate (3 - 1) none)=[some (W.d (bC names ak)),none,none] from rfl]
 rw[aH (e':=[some (.d (bC names ak)),some (.d (aU (ord names ak names.length))),none]) (bx (fX rfl (Ng N)))]
 have hc:dJ (.n 1) (cB (m2 gh (mV 1) (mV 0))) (mV 1) [some (.d (aU (ord names ak names.length))),none] (names.map D.str)=.ok ((names.filter fun x=>!decide (x∈ord names ak names.length)).map D.str) :=
  cu D.str D.str (fun x=>!decide (x∈ord names ak names.length)) names fun x _=>⟨[some (.d (aU (ord names ak names.length))),some (.d (.str x))],rfl,cz (aL rfl rfl (qO _ x)),fun _=>rfl⟩
 rw[List.filter_eq_nil_iff.mpr (fun x hx=>by rw[decide_eq_true (N.Pg x hx)];simp)] at hc
 rw[aH (bx (cC (ρ:=[some 1,none]) (cR (aL (a:=mV 0) (b:=mC (.int 0)) rfl rfl (X7 names ak)) rfl) (by rw[List.length_map];have:=N.le;omega) hc))]
 rw[fu (c:=K4 (mV 2)) rfl]
 rfl
end Mr
namespace Mr
open PySem Mi
open My (words rN bZ)
def Jb(p:Ar):List Str:=[p.1,p.2]
theorem mJ.sorted{names:List Str}{A:List Ix}{r:Nat→Int}(N:mJ names A r):(A.map (arrOf names)).Pairwise fun p q=>nG (ky names (Jb p)) (ky names (Jb q))=true:=by
 rw[List.pairwise_map]
 refine List.Pairwise.imp_of_mem (fun {p q} hp hq h=>?_) N.v5
 have k:∀ x:Ix,x∈A→ky names (Jb (arrOf names x))=[((x.1:Nat):Int),((x.2:Nat):Int)]:=fun x hx=>by
  obtain⟨h1,h2,_⟩:=N.all x hx
  show [((names.idxOf (nth names x.1):Nat):Int),((names.idxOf (nth names x.2):Nat):Int)]=_
  rw[qL N.nd h1,qL N.nd h2]
 rw[k p hp,k q hq]
 rcases h with h|⟨h1,h2⟩
 ·exact BL (Int.ofNat_lt.mpr h)
 ·rw[h1,zQ];exact BL (Int.ofNat_lt.mpr h2)
theorem mJ.apart{names:List Str}{A:List Ix}{r:Nat→Int}(N:mJ names A r):Apart names (A.map (arrOf names)):=by
 refine⟨fun p hp=>?_,fun p hp=>?_,?_⟩
 ·obtain⟨q,hq,rfl⟩:=List.mem_map.mp hp
  exact⟨oA (N.all q hq).1,oA (N.all q hq).2.1⟩
 ·obtain⟨q,hq,rfl⟩:=List.mem_map.mp hp
  obtain⟨h1,h2,h3⟩:=N.all q hq
  intro z
  have:=jt N.nd h1 h2 z
  rw[this] at h3;omega
 ·rw[List.pairwise_map]
  refine List.Pairwise.imp_of_mem (fun {p q} hp hq h=>?_) N.v5
  obtain⟨h1,h2,h3⟩:=N.all p hp
  obtain⟨k1,k2,k3⟩:=N.all q hq
  refine⟨fun z=>?_,fun z=>?_⟩
  ·have e1:=jt N.nd h1 k1 (congrArg Prod.fst z)
   have e2:=jt N.nd h2 k2 (congrArg Prod.snd z)
   rcases h with h|⟨_,h⟩<;>omega
  ·have e1:=jt N.nd h1 k2 (congrArg Prod.fst z)
   have e2:=jt N.nd h2 k1 (congrArg Prod.snd z)
   rw[e1,e2] at h3;omega
theorem Apart.perm{names:List Str}{xs ys:List Ar}(P:Apart names ys)(h:xs.Perm ys):Apart names xs :=
 ⟨fun p hp=>P.inn p (h.mem_iff.mp hp),fun p hp=>P.irr p (h.mem_iff.mp hp),(h.pairwise_iff (fun {p q} z=>⟨z.1.symm,fun e=>z.2 (by rw[e])⟩)).mpr P.pw⟩
def acT:List Ix:=((List.range 64).map fun n=>(n / 8,n % 8)).filter fun p=>decide (p.1≠p.2)
theorem We:acT.length=56:=by decide +kernel
theorem mJ.few{names:List Str}{A:List Ix}{r:Nat→Int}(N:mJ names A r):A.length≤56:=by
 have nd:A.Nodup:=N.v5.imp fun {p q} h z=>by subst z;rcases h with h|⟨_,h⟩<;>omega
 have:=Bs nd (L:=acT) fun p hp=>by
  obtain⟨h1,h2,h3⟩:=N.all p hp
  have hn:=N.le
  refine List.mem_filter.mpr ⟨List.mem_map.mpr ⟨p.1 * 8+p.2,List.mem_range.mpr (by omega),Prod.ext (by show (p.1 * 8+p.2) / 8=p.1;omega) (by show (p.1 * 8+p.2) % 8=p.2;omega)⟩,?_⟩
  exact decide_eq_true fun z=>by rw[z] at h3;omega
 rw[We] at this;exact this
theorem XH{names:List Str}{A:List Ix}{r:Nat→Int}(N:mJ names A r)(hw:∀ x∈names,cj [.d (.str x)]=.ok (.d (.bl true))){xs:List Ar}(hp:xs.Perm (A.map (arrOf names))) :
 iu [.d (aU names),.d (gQ xs)]=.ok (.d (bC names (A.map (arrOf names)))):=by
 have P:=N.apart.perm hp
 have hl:xs.length≤56:=by rw[hp.length_eq,List.length_map];exact N.few
 unfold iu CQ
 rw[zB]
 rw[show ([some (W.d (aU names)),some (W.d (gQ xs))]++List.replicate (4 - 2) none)=[some (W.d (aU names)),some (W.d (gQ xs)),none,none] from rfl]
 rw[aH (Cp (fX rfl (Ac N.pos N.le N.nd hw)))]
 rw[aH (Cp (call2 rfl rfl (Ab P (by omega))))]
 have hc:dJ (.t [0,1]) dX (mN dTup [(mV 0),(mV 1)]) [none,none] (xs.map pairD)=.ok ((xs.filter fun _=>true).map pairD) :=
  cu pairD pairD (fun _=>true) xs fun p _=>⟨[some (.d (.str p.1)),some (.d (.str p.2))],rfl,rfl,fun _=>j5 rfl rfl⟩
 rw[List.filter_eq_self.mpr (fun _ _=>rfl)] at hc
 rw[aH (e':=[some (W.d (aU names)),some (W.d (gQ xs)),some (W.d (gQ xs)),none]) (bx (cC (ρ:=[none,none]) (cR (x:=gQ xs) rfl rfl) (by rw[List.length_map];omega) hc))]
 have hs:bN [.d (aU names),.d (gQ xs)]=.ok (.d (gQ (A.map (arrOf names)))) :=
  JB (nx:=aU names) (tQ names) (by have:=N.le;omega) Jb (fun p hpx=>⟨by show 2≤1000;omega,fun y hy=>by
   simp only[Jb,List.mem_cons,List.not_mem_nil,or_false] at hy
   rcases hy with rfl|rfl
   ·exact(P.inn p hpx).1
   ·exact(P.inn p hpx).2⟩) (by omega) (by
    show List.Pairwise _ _
    rw[List.pairwise_map]
    refine List.Pairwise.imp_of_mem (fun {p q} hpx hqx h z=>h.1 ?_) P.pw
    simp only[ky,Jb,List.map_cons,List.map_nil,List.cons.injEq,and_true] at z
    exact Prod.ext (bU (P.inn p hpx).1 (P.inn q hqx).1 (by omega)) (bU (P.inn p hpx).2 (P.inn q hqx).2 (by omega))) (fun p=>hp.mem_iff) N.sorted
 rw[aH (e':=[some (W.d (aU names)),some (W.d (gQ xs)),some (W.d (gQ xs)),some (W.d (bC names (A.map (arrOf names))))])
  (bx (j5 (x:=gJ names) (y:=iU (A.map (arrOf names))) ((km (x:=aU names) rfl).trans rfl) ((km (call2 rfl rfl hs)).trans rfl)))]
 rw[aH (Cp (fX rfl (Xa N.ju)))]
 rw[dZ (bT rfl)]
 rfl
theorem KJ{α : Type}(xs:List α)(k:Nat):wN xs (some (k:Int)) none=xs.drop k:=by
 have e:uA xs.length 0 (some (k:Int))=min k xs.length:=by
  show (if (k:Int) < 0 then ((k:Int)+(xs.length:Int)).toNat else min (k:Int).toNat xs.length)=_
  rw[if_neg (by omega),Int.toNat_natCast]
 unfold wN
 rw[e,show uA xs.length xs.length none=xs.length from rfl]
 rcases Nat.le_total k xs.length with h|h
 ·rw[Nat.min_eq_left h]
  exact List.take_of_length_le (by rw[List.length_drop];exact Nat.le_refl _)
 ·rw[Nat.min_eq_right h,Nat.sub_self,List.take_zero,List.drop_eq_nil_of_le h]
theorem Ke:∀ xs:List Str,Ca (xs.map D.str)=true
 | []=>rfl
 | x::r=>by rw[List.map_cons,Ca,Ke r];rfl
theorem Gb(names:List Str)(ak:List Ar):bw 4 [.d (bC names ak),.d (bC names ak)]=.ok (.d (.bl true)) :=
 tR (F:=bw 3) false [gJ names,iU ak] fun d hd=>by
  rcases List.mem_cons.mp hd with rfl|hd
  ·exact tR (F:=bw 2) false (names.map D.str) fun d hd=>by
    obtain⟨x,_,rfl⟩:=List.mem_map.mp hd
    exact jC 1 x
  ·rw[List.mem_singleton.mp hd]
   exact tR (F:=bw 2) false (ak.map pairD) fun d hd=>by
    obtain⟨p,_,rfl⟩:=List.mem_map.mp hd
    exact Oj 0 p
end Mr
namespace Mr
open PySem Mi
abbrev nn:D:=.lst [.str "NoName"]
end Mr
namespace Mr
open PySem Mi
open My (words rN bZ)
theorem yu{α : Type}(f:α→Nat):∀ (l m:List α),l.Pairwise (fun a b=>f a < f b)→m.Pairwise (fun a b=>f a < f b)→(∀ x,x∈l↔x∈m)→l=m
 | [],[],_,_,_=>rfl
 | [],b::t,_,_,h=>nomatch (h b).mpr (List.mem_cons_self ..)
 | a::r,[],_,_,h=>nomatch (h a).mp (List.mem_cons_self ..)
 | a::r,b::t,hl,hm,h=>by
  have l1:=List.pairwise_cons.mp hl
  have m1:=List.pairwise_cons.mp hm
  have e:a=b:=by
   rcases List.mem_cons.mp ((h a).mp (List.mem_cons_self ..)) with z|z
   ·exact z
   ·rcases List.mem_cons.mp ((h b).mpr (List.mem_cons_self ..)) with y|y
    ·exact y.symm
    ·have k1:=m1.1 a z
     have k2:=l1.1 b y
     omega
  subst e
  rw[yu f r t l1.2 m1.2 fun x=>⟨fun hx=>by
   rcases List.mem_cons.mp ((h x).mp (List.mem_cons_of_mem _ hx)) with z|z
   ·have:=l1.1 x hx;rw[z] at this;omega
   ·exact z,fun hx=>by
   rcases List.mem_cons.mp ((h x).mpr (List.mem_cons_of_mem _ hx)) with z|z
   ·have:=m1.1 x hx;rw[z] at this;omega
   ·exact z⟩]
theorem Sg(n:Nat)(xs:List Str):bw (n+2) [.d (gJ xs),.d (gJ xs)]=.ok (.d (.bl true)) :=
 tR (F:=bw (n+1)) false (xs.map D.str) fun d hd=>by
  obtain⟨x,_,rfl⟩:=List.mem_map.mp hd
  exact jC n x
end Mr
namespace Mr
open PySem Mi
open My (words rN bZ)
end Mr
namespace Mr
open PySem Mi
open My (words rN bZ)
def ixs(names:List Str)(B:List Ar):List Ix:=(List.range names.length).flatMap fun i=>((List.range names.length).filter fun j=>decide ((nth names i,nth names j)∈B)).map fun j=>(i,j)
theorem Eu(names:List Str):(List.range names.length).map (nth names)=names:=by
 refine List.ext_getElem (by rw[List.length_map,List.length_range]) fun i h1 h2=>?_
 rw[List.getElem_map,List.getElem_range]
 unfold nth
 rw[List.getD_eq_getElem?_getD,List.getElem?_eq_getElem h2];rfl
theorem wC(names:List Str)(B:List Ar):(ixs names B).map (arrOf names)=v5 names B:=by
 unfold ixs v5
 rw[jQ]
 have e:names.flatMap (fun t=>(names.filter fun h=>decide ((t,h)∈B)).map fun h=>(t,h))=((List.range names.length).map (nth names)).flatMap (fun t=>(names.filter fun h=>decide ((t,h)∈B)).map fun h=>(t,h)):=by rw[Eu]
 rw[e,List.flatMap_map]
 refine jT fun i _=>?_
 have e2:names.filter (fun h=>decide ((nth names i,h)∈B))=((List.range names.length).map (nth names)).filter (fun h=>decide ((nth names i,h)∈B)):=by rw[Eu]
 rw[e2,List.filter_map,List.map_map,List.map_map]
 rfl
theorem zN{names:List Str}{B:List Ar}{p:Ix}:p∈ixs names B↔p.1 < names.length∧p.2 < names.length∧(nth names p.1,nth names p.2)∈B:=by
 unfold ixs
 rw[List.mem_flatMap]
 constructor
 ·rintro ⟨i,hi,h⟩
  obtain⟨j,hj,rfl⟩:=List.mem_map.mp h
  obtain⟨h1,h2⟩:=List.mem_filter.mp hj
  exact⟨List.mem_range.mp hi,List.mem_range.mp h1,of_decide_eq_true h2⟩
 ·rintro ⟨h1,h2,h3⟩
  exact⟨p.1,List.mem_range.mpr h1,List.mem_map.mpr ⟨p.2,List.mem_filter.mpr ⟨List.mem_range.mpr h2,decide_eq_true h3⟩,rfl⟩⟩
theorem mJ.U3{names:List Str}{B:List Ar}(nd:names.Nodup)(h1:1≤names.length)(h8:names.length≤8)(R:Rk B):∃ r,mJ names (ixs names B) r:=by
 obtain⟨k,hk⟩:=R
 refine⟨fun i=>k (nth names i),nd,h1,h8,?_,fun p hp=>?_,?_⟩
 ·unfold ixs
  rw[List.pairwise_flatMap]
  refine⟨fun i _=>?_,?_⟩
  ·rw[List.pairwise_map]
   refine(List.Pairwise.filter _ List.pairwise_lt_range).imp fun {a b} h=>?_
   exact .inr ⟨rfl,h⟩
  ·refine List.pairwise_lt_range.imp fun {a b} h=>?_
   intro x hx y hy
   obtain⟨j,_,rfl⟩:=List.mem_map.mp hx
   obtain⟨j',_,rfl⟩:=List.mem_map.mp hy
   exact .inl h
 ·obtain⟨a,b,c⟩:=zN.mp hp
  exact⟨a,b,hk _ c⟩
 ·have:=O1 h8 B
  rw[← wC,List.length_map] at this
  exact this
theorem qI{α : Type}[DecidableEq α]:∀ {l m:List α},l.Nodup→m.Nodup→(∀ x,x∈l↔x∈m)→l.Perm m
 | [],m,_,_,h=>by
  cases m with
  | nil=>exact .nil
  | cons a r=>exact nomatch (h a).mpr (List.mem_cons_self ..)
 | a::r,m,hl,hm,h=>by
  have l1:=List.nodup_cons.mp hl
  have ha:=(h a).mp (List.mem_cons_self ..)
  have p:=List.perm_cons_erase ha
  refine(List.Perm.cons a (qI l1.2 (hm.erase a) fun x=>?_)).trans p.symm
  rw[hm.mem_erase_iff]
  constructor
  ·exact fun hx=>⟨fun z=>l1.1 (z ▸ hx),(h x).mp (List.mem_cons_of_mem _ hx)⟩
  ·rintro ⟨h1,h2⟩
   rcases List.mem_cons.mp ((h x).mpr h2) with z|z
   ·exact absurd z h1
   ·exact z
theorem Eo{names:List Str}(nd:names.Nodup)(h8:names.length≤8)(B:List Ar):(v5 names B).Nodup:=by
 rw[← wC]
 refine List.pairwise_map.mpr (List.Pairwise.imp_of_mem (R:=iQ) (fun {p q} hp hq h z=>?_) ?_)
 ·obtain⟨a,b,_⟩:=zN.mp hp
  obtain⟨c,d,_⟩:=zN.mp hq
  have e1:=jt nd a c (congrArg Prod.fst z)
  have e2:=jt nd b d (congrArg Prod.snd z)
  rcases h with h|⟨_,h⟩<;>omega
 ·unfold ixs
  rw[List.pairwise_flatMap]
  refine⟨fun i _=>?_,?_⟩
  ·rw[List.pairwise_map]
   exact(List.Pairwise.filter _ List.pairwise_lt_range).imp fun {a b} h=>.inr ⟨rfl,h⟩
  ·refine List.pairwise_lt_range.imp fun {a b} h=>?_
   intro x hx y hy
   obtain⟨j,_,rfl⟩:=List.mem_map.mp hx
   obtain⟨j',_,rfl⟩:=List.mem_map.mp hy
   exact .inl h
structure Gd(names:List Str)(ak:List Ar):Prop where
 nd:names.Nodup
 pos:1≤names.length
 le:names.length≤8
 rk:Rk ak
 v5:v5 names ak=ak
 wd:∀ x∈names,cj [.d (.str x)]=.ok (.d (.bl true))
theorem Gd.inn{names:List Str}{ak:List Ar}(G:Gd names ak):∀ p∈ak,p.1∈names∧p.2∈names:=fun p hp=>by
 rw[← G.v5] at hp
 exact(zM.mp hp).2
theorem Gd.al{names:List Str}{ak:List Ar}(G:Gd names ak):ak.length≤64:=by
 rw[← G.v5];exact O1 G.le _
theorem Gd.nt{names:List Str}{ak:List Ar}(G:Gd names ak):Nt names ak:=⟨G.nd,G.le,G.al,G.inn,G.rk⟩
theorem Gd.nodup{names:List Str}{ak:List Ar}(G:Gd names ak):ak.Nodup:=by
 rw[← G.v5];exact Eo G.nd G.le _
end Mr
namespace Mr
open PySem Mi
open My (words rN bZ)
end Mr
namespace Mr
open PySem Mi
open My (words rN bZ)
theorem Ai(ak:List Ar)(a b:Str):tie ak a b=tie ak b a:=by unfold tie;rw[Bool.or_comm]
theorem mK{ak:List Ar}{a b:Str}:tie ak a b=true↔(a,b)∈ak∨(b,a)∈ak:=by
 unfold tie
 rw[Bool.or_eq_true,decide_eq_true_iff,decide_eq_true_iff]
theorem vp{names:List Str}{a b:Str}(ha:a∈names)(hb:b∈names)(ne:a≠b):(a,b)∈prs names∨(b,a)∈prs names:=by
 obtain⟨i,hi,rfl⟩:=U8 ha
 obtain⟨j,hj,rfl⟩:=U8 hb
 rcases Nat.lt_trichotomy i j with h|h|h
 ·exact .inl (lG.mpr ⟨i,hi,rfl,JX h hj⟩)
 ·exact absurd (by rw[h]) ne
 ·exact .inr (lG.mpr ⟨j,hj,rfl,JX h hi⟩)
end Mr
namespace Mr
open PySem Mi
open My (words rN bZ)
end Mr
namespace Mr
open PySem Mi
open My (words rN bZ)
theorem mJ.gd{names:List Str}{A:List Ix}{r:Nat→Int}(N:mJ names A r)(hw:∀ x∈names,cj [.d (.str x)]=.ok (.d (.bl true))):Gd names (A.map (arrOf names)):=by
 refine⟨N.nd,N.pos,N.le,N.ju.rk,?_,hw⟩
 rw[← wC]
 congr 1
 refine(yu (fun p:Ix=>p.1 * 8+p.2) _ _ ?_ ?_ fun p=>?_)
 ·unfold ixs
  have h8:=N.le
  rw[List.pairwise_flatMap]
  refine⟨fun i _=>?_,?_⟩
  ·rw[List.pairwise_map]
   refine(List.Pairwise.filter _ List.pairwise_lt_range).imp fun {a b} h=>?_
   show i * 8+a < i * 8+b
   omega
  ·refine List.pairwise_lt_range.imp fun {a b} h=>?_
   intro x hx y hy
   obtain⟨j,hj,rfl⟩:=List.mem_map.mp hx
   obtain⟨j',_,rfl⟩:=List.mem_map.mp hy
   have:=List.mem_range.mp (List.mem_filter.mp hj).1
   show a * 8+j < b * 8+j'
   omega
 ·refine N.v5.imp_of_mem fun {p q} hp hq h=>?_
  have h1:=(N.all p hp).2.1
  have h8:=N.le
  rcases h with h|⟨e,h⟩
  ·show p.1 * 8+p.2 < q.1 * 8+q.2
   omega
  ·show p.1 * 8+p.2 < q.1 * 8+q.2
   omega
 ·rw[zN]
  constructor
  ·rintro ⟨h1,h2,h3⟩
   obtain⟨q,hq,e⟩:=List.mem_map.mp h3
   have e1:=jt N.nd (N.all q hq).1 h1 (congrArg Prod.fst e)
   have e2:=jt N.nd (N.all q hq).2.1 h2 (congrArg Prod.snd e)
   have:q=p:=Prod.ext e1 e2
   rw[← this];exact hq
  ·exact fun h=>⟨(N.all p h).1,(N.all p h).2.1,List.mem_map.mpr ⟨p,h,rfl⟩⟩
end Mr
namespace Mr
open PySem Mi
open My (words rN bZ)
end Mr
namespace Mr
open PySem Mi
def j6(r:List Str):D:=.tup (r.map D.str)
def rk(r:List Str):List Ky:=r.map Sum.inr
theorem Ms:∀ {a b:List Str},rk a=rk b→a=b
 | [],[],_=>rfl
 | [],_::_,h=>by cases h
 | _::_,[],h=>by cases h
 | x::a,y::b,h=>by
  unfold rk at h
  simp only[List.map_cons,List.cons.injEq,Sum.inr.injEq] at h
  rw[h.1,Ms (a:=a) (b:=b) h.2]
theorem ur:∀ r:List Str,wL (r.map D.str)=some (rk r)
 | []=>rfl
 | x::r=>by
  rw[List.map_cons,wL,ur r];rfl
def mU(ks:List (List Str)):List (List Ky×D):=ks.map fun k=>(rk k,D.bl true)
theorem abx(ks:List (List Str))(k:List Str):(uz (mU ks) (rk k)).isSome=decide (k∈ks):=by
 unfold uz mU
 induction ks with
 | nil=>rfl
 | cons a r ih =>
  rw[List.map_cons,List.find?_cons]
  by_cases h:a=k
  ·subst h;simp
  ·rw[decide_eq_false (fun z:rk a=rk k=>h (Ms z))]
   simp only[ih]
   simp[Ne.symm h]
def zA(ks:List (List Str))(k:List Str):List (List Str):=if k∈ks then ks else ks++[k]
theorem J4{ks:List (List Str)}{k x:List Str}:x∈zA ks k↔x∈ks∨x=k:=by
 unfold zA
 split
 ·rename_i h
  exact⟨.inl,fun z=>z.elim id fun e=>by rw[e];exact h⟩
 ·rw[List.mem_append,List.mem_singleton]
theorem Kc(ks:List (List Str))(k:List Str):(zA ks k).length≤ks.length+1:=by
 unfold zA
 split
 ·omega
 ·rw[List.length_append];simp
theorem adB(ks:List (List Str))(k:List Str):Mi.putK (rk k) (D.bl true) (mU ks)=mU (zA ks k):=by
 unfold Mi.putK zA
 have e:((mU ks).any fun kv=>decide (kv.1=rk k))=decide (k∈ks):=by
  unfold mU
  rw[List.any_map]
  induction ks with
  | nil=>rfl
  | cons a r ih =>
   rw[List.any_cons,ih]
   simp only[Function.comp,List.mem_cons]
   by_cases h:a=k
   ·subst h;simp
   ·rw[decide_eq_false (fun z:rk a=rk k=>h (Ms z))]
    simp[Ne.symm h]
 rw[e]
 by_cases h:k∈ks
 ·rw[if_pos (by simp[h]),if_pos h]
  unfold mU
  rw[List.map_map]
  refine List.map_congr_left fun x _=>?_
  simp only[Function.comp]
  split
  ·rename_i z;rfl
  ·rfl
 ·rw[if_neg (by simp[h]),if_neg h]
  unfold mU
  rw[List.map_append];rfl
theorem VN{i:Nat}{k:E}{e:Mi.Env}{ks:List (List Str)}{r:List Str}(hk:k e=.ok (j6 r))(hw:wV i e=.ok (.dt (mU ks)))(hl:ks.length≤10000):gK i k (mC (.bl true)) e=.ok (.nx (e.set i (some (.dt (mU (zA ks r)))))):=by
 unfold gK
 have h1:RQ (.dt (mU ks)) (j6 r) (.bl true)=.ok (.dt (mU (zA ks r))):=by
  unfold RQ j6
  dsimp only
  rw[au (by unfold mU;rw[List.length_map];omega),ur]
  show Rs.ok (W.dt (Mi.putK (rk r) (D.bl true) (mU ks)))=_
  rw[adB]
 rw[show mC (.bl true) e=.ok (.bl true) from rfl,aB,hk,aB,hw,aB,h1];rfl
theorem Qv(rows:List (List Str))(hr:∀ r∈rows,r.length≤1000)(hl:rows.length≤1000):∃ ks,fU [.d (.lst (rows.map j6))]=.ok (.dt (mU ks))∧∀ k,k∈ks↔∃ r∈rows,k=r∨k=r.reverse:=by
 obtain⟨e',f1,ks,o2,he,h1,h2⟩:=gP (tg:=.n 2) (body:=(bc (gK 1 (mV 2) (mC (.bl true)))
 (gK 1 (m1 Kw (mV 2)) (mC (.bl true)))))
  (fun i e=>∃ (ks:List (List Str)) (o2:Option W),e=[some (.d (.lst (rows.map j6))),some (.dt (mU ks)),o2]∧ks.length≤2 * i∧∀ k,k∈ks↔∃ r∈rows.take i,k=r∨k=r.reverse) (rows.map j6) 0 (fun i d e hi ⟨ks,o2,he,h1,h2⟩=>by
   subst he
   rw[Nat.zero_add] at h1 h2 ⊢
   rw[List.getElem?_map] at hi
   obtain⟨r,hp,rfl⟩:=Option.map_eq_some_iff.mp hi
   have il:=(List.getElem?_eq_some_iff.mp hp).1
   have rm:=List.mem_of_getElem? hp
   have l1:=Kc ks r
   have l2:=Kc (zA ks r) r.reverse
   refine⟨[some (.d (.lst (rows.map j6))),some (.dt (mU ks)),some (.d (j6 r))],[some (.d (.lst (rows.map j6))),some (.dt (mU (zA (zA ks r) r.reverse))),some (.d (j6 r))],rfl,?_,_,_,rfl,by omega,fun k=>?_⟩
   ·rw[aH (VN (ks:=ks) (r:=r) rfl rfl (by omega))]
    refine VN (ks:=zA ks r) (r:=r.reverse) ?_ rfl (by omega)
    show Kw (j6 r)=_
    unfold Kw j6
    dsimp only
    rw[au (by rw[List.length_map];exact hr r rm),List.map_reverse]
   ·rw[J4,J4,h2,List.take_succ,hp]
    simp only[Option.toList_some,List.mem_append,List.mem_singleton]
    constructor
    ·rintro ((⟨x,hx,e⟩|e)|e)
     ·exact⟨x,.inl hx,e⟩
     ·exact⟨r,.inr rfl,.inl e⟩
     ·exact⟨r,.inr rfl,.inr e⟩
    ·rintro ⟨x,hx|rfl,e⟩
     ·exact .inl (.inl ⟨x,hx,e⟩)
     ·rcases e with e|e
      ·exact .inl (.inr e)
      ·exact .inr e) [some (.d (.lst (rows.map j6))),some (.dt (mU [])),none] ⟨[],none,rfl,by simp,by simp⟩
 subst he
 refine⟨ks,?_,fun k=>by rw[h2 k,Nat.zero_add,List.length_map,List.take_length]⟩
 unfold fU yX
 rw[Nr]
 rw[show ([some (W.d (.lst (rows.map j6)))]++List.replicate (3 - 1) none)=[some (W.d (.lst (rows.map j6))),none,none] from rfl]
 rw[aH (e':=[some (.d (.lst (rows.map j6))),some (.dt (mU [])),none]) rfl]
 rw[aH ((iC (cR (x:=.lst (rows.map j6)) rfl rfl)).trans f1)]
 rfl
theorem ZM{i:Nat}{k:E}{e:Mi.Env}{ks:List (List Str)}{r:List Str}(hk:k e=.ok (j6 r))(hw:wV i e=.ok (.df (mU ks))):j7 i k e=.ok (.bl (decide (r∈ks))):=by
 unfold j7
 rw[hk,aB,hw,aB,← abx]
 unfold V1 j6
 dsimp only
 rw[ur];rfl
theorem Ks{i:Nat}{k:E}{e:Mi.Env}{ks:List (List Str)}{r:List Str}(hk:k e=.ok (j6 r))(hw:wV i e=.ok (.df (mU ks))):mR i k e=.ok (.bl (!decide (r∈ks))):=by
 unfold mR
 rw[hk,aB,hw,aB,← abx]
 unfold V1 j6
 dsimp only
 rw[ur];rfl
abbrev Gf:=List (Ar×D)
def wA(told:Gf):List (List Ky×D):=told.map fun t=>(Hx t.1,t.2)
def lV(told:Gf):List Ar:=told.map (·.1)
theorem Y8(told:Gf)(p:Ar):(uz (wA told) (Hx p)).isSome=decide (p∈lV told):=by
 unfold uz wA lV
 induction told with
 | nil=>rfl
 | cons a r ih =>
  rw[List.map_cons,List.find?_cons,List.map_cons]
  by_cases h:a.1=p
  ·rw[decide_eq_true (by rw[h]:Hx a.1=Hx p)];simp[h]
  ·rw[decide_eq_false (fun z:Hx a.1=Hx p=>h (zR z))]
   simp only[ih]
   simp[Ne.symm h]
theorem Qi{i:Nat}{k:E}{e:Mi.Env}{told:Gf}{p:Ar}(hk:k e=.ok (pairD p))(hw:wV i e=.ok (.dt (wA told))):j7 i k e=.ok (.bl (decide (p∈lV told))):=by
 unfold j7;rw[hk,aB,hw,aB,← Y8];rfl
theorem VP{i:Nat}{k:E}{e:Mi.Env}{told:Gf}{p:Ar}(hk:k e=.ok (pairD p))(hw:wV i e=.ok (.dt (wA told))):mR i k e=.ok (.bl (!decide (p∈lV told))):=by
 unfold mR;rw[hk,aB,hw,aB,← Y8];rfl
theorem Za{a b c:E}{e:Mi.Env}{x y z:Str}(h:a e=.ok (.str x))(h':b e=.ok (.str y))(h'':c e=.ok (.str z)):mN dTup [a,b,c] e=.ok (j6 [x,y,z]):=(Pq h h' h'').trans (au (by show (3:Nat)≤_;decide))
theorem Zb{a b:E}{e:Mi.Env}{x y:Str}(h:a e=.ok (.str x))(h':b e=.ok (.str y)):mN dTup [a,b] e=.ok (j6 [x,y]):=j5 h h'
theorem adX(n:Nat)(b:S)(a0 a1 a2 a3 a4:W):vH 5 n b [a0,a1,a2,a3,a4]=(b ([some a0,some a1,some a2,some a3,some a4]++List.replicate (n - 5) none)).bind wJ:=au rfl
theorem adV(n:Nat)(b:S)(a0 a1 a2 a3 a4 a5:W):Je 6 n b [a0,a1,a2,a3,a4,a5]=(b ([some a0,some a1,some a2,some a3,some a4,some a5]++List.replicate (n - 6) none)).bind nJ:=au rfl
def QR(KT KC:List (List Str))(a m b:Str):Bool:=(!decide (a=b)) && ((!decide ([a,b]∈KT)) && (!decide ([a,m,b]∈KC)))
theorem yz(KT KC:List (List Str))(a m b:Str):cO [.d (.str a),.d (.str m),.d (.str b),.df (mU KT),.df (mU KC)]=.ok (.d (.bl (QR KT KC a m b))):=by
 unfold cO uR
 rw[adX]
 rw[show ([some (W.d (.str a)),some (.d (.str m)),some (.d (.str b)),some (.df (mU KT)),some (.df (mU KC))]++List.replicate (5 - 5) none)=[some (W.d (.str a)),some (.d (.str m)),some (.d (.str b)),some (.df (mU KT)),some (.df (mU KC))] from rfl]
 rw[dZ (bT (wy (aL rfl rfl (Yp a b)) fun _=>wy (Ks (ks:=KT) (r:=[a,b]) (Zb rfl rfl) rfl) fun _=>Ks (ks:=KC) (r:=[a,m,b]) (Za rfl rfl rfl) rfl))]
 rfl
end Mr
namespace Mr
open PySem Mi
theorem Tv{names:List Str}{a b:E}{e:Mi.Env}{k:Nat}(hk:k < names.length)(hn:names.length≤8)(ha:a e=.ok (aU names))(hb:b e=.ok (.int (k:Nat))):lY (gq Kv a (some (m2 bQ b (mC (.int 1)))) none) e=.ok ((names.drop (k+1)).map D.str):=by
 have sl:gq Kv a (some (m2 bQ b (mC (.int 1)))) none e=.ok (.lst ((names.map D.str).drop (k+1))):=by
  rw[GZ ha (aL (a:=b) (b:=mC (.int 1)) (x:=.int (k:Nat)) (y:=.int 1) hb rfl rfl)]
  show Rs.ok (D.lst (wN (names.map D.str) (some ((k:Nat)+1:Int)) none))=_
  rw[show ((k:Nat):Int)+1=((k+1:Nat):Int) by omega,KJ]
 rw[cR sl rfl,List.map_drop]
theorem Q5{names:List Str}(hn:names.length≤8):cP [.d (aU names)]=.ok (.d (gQ (prs names))):=by
 unfold cP vO
 rw[Nr]
 have epr:(prs names).map pairD=(List.range names.length).flatMap fun k=>(names.drop (k+1)).map fun b=>pairD (nth names k,b):=by
  unfold prs
  rw[jQ]
  refine jT fun k _=>?_
  rw[List.map_map];rfl
 have aas:((prs names).map pairD).length≤64:=by rw[List.length_map];exact ue hn
 rw[epr] at aas
 obtain⟨e',f1,o2,o3,he⟩:=wI (tg:=.t [2,3]) (body:=(nZ 1 (cF [some 3,none] (lY (gq Kv (mV 0) (some (m2 bQ (mV 2) (mC (.int 1)))) none)) (.n 1) dX (mN dTup [(mV 0),(mV 1)]))))
  (fun k:Nat=>D.tup [.int (k:Nat),.str (nth names k)]) (fun k=>(names.drop (k+1)).map fun b=>pairD (nth names k,b))
  (fun acc e=>∃ o2 o3:Option W,e=[some (.d (aU names)),some (.d (.lst acc)),o2,o3]) (List.range names.length) [] [some (.d (aU names)),some (.d (.lst [])),none,none] (by simp only[List.length_nil];omega) ⟨none,none,rfl⟩
  (fun k hk acc e hl ⟨o2,o3,he⟩=>by
   subst he
   have hk:=List.mem_range.mp hk
   refine⟨[some (.d (aU names)),some (.d (.lst acc)),some (.d (.int (k:Nat))),some (.d (.str (nth names k)))],putL [some (.d (aU names)),some (.d (.lst acc)),some (.d (.int (k:Nat))),some (.d (.str (nth names k)))] 1 (acc++(names.drop (k+1)).map fun b=>pairD (nth names k,b)),rfl,?_,_,_,rfl⟩
   have hc:dJ (.n 1) dX (mN dTup [(mV 0),(mV 1)]) [some (.d (.str (nth names k))),none] ((names.drop (k+1)).map D.str)=.ok (((names.drop (k+1)).filter fun _=>true).map fun b=>pairD (nth names k,b)) :=
    cu D.str (fun b=>pairD (nth names k,b)) (fun _=>true) _ fun b _=>⟨[some (.d (.str (nth names k))),some (.d (.str b))],rfl,rfl,fun _=>j5 rfl rfl⟩
   rw[List.filter_eq_self.mpr (fun _ _=>rfl)] at hc
   exact Nu (cC (ρ:=[some 3,none]) (Tv hk hn rfl rfl) (by rw[List.length_map,List.length_drop];omega) hc) rfl hl)
 subst he
 rw[show ([some (W.d (aU names))]++List.replicate (4 - 1) none)=[some (W.d (aU names)),none,none,none] from rfl]
 rw[aH (e':=[some (.d (aU names)),some (.d (.lst [])),none,none]) (bx (Rm _))]
 have hit:HJ (mV 0) [some (.d (aU names)),some (.d (.lst [])),none,none]=.ok ((List.range names.length).map fun k=>D.tup [.int (k:Nat),.str (nth names k)]):=by
  rw[← Cm];rfl
 rw[aH ((iC hit).trans f1)]
 unfold gQ
 rw[epr];rfl
structure Dc(names:List Str)(A:List Ar)(KT KC:List (List Str)):Prop where
 kt:∀ a∈names,∀ b∈names,a≠b→([a,b]∈KT↔tie A a b=true)
 ktm:∀ k∈KT,∃ a b,k=[a,b]∧a∈names∧b∈names∧a≠b∧tie A a b=true
 kc:∀ a∈names,∀ m∈names,∀ b∈names,[a,m,b]∈KC↔a≠b∧NZ A a m b=true
def Ls(t h s:Str)(x:List Str):D:=.tup [.str t,.str h,.str s,.tup (x.map D.str)]
inductive Rl(names:List Str)(A P:List Ar)(t h:Str):Str→List Str→Prop
 | aa5 {z:Str} (zn:z∈names) (ne:t≠z) (c:NZ A t h z=true):Rl names A P t h "corner" [z]
 | on {z:Str} (zn:z∈names) (ne:z≠h) (nt:tie A z h=false) (nc:NZ A z t h=false) (p:(z,t)∈P):Rl names A P t h "on" [z]
 | over {z:Str} (zn:z∈names) (p:(t,z)∈P) (q:(z,h)∈P):Rl names A P t h "over" [z]
 | both {z w:Str} (zn:z∈names) (wn:w∈names) (ne:z≠w) (nt:tie A z w=false) (nc:NZ A z t w=false) (t1:tie A z t=true) (t2:tie A w t=true) (p:(z,h)∈P) (q:(w,h)∈P):Rl names A P t h "both" [z,w]
structure Gr(names:List Str)(A P:List Ar)(t h:Str)(rows:List D):Prop where
 sh:∀ r∈rows,∃ s x,r=Ls t h s x∧Rl names A P t h s x
 so:rows≠[]→(t,h)∈A
theorem Gr.nil(names:List Str)(A P:List Ar)(t h:Str):Gr names A P t h []:=⟨fun _ z=>(nomatch z),fun z=>(z rfl).elim⟩
theorem Gr.add{names:List Str}{A P:List Ar}{t h:Str}{rows:List D}(g:Gr names A P t h rows){p:Bool}{s:Str}{x:List Str}(hp:p=true→(t,h)∈A∧Rl names A P t h s x):Gr names A P t h (rows++if p then [Ls t h s x] else []):=by
 cases p with
 | false=>simpa using g
 | true =>
  refine⟨fun r hr=>?_,fun _=>(hp rfl).1⟩
  rcases List.mem_append.mp hr with z|z
  ·exact g.sh r z
  ·exact⟨s,x,List.mem_singleton.mp z,(hp rfl).2⟩
theorem acq{f:List D→Rs D}{a b c d:E}{e:Mi.Env}{x y z w:D}(h:a e=.ok x)(h':b e=.ok y)(h'':c e=.ok z)(h3:d e=.ok w):mN f [a,b,c,d] e=f [x,y,z,w]:=by unfold mN;rw[fV,h,aB,fV,h',aB,fV,h'',aB,fV,h3];rfl
theorem G5{a b c d:E}{e:Mi.Env}{t h s:Str}{x:List Str}(h1:a e=.ok (.str t))(h2:b e=.ok (.str h))(h3:c e=.ok (.str s))(h4:d e=.ok (.tup (x.map D.str))):mN dTup [a,b,c,d] e=.ok (Ls t h s x):=(acq h1 h2 h3 h4).trans (au (by show (4:Nat)≤_;decide))
theorem Z5{a:E}{e:Mi.Env}{x:Str}(h:a e=.ok (.str x)):mN dTup [a] e=.ok (.tup ([x].map D.str)):=(km h).trans (au (by show (1:Nat)≤_;decide))
section
variable{names:List Str}{A:List Ar}{KT KC:List (List Str)}(N:Nt names A)(D':Dc names A KT KC){told:Gf}(ht:∀ p∈lV told,p∈A){t h:Str}(tn:t∈names)(hn:h∈names)(th:tie A t h=true)
theorem T5{A:List Ar}(R:Rk A){a b:Str}(h:(a,b)∈A):(b,a)∉A:=fun z=>by
 obtain⟨r,hr⟩:=R
 have h1:=hr _ h
 have h2:=hr _ z
 simp only at h1 h2;omega
include N D' tn hn th in
theorem TJ{x:Str}(xn:x∈names)(hx:[t,h,x]∈KC):(t,h)∈A∧Rl names A (lV told) t h "corner" [x] :=
 ⟨(zY.mp ((D'.kc t tn h hn x xn).mp hx).2).1,.aa5 xn ((D'.kc t tn h hn x xn).mp hx).1 ((D'.kc t tn h hn x xn).mp hx).2⟩
include N D' ht tn hn th in
theorem adz{x:Str}(xn:x∈names)(h1:(x,t)∈lV told)(h2:QR KT KC x t h=true):(t,h)∈A∧Rl names A (lV told) t h "on" [x]:=by
 unfold QR at h2
 simp only[Bool.and_eq_true,Bool.not_eq_true',decide_eq_false_iff_not] at h2
 obtain⟨n1,n2,n3⟩:=h2
 have nt:¬ tie A x h=true:=fun y=>n2 ((D'.kt x xn h hn n1).mpr y)
 have nc:¬ NZ A x t h=true:=fun y=>n3 ((D'.kc x xn t tn h hn).mpr ⟨n1,y⟩)
 refine⟨?_,.on xn n1 (Bool.not_eq_true _ ▸ nt) (Bool.not_eq_true _ ▸ nc) h1⟩
 rcases mK.mp th with z|z
 ·exact z
 ·rw[mK] at nt
  exact absurd (zY.mpr ⟨ht _ h1,z,fun y=>nt (.inl y),fun y=>nt (.inr y)⟩) nc
include N ht th in
theorem aag{x:Str}(xn:x∈names)(h1:(t,x)∈lV told)(h2:(x,h)∈lV told):(t,h)∈A∧Rl names A (lV told) t h "over" [x]:=by
 refine⟨?_,.over xn h1 h2⟩
 rcases mK.mp th with z|z
 ·exact z
 ·obtain⟨r,hr⟩:=N.rk
  have a1:=hr _ (ht _ h1)
  have a2:=hr _ (ht _ h2)
  have a3:=hr _ z
  simp only at a1 a2 a3;omega
include N D' ht tn hn th in
theorem aah{x y:Str}(xn:x∈names)(yn:y∈names)(h1:(x,h)∈lV told)(h2:(y,h)∈lV told)(k1:[x,t]∈KT)(k2:[y,t]∈KT)(h3:QR KT KC x t y=true):(t,h)∈A∧Rl names A (lV told) t h "both" [x,y]:=by
 unfold QR at h3
 simp only[Bool.and_eq_true,Bool.not_eq_true',decide_eq_false_iff_not] at h3
 obtain⟨n1,n2,n3⟩:=h3
 have nt:¬ tie A x y=true:=fun q=>n2 ((D'.kt x xn y yn n1).mpr q)
 have nc:¬ NZ A x t y=true:=fun q=>n3 ((D'.kc x xn t tn y yn).mpr ⟨n1,q⟩)
 have tt:∀ w,[w,t]∈KT→tie A w t=true:=fun w kw=>by
  obtain⟨a,b,e,_,_,_,q⟩:=D'.ktm _ kw
  cases e
  exact q
 refine⟨?_,.both xn yn n1 (Bool.not_eq_true _ ▸ nt) (Bool.not_eq_true _ ▸ nc) (tt x k1) (tt y k2) h1 h2⟩
 rcases mK.mp th with z|z
 ·exact z
 ·obtain⟨r,hr⟩:=N.rk
  have a3:=hr _ z
  have into:∀ w,(w,h)∈lV told→[w,t]∈KT→(w,t)∈A:=fun w hw kw=>by
   rcases mK.mp (tt w kw) with q|q
   ·exact q
   ·have a1:=hr _ (ht _ hw)
    have a2:=hr _ q
    simp only at a1 a2 a3;omega
  rw[mK] at nt
  exact absurd (zY.mpr ⟨into x h1 k1,into y h2 k2,fun q=>nt (.inl q),fun q=>nt (.inr q)⟩) nc
end
end Mr
namespace Mr
open PySem Mi
theorem Wc{f:Fn}{a b c d g:EW}{e:Mi.Env}{x y z u v:W}{o:D}(h1:a e=.ok x)(h2:b e=.ok y)(h3:c e=.ok z)(h4:d e=.ok u)(h5:g e=.ok v)(hf:f [x,y,z,u,v]=.ok (.d o)):aQ f [a,b,c,d,g] e=.ok o:=by
 unfold aQ jG
 rw[bO,h1,aB,bO,h2,aB,bO,h3,aB,bO,h4,aB,bO,h5]
 simp only[aB,bO,hf,FZ]
section
variable{names:List Str}{A:List Ar}{KT KC:List (List Str)}
def vI(t h:Str)(names:List Str)(KT KC:List (List Str))(told:Gf)(rows:List D)(o7 o8 o9:Option W):Mi.Env :=
 [some (.d (.str t)),some (.d (.str h)),some (.d (gJ names)),some (.df (mU KT)),some (.df (mU KC)),some (.dt (wA told)),some (.d (.lst rows)),o7,o8,o9]
theorem Mp(N:Nt names A)(D':Dc names A KT KC){told:Gf}(ht:∀ p∈lV told,p∈A){t h:Str}(tn:t∈names)(hn:h∈names)(th:tie A t h=true) :
 ∃ rows,jx [.d (.str t),.d (.str h),.d (gJ names),.df (mU KT),.df (mU KC),.dt (wA told)]=.ok (.d (.lst rows))∧Gr names A (lV told) t h rows:=by
 obtain⟨e1,f1,JC,o7,he1,g1,l1⟩:=gP (tg:=.n 7) (body:=(bc (jE (cB (j7 4 (mN dTup [(mV 0),(mV 1),(mV 7)])))
 (dj 6 (mN dTup [(mV 0),(mV 1),(mC (.str "corner")),(mN dTup [(mV 7)])]))
 bK)
 (bc (jE (nO (cB (j7 5 (mN dTup [(mV 7),(mV 0)]))) (cB (aQ cO [(wD (mV 7)),(wD (mV 0)),(wD (mV 1)),(wV 3),(wV 4)])))
 (dj 6 (mN dTup [(mV 0),(mV 1),(mC (.str "on")),(mN dTup [(mV 7)])]))
 bK)
 (jE (nO (cB (j7 5 (mN dTup [(mV 0),(mV 7)]))) (cB (j7 5 (mN dTup [(mV 7),(mV 1)]))))
 (dj 6 (mN dTup [(mV 0),(mV 1),(mC (.str "over")),(mN dTup [(mV 7)])]))
 bK))))
  (fun i e=>∃ (rows:List D) (o7:Option W),e=vI t h names KT KC told rows o7 none none∧Gr names A (lV told) t h rows∧rows.length≤3 * i) (names.map D.str) 0 (fun i d e hi ⟨rows,o7,he,g,l⟩=>by
   subst he
   rw[Nat.zero_add] at l ⊢
   rw[List.getElem?_map] at hi
   obtain⟨x,hp,rfl⟩:=Option.map_eq_some_iff.mp hi
   have xn:=List.mem_of_getElem? hp
   have il:=(List.getElem?_eq_some_iff.mp hp).1
   have i8:=N.le
   have s1:=Iu (i:=6) (a:=mN dTup [(mV 0),(mV 1),(mC (.str "corner")),(mN dTup [(mV 7)])]) (cz (ZM (i:=4) (k:=mN dTup [(mV 0),(mV 1),(mV 7)]) (e:=vI t h names KT KC told rows (some (.d (.str x))) none none) (ks:=KC) (r:=[t,h,x]) (Za rfl rfl rfl) rfl)) (d:=Ls t h "corner" [x]) (fun _=>G5 rfl rfl rfl (Z5 rfl)) (ds:=rows) rfl (by split<;>simp<;>omega) rfl
   obtain⟨p1,hp1⟩ : ∃ p,p=decide ([t,h,x]∈KC):=⟨_,rfl⟩
   rw[← hp1] at s1
   obtain⟨r1,hr1⟩ : ∃ r,r=rows++if p1 then [Ls t h "corner" [x]] else []:=⟨_,rfl⟩
   rw[← hr1] at s1
   have g1:Gr names A (lV told) t h r1:=by rw[hr1];exact g.add fun z=>TJ N D' tn hn th xn (by rw[hp1] at z;exact of_decide_eq_true z)
   have l1:r1.length≤rows.length+1:=by rw[hr1,List.length_append];split<;>simp
   have s2:=Iu (i:=6) (a:=mN dTup [(mV 0),(mV 1),(mC (.str "on")),(mN dTup [(mV 7)])]) (wU (a:=cB (j7 5 (mN dTup [(mV 7),(mV 0)]))) (b:=cB (aQ cO [(wD (mV 7)),(wD (mV 0)),(wD (mV 1)),(wV 3),(wV 4)])) (e:=vI t h names KT KC told r1 (some (.d (.str x))) none none) (cz (Qi (told:=told) (p:=(x,t)) (j5 rfl rfl) rfl)) fun _=>cz (Wc rfl rfl rfl rfl rfl (yz KT KC x t h))) (d:=Ls t h "on" [x]) (fun _=>G5 rfl rfl rfl (Z5 rfl)) (ds:=r1) rfl (by split<;>simp<;>omega) rfl
   obtain⟨p2,hp2⟩ : ∃ p,p=(decide ((x,t)∈lV told) && QR KT KC x t h):=⟨_,rfl⟩
   rw[← hp2] at s2
   obtain⟨r2,hr2⟩ : ∃ r,r=r1++if p2 then [Ls t h "on" [x]] else []:=⟨_,rfl⟩
   rw[← hr2] at s2
   have g2:Gr names A (lV told) t h r2:=by
    rw[hr2]
    refine g1.add fun z=>?_
    rw[hp2,Bool.and_eq_true,decide_eq_true_eq] at z
    exact adz N D' ht tn hn th xn z.1 z.2
   have l2:r2.length≤r1.length+1:=by rw[hr2,List.length_append];split<;>simp
   have s3:=Iu (i:=6) (a:=mN dTup [(mV 0),(mV 1),(mC (.str "over")),(mN dTup [(mV 7)])]) (wU (a:=cB (j7 5 (mN dTup [(mV 0),(mV 7)]))) (b:=cB (j7 5 (mN dTup [(mV 7),(mV 1)]))) (e:=vI t h names KT KC told r2 (some (.d (.str x))) none none) (cz (Qi (told:=told) (p:=(t,x)) (j5 rfl rfl) rfl)) fun _=>cz (Qi (told:=told) (p:=(x,h)) (j5 rfl rfl) rfl)) (d:=Ls t h "over" [x]) (fun _=>G5 rfl rfl rfl (Z5 rfl)) (ds:=r2) rfl (by split<;>simp<;>omega) rfl
   obtain⟨p3,hp3⟩ : ∃ p,p=(decide ((t,x)∈lV told) && decide ((x,h)∈lV told)):=⟨_,rfl⟩
   rw[← hp3] at s3
   obtain⟨r3,hr3⟩ : ∃ r,r=r2++if p3 then [Ls t h "over" [x]] else []:=⟨_,rfl⟩
   rw[← hr3] at s3
   have g3:Gr names A (lV told) t h r3:=by
    rw[hr3]
    refine g2.add fun z=>?_
    rw[hp3,Bool.and_eq_true,decide_eq_true_eq,decide_eq_true_eq] at z
    exact aag N ht th xn z.1 z.2
   have l3:r3.length≤r2.length+1:=by rw[hr3,List.length_append];split<;>simp
   exact⟨vI t h names KT KC told rows (some (.d (.str x))) none none,vI t h names KT KC told r3 (some (.d (.str x))) none none,rfl,(aH s1).trans ((aH s2).trans s3),r3,_,rfl,g3,by omega⟩) (vI t h names KT KC told [] none none none) ⟨[],none,rfl,Gr.nil names A (lV told) t h,by simp⟩
 subst he1
 have i8:=N.le
 rw[Nat.zero_add,List.length_map] at l1
 obtain⟨uM,Np⟩ : ∃ l,l=names.filter fun n=>decide ((n,h)∈lV told) && decide ([n,t]∈KT):=⟨_,rfl⟩
 have cm:dJ (.n 4) (nO (cB (j7 0 (mN dTup [(mV 4),(mV 2)]))) (cB (j7 1 (mN dTup [(mV 4),(mV 3)])))) (mV 4) [some (.dt (wA told)),some (.df (mU KT)),some (.d (.str h)),some (.d (.str t)),none] (names.map D.str)=.ok (uM.map D.str):=by
  rw[Np]
  exact cu D.str D.str _ names fun n _=>⟨[some (.dt (wA told)),some (.df (mU KT)),some (.d (.str h)),some (.d (.str t)),some (.d (.str n))],rfl,wU (cz (Qi (told:=told) (p:=(n,h)) (j5 rfl rfl) rfl)) fun _=>cz (ZM (ks:=KT) (r:=[n,t]) (Zb rfl rfl) rfl),fun _=>rfl⟩
 have s8:=bx (i:=8) (cC (ρ:=[some 5,some 3,some 1,some 0,none]) (e:=vI t h names KT KC told JC o7 none none) (cR (a:=mV 2) (x:=gJ names) rfl rfl) (by rw[List.length_map];omega) cm)
 have nl:uM.length≤8:=by rw[Np];exact Nat.le_trans (List.length_filter_le _ _) N.le
 have nm:∀ n∈uM,n∈names∧(n,h)∈lV told∧[n,t]∈KT:=fun n z=>by
  rw[Np] at z
  obtain⟨z1,z2⟩:=List.mem_filter.mp z
  rw[Bool.and_eq_true,decide_eq_true_eq,decide_eq_true_eq] at z2
  exact⟨z1,z2.1,z2.2⟩
 have pl:=ue nl
 obtain⟨e2,f2,abQ,o72,o92,he2,g2,l2⟩:=gP (tg:=.t [7,9]) (body:=(jE (cB (aQ cO [(wD (mV 7)),(wD (mV 0)),(wD (mV 9)),(wV 3),(wV 4)]))
 (dj 6 (mN dTup [(mV 0),(mV 1),(mC (.str "both")),(mN dTup [(mV 7),(mV 9)])]))
 bK))
  (fun i e=>∃ (rows:List D) (o7 o9:Option W),e=vI t h names KT KC told rows o7 (some (.d (aU uM))) o9∧Gr names A (lV told) t h rows∧rows.length≤24+i) ((prs uM).map pairD) 0 (fun i d e hi ⟨rows,o7,o9,he,g,l⟩=>by
   subst he
   rw[Nat.zero_add] at l ⊢
   rw[List.getElem?_map] at hi
   obtain⟨p,hp,rfl⟩:=Option.map_eq_some_iff.mp hi
   have il:=(List.getElem?_eq_some_iff.mp hp).1
   obtain⟨x1,x2⟩:=ud (List.mem_of_getElem? hp)
   have s1:=Iu (i:=6) (a:=mN dTup [(mV 0),(mV 1),(mC (.str "both")),(mN dTup [(mV 7),(mV 9)])]) (cz (Wc (f:=cO) (a:=wD (mV 7)) (b:=wD (mV 0)) (c:=wD (mV 9)) (d:=wV 3) (g:=wV 4) (e:=vI t h names KT KC told rows (some (.d (.str p.1))) (some (.d (aU uM))) (some (.d (.str p.2)))) rfl rfl rfl rfl rfl (yz KT KC p.1 t p.2))) (d:=Ls t h "both" [p.1,p.2]) (fun _=>G5 rfl rfl rfl (j5 rfl rfl)) (ds:=rows) rfl (by split<;>simp<;>omega) rfl
   refine⟨vI t h names KT KC told rows (some (.d (.str p.1))) (some (.d (aU uM))) (some (.d (.str p.2))),_,rfl,s1,_,_,_,rfl,g.add fun z=>?_,?_⟩
   ·exact aah N D' ht tn hn th (nm _ x1).1 (nm _ x2).1 (nm _ x1).2.1 (nm _ x2).2.1 (nm _ x1).2.2 (nm _ x2).2.2 z
   ·rw[List.length_append];split<;>simp<;>omega) (vI t h names KT KC told JC o7 (some (.d (aU uM))) none) ⟨JC,_,none,rfl,g1,by omega⟩
 subst he2
 refine⟨abQ,?_,g2⟩
 unfold jx CN
 rw[adV]
 rw[show ([some (W.d (.str t)),some (W.d (.str h)),some (W.d (gJ names)),some (W.df (mU KT)),some (W.df (mU KC)),some (W.dt (wA told))]++List.replicate (10 - 6) none)=[some (W.d (.str t)),some (W.d (.str h)),some (W.d (gJ names)),some (W.df (mU KT)),some (W.df (mU KC)),some (W.dt (wA told)),none,none,none,none] from rfl]
 rw[aH (e':=vI t h names KT KC told [] none none none) (bx (Rm _))]
 rw[aH ((iC (cR (x:=gJ names) rfl rfl)).trans f1)]
 rw[aH s8]
 rw[show ((vI t h names KT KC told JC o7 none none).set 8 (some (W.d (D.lst (uM.map D.str)))))=vI t h names KT KC told JC o7 (some (.d (aU uM))) none from rfl]
 rw[aH ((iC (cR (fX (f:=cP) (a:=wD (mV 8)) rfl (Q5 nl)) rfl)).trans f2)]
 rfl
end
end Mr
namespace Mr
open PySem Mi
theorem aa8{f:Fn}{a b c d g k:EW}{e:Mi.Env}{x y z u v w:W}{rows:List D}(h1:a e=.ok x)(h2:b e=.ok y)(h3:c e=.ok z)(h4:d e=.ok u)(h5:g e=.ok v)(h6:k e=.ok w)(hf:f [x,y,z,u,v,w]=.ok (.d (.lst rows)))(hi:Ca rows=true):Bx f [a,b,c,d,g,k] e=.ok (.lst rows):=by
 unfold Bx jG
 rw[bO,h1,aB,bO,h2,aB,bO,h3,aB,bO,h4,aB,bO,h5,aB,bO,h6]
 simp only[aB,bO,hf,Wt,au hi]
theorem Yc(t h s:Str)(x:List Str):RC (Ls t h s x)=true:=by
 unfold Ls
 simp[RC,Ca,Ke]
theorem Gr.RC{names:List Str}{A P:List Ar}{t h:Str}:∀ {rows:List D},(∀ r∈rows,∃ s x,r=Ls t h s x∧Rl names A P t h s x)→Ca rows=true
 | [],_=>rfl
 | r::rows,g=>by
  obtain⟨s,x,e,_⟩:=g r List.mem_cons_self
  rw[Ca,Bool.and_eq_true]
  exact⟨by rw[e];exact Yc t h s x,Gr.RC fun q hq=>g q (List.mem_cons_of_mem _ hq)⟩
structure Gt(names:List Str)(A:List Ar)(told:Gf):Prop where
 nd:(lV told).Nodup
 sub:∀ p∈lV told,p∈A
 ord:∀ i q,told[i]? = some q→∃ s x,q.2=Ls q.1.1 q.1.2 s x∧Rl names A (lV (told.take i)) q.1.1 q.1.2 s x
theorem Gt.nil(names:List Str)(A:List Ar):Gt names A []:=⟨.nil,fun _ z=>(nomatch z),fun _ _ z=>(nomatch z)⟩
theorem Gt.sh{names:List Str}{A:List Ar}{told:Gf}(g:Gt names A told):∀ q∈told,∃ s x,q.2=Ls q.1.1 q.1.2 s x:=fun q hq=>by
 obtain⟨i,hi⟩:=List.getElem?_of_mem hq
 obtain⟨s,x,e,_⟩:=g.ord i q hi
 exact⟨s,x,e⟩
theorem Gt.len{names:List Str}{A:List Ar}{told:Gf}(g:Gt names A told)(hA:A.length≤64):told.length≤64:=by
 have:=gD g.nd g.sub
 unfold lV at this
 rw[List.length_map] at this;omega
theorem adA(told:Gf)(p:Ar)(v:D)(hn:p∉lV told):Mi.putK (Hx p) v (wA told)=wA (told++[(p,v)]):=by
 unfold Mi.putK
 rw[if_neg (by
  unfold wA
  rw[List.any_map,Bool.not_eq_true,List.any_eq_false]
  intro z hz
  simp only[Function.comp,decide_eq_true_eq]
  exact fun q=>hn (by unfold lV;rw[← zR q];exact List.mem_map_of_mem hz))]
 unfold wA
 rw[List.map_append];rfl
theorem aa1{i:Nat}{k v:E}{e:Mi.Env}{told:Gf}{p:Ar}{x:D}(hv:v e=.ok x)(hk:k e=.ok (pairD p))(hw:wV i e=.ok (.dt (wA told)))(hn:p∉lV told)(hl:told.length≤1000):gK i k v e=.ok (.nx (e.set i (some (.dt (wA (told++[(p,x)])))))):=by
 unfold gK
 have h1:RQ (.dt (wA told)) (pairD p) x=.ok (.dt (wA (told++[(p,x)]))):=by
  show aO ((wA told).length < 16777216) (Rs.ok (W.dt (Mi.putK (Hx p) x (wA told))))=_
  rw[au (by unfold wA;rw[List.length_map];omega),adA told p x hn]
 rw[hv,aB,hk,aB,hw,aB,h1];rfl
section
variable{names:List Str}{A:List Ar}{KT KC:List (List Str)}{T Cn:D}
def p6(names:List Str)(T Cn:D)(KT KC:List (List Str))(told:Gf)(ob:D)(o7 o8 o9:Option W):Mi.Env :=
 [some (.d (gJ names)),some (.d T),some (.d Cn),some (.df (mU KT)),some (.df (mU KC)),some (.dt (wA told)),some (.d ob),o7,o8,o9]
abbrev zU:S:=(jE (cB (mR 5 (mN dTup [(mV 7),(mV 8)])))
 (bc (bV 9 (Bx jx [(wD (mV 7)),(wD (mV 8)),(wD (mV 0)),(wV 3),(wV 4),(wV 5)]))
 (jE (K4 (mV 9))
 (gK 5 (mN dTup [(mV 7),(mV 8)]) (m2 gA (mV 9) (mC (.int 0))))
 bK))
 bK)
theorem Yj(N:Nt names A)(D':Dc names A KT KC){told:Gf}(g:Gt names A told)(ob:D)(o7 o8 o9:Option W):∃ fP o7' o8' o9',tE (.t [7,8]) zU (KT.map j6) (p6 names T Cn KT KC told ob o7 o8 o9)=.ok (.nx (p6 names T Cn KT KC fP ob o7' o8' o9'))∧Gt names A fP∧told.length≤fP.length:=by
 obtain⟨e',f1,fP,o7',o8',o9',he,g',l'⟩:=gP (tg:=.t [7,8]) (body:=zU)
  (fun i e=>∃ (fP:Gf) (o7 o8 o9:Option W),e=p6 names T Cn KT KC fP ob o7 o8 o9∧Gt names A fP∧told.length≤fP.length) (KT.map j6) 0 (fun i d e hi ⟨td,o7,o8,o9,he,g,l⟩=>by
   subst he
   rw[List.getElem?_map] at hi
   obtain⟨k,hp,rfl⟩:=Option.map_eq_some_iff.mp hi
   obtain⟨t,h,rfl,tn,hn,ne,th⟩:=D'.ktm _ (List.mem_of_getElem? hp)
   have len:=g.len N.al
   have cn:=cz (VP (i:=5) (k:=mN dTup [(mV 7),(mV 8)]) (e:=p6 names T Cn KT KC td ob (some (.d (.str t))) (some (.d (.str h))) o9) (told:=td) (p:=(t,h)) (j5 rfl rfl) rfl)
   by_cases hm:(t,h)∈lV td
   ·rw[decide_eq_true hm] at cn
    exact⟨p6 names T Cn KT KC td ob (some (.d (.str t))) (some (.d (.str h))) o9,p6 names T Cn KT KC td ob (some (.d (.str t))) (some (.d (.str h))) o9,rfl,(fu cn).trans rfl,td,_,_,_,rfl,g,l⟩
   ·rw[decide_eq_false hm] at cn
    obtain⟨rows,hr,gr⟩:=Mp N D' g.sub tn hn th
    have s9:=bx (i:=9) (aa8 (f:=jx) (a:=wD (mV 7)) (b:=wD (mV 8)) (c:=wD (mV 0)) (d:=wV 3) (g:=wV 4) (k:=wV 5) (e:=p6 names T Cn KT KC td ob (some (.d (.str t))) (some (.d (.str h))) o9) rfl rfl rfl rfl rfl rfl hr (Gr.RC gr.sh))
    cases rows with
    | nil =>
     refine⟨p6 names T Cn KT KC td ob (some (.d (.str t))) (some (.d (.str h))) o9,p6 names T Cn KT KC td ob (some (.d (.str t))) (some (.d (.str h))) (some (.d (.lst []))),rfl,?_,td,_,_,_,rfl,g,l⟩
     exact(pW cn).trans ((aH s9).trans rfl)
    | cons r0 rs =>
     obtain⟨s,x,er,rl⟩:=gr.sh r0 List.mem_cons_self
     refine⟨p6 names T Cn KT KC td ob (some (.d (.str t))) (some (.d (.str h))) o9,p6 names T Cn KT KC (td++[((t,h),r0)]) ob (some (.d (.str t))) (some (.d (.str h))) (some (.d (.lst (r0::rs)))),rfl,?_,td++[((t,h),r0)],_,_,_,rfl,⟨?_,fun p z=>?_,fun i q z=>?_⟩,by rw[List.length_append];omega⟩
     ·refine(pW cn).trans ((aH s9).trans ((pW (show K4 (mV 9) _=.ok true from rfl)).trans ?_))
      exact aa1 (told:=td) (p:=(t,h)) (x:=r0) (aL (x:=.lst (r0::rs)) rfl rfl (by show uC (uU (r0::rs) 0)=_;rw[at0];rfl)) (j5 rfl rfl) rfl hm (by omega)
     ·unfold lV
      rw[List.map_append]
      exact List.nodup_append.mpr ⟨g.nd,by simp,fun a ha b hb=>by
       cases List.mem_singleton.mp hb
       exact fun z=>hm (by have z:a=(t,h):=z;rw[← z];exact ha)⟩
     ·unfold lV at z
      rw[List.map_append] at z
      rcases List.mem_append.mp z with z|z
      ·exact g.sub p z
      ·cases List.mem_singleton.mp z
       exact gr.so (by simp)
     ·rcases Nat.lt_or_ge i td.length with il|il
      ·rw[List.getElem?_append_left il] at z
       rw[List.take_append_of_le_length (Nat.le_of_lt il)]
       exact g.ord i q z
      ·have il2:=(List.getElem?_eq_some_iff.mp z).1
       rw[List.length_append] at il2
       have ie:i=td.length:=by simp only[List.length_singleton] at il2;omega
       subst ie
       rw[List.getElem?_append_right (Nat.le_refl _),Nat.sub_self] at z
       cases z
       rw[List.take_left]
       exact⟨s,x,er,rl⟩) (p6 names T Cn KT KC told ob o7 o8 o9) ⟨told,_,_,_,rfl,g,Nat.le_refl _⟩
 exact⟨fP,o7',o8',o9',by rw[f1,he],g',l'⟩
abbrev whC:C:=(cB (m2 KD (Bw 5) (mV 6)))
abbrev whB:S:=(bc (bV 6 (Bw 5)) (mj (HN 3) (.t [7,8]) zU))
theorem Vr:∀ k:List Str,(rk k).map kyD=k.map D.str
 | []=>rfl
 | x::k=>by
  have:=Vr k
  unfold rk at this ⊢
  rw[List.map_cons,List.map_cons,List.map_cons,this];rfl
theorem Yg{e:Mi.Env}{i:Nat}(h:wV i e=.ok (.df (mU KT))):HN i e=.ok (KT.map j6):=by
 unfold HN
 rw[h,aB]
 dsimp only
 unfold mU
 rw[List.map_map]
 congr 1
 exact List.map_congr_left fun k _=>by
  show D.tup ((rk k).map kyD)=_
  rw[Vr];rfl
theorem Qw(N:Nt names A)(D':Dc names A KT KC){told:Gf}(g:Gt names A told)(ob:D)(o7 o8 o9:Option W):∃ fP o7' o8' o9',whB (p6 names T Cn KT KC told ob o7 o8 o9)=.ok (.nx (p6 names T Cn KT KC fP (.int (told.length:Nat)) o7' o8' o9'))∧Gt names A fP∧told.length≤fP.length:=by
 obtain⟨fP,o7',o8',o9',f,r⟩:=Yj (T:=T) (Cn:=Cn) N D' g (.int (told.length:Nat)) o7 o8 o9
 refine⟨fP,o7',o8',o9',?_,r⟩
 have s:bV 6 (Bw 5) (p6 names T Cn KT KC told ob o7 o8 o9)=.ok (.nx (p6 names T Cn KT KC told (.int (told.length:Nat)) o7 o8 o9)):=bx (d:=.int (told.length:Nat)) (by
  show Rs.ok (D.int ((wA told).length:Nat))=_
  unfold wA;rw[List.length_map])
 rw[show whB=bc (bV 6 (Bw 5)) (mj (HN 3) (.t [7,8]) zU) from rfl,aH s,iC (Yg (KT:=KT) rfl),f]
theorem GD(told:Gf)(ob:D)(o7 o8 o9:Option W):whC (p6 names T Cn KT KC told ob o7 o8 o9)=.ok (!cX (.int (told.length:Nat)) ob):=by
 refine cz (aL (x:=.int (told.length:Nat)) (y:=ob) (by
  show Rs.ok (D.int ((wA told).length:Nat))=_
  unfold wA;rw[List.length_map]) rfl ?_)
 unfold KD
 exact au (by show (0:Nat)≤16;decide)
theorem S5(N:Nt names A)(D':Dc names A KT KC):∀ (n:Nat) (told:Gf) (ob:D) (o7 o8 o9:Option W) (fuel:Nat),Gt names A told→64 - told.length≤n→n+2≤fuel →
 ∃ fP ob' o7' o8' o9',gG whC whB fuel (p6 names T Cn KT KC told ob o7 o8 o9)=.ok (.nx (p6 names T Cn KT KC fP ob' o7' o8' o9'))∧Gt names A fP:=by
 intro n
 induction n with
 | zero =>
  intro told ob o7 o8 o9 fuel g h1 h2
  obtain⟨f,rfl⟩ : ∃ f,fuel=f+2:=⟨fuel - 2,by omega⟩
  rw[show f+2=(f+1)+1 from rfl,gG,GD]
  cases hb:cX (.int (told.length:Nat)) ob with
  | true=>exact⟨told,ob,o7,o8,o9,rfl,g⟩
  | false =>
   obtain⟨fP,o7',o8',o9',hbd,g',l'⟩:=Qw (T:=T) (Cn:=Cn) N D' g ob o7 o8 o9
   have len:=g'.len N.al
   simp only[aB,Bool.not_false,if_true,hbd]
   rw[gG,GD,show cX (.int (fP.length:Nat)) (.int (told.length:Nat))=true by rw[show fP.length=told.length by omega];exact L2.pJ _]
   exact⟨fP,_,o7',o8',o9',rfl,g'⟩
 | succ n ih =>
  intro told ob o7 o8 o9 fuel g h1 h2
  obtain⟨f,rfl⟩ : ∃ f,fuel=f+1:=⟨fuel - 1,by omega⟩
  rw[gG,GD]
  cases hb:cX (.int (told.length:Nat)) ob with
  | true=>exact⟨told,ob,o7,o8,o9,rfl,g⟩
  | false =>
   obtain⟨fP,o7',o8',o9',hbd,g',l'⟩:=Qw (T:=T) (Cn:=Cn) N D' g ob o7 o8 o9
   have len:=g'.len N.al
   simp only[aB,Bool.not_false,if_true,hbd]
   by_cases e:fP.length=told.length
   ·obtain⟨f',rfl⟩ : ∃ f',f=f'+1:=⟨f - 1,by omega⟩
    rw[gG,GD,show cX (.int (fP.length:Nat)) (.int (told.length:Nat))=true by rw[e];exact L2.pJ _]
    exact⟨fP,_,o7',o8',o9',rfl,g'⟩
   ·exact ih fP _ o7' o8' o9' f g' (by omega) (by omega)
end
end Mr
namespace Mr
open PySem Mi
theorem aar{names:List Str}(nd:names.Nodup){a b:Str}(h:(a,b)∈prs names):a∈names∧b∈names∧a≠b:=by
 obtain⟨k,hk,rfl,hb⟩:=lG.mp h
 exact⟨oA hk,(zV nd hk hb).1,(zV nd hk hb).2⟩
theorem mQ{names:List Str}{A:List Ar}{p:Ar}:p∈rF names A↔p∈prs names∧tie A p.1 p.2=true:=List.mem_filter
theorem KR{names:List Str}(nd:names.Nodup){A:List Ar}{a m b:Str}(ha:a∈names)(hm:m∈names)(hb:b∈names):((a,m,b)∈jb names A∨(b,m,a)∈jb names A)↔a≠b∧NZ A a m b=true:=by
 constructor
 ·rintro (h|h)
  ·obtain⟨k,hk,rfl,_,hd,c⟩:=pM.mp h
   exact⟨(zV nd hk hd).2,c⟩
  ·obtain⟨k,hk,rfl,_,hd,c⟩:=pM.mp h
   exact⟨Ne.symm (zV nd hk hd).2,by rw[KY];exact c⟩
 ·rintro ⟨ne,c⟩
  rcases vp ha hb ne with h|h
  ·obtain⟨k,hk,e,hd⟩:=lG.mp h
   exact .inl (pM.mpr ⟨k,hk,e,hm,hd,c⟩)
  ·obtain⟨k,hk,e,hd⟩:=lG.mp h
   exact .inr (pM.mpr ⟨k,hk,e,hm,hd,by rw[KY];exact c⟩)
theorem acR{names:List Str}{A:List Ar}(nd:names.Nodup){KT KC:List (List Str)}(h1:∀ k,k∈KT↔∃ r∈(rF names A).map Jb,k=r∨k=r.reverse)(h2:∀ k,k∈KC↔∃ r∈(jb names A).map tr,k=r∨k=r.reverse):Dc names A KT KC:=by
 have kt:∀ a b,[a,b]∈KT↔(a,b)∈rF names A∨(b,a)∈rF names A:=fun a b=>by
  rw[h1]
  constructor
  ·rintro ⟨r,hr,e⟩
   obtain⟨p,hp,rfl⟩:=List.mem_map.mp hr
   rcases e with e|e
   ·simp only[Jb,List.cons.injEq,and_true] at e
    exact .inl (by rw[e.1,e.2];exact hp)
   ·simp only[Jb,List.reverse_cons,List.reverse_nil,List.nil_append,List.cons_append,List.cons.injEq,and_true] at e
    exact .inr (by rw[e.1,e.2];exact hp)
  ·rintro (h|h)
   ·exact⟨_,List.mem_map_of_mem h,.inl rfl⟩
   ·exact⟨_,List.mem_map_of_mem h,.inr rfl⟩
 have kc:∀ a m b,[a,m,b]∈KC↔(a,m,b)∈jb names A∨(b,m,a)∈jb names A:=fun a m b=>by
  rw[h2]
  constructor
  ·rintro ⟨r,hr,e⟩
   obtain⟨p,hp,rfl⟩:=List.mem_map.mp hr
   rcases e with e|e
   ·simp only[tr,List.cons.injEq,and_true] at e
    exact .inl (by rw[e.1,e.2.1,e.2.2];exact hp)
   ·simp only[tr,List.reverse_cons,List.reverse_nil,List.nil_append,List.cons_append,List.cons.injEq,and_true] at e
    exact .inr (by rw[e.1,e.2.1,e.2.2];exact hp)
  ·rintro (h|h)
   ·exact⟨_,List.mem_map_of_mem h,.inl rfl⟩
   ·exact⟨_,List.mem_map_of_mem h,.inr rfl⟩
 refine⟨fun a ha b hb ne=>?_,fun k hk=>?_,fun a ha m hm b hb=>?_⟩
 ·rw[kt,mQ,mQ]
  constructor
  ·rintro (h|h)
   ·exact h.2
   ·rw[Ai];exact h.2
  ·intro t
   rcases vp ha hb ne with h|h
   ·exact .inl ⟨h,t⟩
   ·exact .inr ⟨h,by rw[Ai];exact t⟩
 ·obtain⟨r,hr,e⟩:=(h1 k).mp hk
  obtain⟨p,hp,rfl⟩:=List.mem_map.mp hr
  obtain⟨p1,p2⟩:=mQ.mp hp
  obtain⟨a1,a2,a3⟩:=aar nd (a:=p.1) (b:=p.2) p1
  rcases e with rfl|rfl
  ·exact⟨p.1,p.2,rfl,a1,a2,a3,p2⟩
  ·exact⟨p.2,p.1,rfl,a2,a1,Ne.symm a3,by rw[Ai];exact p2⟩
 ·rw[kc,KR nd ha hm hb]
theorem G6{names:List Str}{A:List Ar}(N:Nt names A):∃ told,f9 [.d (gJ names),.d (gQ (rF names A)),.d (.lst ((jb names A).map fO))]=.ok (.d (.lst (told.map (·.2))))∧Gt names A told:=by
 have tl:(rF names A).length≤64:=Nat.le_trans (List.length_filter_le _ _) (ue N.le)
 have cl:=KZ N.le A
 obtain⟨KT,hT,mT⟩:=Qv ((rF names A).map Jb) (fun r hr=>by obtain⟨p,_,rfl⟩:=List.mem_map.mp hr;show (2:Nat)≤1000;decide) (by rw[List.length_map];omega)
 obtain⟨KC,hC,mC'⟩:=Qv ((jb names A).map tr) (fun r hr=>by obtain⟨p,_,rfl⟩:=List.mem_map.mp hr;show (3:Nat)≤1000;decide) (by rw[List.length_map];omega)
 have eT:D.lst (((rF names A).map Jb).map j6)=gQ (rF names A):=by unfold gQ;rw[List.map_map];rfl
 have eC:D.lst (((jb names A).map tr).map j6)=.lst ((jb names A).map fO):=by rw[List.map_map];rfl
 rw[eT] at hT
 rw[eC] at hC
 have D':=acR N.nd mT mC'
 obtain⟨told,ob,o7,o8,o9,hw,g⟩:=S5 (T:=gQ (rF names A)) (Cn:=.lst ((jb names A).map fO)) N D' 64 [] .non none none none 200 (Gt.nil names A) (by simp) (by decide)
 refine⟨told,?_,g⟩
 unfold f9 wW
 rw[adW]
 rw[show ([some (W.d (gJ names)),some (W.d (gQ (rF names A))),some (W.d (.lst ((jb names A).map fO)))]++List.replicate (10 - 3) none)=[some (W.d (gJ names)),some (W.d (gQ (rF names A))),some (W.d (.lst ((jb names A).map fO))),none,none,none,none,none,none,none] from rfl]
 have frz:∀ {e:Mi.Env} {a:EW} {x:W} {ks:List (List Str)},a e=.ok x→fU [x]=.ok (.dt (mU ks))→S7 (jG fU [a]) e=.ok (.df (mU ks)):=fun {e a x ks} h1 h2=>by
  unfold S7 jG
  rw[bO,h1]
  simp only[aB,bO,h2]
  rfl
 have sw:∀ {i:Nat} {a:EW} {e:Mi.Env} {w:W},a e=.ok w→uL i a e=.ok (.nx (e.set i (some w))):=fun {i a e w} h=>by unfold uL;rw[h];rfl
 rw[aH (e':=[some (W.d (gJ names)),some (W.d (gQ (rF names A))),some (W.d (.lst ((jb names A).map fO))),some (.df (mU KT)),none,none,none,none,none,none]) (sw (frz rfl hT))]
 rw[aH (e':=[some (W.d (gJ names)),some (W.d (gQ (rF names A))),some (W.d (.lst ((jb names A).map fO))),some (.df (mU KT)),some (.df (mU KC)),none,none,none,none,none]) (sw (frz rfl hC))]
 rw[aH (e':=[some (W.d (gJ names)),some (W.d (gQ (rF names A))),some (W.d (.lst ((jb names A).map fO))),some (.df (mU KT)),some (.df (mU KC)),some (.dt (wA [])),none,none,none,none]) rfl]
 rw[aH (e':=p6 names (gQ (rF names A)) (.lst ((jb names A).map fO)) KT KC [] .non none none none) rfl]
 rw[aH (show Bb 200 whC whB _=_ from hw)]
 rw[dZ (bT (d:=.lst (told.map (·.2))) (by
  show Rs.ok (D.lst ((wA told).map (·.2)))=_
  unfold wA;rw[List.map_map];rfl))]
 rfl
def nF(names:List Str)(R S:List Ar):D:=.tup [gJ names,iU R,iU S]
theorem ady{a:E}{e:Mi.Env}{t h s:Str}{x:List Str}(ha:a e=.ok (Ls t h s x)):gq zE a none (some (mC (.int 2))) e=.ok (pairD (t,h)):=by
 rw[GR ha rfl]
 exact au (by show (0:Int)≤2∧(2:Int)≤((4:Nat):Int)∧(4:Nat)≤16777216;decide)
def J7(T P:List Ar):List Ar:=T.filter fun p=>!decide (p∈P) && !decide ((p.2,p.1)∈P)
theorem Jq(T P:List Ar)(hl:T.length≤1000):jA [.d (gQ T),.d (gQ P)]=.ok (.d (gQ (J7 T P))):=by
 unfold jA yU
 rw[Yk]
 rw[show ([some (W.d (gQ T)),some (W.d (gQ P))]++List.replicate (2 - 2) none)=[some (W.d (gQ T)),some (W.d (gQ P))] from rfl]
 have cm:dJ (.t [1,2]) (nO (cB (m2 gh (mN dTup [(mV 1),(mV 2)]) (mV 0))) (cB (m2 gh (mN dTup [(mV 2),(mV 1)]) (mV 0)))) (mN dTup [(mV 1),(mV 2)]) [some (.d (gQ P)),none,none] (T.map pairD)=.ok ((J7 T P).map pairD) :=
  cu pairD pairD _ T fun p _=>⟨[some (.d (gQ P)),some (.d (.str p.1)),some (.d (.str p.2))],rfl,wU (cz (aL (j5 rfl rfl) rfl (qQ P p))) fun _=>cz (aL (j5 rfl rfl) rfl (qQ P (p.2,p.1))),fun _=>j5 rfl rfl⟩
 rw[dZ (bT (cC (ρ:=[some 1,none,none]) (cR (a:=mV 0) (x:=gQ T) rfl rfl) (by rw[List.length_map];omega) cm))]
 rfl
end Mr
namespace Mr
open PySem Mi
theorem XX{names:List Str}{p q:Ar}(hp:p.1∈names∧p.2∈names)(hq:q.1∈names∧q.2∈names)(h:ky names (Jb p)=ky names (Jb q)):p=q:=by
 unfold ky Jb at h
 simp only[List.map_cons,List.map_nil,List.cons.injEq,and_true] at h
 exact Prod.ext (bU hp.1 hq.1 (by omega)) (bU hp.2 hq.2 (by omega))
theorem Mg{names:List Str}(nd:names.Nodup)(h1:1≤names.length)(h8:names.length≤8){P:List Ar}(R:Rk P):(v5 names P).Pairwise fun p q=>nG (ky names (Jb p)) (ky names (Jb q))=true:=by
 obtain⟨r,I⟩:=mJ.U3 nd h1 h8 R
 rw[← wC]
 exact I.sorted
theorem Bl{names:List Str}{A P:List Ar}(G:Gd names A)(nd:P.Nodup)(sub:∀ p∈P,p∈A):bN [.d (gJ names),.d (gQ P)]=.ok (.d (gQ (v5 names P))):=by
 have few:A.length≤56:=by
  obtain⟨r,I⟩:=mJ.U3 G.nd G.pos G.le G.rk
  have:=I.few
  have e:=wC names A
  rw[G.v5] at e
  rw[← e,List.length_map];exact this
 have pl:P.length≤56:=Nat.le_trans (gD nd sub) few
 obtain⟨r,hr⟩:=G.rk
 refine O4 (α:=Ar) (names:=names) (by have:=G.le;omega) Jb (xs:=P) (ys:=v5 names P) (fun p hp=>⟨by show (2:Nat)≤1000;decide,fun y hy=>?_⟩) (by omega) ?_ (fun p=>?_) (Mg G.nd G.pos G.le ⟨r,fun p hp=>hr p (sub p hp)⟩)
 ·have:=G.inn p (sub p hp)
  simp only[Jb,List.mem_cons,List.not_mem_nil,or_false] at hy
  rcases hy with rfl|rfl
  ·exact this.1
  ·exact this.2
 ·exact(List.pairwise_map.mpr (nd.imp_of_mem fun {p q} hp hq ne e=>ne (XX (G.inn p (sub p hp)) (G.inn q (sub q hq)) e)))
 ·rw[zM]
  exact⟨fun h=>⟨h,G.inn p (sub p h)⟩,fun h=>h.1⟩
theorem Hg{names:List Str}{A:List Ar}(G:Gd names A){told:Gf}(hr:f9 [.d (gJ names),.d (gQ (rF names A)),.d (.lst ((jb names A).map fO))]=.ok (.d (.lst (told.map (·.2)))))(g:Gt names A told):fc [.d (gJ names),.d (gQ (rF names A)),.d (.lst ((jb names A).map fO))]=.ok (.d (nF names (v5 names (lV told)) (J7 (rF names A) (lV told)))):=by
 have tl:told.length≤64:=g.len G.al
 have tT:(rF names A).length≤64:=Nat.le_trans (List.length_filter_le _ _) (ue G.le)
 have c1:dJ (.n 0) dX (gq zE (mV 0) none (some (mC (.int 2)))) [none] (told.map (·.2))=.ok ((told.filter fun _=>true).map fun q=>pairD q.1) :=
  cu (fun q:Ar×D=>q.2) (fun q=>pairD q.1) (fun _=>true) told fun q hq=>by
   obtain⟨s,x,e⟩:=g.sh q hq
   exact⟨[some (.d q.2)],rfl,rfl,fun _=>ady (s:=s) (x:=x) (by show Rs.ok q.2=_;rw[e])⟩
 rw[List.filter_eq_self.mpr (fun _ _=>rfl)] at c1
 have e1:D.lst (told.map fun q=>pairD q.1)=gQ (lV told):=by unfold gQ lV;rw[List.map_map];rfl
 have c2:dJ (.t [1,2]) (cB (m2 gh (mN dTup [(mV 2),(mV 1)]) (mV 0))) (mN dTup [(mV 1),(mV 2)]) [some (.d (gQ (lV told))),none,none] ((lV told).map pairD)=.ok (((lV told).filter fun _=>true).map pairD) :=
  cu pairD pairD (fun _=>true) _ fun p hp=>⟨[some (.d (gQ (lV told))),some (.d (.str p.1)),some (.d (.str p.2))],rfl,cz (aL (j5 rfl rfl) rfl ((qQ (lV told) (p.2,p.1)).trans (by rw[decide_eq_false (fun z=>T5 G.rk (g.sub _ hp) (g.sub _ z))];rfl))),fun _=>j5 rfl rfl⟩
 rw[List.filter_eq_self.mpr (fun _ _=>rfl)] at c2
 unfold fc wY
 rw[acK]
 rw[show ([some (W.d (gJ names)),some (W.d (gQ (rF names A))),some (W.d (.lst ((jb names A).map fO)))]++List.replicate (5 - 3) none)=[some (W.d (gJ names)),some (W.d (gQ (rF names A))),some (W.d (.lst ((jb names A).map fO))),none,none] from rfl]
 rw[aH (e':=[some (W.d (gJ names)),some (W.d (gQ (rF names A))),some (W.d (.lst ((jb names A).map fO))),some (.d (gQ (lV told))),none]) (by
  rw[← e1]
  exact bx (cC (ρ:=[none]) (cR (Qu (f:=f9) (a:=wD (mV 0)) (b:=wD (mV 1)) (c:=wD (mV 2)) rfl rfl rfl hr) rfl) (by rw[List.length_map];omega) c1))]
 rw[aH (e':=[some (W.d (gJ names)),some (W.d (gQ (rF names A))),some (W.d (.lst ((jb names A).map fO))),some (.d (gQ (lV told))),some (.d (gQ (lV told)))]) (bx (cC (ρ:=[some 3,none,none]) (cR (a:=mV 3) (x:=gQ (lV told)) rfl rfl) (by unfold lV;rw[List.length_map,List.length_map];omega) c2))]
 rw[dZ (bT ((Pq rfl ((km (call2 (f:=bN) (a:=wD (mV 0)) (b:=wD (mV 4)) rfl rfl (Bl G g.nd g.sub))).trans (GF _)) ((km (call2 (f:=jA) (a:=wD (mV 1)) (b:=wD (mV 4)) rfl rfl (Jq _ _ (by omega)))).trans (GF _))).trans (au (by show (3:Nat)≤_;decide))))]
 rfl
theorem Hf{names:List Str}{A:List Ar}(G:Gd names A):∃ P,fc [.d (gJ names),.d (gQ (rF names A)),.d (.lst ((jb names A).map fO))]=.ok (.d (nF names (v5 names P) (J7 (rF names A) P)))∧P.Nodup∧∀ p∈P,p∈A:=by
 obtain⟨told,hr,g⟩:=G6 G.nt
 exact⟨lV told,Hg G hr g,g.nd,g.sub⟩
theorem Hb{names:List Str}{A:List Ar}(G:Gd names A){x:D}(h:fc [.d (gJ names),.d (gQ (rF names A)),.d (.lst ((jb names A).map fO))]=.ok (.d x)):iK [.d (bC names A)]=.ok (.d x):=by
 unfold iK wX
 rw[Ef]
 rw[show ([some (W.d (bC names A))]++List.replicate (1 - 1) none)=[some (W.d (bC names A))] from rfl]
 rw[dZ (bT (Qu (f:=fc) (bT (aL rfl rfl (X7 names A))) (bT (fX (f:=m7) (a:=wD (mV 0)) rfl (WW G.le))) (bT (fX (f:=iM) (a:=wD (mV 0)) rfl (NQ G.nt))) h))]
 rfl
end Mr
namespace Mr
open PySem Mi
end Mr
namespace Mr
open PySem Mi
def Zw(names:List Str)(p:Ar):Ar:=if p∈prs names then p else (p.2,p.1)
theorem Uk{names:List Str}(nd:names.Nodup){a b:Str}(h:(a,b)∈prs names):(b,a)∉prs names:=fun z=>by
 obtain⟨k,hk,rfl,hb⟩:=lG.mp h
 obtain⟨j,hj,rfl,ha⟩:=lG.mp z
 have h1:=(Cq nd hb).1
 have h2:=(Cq nd ha).1
 rw[qL nd hj] at h1
 rw[qL nd hk] at h2
 omega
theorem Xx{names:List Str}{A:List Ar}(R:Rk A){p q:Ar}(hp:p∈A)(hq:q∈A)(h:Zw names p=Zw names q):p=q:=by
 unfold Zw at h
 split at h<;>split at h
 ·exact h
 ·subst h;exact absurd hp (T5 R (a:=q.1) (b:=q.2) hq)
 ·subst h;exact absurd hq (T5 R (a:=p.1) (b:=p.2) hp)
 ·rw[Prod.ext_iff] at h
  exact Prod.ext h.2 h.1
theorem Pn{names:List Str}{A:List Ar}(N:Nt names A){P:List Ar}(sub:∀ p∈P,p∈A)(q:Ar):q∈P.map (Zw names)↔q∈rF names A∧(q∈P∨(q.2,q.1)∈P):=by
 constructor
 ·intro h
  obtain⟨p,hp,rfl⟩:=List.mem_map.mp h
  obtain⟨n1,n2⟩:=N.inn p (sub p hp)
  have ne:p.1≠p.2:=fun z=>by
   obtain⟨r,hr⟩:=N.rk
   have:=hr p (sub p hp)
   rw[z] at this;omega
  unfold Zw
  split
  ·rename_i hm
   exact⟨mQ.mpr ⟨hm,mK.mpr (.inl (sub p hp))⟩,.inl hp⟩
  ·rename_i hm
   have:(p.2,p.1)∈prs names:=(vp n1 n2 ne).resolve_left hm
   exact⟨mQ.mpr ⟨this,mK.mpr (.inr (sub p hp))⟩,.inr hp⟩
 ·rintro ⟨h1,h2|h2⟩
  ·exact List.mem_map.mpr ⟨q,h2,by unfold Zw;rw[if_pos (mQ.mp h1).1]⟩
  ·exact List.mem_map.mpr ⟨(q.2,q.1),h2,by unfold Zw;rw[if_neg (Uk N.nd (a:=q.1) (b:=q.2) (mQ.mp h1).1)]⟩
theorem Td{names:List Str}(nd:names.Nodup)(A:List Ar):(rF names A).Nodup:=(Uj nd).filter _
theorem Vi{names:List Str}{A P:List Ar}(R:Rk A)(nd:P.Nodup)(sub:∀ p∈P,p∈A):(P.map (Zw names)).Nodup:=List.pairwise_map.mpr (nd.imp_of_mem fun {p q} hp hq ne e=>ne (Xx R (sub p hp) (sub q hq) e))
theorem Mh{names:List Str}{A P:List Ar}(G:Gd names A)(nd:P.Nodup)(sub:∀ p∈P,p∈A):(v5 names P).length=P.length:=(qI (Eo G.nd G.le P) nd fun p=>by
 rw[zM]
 exact⟨fun h=>h.1,fun h=>⟨h,G.inn p (sub p h)⟩⟩).length_eq
theorem Cw{names:List Str}{A P:List Ar}(G:Gd names A)(nd:P.Nodup)(sub:∀ p∈P,p∈A):(v5 names P).length+(J7 (rF names A) P).length=A.length:=by
 have a1:A.length=(rF names A).length:=by
  have:=(qI (Vi (names:=names) G.rk G.nodup fun p h=>h) (Td G.nd A) fun q=>by
   rw[Pn G.nt (fun p h=>h) q]
   exact⟨fun h=>h.1,fun h=>⟨h,mK.mp (mQ.mp h).2⟩⟩).length_eq
  rw[List.length_map] at this;exact this
 have a2:P.length=((rF names A).filter fun p=>decide (p∈P) || decide ((p.2,p.1)∈P)).length:=by
  have:=(qI (m:=(rF names A).filter fun p=>decide (p∈P) || decide ((p.2,p.1)∈P)) (Vi (names:=names) G.rk nd sub) ((Td G.nd A).filter _) fun q=>by
   rw[Pn G.nt sub q,List.mem_filter,Bool.or_eq_true,decide_eq_true_eq,decide_eq_true_eq]).length_eq
  rw[List.length_map] at this;exact this
 have a3:=Mh G nd sub
 have a4:∀ T:List Ar,(T.filter fun p=>decide (p∈P) || decide ((p.2,p.1)∈P)).length+(J7 T P).length=T.length:=fun T=>by
  unfold J7
  induction T with
  | nil=>rfl
  | cons x r ih =>
   rw[List.filter_cons,List.filter_cons]
   by_cases h1:x∈P<;>by_cases h2:(x.2,x.1)∈P<;>simp[h1,h2]<;>omega
 have:=a4 (rF names A)
 omega
end Mr
namespace Mr
open PySem Mi
theorem adE(names:List Str)(R S:List Ar):gA (nF names R S) (.int 0)=.ok (gJ names):=by show uC (uU [gJ names,iU R,iU S] 0)=_;rw[at0];rfl
theorem adD(names:List Str)(R S:List Ar):gA (nF names R S) (.int 1)=.ok (iU R):=by show uC (uU [gJ names,iU R,iU S] 1)=_;rw[at1];rfl
theorem adC(names:List Str)(R S:List Ar):gA (nF names R S) (.int 2)=.ok (iU S):=by
 show uC (uU [gJ names,iU R,iU S] 2)=_
 simp[uU,Jd]
end Mr
namespace Mr
open PySem Mi
end Mr
namespace Mr
open PySem Mi
open My (words rN bZ)
end Mr
namespace Mr
open PySem Mi
open My (words rN bZ)
end Mr
namespace Mr
open PySem Mi
end Mr
namespace Mr
open PySem Mi
open My (words rN bZ)
end Mr
namespace Mr
open PySem Mi
open PySem.Builtin PySem.Builtin.Str
def cl(x:Str):List Nat:=x.cps.toList
theorem yj{x y:Str}(h:cl x=cl y):x=y:=vZ h
theorem jd(x y:Str):cl (x++y)=cl x++cl y:=by
 show (x.cps++y.cps).toList=_
 rw[Array.toList_append];rfl
theorem vM(x:Str):(cl x).length=x.length:=Array.length_toList
def q9(s:List Nat):List (List Nat)→List Nat
 | []=>[]
 | [x]=>x
 | x::y::r=>x++s++q9 s (y::r)
theorem wQ(y:Str):∀ ps:List Str,cl (Str.join y ps)=q9 (cl y) (ps.map cl)
 | []=>rfl
 | [x]=>rfl
 | x::z::r=>by
  have e:Str.join y (x::z::r)=x++y++Str.join y (z::r):=rfl
  rw[e,jd,jd,wQ y (z::r)]
  rfl
theorem V6{c:Nat}:∀ {p q X Y:List Nat},c∉p→c∉q→p++[c]++X=q++[c]++Y→p=q∧X=Y
 | [],[],X,Y,_,_,h=>⟨rfl,by simpa using h⟩
 | [],b::q,X,Y,_,hq,h=>by
  simp only[List.nil_append,List.cons_append,List.cons.injEq] at h
  exact absurd (by rw[← h.1];exact List.mem_cons_self) hq
 | a::p,[],X,Y,hp,_,h=>by
  simp only[List.nil_append,List.cons_append,List.cons.injEq] at h
  exact absurd (by rw[h.1];exact List.mem_cons_self) hp
 | a::p,b::q,X,Y,hp,hq,h=>by
  simp only[List.cons_append,List.cons.injEq] at h
  obtain⟨e1,e2⟩:=V6 (fun z=>hp (List.mem_cons_of_mem _ z)) (fun z=>hq (List.mem_cons_of_mem _ z)) h.2
  exact⟨by rw[h.1,e1],e2⟩
theorem Fd{c:Nat}:∀ {P Q:List (List Nat)},P≠[]→Q≠[]→(∀ p∈P,c∉p)→(∀ q∈Q,c∉q)→q9 [c] P=q9 [c] Q→P=Q
 | [],_,h,_,_,_,_=>(h rfl).elim
 | _::_,[],_,h,_,_,_=>(h rfl).elim
 | [p],[q],_,_,_,_,h=>by
  have h:p=q:=h
  rw[h]
 | [p],q::q2::r,_,_,hp,_,h=>by
  have h:p=q++[c]++q9 [c] (q2::r):=h
  exact absurd (by rw[h];simp) (hp p List.mem_cons_self)
 | p::p2::r,[q],_,_,_,hq,h=>by
  have h:p++[c]++q9 [c] (p2::r)=q:=h
  exact absurd (by rw[← h];simp) (hq q List.mem_cons_self)
 | p::p2::r,q::q2::t,_,_,hp,hq,h=>by
  have h:p++[c]++q9 [c] (p2::r)=q++[c]++q9 [c] (q2::t):=h
  obtain⟨e1,e2⟩:=V6 (hp p List.mem_cons_self) (hq q List.mem_cons_self) h
  rw[e1,Fd (by simp) (by simp) (fun z hz=>hp z (List.mem_cons_of_mem _ hz)) (fun z hz=>hq z (List.mem_cons_of_mem _ hz)) e2]
theorem Px{α β : Type}{f:α→β}(hf:∀ {x y},f x=f y→x=y):∀ {l m:List α},l.map f=m.map f→l=m
 | [],[],_=>rfl
 | [],_::_,h=>by simp at h
 | _::_,[],h=>by simp at h
 | a::l,b::m,h=>by
  simp only[List.map_cons,List.cons.injEq] at h
  rw[hf h.1,Px hf h.2]
theorem Mj{c:Nat}{ps:List Str}(h0:ps≠[])(hf:∀ p∈ps,c∉cl p):Txt.split (Str.join ⟨#[c]⟩ ps) ⟨#[c]⟩=ps:=by
 have e:=StrLaws.join_split (Str.join ⟨#[c]⟩ ps) ⟨#[c]⟩
 have hp:=(PyProof.Rows.fact_split (Str.join ⟨#[c]⟩ ps) ⟨#[c]⟩).1
 have fr:=StrLaws.split_free (Str.join ⟨#[c]⟩ ps) c
 generalize Txt.split (Str.join ⟨#[c]⟩ ps) ⟨#[c]⟩=qs at e hp fr
 have e2:=congrArg cl e
 rw[wQ,wQ] at e2
 refine Px (f:=cl) yj (Fd (c:=c) ?_ ?_ ?_ ?_ e2)
 ·intro z;rw[List.map_eq_nil_iff] at z;rw[z] at hp;simp at hp
 ·intro z;rw[List.map_eq_nil_iff] at z;exact h0 z
 ·intro p hp'
  obtain⟨x,hx,rfl⟩:=List.mem_map.mp hp'
  exact fr x hx
 ·intro p hp'
  obtain⟨x,hx,rfl⟩:=List.mem_map.mp hp'
  exact hf x hx
theorem Wq{x:Str}{c i:Nat}:StrLaws.At x ⟨#[c]⟩ x.length i↔(cl x)[i]? = some c:=by
 have e1:(⟨#[c]⟩ : Str).length=1:=rfl
 have e2:(⟨#[c]⟩ : Str).cps.toList=[c]:=rfl
 unfold StrLaws.At
 rw[StrLaws.subAt_eq,e1,e2,beq_iff_eq,← vM]
 show i+1≤(cl x).length∧((cl x).drop i).take 1=[c]↔_
 constructor
 ·rintro ⟨h1,h2⟩
  have:(((cl x).drop i).take 1)[0]? = some c:=by rw[h2];rfl
  rw[List.getElem?_take_of_lt (by decide),List.getElem?_drop] at this
  exact this
 ·intro h
  have hl:=(List.getElem?_eq_some_iff.mp h).1
  refine⟨by omega,?_⟩
  rw[List.drop_eq_getElem_cons hl]
  simp only[List.take_succ_cons,List.take_zero]
  rw[(List.getElem?_eq_some_iff.mp h).2]
theorem Xp{c:Nat}{t h:Str}(ht:c∉cl t):Txt.partition (t++⟨#[c]⟩++h) ⟨#[c]⟩=(t,⟨#[c]⟩,h):=by
 obtain⟨x,hx⟩ : ∃ x,x=t++(⟨#[c]⟩ : Str)++h:=⟨_,rfl⟩
 have ex:cl x=cl t++c::cl h:=by
  rw[hx,jd,jd,List.append_assoc];rfl
 rw[← hx]
 have here:StrLaws.At x ⟨#[c]⟩ x.length (cl t).length:=by
  rw[Wq,ex,List.getElem?_append_right (Nat.le_refl _),Nat.sub_self];rfl
 have none_:∀ k,k < (cl t).length→¬ StrLaws.At x ⟨#[c]⟩ x.length k:=fun k hk z=>by
  rw[Wq,ex,List.getElem?_append_left hk] at z
  exact ht (List.mem_of_getElem? z)
 unfold Txt.partition
 rcases StrLaws.occ_head x ⟨#[c]⟩ 1 (Nat.le_refl _) with ⟨e,no⟩|⟨i,r,e,at_,le_⟩
 ·exact(no _ here).elim
 ·have hi:i=(cl t).length:=by
   rcases Nat.lt_trichotomy i (cl t).length with z|z|z
   ·exact(none_ i z at_).elim
   ·exact z
   ·exact(le_ _ z here).elim
  rw[e]
  show (strSub x 0 i,(⟨#[c]⟩ : Str),strSub x (i+1) x.length)=_
  have e1:strSub x 0 i=t:=by
   refine yj ?_
   show (strSub x 0 i).cps.toList=_
   rw[StrLaws.strSub_toList]
   show ((cl x).drop 0).take (i - 0)=_
   rw[List.drop_zero,Nat.sub_zero,ex,hi,List.take_left]
  have e2:strSub x (i+1) x.length=h:=by
   refine yj ?_
   show (strSub x (i+1) x.length).cps.toList=_
   rw[StrLaws.strSub_toList]
   show ((cl x).drop (i+1)).take (x.length - (i+1))=_
   rw[← vM,ex,hi]
   rw[show (cl t++c::cl h).drop ((cl t).length+1)=cl h by
    rw[← List.drop_drop,List.drop_left];rfl]
   exact List.take_of_length_le (by simp only[List.length_append,List.length_cons];omega)
  rw[e1,e2]
theorem uh(c:Nat)(b:List Nat):∀ (as cs:List (List Nat)),q9 [c] (as++b::cs)=as.flatMap (fun a=>a++[c])++(b++cs.flatMap (fun d=>c::d))
 | [],[]=>by simp[q9]
 | [],d::cs=>by
  have:=uh c d [] cs
  simp only[List.nil_append,List.flatMap_nil] at this ⊢
  show b++[c]++q9 [c] (d::cs)=_
  rw[this]
  simp
 | a::as,cs=>by
  have:=uh c b as cs
  obtain⟨y,r,e⟩ : ∃ y r,as++b::cs=y::r:=by cases as<;>exact⟨_,_,rfl⟩
  rw[List.cons_append,e]
  show a++[c]++q9 [c] (y::r)=_
  rw[← e,this]
  simp
theorem ye{α : Type}(f:α→List Nat)(k:Nat):∀ (l:List α),(∀ x∈l,(f x).length≤k)→(l.flatMap f).length≤k * l.length
 | [],_=>by simp
 | x::l,h=>by
  have:=ye f k l fun z hz=>h z (List.mem_cons_of_mem _ hz)
  have:=h x List.mem_cons_self
  rw[List.flatMap_cons,List.length_append,List.length_cons,Nat.mul_add];omega
end Mr
namespace Mr
open PySem Mi
open My (words rN bZ)
theorem abL:(" " : Str)=⟨#[32]⟩:=vZ (by decide +kernel)
theorem acH:(">" : Str)=⟨#[62]⟩:=vZ (by decide +kernel)
theorem yR:cl " " = [32]:=by decide +kernel
theorem Cz:cl ":" = [58]:=by decide +kernel
theorem yS:cl ">" = [62]:=by decide +kernel
theorem Qt:cl "-" = [45]:=by decide +kernel
theorem iy{x:Str}{l:List Nat}(h:cl x=l):x.length=l.length:=by rw[← vM,h]
def Wd(x:Str):Prop:=∃ l,x=S' l∧rN l
theorem Wd.len{x:Str}(h:Wd x):x.length≤8:=by obtain⟨l,rfl,w⟩:=h;rw[mD];exact w.2.1
theorem Wd.low{x:Str}(h:Wd x):∀ c∈cl x,97≤c∧c≤122:=by obtain⟨l,rfl,w⟩:=h;exact w.2.2
theorem Wd.ok{x:Str}(h:Wd x):cj [.d (.str x)]=.ok (.d (.bl true)):=by obtain⟨l,rfl,w⟩:=h;exact WR w
def uG(c:Str)(p:Ar):Str:=Yy [p.1,c,p.2]
theorem Cy(c:Str)(p:Ar):cl (uG c p)=cl p.1++(cl c++cl p.2):=by
 show cl (((Str.empty++p.1)++c)++p.2)=_
 rw[jd,jd,jd,List.append_assoc];rfl
theorem Tw(c:Str)(p:Ar):uG c p=p.1++c++p.2:=yj (by rw[Cy,jd,jd,List.append_assoc])
theorem G3{c:Str}{p:Ar}(hc:c.length=1)(h1:Wd p.1)(h2:Wd p.2):(uG c p).length≤17:=by
 rw[Tw,strLen_append,strLen_append]
 have:=h1.len
 have:=h2.len
 omega
def Ws(names:List Str)(xs:List Ar):Prop:=(∀ x∈names,Wd x)∧(∀ p∈xs,Wd p.1∧Wd p.2)∧names.length≤8∧xs.length≤64
theorem Qq{xs:List Ar}(hw:∀ p∈xs,Wd p.1∧Wd p.2)(c:Str)(hc:c.length=1):dJ (.t [0,1]) dX (mN dFs [(mV 0),(mC (.str c)),(mV 1)]) [none,none] (xs.map pairD)=.ok (xs.map fun p=>D.str (uG c p)):=by
 have:=cu (tg:=.t [0,1]) (c:=dX) (a:=mN dFs [(mV 0),(mC (.str c)),(mV 1)]) (e:=[none,none]) pairD (fun p=>D.str (uG c p)) (fun _=>true) xs fun p hp=>⟨[some (.d (.str p.1)),some (.d (.str p.2))],rfl,rfl,fun _=>by
  refine(Pq (x:=.str p.1) (y:=.str c) (z:=.str p.2) rfl rfl rfl).trans ?_
  exact au fun y hy=>by
   have h1:=(hw p hp).1.len
   have h2:=(hw p hp).2.len
   simp only[List.mem_cons,List.not_mem_nil,or_false] at hy
   rcases hy with rfl|rfl|rfl<;>omega⟩
 rw[List.filter_eq_self.mpr (fun _ _=>rfl)] at this
 exact this
theorem rC{xs:List Ar}(hw:∀ p∈xs,Wd p.1∧Wd p.2)(hl:xs.length≤64):cQ [.d (iU xs)]=.ok (.d (aU (xs.map (uG ">")))):=by
 unfold cQ tL
 rw[Nr]
 rw[show ([some (W.d (iU xs))]++List.replicate (1 - 1) none)=[some (W.d (iU xs))] from rfl]
 rw[dZ (bT (cC (ρ:=[none,none]) (cR (a:=mV 0) (x:=iU xs) rfl rfl) (by rw[List.length_map];omega) (Qq hw ">" (iy yS))))]
 unfold aU
 rw[List.map_map];rfl
theorem aab{ps:List Str}(k:Nat)(h:∀ p∈ps,p.length≤k):(ps.map (·.length)).sum≤k * ps.length:=by
 induction ps with
 | nil=>simp
 | cons x l ih =>
  have:=ih fun z hz=>h z (List.mem_cons_of_mem _ hz)
  have:=h x List.mem_cons_self
  rw[List.map_cons,List.sum_cons,List.length_cons,Nat.mul_add];omega
theorem PX{a b:E}{e:Mi.Env}{ps:List Str}(ha:a e=.ok (.str " "))(hb:b e=.ok (aU ps))(h:∀ p∈ps,p.length≤17)(hl:ps.length≤200):m2 Cr a b e=.ok (.str (Str.join " " ps)):=by
 refine aL ha hb ?_
 show (uC (rM (ps.map D.str))).bind _=_
 rw[tQ,ik,aB]
 refine au ?_
 have:=aab 17 h
 rw[iy yR]
 show _+ps.length * 1≤_
 omega
theorem Wz{a b:E}{e:Mi.Env}{x y:List Str}(ha:a e=.ok (aU x))(hb:b e=.ok (aU y))(hl:x.length+y.length≤1000):m2 bQ a b e=.ok (aU (x++y)):=by
 refine(aL ha hb (abe _ _)).trans ?_
 rw[au (by rw[List.length_map,List.length_map];omega)]
 unfold aU
 rw[List.map_append]
def vz(names:List Str)(xs:List Ar):List Str:=names++[(":" : Str)]++xs.map (uG ">")
def tx(names:List Str)(xs:List Ar):Str:=Str.join " " (vz names xs)
theorem O9{names:List Str}{xs:List Ar}(h:Ws names xs):∀ p∈vz names xs,p.length≤17:=by
 intro p hp
 rcases List.mem_append.mp hp with z|z
 ·rcases List.mem_append.mp z with z|z
  ·have:=(h.1 p z).len;omega
  ·rw[List.mem_singleton.mp z,iy Cz];decide
 ·obtain⟨q,hq,rfl⟩:=List.mem_map.mp z
  exact G3 (iy yS) (h.2.1 q hq).1 (h.2.1 q hq).2
theorem vq{names:List Str}{xs:List Ar}(h:Ws names xs):(vz names xs).length≤73:=by
 unfold vz
 rw[List.length_append,List.length_append,List.length_map]
 have:=h.2.2.1
 have:=h.2.2.2
 simp only[List.length_singleton];omega
theorem Jw{names:List Str}{xs:List Ar}(h:Ws names xs):ir [.d (bC names xs)]=.ok (.d (.str (tx names xs))):=by
 unfold ir CK
 rw[Ef]
 rw[show ([some (W.d (bC names xs))]++List.replicate (3 - 1) none)=[some (W.d (bC names xs)),none,none] from rfl]
 rw[aH (e':=[some (W.d (bC names xs)),some (W.d (gJ names)),some (W.d (iU xs))]) rfl]
 have h8:=h.2.2.1
 have h64:=h.2.2.2
 have l1:mN CW [(mV 1)] [some (W.d (bC names xs)),some (W.d (gJ names)),some (W.d (iU xs))]=.ok (aU names):=(km (x:=gJ names) rfl).trans rfl
 have l2:mN oR [(mC (.str ":"))] [some (W.d (bC names xs)),some (W.d (gJ names)),some (W.d (iU xs))]=.ok (aU [(":" : Str)]):=(km (x:=.str ":") rfl).trans (au (by show (1:Nat)≤_;decide))
 rw[dZ (bT (PX rfl (Wz (Wz l1 l2 (by simp only[List.length_singleton];omega)) (fX (f:=cQ) (a:=wD (mV 2)) rfl (rC h.2.1 h64)) (by rw[List.length_append,List.length_map];simp only[List.length_singleton];omega)) (O9 h) (by have:=vq h;unfold vz at this;omega)))]
 rfl
def nt(names:List Str):List Nat:=names.flatMap fun n=>cl n++[32]
def WQ(c:Nat)(xs:List Ar):List Nat:=xs.flatMap fun p=>32::(cl p.1++c::cl p.2)
theorem Qs(names:List Str)(xs:List Ar):cl (tx names xs)=nt names++([58]++WQ 62 xs):=by
 unfold tx vz nt WQ
 rw[wQ,yR,List.append_assoc]
 rw[show ([(":" : Str)]++xs.map (uG ">"):List Str)=(":" : Str)::xs.map (uG ">") from rfl,List.map_append,List.map_cons,uh,Cz,List.map_map,List.flatMap_map,List.flatMap_map]
 congr 2
 congr 1
 funext p
 show 32::cl (uG ">" p)=_
 rw[Cy,yS];rfl
theorem Om{a b:E}{e:Mi.Env}{x y:Str}(ha:a e=.ok (.str x))(hb:b e=.ok (.str y))(hl:x.length+y.length≤100000):m2 bQ a b e=.ok (.str (x++y)):=by
 refine(aL ha hb (Ol _ _)).trans (au (by omega))
theorem M3{names:List Str}(h:∀ x∈names,Wd x):(nt names).length≤9 * names.length:=ye _ 9 names fun x hx=>by
 have:=(h x hx).len
 rw[List.length_append,vM];simp only[List.length_singleton];omega
theorem Qz{c:Nat}{xs:List Ar}(h:∀ p∈xs,Wd p.1∧Wd p.2):(WQ c xs).length≤18 * xs.length:=ye _ 18 xs fun p hp=>by
 have:=(h p hp).1.len
 have:=(h p hp).2.len
 rw[List.length_cons,List.length_append,List.length_cons,vM,vM];omega
theorem uF{α : Type}{l:List α}{i:Nat}{x:α}(h:l[i]? = some x):l.take (i+1)=l.take i++[x]:=by rw[List.take_succ,h];rfl
theorem Ek{xs:List Ar}(hw:∀ p∈xs,Wd p.1∧Wd p.2)(hl:xs.length≤64)(c:Nat)(cs:Str)(hcs:cl cs=[c])(i j k:Nat)(mk:Str→Option W→Option W→Mi.Env)
 (h1:∀ z o o' (p:Ar),(Tg.t [j,k]).put (pairD p) (mk z o o')=.ok (mk z (some (.d (.str p.1))) (some (.d (.str p.2)))))
 (h2:∀ z o o',mV i (mk z o o')=.ok (.str z)) (h3:∀ z (a:Str) o',mV j (mk z (some (.d (.str a))) o')=.ok (.str a)) (h4:∀ z o (b:Str),mV k (mk z o (some (.d (.str b))))=.ok (.str b)) (h5:∀ z z' o o',(mk z o o').set i (some (.d (.str z')))=mk z' o o')
 (z0:Str) (hz:z0.length≤2000) (o o':Option W):∃ z p p',tE (.t [j,k]) (bV i (m2 bQ (m2 bQ (m2 bQ (m2 bQ (mV i) (mC (.str " "))) (mV j)) (mC (.str cs))) (mV k))) (xs.map pairD) (mk z0 o o')=.ok (.nx (mk z p p'))∧cl z=cl z0++WQ c xs:=by
 obtain⟨e',f,z,p,p',he,hc⟩:=gP (tg:=.t [j,k]) (body:=bV i (m2 bQ (m2 bQ (m2 bQ (m2 bQ (mV i) (mC (.str " "))) (mV j)) (mC (.str cs))) (mV k)))
  (fun n e=>∃ z p p',e=mk z p p'∧cl z=cl z0++WQ c (xs.take n)) (xs.map pairD) 0 (fun n d e hi ⟨z,p,p',he,hc⟩=>by
   subst he
   rw[Nat.zero_add] at hc ⊢
   rw[List.getElem?_map] at hi
   obtain⟨q,hq,rfl⟩:=Option.map_eq_some_iff.mp hi
   have wq:=hw q (List.mem_of_getElem? hq)
   have l1:=wq.1.len
   have l2:=wq.2.len
   have il:=(List.getElem?_eq_some_iff.mp hq).1
   have lz:z.length≤4000:=by
    rw[iy hc,List.length_append,vM]
    have:=Qz (c:=c) (xs:=xs.take n) fun p hp=>hw p (List.mem_of_mem_take hp)
    rw[List.length_take] at this;omega
   have s1:=iy yR
   have s2:=iy hcs
   simp only[List.length_singleton] at s1 s2
   refine⟨mk z (some (.d (.str q.1))) (some (.d (.str q.2))),mk (z ++ " " ++ q.1++cs++q.2) (some (.d (.str q.1))) (some (.d (.str q.2))),h1 _ _ _ _,?_,_,_,_,rfl,?_⟩
   ·refine(bx (Om (Om (Om (Om (h2 _ _ _) rfl ?_) (h3 _ _ _) ?_) rfl ?_) (h4 _ _ _) ?_)).trans (by rw[h5])<;>(try simp only[strLen_append])<;>omega
   ·rw[uF hq]
    unfold WQ
    rw[List.flatMap_append,List.flatMap_singleton,jd,jd,jd,jd,hc,yR,hcs]
    simp only[WQ,List.append_assoc,List.cons_append,List.nil_append]) (mk z0 o o') ⟨z0,o,o',rfl,by simp[WQ]⟩
 subst he
 rw[Nat.zero_add,List.length_map,List.take_length] at hc
 exact⟨z,p,p',f,hc⟩
theorem BP{names:List Str}{xs:List Ar}(h:Ws names xs):iw [.d (bC names xs)]=.ok (.d (.str (tx names xs))):=by
 have h8:=h.2.2.1
 have h64:=h.2.2.2
 obtain⟨e1,f1,z1,o2,he1,hc1⟩:=gP (tg:=.n 2) (body:=(bV 1 (m2 bQ (m2 bQ (mV 1) (mV 2)) (mC (.str " ")))))
  (fun n e=>∃ (z:Str) (o2:Option W),e=[some (W.d (bC names xs)),some (.d (.str z)),o2,none,none]∧cl z=nt (names.take n)) (names.map D.str) 0 (fun n d e hi ⟨z,o2,he,hc⟩=>by
   subst he
   rw[Nat.zero_add] at hc ⊢
   rw[List.getElem?_map] at hi
   obtain⟨x,hx,rfl⟩:=Option.map_eq_some_iff.mp hi
   have l1:=(h.1 x (List.mem_of_getElem? hx)).len
   have lz:z.length≤72:=by
    rw[iy hc]
    have:=M3 (names:=names.take n) fun y hy=>h.1 y (List.mem_of_mem_take hy)
    rw[List.length_take] at this;omega
   have s1:=iy yR
   simp only[List.length_singleton] at s1
   refine⟨[some (W.d (bC names xs)),some (.d (.str z)),some (.d (.str x)),none,none],[some (W.d (bC names xs)),some (.d (.str (z++x ++ " "))),some (.d (.str x)),none,none],rfl,?_,_,_,rfl,?_⟩
   ·refine bx (Om (Om rfl rfl ?_) rfl ?_)<;>(try simp only[strLen_append])<;>omega
   ·rw[uF hx]
    unfold nt
    rw[List.flatMap_append,List.flatMap_singleton,jd,jd,hc,yR]
    simp only[nt,List.append_assoc]) [some (W.d (bC names xs)),some (.d (.str "")),none,none,none] ⟨"", none,rfl,by
     show cl "" = _
     simp only[List.take_zero,nt,List.flatMap_nil]
     decide +kernel⟩
 subst he1
 rw[Nat.zero_add,List.length_map,List.take_length] at hc1
 have lz:z1.length≤72:=by
  rw[iy hc1]
  have:=M3 (names:=names) h.1
  omega
 have s1:=iy Cz
 simp only[List.length_singleton] at s1
 have lz2:(z1 ++ ":").length≤2000:=by rw[strLen_append];omega
 obtain⟨z,p,p',f2,hc2⟩:=Ek h.2.1 h64 62 ">" yS 1 3 4 (fun z o o'=>[some (W.d (bC names xs)),some (.d (.str z)),o2,o,o']) (fun _ _ _ _=>rfl) (fun _ _ _=>rfl) (fun _ _ _=>rfl) (fun _ _ _=>rfl) (fun _ _ _ _=>rfl) (z1 ++ ":") lz2 none none
 unfold iw K6
 rw[Ef]
 rw[show ([some (W.d (bC names xs))]++List.replicate (5 - 1) none)=[some (W.d (bC names xs)),none,none,none,none] from rfl]
 rw[aH (e':=[some (W.d (bC names xs)),some (.d (.str "")),none,none,none]) rfl]
 rw[aH ((iC (cR (aL rfl rfl (X7 names xs)) rfl)).trans f1)]
 rw[aH (e':=[some (W.d (bC names xs)),some (.d (.str (z1 ++ ":"))),o2,none,none]) (bx (Om rfl rfl (by omega)))]
 rw[aH ((iC (cR (aL rfl rfl (ix1 names xs)) rfl)).trans f2)]
 have e:z=tx names xs:=yj (by rw[hc2,jd,hc1,Cz,Qs,List.append_assoc])
 rw[← e];rfl
end Mr
namespace Mr
open PySem Mi
open My (words rN bZ)
theorem Qe{x:Str}(r:List Str):∀ {l:List Str},x∉l→(l++x::r).idxOf x=l.length
 | [],_=>by simp
 | y::l,h=>by
  have hne:y≠x:=fun z=>h (by rw[z];exact List.mem_cons_self)
  have ih:=Qe r fun z=>h (List.mem_cons_of_mem _ z)
  rw[List.cons_append,List.idxOf_cons]
  rw[show (y == x)=false from beq_eq_false_iff_ne.mpr hne]
  rw[cond_false,ih];rfl
theorem Uw{names:List Str}{xs:List Ar}(h:Ws names xs):∀ p∈vz names xs,32∉cl p:=by
 intro p hp z
 have low:∀ {x:Str},Wd x→32∉cl x:=fun w y=>by have:=w.low 32 y;omega
 rcases List.mem_append.mp hp with q|q
 ·rcases List.mem_append.mp q with q|q
  ·exact low (h.1 p q) z
  ·rw[List.mem_singleton.mp q,Cz] at z
   simp at z
 ·obtain⟨q',hq,rfl⟩:=List.mem_map.mp q
  rw[Cy,yS] at z
  rcases List.mem_append.mp z with z|z
  ·exact low (h.2.1 q' hq).1 z
  ·rcases List.mem_append.mp z with z|z
   ·simp at z
   ·exact low (h.2.1 q' hq).2 z
theorem S8{names:List Str}{xs:List Ar}(h:Ws names xs):(tx names xs).length≤2000:=by
 rw[iy (Qs names xs),List.length_append,List.length_append]
 have:=M3 h.1
 have:=Qz (c:=62) h.2.1
 have:=h.2.2.1
 have:=h.2.2.2
 simp only[List.length_singleton];omega
theorem Tt{names:List Str}{xs:List Ar}(h:Ws names xs):Ny (.str (tx names xs)) (.str " ")=.ok (aU (vz names xs)):=by
 have e:Txt.split (tx names xs) " " = vz names xs:=by
  unfold tx
  rw[abL]
  exact Mj (by unfold vz;simp) (Uw h)
 show aO _ (Rs.ok (D.lst ((Txt.split (tx names xs) " ").map D.str)))=_
 rw[e]
 exact au ⟨by rw[iy yR];decide,by have:=S8 h;omega⟩
theorem Xo{p:Ar}(h1:Wd p.1)(h2:Wd p.2):Qo (.str (uG ">" p)) (.str ">")=.ok (.tup [.str p.1,.str ">", .str p.2]):=by
 have e:Txt.partition (uG ">" p) ">" = (p.1,(">" : Str),p.2):=by
  rw[Tw,acH]
  exact Xp fun z=>by have:=h1.low 62 z;omega
 show aO _ (Rs.ok (D.tup ((sS (uG ">" p) ">").map D.str)))=_
 unfold sS
 rw[e]
 exact au ⟨by rw[iy yS];decide,by have:=G3 (iy yS) h1 h2;omega⟩
theorem J9{p:Ar}(h1:Wd p.1)(h2:Wd p.2):lg [.d (.tup [.str p.1,.str ">", .str p.2])]=.ok (.d (.bl true)):=by
 unfold lg CT
 rw[Ef]
 rw[show ([some (W.d (.tup [.str p.1,.str ">", .str p.2]))]++List.replicate (1 - 1) none)=[some (W.d (.tup [.str p.1,.str ">", .str p.2]))] from rfl]
 have i0:m2 gA (mV 0) (mC (.int 0)) [some (W.d (.tup [.str p.1,.str ">", .str p.2]))]=.ok (.str p.1):=aL rfl rfl (by show uC (uU [D.str p.1,.str ">", .str p.2] 0)=_;rw[at0];rfl)
 have i2:m2 gA (mV 0) (mC (.int 2)) [some (W.d (.tup [.str p.1,.str ">", .str p.2]))]=.ok (.str p.2):=aL rfl rfl (by show uC (uU [D.str p.1,.str ">", .str p.2] 2)=_;simp[uU,Jd])
 rw[dZ (bT (wy (p:=true) (q:=true) (fX (bT i0) h1.ok) fun _=>fX (bT i2) h2.ok))]
 rfl
theorem Ww{α : Type}{it:I}{tg:Tg}{a:E}{ρ : List (Option Nat)}{e:Mi.Env}{xs:List α}(f:α→D)(hi:it e=.ok (xs.map f))(hl:xs.length≤1000)(h:∀ x∈xs,∃ e1,tg.put (f x) (ou ρ e)=.ok e1∧a e1=.ok (.bl true)):mN CZ [(cF ρ it tg dX a)] e=.ok (.bl true):=by
 have hc:=cu (tg:=tg) (c:=dX) (a:=a) (e:=ou ρ e) f (fun c=>D.bl ((fun _=>true) c)) (fun _=>true) xs fun x hx=>by
  obtain⟨e1,h1,h2⟩:=h x hx
  exact⟨e1,h1,rfl,fun _=>h2⟩
 rw[List.filter_eq_self.mpr (fun _ _=>rfl)] at hc
 refine(km (cC hi (by rw[List.length_map];omega) hc)).trans ?_
 rw[Wx,Di,ik,aB,List.all_map]
 show Rs.ok (D.bl (xs.all fun _=>true))=_
 rw[List.all_eq_true.mpr (fun _ _=>rfl)]
theorem yJ{names:List Str}{xs:List Ar}{B:List Ar}(h:Ws names xs)(hp:1≤names.length)(hm:iu [.d (aU names),.d (gQ xs)]=.ok (.d (bC names B))):eF [.d (.str (tx names xs))]=.ok (.d (bC names B)):=by
 have h8:=h.2.2.1
 have h64:=h.2.2.2
 have co:(":" : Str)∉names:=fun z=>by
  have:=(h.1 _ z).low 58 (by rw[Cz];exact List.mem_cons_self)
  omega
 have ep:vz names xs=names++(":" : Str)::xs.map (uG ">"):=by unfold vz;rw[List.append_assoc];rfl
 obtain⟨T,hT⟩ : ∃ T,T=tx names xs:=⟨_,rfl⟩
 have sp:=Tt h
 rw[← hT] at sp ⊢
 unfold eF CP
 rw[Ef]
 rw[show ([some (W.d (.str T))]++List.replicate (5 - 1) none)=[some (W.d (.str T)),none,none,none,none] from rfl]
 rw[aH (e':=[some (W.d (.str T)),some (.d (aU (vz names xs))),none,none,none]) (bx (aL rfl rfl sp))]
 rw[aH ((fu (cz (aL (a:=mC (.str ":")) (b:=mV 1) rfl rfl ((qO (vz names xs) ":").trans (by rw[decide_eq_true (by rw[ep];simp)];rfl))))).trans rfl)]
 have ix:m2 NB (mV 1) (mC (.str ":")) [some (W.d (.str T)),some (.d (aU (vz names xs))),none,none,none]=.ok (.int (names.length:Nat)):=by
  refine aL (x:=aU (vz names xs)) rfl rfl ?_
  show (uC (rM ((vz names xs).map D.str))).bind _=_
  rw[tQ,ik,aB]
  rw[au ⟨by rw[ep];simp,by have:=vq h;omega⟩,ep,Qe _ co]
 rw[aH (e':=[some (W.d (.str T)),some (.d (aU (vz names xs))),some (.d (.int (names.length:Nat))),none,none]) (bx ix)]
 have s3:gq Qn (mV 1) none (some (mV 2)) [some (W.d (.str T)),some (.d (aU (vz names xs))),some (.d (.int (names.length:Nat))),none,none]=.ok (aU names):=by
  rw[GR (x:=aU (vz names xs)) (i:=(names.length:Nat)) rfl rfl]
  show Rs.ok (D.lst (wN ((vz names xs).map D.str) none (some ((names.length:Nat):Int))))=_
  rw[aa4,← List.map_take,ep,List.take_left];rfl
 rw[aH (e':=[some (W.d (.str T)),some (.d (aU (vz names xs))),some (.d (.int (names.length:Nat))),some (.d (aU names)),none]) (bx s3)]
 have s4:lY (gq Qn (mV 1) (some (m2 bQ (mV 2) (mC (.int 1)))) none) [some (W.d (.str T)),some (.d (aU (vz names xs))),some (.d (.int (names.length:Nat))),some (.d (aU names)),none]=.ok (xs.map fun p=>D.str (uG ">" p)):=by
  refine cR (x:=.lst (xs.map fun p=>D.str (uG ">" p))) ?_ rfl
  rw[GZ (x:=aU (vz names xs)) (i:=((names.length+1:Nat):Int)) rfl (aL (x:=.int (names.length:Nat)) rfl rfl (by rw[Dj];rfl))]
  show Rs.ok (D.lst (wN ((vz names xs).map D.str) (some ((names.length+1:Nat):Int)) none))=_
  rw[KJ,← List.map_drop,ep,← List.drop_drop,List.drop_left]
  show Rs.ok (D.lst ((xs.map (uG ">")).map D.str))=_
  rw[List.map_map];rfl
 have cm:=cu (tg:=.n 0) (c:=dX) (a:=m2 Qo (mV 0) (mC (.str ">"))) (e:=[none]) (fun p=>D.str (uG ">" p)) (fun p:Ar=>D.tup [.str p.1,.str ">", .str p.2]) (fun _=>true) xs fun p hp=>⟨[some (.d (.str (uG ">" p)))],rfl,rfl,fun _=>aL rfl rfl (Xo (h.2.1 p hp).1 (h.2.1 p hp).2)⟩
 rw[List.filter_eq_self.mpr (fun _ _=>rfl)] at cm
 obtain⟨Tr,hTr⟩ : ∃ Tr,Tr=xs.map fun p:Ar=>D.tup [.str p.1,.str ">", .str p.2]:=⟨_,rfl⟩
 rw[← hTr] at cm
 rw[aH (e':=[some (W.d (.str T)),some (.d (aU (vz names xs))),some (.d (.int (names.length:Nat))),some (.d (aU names)),some (.d (.lst Tr))]) (bx (cC (ρ:=[none]) s4 (by rw[List.length_map];omega) cm))]
 have c5:(Fp (jf (K4 (mV 3))) (jf (cB (mN CZ [(cF [none] (lY (mV 3)) (.n 0) dX (aQ cj [(wD (mV 0))]))])))) [some (W.d (.str T)),some (.d (aU (vz names xs))),some (.d (.int (names.length:Nat))),some (.d (aU names)),some (.d (.lst Tr))]=.ok false:=by
  refine CJ (p:=false) (q:=false) (lJ (p:=true) ?_) fun _=>lJ (p:=true) (cz (Ww D.str (cR (a:=mV 3) (x:=aU names) rfl rfl) (by omega) fun x hx=>⟨[some (.d (.str x))],rfl,fX rfl (h.1 x hx).ok⟩))
  cases names with
  | nil=>simp at hp
  | cons a r=>rfl
 have c6:(jf (cB (mN CZ [(cF [none] (lY (mV 4)) (.n 0) dX (aQ lg [(wD (mV 0))]))]))) [some (W.d (.str T)),some (.d (aU (vz names xs))),some (.d (.int (names.length:Nat))),some (.d (aU names)),some (.d (.lst Tr))]=.ok false :=
  lJ (p:=true) (cz (Ww (xs:=xs) (fun p:Ar=>D.tup [.str p.1,.str ">", .str p.2]) (cR (a:=mV 4) (x:=.lst Tr) rfl (by rw[hTr];rfl)) (by omega) fun p hp=>⟨[some (.d (.tup [.str p.1,.str ">", .str p.2]))],rfl,fX rfl (J9 (h.2.1 p hp).1 (h.2.1 p hp).2)⟩))
 rw[aH ((fu c5).trans rfl),aH ((fu c6).trans rfl)]
 have cp:=cu (tg:=.t [0,1,2]) (c:=dX) (a:=mN dTup [(mV 0),(mV 2)]) (e:=[none,none,none]) (fun p:Ar=>D.tup [.str p.1,.str ">", .str p.2]) pairD (fun _=>true) xs fun p hp=>⟨[some (.d (.str p.1)),some (.d (.str ">")),some (.d (.str p.2))],rfl,rfl,fun _=>j5 rfl rfl⟩
 rw[List.filter_eq_self.mpr (fun _ _=>rfl)] at cp
 rw[dZ (bT (call2 (f:=iu) (a:=wD (mV 3)) rfl (bT (cC (ρ:=[none,none,none]) (cR (a:=mV 4) (x:=.lst Tr) rfl (by rw[hTr];rfl)) (by rw[List.length_map];omega) cp)) hm))]
 rfl
def tp(names:List Str)(R S:List Ar):Str:=Str.join " " (vz names R++S.map (uG "-"))
theorem ZQ(names:List Str)(R S:List Ar):cl (tp names R S)=cl (tx names R)++WQ 45 S:=by
 unfold tp
 rw[Qs]
 unfold vz nt WQ
 rw[wQ,yR,List.append_assoc,List.append_assoc]
 rw[show ([(":" : Str)]++(R.map (uG ">")++S.map (uG "-")):List Str)=(":" : Str)::(R.map (uG ">")++S.map (uG "-")) from rfl,List.map_append,List.map_cons,uh,Cz,List.map_append,List.map_map,List.map_map,List.flatMap_append,List.flatMap_map,List.flatMap_map,List.flatMap_map]
 rw[List.append_assoc,List.append_assoc]
 congr 3
 ·congr 1
  funext p
  show 32::cl (uG ">" p)=_
  rw[Cy,yS];rfl
 ·congr 1
  funext p
  show 32::cl (uG "-" p)=_
  rw[Cy,Qt];rfl
theorem zp{names:List Str}{R S:List Ar}(h:Ws names R)(hs:∀ p∈S,Wd p.1∧Wd p.2)(hl:S.length≤64):du [.d (nF names R S)]=.ok (.d (.str (tp names R S))):=by
 unfold du tK
 rw[Ef]
 rw[show ([some (W.d (nF names R S))]++List.replicate (5 - 1) none)=[some (W.d (nF names R S)),none,none,none,none] from rfl]
 rw[aH (e':=[some (W.d (nF names R S)),some (W.d (gJ names)),some (W.d (iU R)),some (W.d (iU S)),none]) rfl]
 have h8:=h.2.2.1
 have h64:=h.2.2.2
 have es:D.lst (S.map fun p=>D.str (uG "-" p))=aU (S.map (uG "-")):=by unfold aU;rw[List.map_map];rfl
 rw[aH (e':=[some (W.d (nF names R S)),some (W.d (gJ names)),some (W.d (iU R)),some (W.d (iU S)),some (W.d (aU (S.map (uG "-"))))]) (by
  rw[← es]
  exact bx (cC (ρ:=[none,none]) (cR (a:=mV 3) (x:=iU S) rfl rfl) (by rw[List.length_map];omega) (Qq hs "-" (iy Qt))))]
 have l1:mN CW [(mV 1)] [some (W.d (nF names R S)),some (W.d (gJ names)),some (W.d (iU R)),some (W.d (iU S)),some (W.d (aU (S.map (uG "-"))))]=.ok (aU names):=(km (x:=gJ names) rfl).trans rfl
 have l2:mN oR [(mC (.str ":"))] [some (W.d (nF names R S)),some (W.d (gJ names)),some (W.d (iU R)),some (W.d (iU S)),some (W.d (aU (S.map (uG "-"))))]=.ok (aU [(":" : Str)]):=(km (x:=.str ":") rfl).trans (au (by show (1:Nat)≤_;decide))
 have pl:=vq h
 unfold vz at pl
 rw[dZ (bT (PX rfl (Wz (Wz (Wz l1 l2 (by simp only[List.length_singleton];omega)) (fX (f:=cQ) (a:=wD (mV 2)) rfl (rC h.2.1 h64)) (by rw[List.length_append,List.length_map];simp only[List.length_singleton];omega)) (show mV 4 _=.ok (aU (S.map (uG "-"))) from rfl) (by rw[List.length_map];omega)) (fun p hp=>by
  rcases List.mem_append.mp hp with z|z
  ·exact O9 h p z
  ·obtain⟨q,hq,rfl⟩:=List.mem_map.mp z
   exact G3 (iy Qt) (hs q hq).1 (hs q hq).2) (by rw[List.length_append,List.length_map];omega)))]
 rfl
theorem DN{names:List Str}{A R S:List Ar}(h:Ws names R)(hs:∀ p∈S,Wd p.1∧Wd p.2)(hl:S.length≤64):eY [.d (nF names R S),.d (bC names A)]=.ok (.d (.str (tp names R S))):=by
 have x0:m2 gA (mV 0) (mC (.int 0)) [some (W.d (nF names R S)),some (W.d (bC names A)),none,none,none]=.ok (gJ names):=aL rfl rfl (adE names R S)
 have x1:m2 gA (mV 0) (mC (.int 1)) [some (W.d (nF names R S)),some (W.d (bC names A)),none,none,none]=.ok (iU R):=aL rfl rfl (adD names R S)
 have y0:m2 gA (mV 1) (mC (.int 0)) [some (W.d (nF names R S)),some (W.d (bC names A)),none,none,none]=.ok (gJ names):=aL rfl rfl (X7 names A)
 have cA:(Fp (jf (cB (m1 (yZ ["tuple"]) (mV 0)))) (Fp (cB (m2 KD (mN mY [(mV 0)]) (mC (.int 3)))) (jf (cB (aQ (bw 4) [(wD (m2 gA (mV 0) (mC (.int 0)))),(wD (m2 gA (mV 1) (mC (.int 0))))]))))) [some (W.d (nF names R S)),some (W.d (bC names A)),none,none,none]=.ok false :=
  CJ (p:=false) (q:=false) (lJ (p:=true) rfl) fun _=>CJ (p:=false) (q:=false) rfl fun _=>lJ (p:=true) (cz (call2 (bT x0) (bT y0) (Sg 2 names)))
 have ju:m2 KH (gq zE (mV 1) none (some (mC (.int 1)))) (mN dTup [(m2 gA (mV 0) (mC (.int 1)))]) [some (W.d (nF names R S)),some (W.d (bC names A)),none,none,none]=.ok (bC names R):=by
  refine aL (x:=.tup [gJ names]) (y:=.tup [iU R]) ?_ ((km x1).trans (au (by show (1:Nat)≤_;decide))) (au (by show (1:Nat)+1≤_;decide))
  rw[GR (x:=bC names A) (i:=1) rfl rfl]
  exact au (by show (0:Int)≤1∧(1:Int)≤((2:Nat):Int)∧(2:Nat)≤16777216;decide)
 have lt:=S8 h
 obtain⟨z,p,p',f2,hc2⟩:=Ek hs hl 45 "-" Qt 2 3 4 (fun z o o'=>[some (W.d (nF names R S)),some (W.d (bC names A)),some (.d (.str z)),o,o']) (fun _ _ _ _=>rfl) (fun _ _ _=>rfl) (fun _ _ _=>rfl) (fun _ _ _=>rfl) (fun _ _ _ _=>rfl) (tx names R) lt none none
 unfold eY rB
 rw[zB]
 rw[show ([some (W.d (nF names R S)),some (W.d (bC names A))]++List.replicate (5 - 2) none)=[some (W.d (nF names R S)),some (W.d (bC names A)),none,none,none] from rfl]
 rw[aH ((fu cA).trans rfl)]
 rw[aH (e':=[some (W.d (nF names R S)),some (W.d (bC names A)),some (.d (.str (tx names R))),none,none]) (bx (fX (f:=iw) (bT ju) (BP h)))]
 rw[aH ((iC (cR (aL rfl rfl (adC names R S)) rfl)).trans f2)]
 have e:z=tp names R S:=yj (by rw[hc2,ZQ])
 rw[← e];rfl
theorem zm(A:List Ar)(hl:A.length≤64)(c:Int):∃ xs,xs.Perm A∧eE [.d (iU A),.d (.int c)]=.ok (.d (iU xs)):=by
 have z0:=Int.emod_nonneg (c / 2) (b:=(A.length:Int)+1) (by omega)
 have z1:=Int.emod_lt_of_pos (c / 2) (b:=(A.length:Int)+1) (by omega)
 obtain⟨k,hk⟩ : ∃ k:Nat,c / 2 % ((A.length:Int)+1)=(k:Int):=⟨(c / 2 % ((A.length:Int)+1)).toNat,by omega⟩
 have hln:mN mY [(mV 0)] [some (.d (iU A)),some (.d (.int c)),none,none]=.ok (.int (A.length:Int)):=(km (x:=iU A) rfl).trans (by show Rs.ok (D.int (((A.map pairD).length:Nat):Int))=_;rw[List.length_map])
 have s2:bV 2 (m2 fJ (m2 lu (mV 1) (mC (.int 2))) (m2 bQ (mN mY [(mV 0)]) (mC (.int 1)))) [some (.d (iU A)),some (.d (.int c)),none,none]=.ok (.nx [some (.d (iU A)),some (.d (.int c)),some (.d (.int (k:Int))),none]) :=
  bx (aL (aL rfl rfl (au (eZ (by decide) (by decide)))) (aL hln rfl rfl) ((au (by omega)).trans (by rw[hk])))
 have sl1:gq zE (mV 0) (some (mV 2)) none [some (.d (iU A)),some (.d (.int c)),some (.d (.int (k:Int))),none]=.ok (iU (A.drop k)):=by
  rw[GZ (x:=iU A) (i:=(k:Int)) rfl rfl]
  refine(au ?_).trans ?_
  ·rw[List.length_map];omega
  ·unfold iU;rw[List.map_drop];rfl
 have sl2:gq zE (mV 0) none (some (mV 2)) [some (.d (iU A)),some (.d (.int c)),some (.d (.int (k:Int))),none]=.ok (iU (A.take k)):=by
  rw[GR (x:=iU A) (i:=(k:Int)) rfl rfl]
  refine(au ?_).trans ?_
  ·rw[List.length_map];omega
  ·unfold iU;rw[List.map_take];rfl
 have s3:mN CW [(m2 KH (gq zE (mV 0) (some (mV 2)) none) (gq zE (mV 0) none (some (mV 2))))] [some (.d (iU A)),some (.d (.int c)),some (.d (.int (k:Int))),none]=.ok (gQ (A.drop k++A.take k)):=by
  refine(km (x:=iU (A.drop k++A.take k)) (aL sl1 sl2 ((au (by rw[List.length_map,List.length_map,List.length_drop,List.length_take];omega)).trans (by unfold iU;rw[List.map_append])))).trans rfl
 have pr:(A.drop k++A.take k).Perm A:=by
  have:=List.perm_append_comm (l₁:=A.drop k) (l₂:=A.take k)
  rw[List.take_append_drop] at this;exact this
 have ct:cB (m2 Jg (m2 fJ (mV 1) (mC (.int 2))) (mC (.int 1))) [some (.d (iU A)),some (.d (.int c)),some (.d (.int (k:Int))),some (.d (gQ (A.drop k++A.take k)))]=.ok (decide (c % 2=1)) :=
  cz (aL (aL rfl rfl (au (by decide))) rfl (Ig _ _))
 obtain⟨xs,hp,hif⟩ : ∃ xs:List Ar,xs.Perm A∧(jE (cB (m2 Jg (m2 fJ (mV 1) (mC (.int 2))) (mC (.int 1)))) (Bc 3) bK) [some (.d (iU A)),some (.d (.int c)),some (.d (.int (k:Int))),some (.d (gQ (A.drop k++A.take k)))]=.ok (.nx [some (.d (iU A)),some (.d (.int c)),some (.d (.int (k:Int))),some (.d (gQ xs))]):=by
  by_cases h2:c % 2=1
  ·rw[decide_eq_true h2] at ct
   refine⟨(A.drop k++A.take k).reverse,(List.reverse_perm _).trans pr,(pW ct).trans ?_⟩
   show Rs.ok (Out.nx [_,_,_,some (W.d (.lst ((A.drop k++A.take k).map pairD).reverse))])=_
   unfold gQ
   rw[List.map_reverse]
  ·rw[decide_eq_false h2] at ct
   exact⟨_,pr,(fu ct).trans rfl⟩
 refine⟨xs,hp,?_⟩
 unfold eE qe
 rw[zB]
 rw[show ([some (W.d (iU A)),some (W.d (.int c))]++List.replicate (4 - 2) none)=[some (W.d (iU A)),some (W.d (.int c)),none,none] from rfl]
 rw[aH s2]
 rw[aH (e':=[some (.d (iU A)),some (.d (.int c)),some (.d (.int (k:Int))),some (.d (gQ (A.drop k++A.take k)))]) (bx s3)]
 rw[aH hif]
 rfl
theorem uN(ns:List Int)(hl:ns.length≤63):xZ [.d (.lst (ns.map D.int))]=.ok (.d (.bl true)):=by
 obtain⟨names,A0,r,Yh,IN,cw,mw,hm8,hnm⟩:=Vc ns 8 (by decide) (by decide)
 rw[show ((8:Nat):Int)=8 from rfl] at Yh
 have wd:∀ x∈names,Wd x:=fun x hx=>by
  rw[hnm] at hx
  obtain⟨l,hl,rfl⟩:=List.mem_map.mp hx
  exact⟨l,rfl,bZ cw mw hm8 l hl⟩
 have hw:∀ x∈names,cj [.d (.str x)]=.ok (.d (.bl true)):=fun x hx=>(wd x hx).ok
 have G:=IN.gd hw
 have made:∀ {xs:List Ar},xs.Perm (A0.map (arrOf names))→iu [.d (aU names),.d (gQ xs)]=.ok (.d (bC names (A0.map (arrOf names)))):=fun hp=>XH IN hw hp
 have np:=IN.pos
 generalize A0.map (arrOf names)=A at Yh G made
 have al:A.length≤64:=G.al
 have wa:∀ p∈A,Wd p.1∧Wd p.2:=fun p hp=>⟨wd _ (G.inn p hp).1,wd _ (G.inn p hp).2⟩
 have wsA:Ws names A:=⟨wd,wa,G.le,al⟩
 obtain⟨c,hc⟩:=uv ns 32 (by decide)
 rw[show ((32:Nat):Int)=32 from rfl] at hc
 obtain⟨xs,hp,hta⟩:=zm A al c
 have wsX:Ws names xs:=⟨wd,fun p h=>wa p (hp.mem_iff.mp h),G.le,by rw[hp.length_eq];exact al⟩
 obtain⟨P,hP,nd,sub⟩:=Hf G
 have hpo:=Hb G hP
 obtain⟨R,hR⟩ : ∃ R,R=v5 names P:=⟨_,rfl⟩
 obtain⟨S,hS⟩ : ∃ S,S=J7 (rF names A) P:=⟨_,rfl⟩
 have cnt:R.length+S.length=A.length:=by rw[hR,hS];exact Cw G nd sub
 have wr:∀ p∈R,Wd p.1∧Wd p.2:=fun p h=>by
  rw[hR,zM] at h
  exact wa p (sub p h.1)
 have ws:∀ p∈S,Wd p.1∧Wd p.2:=fun p h=>by
  rw[hS] at h
  have:=ud (mQ.mp (List.mem_filter.mp h).1).1
  exact⟨wd _ this.1,wd _ this.2⟩
 have wsR:Ws names R:=⟨wd,wr,G.le,by omega⟩
 rw[← hR,← hS] at hpo
 have sp:=zp wsR ws (by omega)
 have pd:=DN (A:=A) wsR ws (by omega)
 have sn:=Jw wsA
 have lt:=BP wsA
 have lx:=BP wsX
 have rn:=yJ wsA np (made (List.Perm.refl _))
 have rx:=yJ wsX np (made hp)
 have nonempty:tp names R S ≠ "" := fun z=>by
  have:=congrArg cl z
  rw[ZQ,Qs] at this
  have h2:=congrArg List.length this
  simp only[List.length_append,List.length_singleton] at h2
  rw[show (cl "").length=0 by decide +kernel] at h2
  omega
 obtain⟨Q,hQ⟩ : ∃ Q,Q=nF names R S:=⟨_,rfl⟩
 rw[← hQ] at hpo sp pd
 obtain⟨T,hT⟩ : ∃ T,T=tx names A:=⟨_,rfl⟩
 rw[← hT] at sn lt rn
 obtain⟨L,hL⟩ : ∃ L,L=D.lst (ns.map D.int):=⟨_,rfl⟩
 unfold xZ Fz
 rw[Ef,← hL]
 rw[← hL] at Yh hc
 rw[show ([some (W.d L)]++List.replicate (6 - 1) none)=[some (W.d L),none,none,none,none,none] from rfl]
 rw[aH (e':=[some (W.d L),some (W.d (bC names A)),none,none,none,none]) (bx (call2 rfl rfl Yh))]
 rw[aH (e':=[some (W.d L),some (W.d (bC names A)),some (W.d (.str T)),none,none,none]) (bx (fX (f:=iw) rfl lt))]
 have c1:(Fp (jf (cB (aQ (bw 4) [(wD (aQ ir [(wD (mV 1))])),(wD (mV 2))]))) (jf (cB (aQ (bw 4) [(wD (aQ eF [(wD (mV 2))])),(wD (mV 1))])))) [some (W.d L),some (W.d (bC names A)),some (W.d (.str T)),none,none,none]=.ok false :=
  CJ (p:=false) (q:=false) (lJ (p:=true) (cz (call2 (bT (fX rfl sn)) rfl (jC 3 T)))) fun _=>lJ (p:=true) (cz (call2 (bT (fX rfl rn)) rfl (Gb names A)))
 rw[aH ((fu c1).trans rfl)]
 have s3:mN dTup [(m2 gA (mV 1) (mC (.int 0))),(aQ eE [(wD (m2 gA (mV 1) (mC (.int 1)))),(wD (aQ dU [(wD (mV 0)),(wD (mC (.int 32)))]))])] [some (W.d L),some (W.d (bC names A)),some (W.d (.str T)),none,none,none]=.ok (bC names xs) :=
  (Pr (aL rfl rfl (X7 names A)) (call2 (bT (aL rfl rfl (ix1 names A))) (bT (call2 rfl rfl hc)) hta)).trans (au (by show (2:Nat)≤_;decide))
 rw[aH (e':=[some (W.d L),some (W.d (bC names A)),some (W.d (.str T)),some (W.d (bC names xs)),none,none]) (bx s3)]
 have c2:(jf (cB (aQ (bw 4) [(wD (aQ eF [(wD (aQ iw [(wD (mV 3))]))])),(wD (mV 1))]))) [some (W.d L),some (W.d (bC names A)),some (W.d (.str T)),some (W.d (bC names xs)),none,none]=.ok false :=
  lJ (p:=true) (cz (call2 (bT (fX (bT (fX rfl lx)) rx)) rfl (Gb names A)))
 rw[aH ((fu c2).trans rfl)]
 rw[aH (e':=[some (W.d L),some (W.d (bC names A)),some (W.d (.str T)),some (W.d (bC names xs)),some (W.d Q),none]) (bx (fX (f:=iK) rfl hpo))]
 rw[aH (e':=[some (W.d L),some (W.d (bC names A)),some (W.d (.str T)),some (W.d (bC names xs)),some (W.d Q),some (W.d (.str (tp names R S)))]) (bx (call2 (f:=eY) rfl rfl pd))]
 have c3:(Fp (cB (m2 Jg (mV 5) (mC (.str "")))) (jf (cB (aQ (bw 4) [(wD (aQ du [(wD (mV 4))])),(wD (mV 5))])))) [some (W.d L),some (W.d (bC names A)),some (W.d (.str T)),some (W.d (bC names xs)),some (W.d Q),some (W.d (.str (tp names R S)))]=.ok false :=
  CJ (p:=false) (q:=false) (cz (aL rfl rfl ((zX _ _).trans (by rw[decide_eq_false nonempty])))) fun _=>lJ (p:=true) (cz (call2 (bT (fX rfl sp)) rfl (jC 3 _)))
 rw[aH ((fu c3).trans rfl)]
 rw[dZ (bT (wy (p:=true) (q:=true) (call2 (bT (fX (f:=ir) (a:=wD (aQ eF [(wD (mV 2))])) (bT (fX (f:=eF) rfl rn)) sn)) rfl (jC 3 T)) fun _=>call2 (bT (fX (f:=du) (a:=wD (mV 4)) rfl sp)) rfl (jC 3 _)))]
 rfl
end Mr
namespace Ot
open PySem L2 PyProof.Rows
abbrev cN:Addr:=146
abbrev tN:Addr:=142
instance aef:A.fK:=⟨[(tN,XS "sorted_rows")],fun c=>0⟩
theorem walk{l:PySem.W.OpenLaw}{q:Program}{loose:List Str}{XP:(Str→Option Value)→Heap→Prop}{YP:World→Heap→Prop}{d:DefRec}{K:Params→PySem.W.Frag}(hn:l.most=some 63)(hdf:d.params.defaults=[])
 (hY:∀ (w:World) (h:Heap),YP w h→(K w.params).In h) (hL:∀ w:World,Zx (K w.params)=true) (hK:∀ w:World,(K w.params).lookup tN=none) (hrec:∃ d,(recsOf q).find? (fun e=>e.name == ("sorted_rows" : Str))=some d) (htab:∀ w:World,PySem.W.tabIn (K w.params) "sorted_rows" = some (cN,tN))
 (F:∀ (w:World) (mg:Str→Option Value) (fa:Addr) (h:Heap),(K w.params).In h→h.Ns mainGlobals mg→mg d.name=some (.ref fa) →
  ∃ fd:FuncData,(∀ (s:Shared) (u:Value),BindsTo s fd ⟨[u],[]⟩ [("_law_script", u)])∧∀ base:Heap,(K w.params).In base→base.Ns mainGlobals mg→BM mg base→PySem.W.CodeHd base cN tN→cW l.prog w (K w.params) mg base cD 8 fa fd ["_law_script"] A.Jv) :
 PySem.W.WalkO q loose XP YP l.row.toRowW d [] (fun f vs=>PySem.call f vs) :=
 L2.S6 (x := "_law_script") (dn := "sorted_rows") (qn:=XS "sorted_rows") (k:=8) rfl hn hdf ⟨rfl,by decide,by decide⟩ hY (fun w a o e c=>Vb (hL w) e c) hK hrec htab F
theorem Z4{K:PySem.W.Frag}{h:Heap}{mg:Str→Option Value}(X:K.In h)(G:h.Ns mainGlobals mg)(Gw:PySem.W.nsIn K mainGlobals "len" = some none)(xF:PySem.W.nsIn K mainGlobals "range" = some none)(Gv:PySem.W.nsIn K mainGlobals "max" = some none)(Gu:PySem.W.nsIn K mainGlobals "min" = some none)(xx:PySem.W.nsIn K mainGlobals "tuple" = some none)(z9:PySem.W.nsIn K mainGlobals "list" = some none)(ni:PySem.W.nsIn K mainGlobals "isinstance" = some none)(Gz:PySem.W.nsIn K mainGlobals "all" = some none)(Gy:PySem.W.nsIn K mainGlobals "any" = some none)(Aa:PySem.W.nsIn K mainGlobals "bool" = some none)(Gq:PySem.W.nsIn K mainGlobals "str" = some none)(Gx:PySem.W.nsIn K mainGlobals "int" = some none)(Gp:PySem.W.nsIn K mainGlobals "zip" = some none)(oH:PySem.W.nsIn K mainGlobals "enumerate" = some none)(uZ:PySem.W.nsIn K mainGlobals "sorted" = some none)(qu:PySem.W.nsIn K mainGlobals "reversed" = some none)(Gs:PySem.W.nsIn K mainGlobals "set" = some none){yw:Tok}(rO:PySem.W.nsIn K mainGlobals "LETTERS" = some (some (.str "abcdefghijklmnopqrstuvwxyz" yw))){pq:Tok}(kI:PySem.W.nsIn K mainGlobals "MOST_LETTERS" = some (some (.int 8 pq))){rR:Tok}(m9:PySem.W.nsIn K mainGlobals "MOST_NAMES" = some (some (.int 8 rR))){El:Tok}(xu:PySem.W.nsIn K mainGlobals "COLON" = some (some (.str ":" El))):Txt mg :=
 ⟨PySem.W.mg_none_of X G Gw,PySem.W.mg_none_of X G xF,PySem.W.mg_none_of X G Gv,PySem.W.mg_none_of X G Gu,PySem.W.mg_none_of X G xx,PySem.W.mg_none_of X G z9,PySem.W.mg_none_of X G ni,PySem.W.mg_none_of X G Gz,PySem.W.mg_none_of X G Gy,PySem.W.mg_none_of X G Aa,PySem.W.mg_none_of X G Gq,PySem.W.mg_none_of X G Gx,PySem.W.mg_none_of X G Gp,PySem.W.mg_none_of X G oH,PySem.W.mg_none_of X G uZ,PySem.W.mg_none_of X G qu,PySem.W.mg_none_of X G Gs,⟨yw,PySem.W.mg_of X G rO⟩,⟨pq,PySem.W.mg_of X G kI⟩,⟨rR,PySem.W.mg_of X G m9⟩,⟨El,PySem.W.mg_of X G xu⟩⟩
theorem abd{l:PySem.W.OpenLaw}{w:World}{K:PySem.W.Frag}{mg:Str→Option Value}{fa:Addr}(hfa:mg "law" = some (.ref fa))(T:Txt mg)(tW:qm K mg "arrows_shown" nA ["arrows"])(Dq:qm K mg "show_net" u6 ["net"])(tV:qm K mg "show_picture" nu ["picture"])(Gm:qm K mg "is_word" xO ["text"])(oW:Y4 K mg "sorted_rows" oJ ["names", "rows"] cN)(lX:qm K mg "refuse_wrong_names" gV ["names"])(nR:qm K mg "refuse_strangers" jw ["names", "asked"])(lW:qm K mg "refuse_wrong_pairs" gU ["names", "arrows"])(zg:qm K mg "elders_of" sG ["net", "name"])(uY:qm K mg "first_ready" oN ["net", "told"])(Gn:qm K mg "in_turn" xP ["net"])(uW:qm K mg "refuse_ring" oK ["net"])(Du:qm K mg "net_made" vg ["names", "arrows"])(Dv:qm K mg "is_arrow" vh ["parts"])(Ds:qm K mg "read_net" vd ["text"])(Dw:qm K mg "are_tied" vm ["net", "one", "other"])(Dt:qm K mg "pairs_of" vf ["names"])(Gh:qm K mg "ties_of" xJ ["net"])(xr:qm K mg "corners_of" qz ["net"])(zf:qm K mg "ties_left" sE ["ties", "arrows"])(uX:qm K mg "is_straight" oM ["one", "middle", "other", "tied", "bent"])(Dr:qm K mg "rows_for" u9 ["tail", "head", "names", "tied", "bent", "told"])(zj:qm K mg "both_ways" sH ["rows"])(xj:qm K mg "reasons_by" qw ["names", "ties", "corners"])(xq:qm K mg "picture_by" qy ["names", "ties", "corners"])(xm:qm K mg "picture_of" qx ["net"])(Ln:qm K mg "_law_cell" Ba ["_law_script", "_law_k"])(Gi:qm K mg "_law_words" xK ["_law_cell_here", "_law_many"])(Gj:qm K mg "_law_ranks" xM ["_law_cell_here", "_law_many"])(QK:qm K mg "_law_net" G4 ["_law_script", "_law_most"])(Gk:qm K mg "_law_alike" xN ["_law_found", "_law_due"])(Lk:qm K mg "_law_text" Az ["_law_net_here"])(rE:qm K mg "_law_picture_due" lZ ["_law_picture", "_law_net_here"])(qp:qm K mg "_law_turned_about" kJ ["_law_arrows", "_law_cell_here"])(Z0:qm K mg "law" TF ["_law_script"]) :
 ∃ fd:FuncData,(∀ (s:Shared) (u:Value),BindsTo s fd ⟨[u],[]⟩ [("_law_script", u)])∧∀ base:Heap,K.In base→base.Ns mainGlobals mg→BM mg base→PySem.W.CodeHd base cN tN→cW l.prog w K mg base cD 8 fa fd ["_law_script"] A.Jv :=
 qm.adL Z0 hfa fun base kb nb hB hC f fd F=>by
  have fQ:=tW.cal (P:=l.prog) (w:=w) (base:=base) (CX:=cD) fun f fd F=>zu F T
  have qT:=Dq.cal (P:=l.prog) (w:=w) (base:=base) (CX:=cD) fun f fd F=>JP F T fQ
  have j4:=tV.cal (P:=l.prog) (w:=w) (base:=base) (CX:=cD) fun f fd F=>zr F T fQ
  have gF:=Gm.cal (P:=l.prog) (w:=w) (base:=base) (CX:=cD) fun f fd F=>MN F T
  have dq:=oW.cal (P:=l.prog) (w:=w) (base:=base) (CX:=cD) fun f fd F=>Bm F T hB hC (List.mem_singleton.mpr rfl)
  have iI:=lX.cal (P:=l.prog) (w:=w) (base:=base) (CX:=cD) fun f fd F=>rH F T gF
  have bR:=nR.cal (P:=l.prog) (w:=w) (base:=base) (CX:=cD) fun f fd F=>uB F T
  have iH:=lW.cal (P:=l.prog) (w:=w) (base:=base) (CX:=cD) fun f fd F=>rG F T bR
  have tZ:=zg.cal (P:=l.prog) (w:=w) (base:=base) (CX:=cD) fun f fd F=>Hm F T bR
  have lL:=uY.cal (P:=l.prog) (w:=w) (base:=base) (CX:=cD) fun f fd F=>Br F T tZ
  have yt:=Gn.cal (P:=l.prog) (w:=w) (base:=base) (CX:=cD) fun f fd F=>MP F T lL
  have oX:=uW.cal (P:=l.prog) (w:=w) (base:=base) (CX:=cD) fun f fd F=>Bo F T yt
  have vV:=Du.cal (P:=l.prog) (w:=w) (base:=base) (CX:=cD) fun f fd F=>JT F T dq iI iH oX
  have vW:=Dv.cal (P:=l.prog) (w:=w) (base:=base) (CX:=cD) fun f fd F=>JV F T gF
  have nU:=Ds.cal (P:=l.prog) (w:=w) (base:=base) (CX:=cD) fun f fd F=>JR F T gF vV vW
  have lE:=Dw.cal (P:=l.prog) (w:=w) (base:=base) (CX:=cD) fun f fd F=>JW F T bR
  have gn:=Dt.cal (P:=l.prog) (w:=w) (base:=base) (CX:=cD) fun f fd F=>JS F T
  have yp:=Gh.cal (P:=l.prog) (w:=w) (base:=base) (CX:=cD) fun f fd F=>MF F T lE gn
  have qY:=xr.cal (P:=l.prog) (w:=w) (base:=base) (CX:=cD) fun f fd F=>DW F T lE dq gn
  have tY:=zf.cal (P:=l.prog) (w:=w) (base:=base) (CX:=cD) fun f fd F=>Hl F T
  have lK:=uX.cal (P:=l.prog) (w:=w) (base:=base) (CX:=cD) fun f fd F=>Bq F T
  have vU:=Dr.cal (P:=l.prog) (w:=w) (base:=base) (CX:=cD) fun f fd F=>JQ F T gn lK
  have oG:=zj.cal (P:=l.prog) (w:=w) (base:=base) (CX:=cD) fun f fd F=>Ho F T
  have qU:=xj.cal (P:=l.prog) (w:=w) (base:=base) (CX:=cD) fun f fd F=>DP F T vU oG
  have qX:=xq.cal (P:=l.prog) (w:=w) (base:=base) (CX:=cD) fun f fd F=>DR F T dq tY qU
  have qW:=xm.cal (P:=l.prog) (w:=w) (base:=base) (CX:=cD) fun f fd F=>DQ F T yp qY qX
  have jq:=Ln.cal (P:=l.prog) (w:=w) (base:=base) (CX:=cD) fun f fd F=>Rf F T
  have yq:=Gi.cal (P:=l.prog) (w:=w) (base:=base) (CX:=cD) fun f fd F=>MJ F T
  have yr:=Gj.cal (P:=l.prog) (w:=w) (base:=base) (CX:=cD) fun f fd F=>MK F T
  have Ja:=QK.cal (P:=l.prog) (w:=w) (base:=base) (CX:=cD) fun f fd F=>UL F T jq yq yr
  have dg:=ad6 (P:=l.prog) (w:=w) (base:=base) (CX:=cD) Gk fun f fd F self=>Bp F T self
  have nW:=Lk.cal (P:=l.prog) (w:=w) (base:=base) (CX:=cD) fun f fd F=>Rc F T
  have mF:=rE.cal (P:=l.prog) (w:=w) (base:=base) (CX:=cD) fun f fd F=>xY F T dg nW
  have lD:=qp.cal (P:=l.prog) (w:=w) (base:=base) (CX:=cD) fun f fd F=>wg F T
  exact A.aaL (aaE F T qT j4 nU qW jq Ja dg nW mF lD) fun ns hl=>by first|exact Mr.uN ns|exact Mr.uN ns hl
end Ot
namespace PySem.W.Fast
def tw7441955922017956864:=0
def tw5472012917919144992:=0
def tw5450660468878989568:=0
def tw12714066822688250144:=0
def tw87120466585007584:=0
def tw11341813299590556128:=0
def tw17729186103950813696:=0
def tw3180594110580667904:=0
def tw1555190900485302976:=0
def tw7546901217888772064:=0
def tw12779967305882031201:=0
def tw10192807935691561377:=0
def tw3787615908674858657:=0
def tw4628478628488367138:=0
def tw12985109045693445378:=0
def tw12548827739368550754:=0
def tw8144483764370371042:=0
def tw15714490446672570914:=0
def tw13710742851443858978:=0
def tw3126389985006334594:=0
def tw7981516851184708450:=0
def tw15120542116879556482:=0
def tw8216799089279063010:=0
def tw821755732308361379:=0
def tw9038999457519687875:=0
def tw16168081667975735491:=0
def tw15857810581594327427:=0
def tw12593474273211729379:=0
def tw7570934196857152131:=0
def tw715430481614347939:=0
def tw9021432165746577187:=0
def tw17559372329631955779:=0
def tw7537236967344515939:=0
def tw7581012147849364676:=0
def tw13194656102968925476:=0
def tw6036043729372933572:=0
def tw5092030982922702308:=0
def tw8022399627348631172:=0
def tw5741316219531333348:=0
def tw6571237476698572965:=0
def tw1292370258197988773:=0
def tw4421160799928783269:=0
def tw9526245900605936165:=0
def tw17944184893376396901:=0
def tw5168840281418656485:=0
def tw6470596700847163269:=0
def tw13414063744323612645:=0
def tw1936554471419097094:=0
def tw57308691879926886:=0
def tw12148181727494047942:=0
def tw9723336563380271590:=0
def tw9853390268767183430:=0
def tw3422567994210623046:=0
def tw6856294578837549926:=0
def tw1926935005639489382:=0
def tw9419428906769154215:=0
def tw3630268500535301319:=0
def tw14324468255451612519:=0
def tw8213654167255176551:=0
def tw17533657349024640487:=0
def tw2042211370045888007:=0
def tw1418029743932995111:=0
def tw3818354319817085575:=0
def tw8589472091574332904:=0
def tw1044916142402596392:=0
def tw14936970526417275945:=0
def tw9585665455880561833:=0
def tw695761481943153865:=0
def tw6896225748953996745:=0
def tw7773581750984525289:=0
def tw8147020909384321545:=0
def tw2682499388577290857:=0
def tw13979576921951556265:=0
def tw12469378570077369161:=0
def tw16894638819157349225:=0
def tw13984044940051854442:=0
def tw4029651014236783818:=0
def tw15281043363402281226:=0
def tw6492532160636570986:=0
def tw2866086754973833162:=0
def tw5021947890098491370:=0
def tw217086475188296939:=0
def tw2170563131250371883:=0
def tw1787825999488233771:=0
def tw14854460787119026539:=0
def tw7094914990888496843:=0
def tw16376673471103649515:=0
def tw16565954932042815275:=0
def tw13467026193185683435:=0
def tw14277954540249466028:=0
def tw9721586907531874668:=0
def tw2340789560514531692:=0
def tw7709844148290236044:=0
def tw7580772229839561516:=0
def tw423189388767231820:=0
def tw3806378387919887212:=0
def tw7418065228193710988:=0
def tw7449373025760880588:=0
def tw7784471686520636653:=0
def tw5163531480306715885:=0
def tw6381984812336947565:=0
def tw15873430966304257421:=0
def tw4798933796565663245:=0
def tw2532906583870688845:=0
def tw1741565647343899245:=0
def tw8024207358043738797:=0
def tw12731024482568892141:=0
def tw8494100361943306093:=0
def tw4694375357483828205:=0
def tw18137949322552414446:=0
def tw11561445596838778190:=0
def tw14042983290406389070:=0
def tw4548024780888522222:=0
def tw17944651469502177806:=0
def tw6807982250152669806:=0
def tw16606506352323421006:=0
def tw13795133393963207695:=0
def tw4138687207497608335:=0
def tw6601414751179477295:=0
def tw12453259862533105199:=0
def tw4243800619090229871:=0
def tw17348134268042397744:=0
def tw6728554919963975056:=0
def tw2912301266182071824:=0
def tw18052586082185670480:=0
def tw1095911831136889712:=0
def tw4609256714478405777:=0
def tw4459652080031863089:=0
def tw11807687524072202609:=0
def tw13122266262288917937:=0
def tw12898380289624817137:=0
def tw1683159918056110737:=0
def tw5057179671791589137:=0
def tw140721867631200113:=0
def tw7989160203500480369:=0
def tw4297563075255865297:=0
def tw7982790194616033298:=0
def tw5725393178313719890:=0
def tw9770202817857277650:=0
def tw3804130068120414962:=0
def tw11292982664923980947:=0
def tw1342150796493091219:=0
def tw17170406424142883347:=0
def tw16895435720221741683:=0
def tw18053891178759388947:=0
def tw15492288486006416468:=0
def tw107781685831745844:=0
def tw9591725181843293588:=0
def tw18078020794283477428:=0
def tw1037418307546401268:=0
def tw6457102307120276116:=0
def tw8024097846981276436:=0
def tw15697184315998881556:=0
def tw1462838266185305012:=0
def tw6222740775857844148:=0
def tw16113063764593489908:=0
def tw13485433785300870132:=0
def tw11334884753019723957:=0
def tw9280613333466008821:=0
def tw13792707538789851573:=0
def tw9359405990170199509:=0
def tw14463075685941634549:=0
def tw5770965919165908533:=0
def tw5991935839075002965:=0
def tw4350073952405851733:=0
def tw6095951999784721077:=0
def tw6810353050702243637:=0
def tw12954419893580745557:=0
def tw15385653021406143445:=0
def tw12498285515199696150:=0
def tw6602211765349252662:=0
def tw11304372377729845878:=0
def tw2388830370102156982:=0
def tw6647167478366211798:=0
def tw3077313042650315478:=0
def tw13290286030237155062:=0
def tw3526149820089477910:=0
def tw11946886452896935798:=0
def tw2943079632452910966:=0
def tw13295174280219779255:=0
def tw14745618456307480823:=0
def tw150084335472056791:=0
def tw11898581440772095607:=0
def tw64378297671558807:=0
def tw11160585187820234583:=0
def tw8648050706245871672:=0
def tw2367094597564774456:=0
def tw10628574066474822744:=0
def tw6433310593172456824:=0
def tw10291989633145038424:=0
def tw13799982341662457913:=0
def tw5004963526539523193:=0
def tw16337680056028266649:=0
def tw17768129916761078937:=0
def tw14263534430083462425:=0
def tw6309131052456238585:=0
def tw16708890470679012953:=0
def tw416751821018524794:=0
def tw2471381470319550618:=0
def tw7048863154885308666:=0
def tw5002855730131288346:=0
def tw2765604490780401082:=0
def tw6534713474149950970:=0
def tw515160053598007834:=0
def tw1688981104497864250:=0
def tw4799604516927823674:=0
def tw11476650882872915834:=0
def tw9501458712298145658:=0
def tw7156817930946985882:=0
def tw8992339683089100730:=0
def tw12687035740921613531:=0
def tw63254511665166779:=0
def tw18428681305187979867:=0
def tw918442215933926235:=0
def tw13516081334458850139:=0
def tw6192127988104944571:=0
def tw7719119154863309884:=0
def tw13651460578134522108:=0
def tw1777253934602263964:=0
def tw15268907966816206364:=0
def tw9727374570171962012:=0
def tw12765174722233637564:=0
def tw4332593492845837052:=0
def tw18428607156771127164:=0
def tw9723729653872151645:=0
def tw8390220397259086013:=0
def tw3507779226423006461:=0
def tw11172796583965353245:=0
def tw12776103881053423997:=0
def tw17167086996632572317:=0
def tw4043588872374781373:=0
def tw15814649012413398589:=0
def tw15734557848582910589:=0
def tw4399926767897959261:=0
def tw10804488573411549181:=0
def tw5474247777744065566:=0
def tw10477238742093983774:=0
def tw6614845363149145406:=0
def tw2709026355818274270:=0
def tw13833621276619196030:=0
def tw7435189982465920958:=0
def tw1684545228136351871:=0
def tw17104045516562875519:=0
def tw18412743071268717759:=0
def tw12155689929938655679:=0
def tw1100969600252159455:=0
def tw13978204258592206399:=0
def tw5830382674235028127:=0
def tw6992956313369462527:=0
def tw16864766018024407839:=0
def tw5108918636167819199:=0
def tw10491367661893347295:=0
def tw6691861599586430505:=0
def tw4779048152576389508:=0
end PySem.W.Fast
open PySem PySem.W PyProof.Rows
set_option maxRecDepth 100000 in
set_option maxHeartbeats 0 in
theorem PySem.Challenge.cw_arrowfind_k80_written_and_read_holds : PySem.Challenge.rw_arrowfind_k80_written_and_read.Holds := by
 w_on;o_law;k_head;(case hw=>w_witness2)
 k_fill
 refine Ot.walk (l:=PySem.Challenge.rw_arrowfind_k80_written_and_read) rfl rfl (fun w h Y=>PySem.W.km_in_of Y) ?L ?K ⟨_,rfl⟩ ?H ?F
 case L =>
  intro w
  kernel_rfl
 case K =>
  intro w
  kernel_rfl
 case H =>
  intro w
  kernel_rfl
 case F =>
  intro w mg fa h KX G hmg
  refine' Ot.abd hmg ?T ?tW ?Dq ?tV ?Gm ?oW ?lX ?nR ?lW ?zg ?uY ?Gn ?uW ?Du ?Dv ?Ds ?Dw ?Dt ?Gh ?xr ?zf ?uX ?Dr ?zj ?xj ?xq ?xm ?Ln ?Gi ?Gj ?QK ?Gk ?Lk ?rE ?qp ?Z0
  case T =>
   refine' Ot.Z4 KX G ?Gw ?xF ?Gv ?Gu ?xx ?z9 ?ni ?Gz ?Gy ?Aa ?Gq ?Gx ?Gp ?oH ?uZ ?qu ?Gs ?rO ?kI ?m9 ?xu
   (case Gw=>k_is)
   (case xF=>k_is)
   (case Gv=>k_is)
   (case Gu=>k_is)
   (case xx=>k_is)
   (case z9=>k_is)
   (case ni=>k_is)
   (case Gz=>k_is)
   (case Gy=>k_is)
   (case Aa=>k_is)
   (case Gq=>k_is)
   (case Gx=>k_is)
   (case Gp=>k_is)
   (case oH=>k_is)
   (case uZ=>k_is)
   (case qu=>k_is)
   (case Gs=>k_is)
   (case rO=>k_is)
   (case kI=>k_is)
   (case m9=>k_is)
   (case xu=>k_is)
  case oW =>
   refine' L2.Yl (c:=Ot.cN) KX G (fun _ _ _ _ _ _ us hl=>match us,hl with|[_,_],_=>rfl) ?a ?l ?c ?k
   (case a=>k_is);(case l=>k_is);(case c=>k_is);(case k=>k_is)
  all_goals
   first
    | (refine' L2.Cj KX G (fun _ _ _ _ _ _ us hl=>match us,hl with|[_],_=>rfl) ?a ?l ?c ?k;(case a=>k_is);(case l=>k_is);(case c=>k_is);(case k=>k_is))
    | (refine' L2.Cj KX G (fun _ _ _ _ _ _ us hl=>match us,hl with|[_,_],_=>rfl) ?a ?l ?c ?k;(case a=>k_is);(case l=>k_is);(case c=>k_is);(case k=>k_is))
    | (refine' L2.Cj KX G (fun _ _ _ _ _ _ us hl=>match us,hl with|[_,_,_],_=>rfl) ?a ?l ?c ?k;(case a=>k_is);(case l=>k_is);(case c=>k_is);(case k=>k_is))
    | (refine' L2.Cj KX G (fun _ _ _ _ _ _ us hl=>match us,hl with|[_,_,_,_,_],_=>rfl) ?a ?l ?c ?k;(case a=>k_is);(case l=>k_is);(case c=>k_is);(case k=>k_is))
    | (refine' L2.Cj KX G (fun _ _ _ _ _ _ us hl=>match us,hl with|[_,_,_,_,_,_],_=>rfl) ?a ?l ?c ?k;(case a=>k_is);(case l=>k_is);(case c=>k_is);(case k=>k_is))
