import PyProof.Rows.All
import Wide.All
import OpenK.AllK
import Wide.FinOn
import Lean
import PyProof.EqAt
import PyProof.EqKinds
import PyProof.TupleCall
import PySem.Str
import PyProof.NeKinds
import PyProof.Draws
import PyProof.EnumMake
import PyProof.ZipIter
import KE.KSortTup
import KE.KLam
import PyProof.Rows.SortStr
import PyProof.Rows.FactsT3
import PyProof.StrOps2
import PyProof.StrLawsRepr
import PyProof.Rows.StrCase
import PySem.Challenge.RW_arrowfind_k31_turned_and_refused
set_option maxRecDepth 100000
set_option maxHeartbeats 4000000
set_option Elab.async false
set_option linter.all false
namespace L2
open PySem PySem.Spec PyProof.Rows
abbrev Key:=Sum Int Str
def Cv:Key→Value→Bool
 | .inl k,v=>Value.isInt k v
 | .inr x,v=>Value.isStrOf x v
def ac6(w:World):Key→Int
 | .inl k=>hashInt k
 | .inr x=>hashStr w x
theorem eU:∀ {k:Key} {v:Value},Cv k v=true→(∃ i t,k=Sum.inl i∧v=Value.int i t)∨(∃ x t,k=Sum.inr x∧v=Value.str x t)
 | .inl i,v,h=>by
  obtain⟨t,e⟩:=Value.isInt_shape (k:=i) (v:=v) h
  exact .inl ⟨i,t,rfl,e⟩
 | .inr x,v,h=>by
  obtain⟨t,e⟩:=Value.isStrOf_shape (x:=x) (v:=v) h
  exact .inr ⟨x,t,rfl,e⟩
theorem Ph(i:Int)(t:Tok):Cv (.inl i) (.int i t)=true:=by simp[Cv,Value.isInt]
theorem Pg(x:Str)(t:Tok):Cv (.inr x) (.str x t)=true:=by simp[Cv,Value.isStrOf]
theorem ZJ(a b:Int):decide ((Sum.inl a:Key)=Sum.inl b)=(a == b):=by
 by_cases e:a=b
 ·subst e;simp
 ·have h:¬ (Sum.inl a:Key)=Sum.inl b:=fun q=>e (Sum.inl.inj q)
  rw[decide_eq_false h]
  exact(beq_eq_false_iff_ne.mpr e).symm
theorem ZD(a b:Str):decide ((Sum.inr a:Key)=Sum.inr b)=decide (a=b):=by
 by_cases e:a=b
 ·subst e;simp
 ·have h:¬ (Sum.inr a:Key)=Sum.inr b:=fun q=>e (Sum.inr.inj q)
  rw[decide_eq_false h,decide_eq_false e]
theorem ZG(a:Int)(b:Str):decide ((Sum.inl a:Key)=Sum.inr b)=false:=decide_eq_false (fun q=>nomatch q)
theorem ZF(a:Str)(b:Int):decide ((Sum.inr a:Key)=Sum.inl b)=false:=decide_eq_false (fun q=>nomatch q)
def gD(prog:Program)(w:World):PySem.KeyKind prog w Key where
 is:=Cv
 hash:=ac6 w
 inj:=fun v a b ha hb=>by
  rcases eU ha with ⟨i,t,rfl,rfl⟩|⟨x,t,rfl,rfl⟩
  ·rcases eU hb with ⟨j,u,rfl,e⟩|⟨y,u,rfl,e⟩
   ·injection e with e1 _;rw[e1]
   ·exact nomatch e
  ·rcases eU hb with ⟨j,u,rfl,e⟩|⟨y,u,rfl,e⟩
   ·exact nomatch e
   ·injection e with e1 _;rw[e1]
 byValue:=fun k v h=>by
  rcases eU h with ⟨i,t,rfl,rfl⟩|⟨x,t,rfl,rfl⟩<;>rfl
 pyHash:=fun hv h=>by
  rcases eU hv with ⟨i,t,rfl,rfl⟩|⟨x,t,rfl,rfl⟩
  ·exact wpAny_pyHash_int h
  ·exact wpAny_pyHash_str h
 eqBool:=fun hu hv h=>by
  rcases eU hu with ⟨i,t,rfl,rfl⟩|⟨x,t,rfl,rfl⟩
  ·rcases eU hv with ⟨j,u,rfl,rfl⟩|⟨y,u,rfl,rfl⟩
   ·rw[ZJ] at h;exact wpAny_eqBool_int h
   ·rw[ZG] at h;exact SeqAt.EqAt.int_str i t y u _ _ _ _ h
  ·rcases eU hv with ⟨j,u,rfl,rfl⟩|⟨y,u,rfl,rfl⟩
   ·rw[ZF] at h;exact SeqAt.EqAt.str_int x t j u _ _ _ _ h
   ·rw[ZD] at h;exact wpAny_eqBool_str h
 «strs»:=fun k x t v h=>by
  rcases eU h with ⟨i,u,rfl,e⟩|⟨y,u,rfl,e⟩
  ·exact nomatch e
  ·injection e with e1 _
   subst e1
   cases v<;>rfl
theorem HQ(prog:Program)(w:World)(i:Int)(t:Tok):(gD prog w).is (.inl i) (.int i t)=true:=Ph i t
theorem HN(prog:Program)(w:World)(x:Str)(t:Tok):(gD prog w).is (.inr x) (.str x t)=true:=Pg x t
end L2
namespace L2
open PySem PySem.Spec PyProof.Rows
inductive V where
 | non|bl (b:Bool)|int (i:Int)|str (x:Str)|byt (b:Array UInt8)|flt (b:UInt64)|ref (a:Addr)|ty (n:String)
 deriving DecidableEq
def RelV:V→Value→Prop
 | .non,u=>u=Value.none
 | .bl b,u=>u=Value.bool b
 | .int i,u=>∃ t,u=Value.int i t
 | .str x,u=>∃ t,u=Value.str x t
 | .byt b,u=>∃ t,u=Value.bytes b t
 | .flt b,u=>∃ t,u=Value.float b t
 | .ref a,u=>u=Value.ref a
 | .ty n,u=>u=Value.type n
abbrev Vals:List V→List Value→Prop:=Paired RelV
theorem Vals.length{xs:List V}{us:List Value}(r:Vals xs us):xs.length=us.length:=Paired.length r
theorem Vals.get:∀ {xs:List V} {us:List Value} {i:Nat} {x:V},Vals xs us→xs[i]? = some x→∃ u,us[i]? = some u∧RelV x u
 | _,_,_,_,.nil,e=>by simp at e
 | _,_,0,_,.cons r _,e=>by simp at e;subst e;exact⟨_,rfl,r⟩
 | _,_,i+1,x,.cons _ t,e=>by
  obtain⟨u,h1,h2⟩:=Vals.get (i:=i) (x:=x) t (by simpa using e)
  exact⟨u,by simpa using h1,h2⟩
theorem Vals.set{x:V}{u:Value}(r:RelV x u):∀ {xs:List V} {us:List Value} (i:Nat),Vals xs us→Vals (xs.set i x) (us.set i u)
 | _,_,_,.nil=>.nil
 | _,_,0,.cons _ t=>.cons r t
 | _,_,i+1,.cons q t=>.cons q (Vals.set r i t)
theorem Vals.append:∀ {xs ys:List V} {us ws:List Value},Vals xs us→Vals ys ws→Vals (xs++ys) (us++ws)
 | _,_,_,_,.nil,s=>s
 | _,_,_,_,.cons r t,s=>.cons r (Vals.append t s)
theorem Vals.take:∀ {xs:List V} {us:List Value} (n:Nat),Vals xs us→Vals (xs.take n) (us.take n)
 | _,_,0,_=>.nil
 | _,_,_+1,.nil=>.nil
 | _,_,n+1,.cons r t=>.cons r (Vals.take n t)
theorem Vals.drop:∀ {xs:List V} {us:List Value} (n:Nat),Vals xs us→Vals (xs.drop n) (us.drop n)
 | _,_,0,r=>r
 | _,_,_+1,.nil=>.nil
 | _,_,n+1,.cons _ t=>Vals.drop n t
def Lp:Option V→Option Value→Prop
 | some v,some u=>RelV v u
 | none,none=>True
 | _,_=>False
def KV{κ : Type}:List (κ×V)→List (κ×Value)→Prop:=Paired fun (p:κ×V) (q:κ×Value)=>p.1=q.1∧RelV p.2 q.2
def kV:Key→V
 | .inl i=>.int i
 | .inr x=>.str x
def Qo(h:Heap)(a:Addr)(its:Array Value):Prop:=∃ o,h.get? a=some o∧o.cls=.type "tuple" ∧ o.dict=none∧∃ n,o.data=.seq its n
theorem Qo.tup{h:Heap}{a:Addr}{its:Array Value}(x:Qo h a its):IsTup h a its:=let ⟨o,e,c,_,d⟩:=x;⟨o,e,c,d⟩
theorem Qo.new(h:Heap)(its:Array Value):Qo (h.push { cls:=.type "tuple", data:=.seq its }) h.objs.size its:=⟨_,Heap.get?_push_size _ rfl,rfl,rfl,_,rfl⟩
inductive HO where
 /-- a list -/
 | lst (xs:List V)
 /-- a tuple (never changes) -/
 | tup (xs:List V)
 /-- a dict whose keys are ints and texts;one whose keys are tuples of ints and texts (the empty one is both) -/
 | dK (kvs:List (Key×V))|dT (kvs:List (List Key×V))
 /-- a set of ints: its members,its size -/
 | set (S:Int→Bool) (n:Nat)
 /-- an instance of the class at C,its dict at dx,its attributes -/
 | ins (C dx:Addr) (fs:List (Str×V))
 /-- the dict of the instance at x -/
 | own (x:Addr)
 /-- the dict of an exception -/
 | xd (fs:List (Str×V))
 /-- a bound method,f of x -/
 | met (f x:Addr)
 /-- a range object lo,lo+1,.. below hi -/
 | rng (lo hi:Int)
 /-- a thing that is known to the object (the script;a dict while a loop walks it): read,never written while it is so -/
 | frz (o:Obj) (u:HO)
 /-- a code object's table -/
 | tbl (w:Str) (ps:Array Value)
 /-- any other thing,by what is true of its one object (a def of one's own: ad1 a S n:=HO.ext fun h=>..) -/
 | ext (φ : Heap→Prop)
abbrev Hp:=Addr→Option HO
def upd(H:Hp)(a:Addr)(o:HO):Hp:=fun b=>if b=a then some o else H b
theorem aU{H:Hp}{a:Addr}{o:HO}:upd H a o a=some o:=by unfold upd;rw[if_pos rfl]
theorem aJ{H:Hp}{a b:Addr}{o:HO}(h:b≠a):upd H a o b=H b:=by unfold upd;rw[if_neg h]
theorem abC{H:Hp}{a b:Addr}{o u:HO}(h:H a=some o)(h':H b=some u)(d:o≠u):a≠b:=by
 intro e;subst e;rw[h] at h';exact d (Option.some.inj h')
theorem aX{H:Hp}{a b:Addr}{o:HO}(h:H a=some o)(h':H b=none):a≠b:=by
 intro e;subst e;rw[h] at h';cases h'
section
variable(P:Program)(w:World)
def bZ(H:Hp)(h:Heap)(a:Addr):HO→Prop
 | .lst xs=>xs.length≤sizeLine∧∃ (its:List Value) (n:Nat),Vals xs its∧h.get? a=some { cls:=.type "list", data:=.seq its.toArray n }
 | .tup xs=>xs.length≤sizeLine∧∃ its:List Value,Vals xs its∧Qo h a its.toArray
 | .dK kvs=>kvs.length≤sizeLine∧(a == sysModules)=false∧∃ vs,KV kvs vs∧h.DictOf (gD P w) a vs
 | .dT kvs=>kvs.length≤sizeLine∧(a == sysModules)=false∧∃ xs:List (List Key×Addr×Value),
  Paired (fun (p:List Key×V) (q:List Key×Addr×Value)=>p.1=q.1∧H q.2.1=some (.tup (p.1.map kV))∧RelV p.2 q.2.2) kvs xs ∧
  ∃ o es ep,h.get? a=some o∧o.ExactDict∧o.data=.dict es ep∧es.toList=xs.map (entryOfKey (tupleKind (gD P w)))∧(xs.map (·.1)).Nodup
 | .set S n=>h.SetOf (intKind P w) a S n
 | .ins C dx fs=>H dx=some (.own a)∧fs.length≤1000∧dx≠a∧h.get? a=some (PySem.W.instObj C dx) ∧
  ∃ mA,h.Ns1 dx mA∧(∀ f,Lp (fs.lookup f) (mA f))∧PySem.Within mA (fs.map (·.1))
 | .own _=>∃ o,h.get? a=some o
 | .xd fs=>∃ mA,h.Ns1 a mA∧∀ f,Lp (fs.lookup f) (mA f)
 | .rng lo hi=>∃ t u v,h.get? a=some { cls:=.type "range", data:=.fields #[.int lo t,.int hi u,.int 1 v] }
 | .frz o u=>h.get? a=some o∧bZ H h a u
 | .tbl _ ps=>h.get? a=some { cls:=.none,data:=.fields ps }
 | .met f x=>h.get? a=some (PySem.W.methodObj (.ref f) (.ref x))
 | .ext φ=>φ h∧(∃ o,h.get? a=some o)∧∀ h1 h2:Heap,φ h1→(∀ o,h1.get? a=some o→h2.get? a=some o)→φ h2
def pO(H:Hp)(h:Heap):Prop:=∀ a o,H a=some o→bZ P w H h a o
end
section
variable{P:Program}{w:World}{H H':Hp}{h h':Heap}{a:Addr}{o:HO}
theorem bZ.lt(x:bZ P w H h a o):a < h.objs.size:=by
 cases o with
 | lst xs=>obtain⟨_,_,_,_,e⟩:=x;exact Heap.lt_size e
 | tup xs=>obtain⟨_,_,_,p⟩:=x;exact p.tup.lt
 | dK kvs=>obtain⟨_,_,_,_,o,_,_,e,_⟩:=x;exact Heap.lt_size e
 | dT kvs=>obtain⟨_,_,_,_,o,_,_,e,_⟩:=x;exact Heap.lt_size e
 | set S n=>obtain⟨o,_,_,_,e,_⟩:=x;exact Heap.lt_size e
 | ins C dx fs=>obtain⟨_,_,_,e,_⟩:=x;exact Heap.lt_size e
 | own y=>obtain⟨_,e⟩:=x;exact Heap.lt_size e
 | xd fs=>obtain⟨_,⟨_,_,_,e,_⟩,_⟩:=x;exact Heap.lt_size e
 | rng lo hi=>obtain⟨_,_,_,e⟩:=x;exact Heap.lt_size e
 | frz ob u=>obtain⟨e,_⟩:=x;exact Heap.lt_size e
 | tbl w ps=>exact Heap.lt_size (show h.get? a=some _ from x)
 | met f y=>exact Heap.lt_size (show h.get? a=some _ from x)
 | ext φ=>obtain⟨_,⟨_,e⟩,_⟩:=x;exact Heap.lt_size e
theorem Paired.Zw{α β : Type}{F G:α→β→Prop}:∀ {l₁:List α} {l₂:List β},Paired F l₁ l₂→(∀ a b,F a b→G a b)→Paired G l₁ l₂
 | _,_,.nil,_=>.nil
 | _,_,.cons r t,f=>.cons (f _ _ r) (Paired.Zw t f)
theorem bZ.stay(x:bZ P w H h a o)(k:∀ b u,(b=a∨H b=some (.own a))→h.get? b=some u→h'.get? b=some u)
 (ho:∀ b,H b=some (.own a)→H' b=some (.own a)) (ht:∀ b xs,H b=some (.tup xs)→H' b=some (.tup xs)):bZ P w H' h' a o:=by
 induction o with
 | lst xs=>obtain⟨z,its,n,r,e⟩:=x;exact⟨z,its,n,r,k _ _ (.inl rfl) e⟩
 | tup xs=>obtain⟨z,its,r,ob,e,c⟩:=x;exact⟨z,its,r,ob,k _ _ (.inl rfl) e,c⟩
 | dK kvs=>obtain⟨z,y,vs,r,ob,es,ep,e,c⟩:=x;exact⟨z,y,vs,r,ob,es,ep,k _ _ (.inl rfl) e,c⟩
 | dT kvs =>
  obtain⟨z,y,xs,r,ob,es,ep,e,c⟩:=x
  exact⟨z,y,xs,Paired.Zw r fun p q z=>⟨z.1,ht _ _ z.2.1,z.2.2⟩,ob,es,ep,k _ _ (.inl rfl) e,c⟩
 | set S n=>obtain⟨ob,es,ep,t,e,c⟩:=x;exact⟨ob,es,ep,t,k _ _ (.inl rfl) e,c⟩
 | ins C dx fs =>
  obtain⟨d,z,ne,e,mA,⟨od,es,ep,e2,c⟩,r⟩:=x
  exact⟨ho _ d,z,ne,k _ _ (.inl rfl) e,mA,⟨od,es,ep,k _ _ (.inr d) e2,c⟩,r⟩
 | own y=>obtain⟨ob,e⟩:=x;exact⟨ob,k _ _ (.inl rfl) e⟩
 | xd fs=>obtain⟨mA,⟨od,es,ep,e,c⟩,r⟩:=x;exact⟨mA,⟨od,es,ep,k _ _ (.inl rfl) e,c⟩,r⟩
 | rng lo hi=>obtain⟨t,u,v,e⟩:=x;exact⟨t,u,v,k _ _ (.inl rfl) e⟩
 | frz ob u ih=>obtain⟨e,q⟩:=x;exact⟨k _ _ (.inl rfl) e,ih q⟩
 | tbl w ps =>
  have e:h.get? a=some { cls:=.none,data:=.fields ps }:=x
  show h'.get? a=some { cls:=.none,data:=.fields ps }
  exact k a _ (.inl rfl) e
 | met f y =>
  have e:h.get? a=some (PySem.W.methodObj (.ref f) (.ref y)):=x
  show h'.get? a=some (PySem.W.methodObj (.ref f) (.ref y))
  exact k a _ (.inl rfl) e
 | ext φ=>obtain⟨p,⟨o,e⟩,st⟩:=x;exact⟨st _ _ p fun o q=>k _ _ (.inl rfl) q,⟨o,k _ _ (.inl rfl) e⟩,st⟩
theorem pO.lt(x:pO P w H h)(e:H a=some o):a < h.objs.size:=(x a o e).lt
theorem pO.fresh(x:pO P w H h)(e:h.objs.size≤a):H a=none:=by
 cases q:H a with
 | none=>rfl
 | some u=>exact absurd (Nat.lt_of_lt_of_le (x.lt q) e) (Nat.lt_irrefl _)
theorem pO.kept(x:pO P w H h)(k:∀ b u,h.get? b=some u→h'.get? b=some u):pO P w H h':=fun a o e =>
 (x a o e).stay (fun b u _ q=>k b u q) (fun _ q=>q) fun _ _ q=>q
theorem pO.laid(x:pO P w H h)(k:∀ b u,h.get? b=some u→h'.get? b=some u)(hp:h.objs.size≤a)(new:bZ P w (upd H a o) h' a o):pO P w (upd H a o) h':=fun b u e=>by
 have hn:=x.fresh hp
 by_cases hb:b=a
 ·subst hb;rw[aU] at e;cases e;exact new
 ·rw[aJ hb] at e
  exact(x b u e).stay (fun c v _ q=>k c v q) (fun c q=>by rw[aJ (aX q hn)];exact q) fun c xs q=>by rw[aJ (aX q hn)];exact q
end
def Rd(H:Hp)(a:Addr)(u:HO):Prop:=H a=some u∨∃ o,H a=some (.frz o u)
theorem Rd.ok{P:Program}{w:World}{H:Hp}{h:Heap}{a:Addr}{u:HO}(r:Rd H a u)(x:pO P w H h):bZ P w H h a u:=by
 rcases r with r|⟨o,r⟩
 ·exact x a u r
 ·obtain⟨_,q⟩:=x a _ r
  exact q
def Mut:Option HO→Prop
 | some (.lst _)=>True
 | some (.dK _)=>True
 | some (.dT _)=>True
 | some (.set _ _)=>True
 | some (.ins _ _ _)=>True
 | some (.ext _)=>True
 | _=>False
section
variable{P:Program}{w:World}{H:Hp}{h h':Heap}{x e:Addr}{o':HO}
theorem pO.write(ok:pO P w H h)(mu:Mut (H x))(he:e=x∨H e=some (.own x))(k:∀ b u,b≠e→h.get? b=some u→h'.get? b=some u)(heo:∃ u,h'.get? e=some u)
 (new:bZ P w (upd H x o') h' x o'):pO P w (upd H x o') h':=fun b u q=>by
 have abx:∀ c y,H c=some (.own y)→c≠x:=fun c y r z=>by subst z;rw[r] at mu;exact mu
 have acY:∀ c xs,H c=some (.tup xs)→c≠x:=fun c xs r z=>by subst z;rw[r] at mu;exact mu
 by_cases hb:b=x
 ·subst hb;rw[aU] at q;cases q;exact new
 ·rw[aJ hb] at q
  by_cases hbe:b=e
  ·have q':H b=some (.own x):=by
    rcases he with z|z
    ·exact absurd (hbe.trans z) hb
    ·rw[hbe];exact z
   rw[q] at q';cases q'
   obtain⟨v,hv⟩:=heo
   exact⟨v,by rw[hbe];exact hv⟩
  ·refine(ok b u q).stay (fun c v hc r=>k c v ?_ r) (fun c r=>by rw[aJ (abx c b r)];exact r) fun c xs r=>by rw[aJ (acY c xs r)];exact r
   rcases hc with rfl|hc
   ·exact hbe
   ·rintro rfl
    rcases he with z|z
    ·exact abx c b hc z
    ·rw[hc] at z;cases z;exact hb rfl
end
structure Un(fs ex:List Addr)(H H':Hp)(h h':Heap):Prop where
 keep:∀ b o,h.get? b=some o→H b=none→b∉fs→b∉ex→h'.get? b=some o
 slot:∀ b o,h.get? b=some o→H b=none→b∈fs→b∉ex→∃ sl,h'.get? b=some { o with slots:=sl }
 free:∀ b o,h.get? b=some o→H b=none→b∉ex→H' b=none
 there:∀ b o,h.get? b=some o→b∉ex→∃ o',h'.get? b=some o'
 tups:∀ b xs,H b=some (.tup xs)→H' b=some (.tup xs)
 wZ:∀ b o u,H b=some (.frz o u)→H' b=some (.frz o u)
 wz:∀ b w ps,H b=some (.tbl w ps)→∃ more,H' b=some (.tbl w (ps++more))
section
variable{fs fs' ex ex':List Addr}{H H1 H2:Hp}{h h1 h2 h':Heap}{a x e:Addr}{o:HO}
theorem Un.any(u:Un fs ex H H1 h h1){b:Addr}{ob:Obj}(q:h.get? b=some ob)(n:H b=none)(hx:b∉ex):∃ sl,h1.get? b=some { ob with slots:=sl }:=by
 by_cases hb:b∈fs
 ·exact u.slot b ob q n hb hx
 ·exact⟨ob.slots,u.keep b ob q n hb hx⟩
theorem Un.kept(k:∀ b u,h.get? b=some u→h'.get? b=some u):Un fs ex H H h h' :=
 ⟨fun b ob q _ _ _=>k b ob q,fun b ob q _ _ _=>⟨ob.slots,k b ob q⟩,fun _ _ _ n _=>n,fun b ob q _=>⟨ob,k b ob q⟩,fun _ _ q=>q,fun _ _ _ q=>q,fun _ w ps q=>⟨#[],by rw[q];simp⟩⟩
theorem Un.refl:Un fs ex H H h h:=Un.kept fun _ _ q=>q
theorem Un.laid(k:∀ b u,h.get? b=some u→h'.get? b=some u)(hp:h.objs.size≤a)(hn:H a=none):Un fs ex H (upd H a o) h h' where
 keep:=fun b u q _ _ _=>k b u q
 slot:=fun b u q _ _ _=>⟨u.slots,k b u q⟩
 free:=fun b u q n _=>by rw[aJ (Nat.ne_of_lt (Nat.lt_of_lt_of_le (Heap.lt_size q) hp))];exact n
 there:=fun b u q _=>⟨u,k b u q⟩
 tups:=fun b xs q=>by rw[aJ (aX q hn)];exact q
 wZ:=fun b u xs q=>by rw[aJ (aX q hn)];exact q
 wz:=fun b w ps q=>⟨#[],by rw[aJ (aX q hn),q];simp⟩
theorem Un.write(mu:Mut (H x))(he:e=x∨H e=some (.own x))(k:∀ b u,b≠e→h.get? b=some u→h'.get? b=some u)(heo:∃ u,h'.get? e=some u):Un fs ex H (upd H x o) h h':=by
 have hx:∀ b,H b=none→b≠x:=fun b n z=>by subst z;rw[n] at mu;exact mu
 have hb:∀ b,H b=none→b≠e:=fun b n z=>by
  subst z
  rcases he with r|r
  ·exact hx b n r
  ·rw[n] at r;cases r
 have hm:∀ b u,H b=some u→¬ Mut (some u)→b≠x:=fun b u q nm z=>by subst z;rw[q] at mu;exact nm mu
 refine⟨fun b u q n _ _=>k b u (hb b n) q,fun b u q n _ _=>⟨u.slots,k b u (hb b n) q⟩,fun b u q n _=>by rw[aJ (hx b n)];exact n,fun b u q _=>?_,
  fun b xs q=>by rw[aJ (hm b _ q fun z=>z)];exact q,fun b u xs q=>by rw[aJ (hm b _ q fun z=>z)];exact q,fun b w ps q=>⟨#[],by rw[aJ (hm b _ q fun z=>z),q];simp⟩⟩
 by_cases hbe:b=e
 ·subst hbe;exact heo
 ·exact⟨u,k b u hbe q⟩
end
def trk(h:Heap)(H:Hp):List Addr:=(List.range h.objs.size).filter fun a=>(H a).isSome
def Ai(h:Heap)(H:Hp):Heap:=PySem.W.hideAll h (trk h H)
theorem Pu(h:Heap)(H:Hp):(Ai h H).objs.size=h.objs.size:=PySem.W.hideAll_size _ _
theorem T4{h:Heap}{H:Hp}{b:Addr}{o:Obj}(e:h.get? b=some o)(n:H b=none):(Ai h H).get? b=some o :=
 PySem.W.hideAll_get _ e fun hm=>by
  have q:(H b).isSome=true:=(List.mem_filter.mp hm).2
  rw[n] at q;simp at q
theorem Wh{h:Heap}{H:Hp}{b:Addr}{o:Obj}(e:(Ai h H).get? b=some o):h.get? b=some o∧H b=none:=by
 have e':h.get? b=some o:=PySem.W.of_hideAll (trk h H) e
 refine⟨e',?_⟩
 cases q:H b with
 | none=>rfl
 | some x =>
  have hm:b∈trk h H:=List.mem_filter.mpr ⟨List.mem_range.mpr (Heap.lt_size e'),by simp[q]⟩
  have z:(Ai h H).get? b=none:=PySem.W.hideAll_none (trk h H) hm
  rw[z] at e;cases e
end L2
namespace L2
open PySem PySem.Spec PyProof.Rows
structure Mod(K:PySem.W.Frag)(mg:Str→Option Value)(base:Heap):Prop where
 kin:K.In base
 glob:base.Ns mainGlobals mg
 blt:∃ mb,base.Ns builtinsNs mb∧∀ x:Str,x ≠ "__name__" → mb x=bootBuiltins x
 nolimit:base.NoLimit
structure Cx where
 prog:Program
 w:World
 K:PySem.W.Frag
 mg:Str→Option Value
 base:Heap
 A:Around
 N:List Str
 s₀:Shared
 H₀:Hp
 env:Env
 outer:List Env
 stack:List Env
 ex:List Addr
 fn:Str→Bool
 calm:Bool
 pn:List (Addr×Obj)
 xe:Value→Shared→Prop
def frs(l:List Env):List Addr:=l.filterMap (·.frame)
abbrev Cx.fs(X:Cx):List Addr:=frs X.outer
def Vis(sc:Scope)(x:Str):Prop:=sc.names.lookup x=some .local∨sc.names.lookup x=some .cell∨sc.names.lookup x=some .free
def Loc(sc:Scope)(x:Str):Prop:=sc.names.lookup x=some .local∨sc.names.lookup x=some .cell
def Look(env:Env)(h:Heap)(m:Str→Option Value)(x:Str)(u:Value):Prop :=
 (env.kindOf x=some .local∧m x=some u)∨((env.kindOf x=some .cell∨env.kindOf x=some .free)∧∃ c,env.cells.lookup x=some c∧h.IsCell c (some u))
structure Cx.Ok(X:Cx):Prop where
 mod:Mod X.K X.mg X.base
 kind:X.env.scope.kind=.function
 glob:X.env.globals=mainGlobals
 blt:X.env.builtins=builtinsNs
 above:X.s₀.heap.objs.size≤X.env.locals
 inj:∀ x y c,X.env.cells.lookup x=some c→X.env.cells.lookup y=some c→x=y
 has:∀ x,(X.env.kindOf x=some .cell∨X.env.kindOf x=some .free)→∃ c,X.env.cells.lookup x=some c
 cab:∀ x c,X.fn x=true→X.env.cells.lookup x=some c→X.s₀.heap.objs.size≤c
 hd:X.calm=true→X.A.handled=none
 frames:X.A.frames=some X.stack
 stk:X.stack=X.outer∨(X.stack=X.env::X.outer∧X.env.frame=some X.env.locals)
 exf:∀ b∈X.ex,b≠X.env.locals∧∀ x c,X.env.cells.lookup x=some c→c≠b
 bs:∀ b o,X.base.get? b=some o→X.s₀.heap.get? b=some o∧X.H₀ b=none
 bsz:X.base.objs.size≤X.s₀.heap.objs.size
 Km:∀ b o,X.base.get? b=some o→b∉X.ex
 Pz:∀ b∈X.ex,b∉X.fs
 sG:X.s₀.heap.FunFrames X.base X.outer
 frf:∀ b∈X.fs,X.H₀ b=none
structure Inv(X:Cx)(pins:List (Addr×Obj))(σ : List (Option V))(H:Hp)(s:Shared):Prop where
 ok:X.Ok
 os:s.os=X.s₀.os
 bare:AllBare s.gens
 base:Un X.fs X.ex X.H₀ H X.s₀.heap s.heap
 loc:∃ m,s.heap.Ns X.env.locals m∧∀ (i:Nat) (x:Str) (v:V),X.N[i]? = some x→σ[i]? = some (some v)→Vis X.env.scope x→∃ u,RelV v u∧Look X.env s.heap m x u
 cell:∀ x c,X.env.cells.lookup x=some c→∃ v,s.heap.IsCell c v
 free:H X.env.locals=none
 lO:∀ x c,X.env.cells.lookup x=some c→H c=none
 pin:∀ p∈X.pn++pins,s.heap.get? p.1=some p.2∧H p.1=none∧p.1≠X.env.locals∧p.1∉X.fs∧∀ v,p.2.data≠.cell v
 hok:pO X.prog X.w H s.heap
 len:σ.length=X.N.length
section
variable{X:Cx}{pins:List (Addr×Obj)}{σ : List (Option V)}{H H':Hp}{s:Shared}{h':Heap}
theorem Cx.Ok.ac0(ok:X.Ok){b:Addr}{o:Obj}(e:X.base.get? b=some o):b∉X.fs:=fun hb=>by
 have:=(ok.sG.mem hb).1
 rw[e] at this;cases this
theorem Inv.bs(I:Inv X pins σ H s):∀ b o,X.base.get? b=some o→s.heap.get? b=some o∧H b=none:=fun b o e =>
 ⟨I.base.keep b o (I.ok.bs b o e).1 (I.ok.bs b o e).2 (I.ok.ac0 e) (I.ok.Km b o e),I.base.free b o (I.ok.bs b o e).1 (I.ok.bs b o e).2 (I.ok.Km b o e)⟩
theorem Inv.bk(I:Inv X pins σ H s):∀ b o,X.base.get? b=some o→s.heap.get? b=some o:=fun b o e=>(I.bs b o e).1
theorem Inv.mod(I:Inv X pins σ H s):Mod X.K X.mg X.base:=I.ok.mod
theorem Inv.yu(I:Inv X pins σ H s):X.K.In s.heap:=I.ok.mod.kin.keeps I.bk
theorem Inv.nolimit(I:Inv X pins σ H s):s.heap.NoLimit:=I.ok.mod.nolimit.keeps I.bk
theorem Inv.lt(I:Inv X pins σ H s):X.env.locals < s.heap.objs.size:=let ⟨_,hn,_⟩:=I.loc;hn.lt
theorem Inv.sz(I:Inv X pins σ H s):X.s₀.heap.objs.size≤s.heap.objs.size:=Nat.le_trans I.ok.above (Nat.le_of_lt I.lt)
theorem Inv.acZ(I:Inv X pins σ H s){a:Addr}(h:s.heap.objs.size≤a):a∉X.fs:=fun hb=>by
 obtain⟨_,o,ho,_⟩:=I.ok.sG.mem hb
 exact absurd (Nat.lt_of_lt_of_le (Heap.lt_size ho) (Nat.le_trans I.sz h)) (Nat.lt_irrefl _)
theorem Inv.W3(I:Inv X pins σ H s):∀ x c,X.env.cells.lookup x=some c→c≠X.env.locals:=fun x c e z=>by
 obtain⟨v,o,ho,hd⟩:=I.cell x c e
 obtain⟨m,⟨o',es,ep,ho',hd',_⟩,_⟩:=I.loc
 rw[z,ho'] at ho;cases ho;rw[hd'] at hd;cases hd
theorem Inv.sG(I:Inv X pins σ H s):s.heap.FunFrames X.base X.outer:=by
 have all:∀ (l:List Env),(∀ b∈frs l,b∈X.fs)→X.s₀.heap.FunFrames X.base l→s.heap.FunFrames X.base l:=by
  intro l
  induction l with
  | nil=>intro _ _;trivial
  | cons env r ih =>
   intro hs hl
   obtain⟨hk,⟨L,o,hf,hn,ho,hd⟩,hr⟩:=hl
   have hL:L∈X.fs:=hs L (by unfold frs;rw[List.filterMap_cons,hf];exact List.mem_cons_self)
   obtain⟨sl,e⟩:=I.base.slot L o ho (I.ok.frf L hL) hL fun z=>I.ok.Pz L z hL
   exact⟨hk,⟨L,_,hf,hn,e,hd⟩,ih (fun b hb=>hs b (by unfold frs;rw[List.filterMap_cons,hf];exact List.mem_cons_of_mem _ hb)) hr⟩
 exact all X.outer (fun _ hb=>hb) I.ok.sG
theorem Inv.stack(I:Inv X pins σ H s):s.heap.FunFrames X.base X.stack:=by
 rcases I.ok.stk with e|⟨e,hf⟩
 ·rw[e];exact I.sG
 ·rw[e]
  obtain⟨m,hn,_⟩:=I.loc
  refine .cons (by rw[I.ok.kind];decide) hf hn ?_ I.sG
  exact Heap.get?_none_of_le (Nat.le_trans I.ok.bsz I.ok.above)
theorem Inv.DX(I:Inv X pins σ H s):∀ b∈frs X.stack,b∈X.env.locals::X.fs:=fun b hb=>by
 rcases I.ok.stk with e|⟨e,hf⟩
 ·rw[e] at hb;exact List.mem_cons_of_mem _ hb
 ·rw[e] at hb
  unfold frs at hb
  rw[List.filterMap_cons,hf] at hb
  exact hb
theorem Inv.vo(I:Inv X pins σ H s):∀ b∈frs X.stack,H b=none:=fun b hb=>by
 rcases List.mem_cons.mp (I.DX b hb) with e|hb
 ·rw[e];exact I.free
 ·obtain⟨_,o,ho,_⟩:=I.ok.sG.mem hb
  exact I.base.free b o ho (I.ok.frf b hb) fun z=>I.ok.Pz b z hb
theorem Inv.step{g':Array GenState}{t':Nat}{d':Drawn}{ch:List Addr}(I:Inv X pins σ H s)
 (hch:∀ b∈ch,(b∈X.ex∨X.s₀.heap.objs.size≤b)∧b≠X.env.locals∧(∀ x c,X.env.cells.lookup x=some c→c≠b)∧∀ p∈X.pn++pins,p.1≠b)
 (keep:∀ b o,b≠X.env.locals→b∉X.fs→b∉ch→s.heap.get? b=some o→H b=none→h'.get? b=some o)
 (slot:∀ b o,b≠X.env.locals→b∈X.fs→b∉ch→s.heap.get? b=some o→H b=none→∃ sl,h'.get? b=some { o with slots:=sl }) (free:∀ b o,b∉ch→s.heap.get? b=some o→H b=none→H' b=none)
 (there:∀ b o,b∉ch→s.heap.get? b=some o→∃ o',h'.get? b=some o')
 (tups:∀ b xs,H b=some (.tup xs)→H' b=some (.tup xs)) (wZ:∀ b o u,H b=some (.frz o u)→H' b=some (.frz o u)) (wz:∀ b w ps,H b=some (.tbl w ps)→∃ more,H' b=some (.tbl w (ps++more)))
 (ns:∀ m,s.heap.Ns X.env.locals m→h'.Ns X.env.locals m) (hok:pO X.prog X.w H' h') (hg:AllBare g') :
 Inv X pins σ H' { s with heap:=h',gens:=g',drawn:=d',toks:=t' }:=by
 have neL:∀ b o,X.s₀.heap.get? b=some o→b≠X.env.locals:=fun b o e=>Nat.ne_of_lt (Nat.lt_of_lt_of_le (Heap.lt_size e) I.ok.above)
 have neC:∀ b o,X.s₀.heap.get? b=some o→b∉X.ex→b∉ch:=fun b o e hx hb=>by
  rcases (hch b hb).1 with z|z
  ·exact hx z
  ·exact absurd (Nat.lt_of_lt_of_le (Heap.lt_size e) z) (Nat.lt_irrefl _)
 have cellK:∀ x c,X.env.cells.lookup x=some c→∀ v,s.heap.IsCell c v→h'.IsCell c v:=fun x c e v ⟨o,ho,hd⟩=>by
  have nch:c∉ch:=fun z=>(hch c z).2.2.1 x c e rfl
  by_cases hc:c∈X.fs
  ·obtain⟨sl,q⟩:=slot c o (I.W3 x c e) hc nch ho (I.lO x c e)
   exact⟨_,q,hd⟩
  ·exact⟨o,keep c o (I.W3 x c e) hc nch ho (I.lO x c e),hd⟩
 refine⟨I.ok,I.os,hg,⟨fun b o e n hb hx=>?_,fun b o e n hb hx=>?_,fun b o e n hx=>?_,fun b o e hx=>?_,fun b xs e=>tups b xs (I.base.tups b xs e),fun b o xs e=>wZ b o xs (I.base.wZ b o xs e),fun b w ps e=>?_⟩,?_,fun x c e=>?_,?_,fun x c e=>?_,fun p hp=>?_,hok,I.len⟩
 ·exact keep b o (neL b o e) hb (neC b o e hx) (I.base.keep b o e n hb hx) (I.base.free b o e n hx)
 ·obtain⟨sl,e1⟩:=I.base.slot b o e n hb hx
  obtain⟨sl',e2⟩:=slot b _ (neL b o e) hb (neC b o e hx) e1 (I.base.free b o e n hx)
  exact⟨sl',e2⟩
 ·obtain⟨o',e1⟩:=I.base.there b o e hx
  exact free b o' (neC b o e hx) e1 (I.base.free b o e n hx)
 ·obtain⟨o',e1⟩:=I.base.there b o e hx
  exact there b o' (neC b o e hx) e1
 ·obtain⟨m1,e1⟩:=I.base.wz b w ps e
  obtain⟨m2,e2⟩:=wz b w _ e1
  exact⟨m1++m2,by rw[e2,Array.append_assoc]⟩
 ·obtain⟨m,hn,hl⟩:=I.loc
  refine⟨m,ns m hn,fun i x v e1 e2 e3=>?_⟩
  obtain⟨u,r,l⟩:=hl i x v e1 e2 e3
  refine⟨u,r,?_⟩
  rcases l with l|⟨k,c,e,z⟩
  ·exact .inl l
  ·exact .inr ⟨k,c,e,cellK x c e _ z⟩
 ·obtain⟨v,z⟩:=I.cell x c e
  exact⟨v,cellK x c e v z⟩
 ·obtain⟨m,⟨o,_,_,ho,_⟩,_⟩:=I.loc
  exact free _ o (fun z=>(hch _ z).2.1 rfl) ho I.free
 ·obtain⟨v,o,ho,hd⟩:=I.cell x c e
  exact free c o (fun z=>(hch c z).2.2.1 x c e rfl) ho (I.lO x c e)
 ·obtain⟨e,n,ne,nf,d⟩:=I.pin p hp
  have nch:p.1∉ch:=fun z=>(hch p.1 z).2.2.2 p hp rfl
  exact⟨keep p.1 p.2 ne nf nch e n,free p.1 p.2 nch e n,ne,nf,d⟩
theorem Inv.un{t':Nat}(I:Inv X pins σ H s)(u:Un X.fs [] H H' s.heap h')(hok:pO X.prog X.w H' h'):Inv X pins σ H' { s with heap:=h',toks:=t' }:=by
 obtain⟨m,⟨o,es,ep,ho,r⟩,_⟩:=id I.loc
 obtain⟨sl,hL⟩:=u.any ho I.free (by simp)
 exact I.step (g':=s.gens) (d':=s.drawn) (ch:=[]) (fun _ z=>nomatch z) (fun b o _ hb _ e n=>u.keep b o e n hb (by simp)) (fun b o _ hb _ e n=>u.slot b o e n hb (by simp)) (fun b o _ e n=>u.free b o e n (by simp)) (fun b o _ e=>u.there b o e (by simp)) u.tups u.wZ u.wz (fun m' hm=>by
  obtain⟨o',es',ep',ho',r'⟩:=hm
  rw[ho] at ho';cases ho'
  exact⟨_,es',ep',hL,r'⟩) hok I.bare
theorem Inv.call{g':Array GenState}{t':Nat}{d':Drawn}{ch:List Addr}(I:Inv X pins σ H s)(u:Un (frs X.stack) ch H H' s.heap h')(hok:pO X.prog X.w H' h')(hg:AllBare g')
 (hch:∀ b∈ch,(b∈X.ex∨X.s₀.heap.objs.size≤b)∧b≠X.env.locals∧(∀ x c,X.env.cells.lookup x=some c→c≠b)∧∀ p∈X.pn++pins,p.1≠b) :
 Inv X pins σ H' { s with heap:=h',gens:=g',drawn:=d',toks:=t' }:=by
 obtain⟨m,⟨o,es,ep,ho,r⟩,_⟩:=id I.loc
 obtain⟨sl,hL⟩:=u.any ho I.free fun z=>(hch _ z).2.1 rfl
 exact I.step (ch:=ch) hch (fun b o hL hb hc e n=>u.keep b o e n (fun z=>(List.mem_cons.mp (I.DX b z)).elim hL hb) hc) (fun b o _ _ hc e n=>u.any e n hc) (fun b o hc e n=>u.free b o e n hc) (fun b o hc e=>u.there b o e hc) u.tups u.wZ u.wz (fun m' hm=>by
  obtain⟨o',es',ep',ho',r'⟩:=hm
  rw[ho] at ho';cases ho'
  exact⟨_,es',ep',hL,r'⟩) hok hg
theorem Inv.turned{t':Nat}{it:Addr}(I:Inv X pins σ H s)(k:∀ b o,b≠it→s.heap.get? b=some o→h'.get? b=some o)(hn:H it=none)(hL:it≠X.env.locals)
 (h1:it∈X.ex∨X.s₀.heap.objs.size≤it) (h2:∀ x c,X.env.cells.lookup x=some c→c≠it) (h3:∀ p∈X.pn++pins,p.1≠it):Inv X pins σ H { s with heap:=h',toks:=t' }:=by
 have nit:∀ b u,H b=some u→b≠it:=fun b u e z=>by rw[z,hn] at e;cases e
 refine I.step (g':=s.gens) (d':=s.drawn) (ch:=[it]) (fun b hb=>?_) (fun b o _ _ hc e _=>k b o (fun z=>hc (by simp[z])) e) (fun b o _ _ hc e _=>⟨o.slots,k b o (fun z=>hc (by simp[z])) e⟩) (fun _ _ _ _ n=>n)
  (fun b o hc e=>⟨o,k b o (fun z=>hc (by simp[z])) e⟩) (fun _ _ e=>e) (fun _ _ _ e=>e) (fun b w ps e=>⟨#[],by rw[e];simp⟩) (fun m hm=>?_) (fun b u e=>?_) I.bare
 ·have e:b=it:=by simpa using hb
  subst e
  exact⟨h1,hL,h2,h3⟩
 ·obtain⟨o,es,ep,ho,r⟩:=hm
  exact⟨o,es,ep,k _ o (Ne.symm hL) ho,r⟩
 ·refine(I.hok b u e).stay (fun c v hc q=>k c v ?_ q) (fun _ q=>q) fun _ _ q=>q
  rcases hc with z|z
  ·rw[z];exact nit b u e
  ·exact nit c _ z
theorem Inv.tok(I:Inv X pins σ H s)(t:Nat):Inv X pins σ H { s with toks:=t }:=I.un (h':=s.heap) (t':=t) Un.refl I.hok
theorem Inv.kept{t':Nat}(I:Inv X pins σ H s)(k:∀ b u,s.heap.get? b=some u→h'.get? b=some u):Inv X pins σ H { s with heap:=h',toks:=t' }:=I.un (Un.kept k) (I.hok.kept k)
theorem Inv.laid{a:Addr}{o:HO}{t':Nat}(I:Inv X pins σ H s)(k:∀ b u,s.heap.get? b=some u→h'.get? b=some u)(hp:s.heap.objs.size≤a)(new:bZ X.prog X.w (upd H a o) h' a o) :
 Inv X pins σ (upd H a o) { s with heap:=h',toks:=t' }:=I.un (Un.laid k hp (I.hok.fresh hp)) (I.hok.laid k hp new)
theorem Inv.write{x e:Addr}{o:HO}{t':Nat}(I:Inv X pins σ H s)(mu:Mut (H x))(he:e=x∨H e=some (.own x))(k:∀ b u,b≠e→s.heap.get? b=some u→h'.get? b=some u)(heo:∃ u,h'.get? e=some u)
 (new:bZ X.prog X.w (upd H x o) h' x o):Inv X pins σ (upd H x o) { s with heap:=h',toks:=t' }:=I.un (Un.write mu he k heo) (I.hok.write mu he k heo new)
theorem Inv.weak{σ':List (Option V)}(I:Inv X pins σ H s)(hl:σ'.length = σ.length)(w:∀ (i:Nat) v,σ'[i]? = some (some v)→σ[i]? = some (some v)):Inv X pins σ' H s :=
 ⟨I.ok,I.os,I.bare,I.base,let ⟨m,hn,hl'⟩:=I.loc;⟨m,hn,fun i x v e1 e2 e3=>hl' i x v e1 (w i v e2) e3⟩,I.cell,I.free,I.lO,I.pin,I.hok,hl.trans I.len⟩
theorem Inv.Ek{Cm:List (Addr×Obj)}(I:Inv X pins σ H s)(h:∀ p∈Cm,s.heap.get? p.1=some p.2∧H p.1=none∧p.1≠X.env.locals∧p.1∉X.fs∧∀ v,p.2.data≠.cell v):Inv X Cm σ H s :=
 ⟨I.ok,I.os,I.bare,I.base,I.loc,I.cell,I.free,I.lO,fun p hp=>(List.mem_append.mp hp).elim (fun z=>I.pin p (List.mem_append_left _ z)) (h p),I.hok,I.len⟩
theorem zZ{N:List Str}(hN:N.Nodup){i j:Nat}{x:Str}(a:N[i]? = some x)(b:N[j]? = some x):i=j:=by
 obtain⟨h1,e1⟩:=List.getElem?_eq_some_iff.mp a
 obtain⟨h2,e2⟩:=List.getElem?_eq_some_iff.mp b
 exact(List.getElem_inj hN).mp (e1.trans e2.symm)
theorem BZ{M:Model}{A:Around}{E:Value→Shared→Prop}{i:Nat}{x:Str}{v:V}{u:Value}{Q:Unit→Shared→Prop}(I:Inv X pins σ H s)(hN:X.N.Nodup)(hi:X.N[i]? = some x)(hx:Loc X.env.scope x)(r:RelV v u)
 (h:∀ s',Inv X pins (σ.set i (some v)) H s'→(∃ a,Heap.SameBut a s.heap s'.heap∧(a=X.env.locals∨X.env.cells.lookup x=some a))→Q () s') (hf:X.fn x=true∨X.env.scope.names.lookup x=some .local:=by first|exact .inl rfl|exact .inr rfl|assumption):wpAny M A (storeName X.env x u) Q E s:=by
 obtain⟨m,hn,hl⟩:=id I.loc
 have hcls:(X.env.scope.kind == .class || (X.env.scope.kind == .module && X.env.locals != X.env.globals))=false:=by rw[I.ok.kind];rfl
 have hiσ : i < σ.length:=by rw[I.len];exact(List.getElem?_eq_some_iff.mp hi).1
 have W3:=I.W3
 have tracked:∀ {a:Addr} {h':Heap},(∃ o,s.heap.get? a=some o∧H a=none)→Heap.SameBut a s.heap h'→pO X.prog X.w H h':=fun {a h'} ha hs b ob e=>by
  obtain⟨_,_,hfree⟩:=ha
  refine(I.hok b ob e).stay (fun c w' hc q=>(hs.2 c ?_).trans q) (fun _ q=>q) fun _ _ q=>q
  rintro rfl
  rcases hc with rfl|hc
  ·rw[hfree] at e;cases e
  ·rw[hfree] at hc;cases hc
 rcases hx with hk|hk
 ·refine wpAny_storeName_local hk hn (fun h' hn' hs=>?_) hcls
  obtain⟨oL,_,_,hoL,_⟩:=id hn
  refine h _ ⟨I.ok,I.os,I.bare,⟨fun b o e n hb hx=>?_,fun b o e n hb hx=>?_,I.base.free,fun b o e hx=>?_,I.base.tups,I.base.wZ,I.base.wz⟩,⟨_,hn',fun j y v' e1 e2 e3=>?_⟩,fun y c e=>?_,I.free,I.lO,fun p hp=>?_,tracked ⟨oL,hoL,I.free⟩ hs,by simpa using I.len⟩ ⟨_,hs,.inl rfl⟩
  ·exact(hs.2 b (Nat.ne_of_lt (Nat.lt_of_lt_of_le (Heap.lt_size e) I.ok.above))).trans (I.base.keep b o e n hb hx)
  ·obtain⟨sl,e1⟩:=I.base.slot b o e n hb hx
   exact⟨sl,(hs.2 b (Nat.ne_of_lt (Nat.lt_of_lt_of_le (Heap.lt_size e) I.ok.above))).trans e1⟩
  ·obtain⟨o',e1⟩:=I.base.there b o e hx
   exact⟨o',(hs.2 b (Nat.ne_of_lt (Nat.lt_of_lt_of_le (Heap.lt_size e) I.ok.above))).trans e1⟩
  ·by_cases hj:j=i
   ·subst hj
    rw[hi] at e1;cases e1
    rw[List.getElem?_set_self hiσ] at e2
    cases e2
    exact⟨u,r,.inl ⟨hk,by simp⟩⟩
   ·rw[List.getElem?_set_ne (Ne.symm hj)] at e2
    obtain⟨u',r',q⟩:=hl j y v' e1 e2 e3
    refine⟨u',r',?_⟩
    rcases q with ⟨k,e⟩|⟨k,c,e,z⟩
    ·refine .inl ⟨k,?_⟩
     have:y≠x:=fun e=>hj (zZ hN e1 (e ▸ hi))
     simp[this,e]
    ·exact .inr ⟨k,c,e,z.sameBut hs (W3 y c e)⟩
  ·obtain⟨w',z⟩:=I.cell y c e
   exact⟨w',z.sameBut hs (W3 y c e)⟩
  ·obtain⟨e,n,ne,nf,d⟩:=I.pin p hp
   exact⟨(hs.2 p.1 ne).trans e,n,ne,nf,d⟩
 ·have hfn:X.fn x=true:=by
   rcases hf with z|z
   ·exact z
   ·rw[z] at hk;cases hk
  obtain⟨c,hc⟩:=I.ok.has x (.inl hk)
  obtain⟨w',z⟩:=I.cell x c hc
  refine wpAny_storeName_cell I.ok.kind hk hc z (fun h' hc' hs=>?_)
  obtain⟨oc,hoc,adf⟩:=id z
  refine h { s with heap:=h' } ⟨I.ok,I.os,I.bare,⟨fun b o e n hb hx=>?_,fun b o e n hb hx=>?_,I.base.free,fun b o e hx=>?_,I.base.tups,I.base.wZ,I.base.wz⟩,⟨m,hn.sameBut hs (Ne.symm (W3 x c hc)),fun j y v' e1 e2 e3=>?_⟩,fun y c' e=>?_,I.free,I.lO,fun p hp=>?_,tracked ⟨oc,hoc,I.lO x c hc⟩ hs,by simpa using I.len⟩ ⟨c,hs,.inr hc⟩
  ·exact(hs.2 b (Nat.ne_of_lt (Nat.lt_of_lt_of_le (Heap.lt_size e) (I.ok.cab x c hfn hc)))).trans (I.base.keep b o e n hb hx)
  ·obtain⟨sl,e1⟩:=I.base.slot b o e n hb hx
   exact⟨sl,(hs.2 b (Nat.ne_of_lt (Nat.lt_of_lt_of_le (Heap.lt_size e) (I.ok.cab x c hfn hc)))).trans e1⟩
  ·obtain⟨o',e1⟩:=I.base.there b o e hx
   exact⟨o',(hs.2 b (Nat.ne_of_lt (Nat.lt_of_lt_of_le (Heap.lt_size e) (I.ok.cab x c hfn hc)))).trans e1⟩
  ·by_cases hj:j=i
   ·subst hj
    rw[hi] at e1;cases e1
    rw[List.getElem?_set_self hiσ] at e2
    cases e2
    exact⟨u,r,.inr ⟨.inl hk,c,hc,hc'⟩⟩
   ·rw[List.getElem?_set_ne (Ne.symm hj)] at e2
    obtain⟨u',r',q⟩:=hl j y v' e1 e2 e3
    refine⟨u',r',?_⟩
    rcases q with q|⟨k,c',e,z'⟩
    ·exact .inl q
    ·refine .inr ⟨k,c',e,z'.sameBut hs ?_⟩
     rintro rfl
     exact hj (zZ hN e1 (I.ok.inj _ _ _ e hc ▸ hi))
  ·by_cases hcc:c'=c
   ·subst hcc;exact⟨_,hc'⟩
   ·obtain⟨w2,z2⟩:=I.cell y c' e
    exact⟨w2,z2.sameBut hs hcc⟩
  ·obtain⟨e,n,ne,nf,d⟩:=I.pin p hp
   refine⟨(hs.2 p.1 ?_).trans e,n,ne,nf,d⟩
   intro q
   rw[q,hoc] at e
   have q':oc=p.2:=Option.some.inj e
   exact d w' (by rw[← q'];exact adf)
theorem vm{M:Model}{A:Around}{E:Value→Shared→Prop}{i:Nat}{x:Str}{v:V}{u:Value}{Q:Unit→Shared→Prop}(I:Inv X pins σ H s)(hN:X.N.Nodup)(hi:X.N[i]? = some x)(hx:Loc X.env.scope x)(r:RelV v u)
 (h:∀ s',Inv X pins (σ.set i (some v)) H s'→Q () s') (hf:X.fn x=true∨X.env.scope.names.lookup x=some .local:=by first|exact .inl rfl|exact .inr rfl|assumption):wpAny M A (storeName X.env x u) Q E s :=
 BZ I hN hi hx r (fun s' I' _=>h s' I') hf
theorem Inv.call'{s':Shared}{ch:List Addr}(I:Inv X pins σ H s)(ho:s'.os=s.os)(u:Un (frs X.stack) ch H H' s.heap s'.heap)(hok:pO X.prog X.w H' s'.heap)(hg:AllBare s'.gens)
 (hch:∀ b∈ch,(b∈X.ex∨X.s₀.heap.objs.size≤b)∧b≠X.env.locals∧(∀ x c,X.env.cells.lookup x=some c→c≠b)∧∀ p∈X.pn++pins,p.1≠b):Inv X pins σ H' s':=by
 obtain⟨h',g',d',t',o'⟩:=s'
 have e:o'=s.os:=ho
 subst e
 exact I.call (g':=g') (t':=t') (d':=d') u hok hg hch
end
abbrev XK:=Value→Option Addr→Hp→Prop
abbrev St:=List (Option V)
abbrev VK:=V→Hp→Prop
abbrev TE:=St→Hp→VK→Prop
abbrev TT:=St→Hp→(Bool→Hp→Prop)→Prop
abbrev TA:=St→Hp→(List V→Hp→Prop)→Prop
structure Ends where
 nx:St→Hp→Prop
 rt:VK
 bk:St→Hp→Prop:=fun _ _=>False
 ct:St→Hp→Prop:=fun _ _=>False
abbrev TS:=Ends→St→Hp→Prop
def EP(X:Cx)(pins:List (Addr×Obj))(σ : St)(Q:VK)(u:Value)(s':Shared):Prop:=∃ v H',Inv X pins σ H' s'∧RelV v u∧Q v H'
def TP(X:Cx)(pins:List (Addr×Obj))(σ : St)(Q:Bool→Hp→Prop)(b:Bool)(s':Shared):Prop:=∃ H',Inv X pins σ H' s'∧Q b H'
def AP(X:Cx)(pins:List (Addr×Obj))(σ : St)(Q:List V→Hp→Prop)(us:List Value)(s':Shared):Prop:=∃ vs H',Inv X pins σ H' s'∧Vals vs us∧Q vs H'
def SP(X:Cx)(pins:List (Addr×Obj))(D:Ends)(f:Flow)(s':Shared):Prop :=
 match f with
 | .next=>∃ σ' H',Inv X pins σ' H' s'∧D.nx σ' H'
 | .brk=>∃ σ' H',Inv X pins σ' H' s'∧D.bk σ' H'
 | .cont=>∃ σ' H',Inv X pins σ' H' s'∧D.ct σ' H'
 | .ret u=>∃ v σ' H',Inv X pins σ' H' s'∧RelV v u∧D.rt v H'
def PE(X:Cx)(e:Expr)(t:TE):Prop :=
 ∀ (pins:List (Addr×Obj)) (s:Shared) (σ : St) (H:Hp) (Q:VK),Inv X pins σ H s→t σ H Q→wpAny (model X.prog X.w) X.A (eval e X.env) (EP X pins σ Q) X.xe s
def PT(X:Cx)(e:Expr)(t:TT):Prop :=
 ∀ (pins:List (Addr×Obj)) (s:Shared) (σ : St) (H:Hp) (Q:Bool→Hp→Prop),Inv X pins σ H s→t σ H Q→wpAny (model X.prog X.w) X.A (isTrue e X.env (eval e X.env)) (TP X pins σ Q) X.xe s
def PW(X:Cx)(e:Expr)(t:TT):Prop :=
 ∀ (whole:Sem Value) (pins:List (Addr×Obj)) (s:Shared) (σ : St) (H:Hp) (Q:Bool→Hp→Prop),Inv X pins σ H s→t σ H Q→wpAny (model X.prog X.w) X.A (isTrue e X.env whole) (TP X pins σ Q) X.xe s
theorem PW.pt{X:Cx}{e:Expr}{t:TT}(h:PW X e t):PT X e t:=h _
def PA(X:Cx)(es:List Expr)(t:TA):Prop :=
 ∀ (pos:Pos) (pins:List (Addr×Obj)) (s:Shared) (σ : St) (H:Hp) (Q:List V→Hp→Prop),Inv X pins σ H s→t σ H Q→wpAny (model X.prog X.w) X.A (spliced (backTo pos (starEach es X.env))) (AP X pins σ Q) X.xe s
def PS(X:Cx)(st:Stmt)(t:TS):Prop :=
 ∀ (pins:List (Addr×Obj)) (s:Shared) (σ : St) (H:Hp) (D:Ends),Inv X pins σ H s→t D σ H→wpAny (model X.prog X.w) X.A (exec st X.env) (SP X pins D) X.xe s
def GZ(X:Cx)(st:List Stmt)(t:TS):Prop :=
 ∀ (pins:List (Addr×Obj)) (s:Shared) (σ : St) (H:Hp) (D:Ends),Inv X pins σ H s→t D σ H→wpAny (model X.prog X.w) X.A (execs st X.env) (SP X pins D) X.xe s
theorem dY{α : Type}{t:Sem α}{Q Q':α→Shared→Prop}{M:Model}{A:Around}{E:Value→Shared→Prop}{s:Shared}(h:wpAny M A t Q E s)(hQ:∀ a s,Q a s→Q' a s):wpAny M A t Q' E s:=wpAny_mono h hQ fun _ _ x=>x
end L2
namespace L2
open PySem PySem.Spec PyProof.Rows
section
variable{X:Cx}
def uD(i:Nat):TE:=fun σ H Q=>∃ v,σ[i]? = some (some v)∧Q v H
def tC(v:V):TE:=fun _ H Q=>Q v H
theorem Y9{i:Nat}{x:Str}{pos:Pos}(hN:X.N[i]? = some x)(hv:Vis X.env.scope x)(hd:(x == ("__debug__" : Str))=false:=by decide)(hcd:(x == ("__classdict__" : Str))=false:=by decide):PE X (.Name x pos) (uD i):=by
 intro pins s σ H Q I h
 obtain⟨v,e,h⟩:=h
 obtain⟨m,hn,hl⟩:=I.loc
 obtain⟨u,r,l⟩:=hl i x v hN e hv
 have fin:EP X pins σ Q u s:=⟨v,H,I,r,h⟩
 rcases l with ⟨hk,hm⟩|⟨hk,c,hc,hcell⟩
 ·exact wpAny_Name (wpAny_loadName_local I.ok.kind hk hn hm fin) hd
 ·rcases hk with hk|hk
  ·exact wpAny_Name (wpAny_loadName_cell I.ok.kind hk hc hcell fin) hd
  ·exact wpAny_Name (wpAny_loadName_free I.ok.kind hk hc hcell fin hcd) hd
theorem aH{i j pos}:PE X (.Constant (.int i) j pos) (tC (.int i)):=fun _ _ _ H _ I h=>wpAny_Constant_int ⟨.int i,H,I.tok _,⟨_,rfl⟩,h⟩
theorem uq{b j pos}:PE X (.Constant (.bool b) j pos) (tC (.bl b)):=fun _ _ _ H _ I h=>Constant_bool ⟨.bl b,H,I,rfl,h⟩
theorem RN{j pos}:PE X (.Constant .none j pos) (tC .non):=fun _ _ _ H _ I h=>Constant_none ⟨.non,H,I,rfl,h⟩
theorem jm{x j pos}:PE X (.Constant (.str x) j pos) (tC (.str x)):=fun _ _ _ H _ I h=>Calls.Constant_str ⟨.str x,H,I.tok _,⟨_,rfl⟩,h⟩
def Gl(X:Cx)(x:Str):Prop:=X.env.kindOf x=some .globalImplicit
theorem tR{E:Value→Shared→Prop}{pins:List (Addr×Obj)}{s:Shared}{σ : St}{H:Hp}{x:Str}{u:Value}{pos:Pos}{Q:Value→Shared→Prop}(I:Inv X pins σ H s)(hg:Gl X x)(hm:X.mg x=some u)(h:Q u s)
 (hd:(x == ("__debug__" : Str))=false:=by decide):wpAny (model X.prog X.w) X.A (eval (.Name x pos) X.env) Q E s :=
 Calls.Name_function_global I.ok.kind hg (Calls.loadGlobal_global (by rw[I.ok.glob];exact I.mod.glob.keeps I.bk) hm h) hd
theorem uM{E:Value→Shared→Prop}{pins:List (Addr×Obj)}{s:Shared}{σ : St}{H:Hp}{x:Str}{u:Value}{pos:Pos}{Q:Value→Shared→Prop}(I:Inv X pins σ H s)(hg:Gl X x)(hm:X.mg x=none)(hv:bootBuiltins x=some u)(h:Q u s)
 (hn:x ≠ "__name__" := by decide) (hd:(x == ("__debug__" : Str))=false:=by decide):wpAny (model X.prog X.w) X.A (eval (.Name x pos) X.env) Q E s:=by
 obtain⟨mb,h1,h2⟩:=I.mod.blt
 exact Calls.Name_function_global I.ok.kind hg (Calls.loadGlobal_builtin (by rw[I.ok.glob];exact I.mod.glob.keeps I.bk) hm (by rw[I.ok.blt];exact h1.keeps I.bk) ((h2 x hn).trans hv) h) hd
theorem eQ{x:Str}{v:V}{u:Value}{pos:Pos}(hg:Gl X x)(hm:X.mg x=some u)(r:RelV v u)(hd:(x == ("__debug__" : Str))=false:=by decide):PE X (.Name x pos) (tC v) :=
 fun _ _ _ H _ I h=>tR I hg hm ⟨v,H,I,r,h⟩ hd
theorem V9{x:Str}{v:V}{u:Value}{pos:Pos}(hg:Gl X x)(hm:X.mg x=none)(hv:bootBuiltins x=some u)(r:RelV v u)(hn:x ≠ "__name__" := by decide)(hd:(x == ("__debug__" : Str))=false:=by decide):PE X (.Name x pos) (tC v) :=
 fun _ _ _ H _ I h=>uM I hg hm hv ⟨v,H,I,r,h⟩ hn hd
variable{a b:Expr}{ta tb:TE}{pos:Pos}
def PC(X:Cx)(op:CmpOp)(a b:Expr)(t:TE):Prop :=
 ∀ (pins:List (Addr×Obj)) (s:Shared) (σ : St) (H:Hp) (Q:VK),Inv X pins σ H s→t σ H Q →
  wpAny (model X.prog X.w) X.A (eval a X.env) (fun v s₁=>wpAny (model X.prog X.w) X.A (eval b X.env) (fun u s₂=>wpAny (model X.prog X.w) X.A (compareOp op v u) (EP X pins σ Q) X.xe s₂) X.xe s₁) X.xe s
def tB(t:TE):TT:=fun σ H Q=>t σ H fun x H1=>∃ c,x=.bl c∧Q c H1
theorem Ry{op:CmpOp}{t:TE}(h:PC X op a b t)(h1:behindInMarks op b=false:=by first|exact abB _ (by decide) (by decide)|rfl):PT X (.Compare a [op] [b] pos) (tB t):=by
 intro pins s σ H Q I hw
 refine wpAny_isTrue_Compare1 (dY (h pins s σ H _ I hw) fun v s1 h1=>dY h1 fun u s2 h2=>dY h2 fun c s3 ⟨x,H1,I1,r1,q1⟩=>?_) h1
 obtain⟨d,rfl,q⟩:=q1
 cases r1
 exact wpAny_truthy_bool ⟨H1,I1,q⟩
theorem jj{e:Expr}{t:TE}(h:PE X e t)(he:∀ whole,isTrue e X.env whole=(do let v ← whole;standAt e.pos;holding [v] (truthy v)):=by intro _;rfl):PT X e (tB t):=by
 intro pins s σ H Q I hw
 refine isTrue_plain (dY (h pins s σ H _ I hw) fun v s1 ⟨x,H1,I1,r1,q1⟩=>?_) (he _)
 obtain⟨d,rfl,q⟩:=q1
 cases r1
 exact wpAny_truthy_bool ⟨H1,I1,q⟩
variable{tA tB':TT}{rest:List Expr}
def aaU(t u:TT):TT:=fun σ H Q=>t σ H fun c H1=>if c=true then u σ H1 Q else Q false H1
def tOr(t u:TT):TT:=fun σ H Q=>t σ H fun c H1=>if c=true then Q true H1 else u σ H1 Q
def aaO(t:TT):TT:=fun σ H Q=>t σ H fun c H1=>Q (!c) H1
theorem pw_and1(ha:PT X a tA):PW X (.BoolOp .And [a] pos) tA:=by
 intro wh pins s σ H Q I h
 refine isTrue_and (dY (ha pins s σ H Q I h) fun c s1 e=>?_)
 cases c with
 | true=>exact isTrue_and_nil e
 | false=>exact e
theorem pw_or1(ha:PT X a tA):PW X (.BoolOp .Or [a] pos) tA:=by
 intro wh pins s σ H Q I h
 refine isTrue_or (dY (ha pins s σ H Q I h) fun c s1 e=>?_)
 cases c with
 | false=>exact isTrue_or_nil e
 | true=>exact e
theorem pw_and(ha:PT X a tA)(hb:PW X (.BoolOp .And (b::rest) pos) tB'):PW X (.BoolOp .And (a::b::rest) pos) (aaU tA tB'):=by
 intro wh pins s σ H Q I h
 refine isTrue_and (dY (ha pins s σ H _ I h) fun c s1 ⟨H1,I1,q1⟩=>?_)
 cases c with
 | true=>exact hb wh pins s1 σ H1 Q I1 q1
 | false=>exact⟨H1,I1,q1⟩
theorem pw_or(ha:PT X a tA)(hb:PW X (.BoolOp .Or (b::rest) pos) tB'):PW X (.BoolOp .Or (a::b::rest) pos) (tOr tA tB'):=by
 intro wh pins s σ H Q I h
 refine isTrue_or (dY (ha pins s σ H _ I h) fun c s1 ⟨H1,I1,q1⟩=>?_)
 cases c with
 | true=>exact⟨H1,I1,q1⟩
 | false=>exact hb wh pins s1 σ H1 Q I1 q1
theorem rQ(ha:PT X a tA):PT X (.UnaryOp .Not a pos) (aaO tA):=by
 intro pins s σ H Q I h
 exact isTrue_not (ha pins s σ H (fun c H1=>Q (!c) H1) I h)
def Xx(ta tb:TE):TE:=fun σ H Q=>ta σ H fun x H1=>∃ c,x=.bl c∧if c=true then tb σ H1 Q else Q (.bl false) H1
theorem J4{op}{t:TE}(h:PE X a t):PE X (.BoolOp op [a] pos) t:=fun pins s σ H Q I hw=>BoolOp_one (h pins s σ H Q I hw)
theorem J5(ha:PE X a ta)(hb:PE X (.BoolOp .And (b::rest) pos) tb):PE X (.BoolOp .And (a::b::rest) pos) (Xx ta tb):=by
 intro pins s σ H Q I h
 refine BoolOp_and (dY (ha pins s σ H _ I h) fun v s1 ⟨x,H1,I1,r1,q1⟩=>?_)
 obtain⟨c,rfl,q1⟩:=q1
 cases r1
 refine wpAny_truthy_bool ?_
 cases c with
 | true=>exact hb pins s1 σ H1 Q I1 q1
 | false=>exact⟨.bl false,H1,I1,rfl,q1⟩
end
end L2
namespace L2
open PySem PySem.Spec PyProof.Rows
def uW(K:PySem.W.Frag)(H:Hp)(a:Addr)(xs:List V):Prop :=
 Rd H a (.lst xs) ∨
  ∃ (o:Obj) (its:Array Value) (n:Nat),K.lookup a=some o∧o.cls=.type "list" ∧ o.dict=none∧o.data=.seq its n∧its.size≤sizeLine∧Vals xs its.toList
def yO(K:PySem.W.Frag)(H:Hp)(a:Addr)(xs:List V):Prop :=
 Rd H a (.tup xs) ∨
  ∃ (o:Obj) (its:Array Value) (n:Nat),K.lookup a=some o∧o.cls=.type "tuple" ∧ o.data=.seq its n∧its.size≤sizeLine∧Vals xs its.toList
def adx:Value→Option V
 | .none=>some .non
 | .bool b=>some (.bl b)
 | .int i _=>some (.int i)
 | .str x _=>some (.str x)
 | .bytes b _=>some (.byt b)
 | .float b _=>some (.flt b)
 | .ref a=>some (.ref a)
 | .type n=>some (.ty n)
 | _=>none
theorem RelV.abs{x:V}{u:Value}(r:RelV x u):adx u=some x:=by
 cases x with
 | non=>cases r;rfl
 | bl _=>cases r;rfl
 | int _=>obtain⟨t,rfl⟩:=r;rfl
 | str _=>obtain⟨t,rfl⟩:=r;rfl
 | byt _=>obtain⟨t,rfl⟩:=r;rfl
 | flt _=>obtain⟨t,rfl⟩:=r;rfl
 | ref _=>cases r;rfl
 | ty _=>cases r;rfl
theorem RelV.inj{x y:V}{u:Value}(r:RelV x u)(q:RelV y u):x=y:=Option.some.inj (r.abs.symm.trans q.abs)
theorem Vals.inj:∀ {xs ys:List V} {us:List Value},Vals xs us→Vals ys us→xs=ys
 | _,_,_,.nil,.nil=>rfl
 | _,_,_,.cons r t,.cons r' t'=>by rw[r.inj r',Vals.inj t t']
section
variable{X:Cx}{pins:List (Addr×Obj)}{σ : St}{H:Hp}{s:Shared}{a:Addr}{xs ys:List V}
theorem Inv.list(I:Inv X pins σ H s)(h:uW X.K H a xs):∃ its:List Value,Vals xs its∧PlainL s.heap a its.toArray∧xs.length≤sizeLine:=by
 rcases h with h|⟨o,its,n,hk,hc,hd,hs,hz,r⟩
 ·obtain⟨z,its,n,r,e⟩:=h.ok I.hok
  exact⟨its,r,⟨_,n,e,rfl,rfl,rfl⟩,z⟩
 ·refine⟨its.toList,r,⟨o,n,I.yu a o hk,hc,hd,by simpa using hs⟩,?_⟩
  have e:=r.length
  simp only[Array.length_toList] at e
  omega
theorem Inv.tuple(I:Inv X pins σ H s)(h:yO X.K H a xs):∃ its:List Value,Vals xs its∧IsTup s.heap a its.toArray∧xs.length≤sizeLine:=by
 rcases h with h|⟨o,its,n,hk,hc,hs,hz,r⟩
 ·obtain⟨z,its,r,p⟩:=h.ok I.hok
  exact⟨its,r,p.tup,z⟩
 ·refine⟨its.toList,r,⟨o,I.yu a o hk,hc,n,by simpa using hs⟩,?_⟩
  have e:=r.length
  simp only[Array.length_toList] at e
  omega
theorem Inv.vK(I:Inv X pins σ H s)(h:uW X.K H a xs)(h':uW X.K H a ys):xs=ys:=by
 obtain⟨its,r,⟨o,n,e,_,_,d⟩,_⟩:=I.list h
 obtain⟨its',r',⟨o',n',e',_,_,d'⟩,_⟩:=I.list h'
 rw[e] at e';cases e'
 rw[d] at d'
 injection d' with d1 _
 have:its=its':=by simpa using congrArg Array.toList d1
 subst this
 exact r.inj r'
theorem Inv.wu(I:Inv X pins σ H s)(h:yO X.K H a xs)(h':yO X.K H a ys):xs=ys:=by
 obtain⟨its,r,⟨o,e,_,n,d⟩,_⟩:=I.tuple h
 obtain⟨its',r',⟨o',e',_,n',d'⟩,_⟩:=I.tuple h'
 rw[e] at e';cases e'
 rw[d] at d'
 injection d' with d1 _
 have:its=its':=by simpa using congrArg Array.toList d1
 subst this
 exact r.inj r'
end
abbrev Cx.wish(X:Cx)(E:Value→Shared→Prop):Cx:={ X with xe:=E }
abbrev Cx.nox(X:Cx):Cx:=X.wish fun _ _=>False
theorem Cx.Ok.wish{X:Cx}(ok:X.Ok)(E:Value→Shared→Prop):(X.wish E).Ok :=
 ⟨ok.mod,ok.kind,ok.glob,ok.blt,ok.above,ok.inj,ok.has,ok.cab,ok.hd,ok.frames,ok.stk,ok.exf,ok.bs,ok.bsz,ok.Km,ok.Pz,ok.sG,ok.frf⟩
theorem Cx.Ok.rm{X:Cx}{E:Value→Shared→Prop}(ok:(X.wish E).Ok):X.Ok :=
 ⟨ok.mod,ok.kind,ok.glob,ok.blt,ok.above,ok.inj,ok.has,ok.cab,ok.hd,ok.frames,ok.stk,ok.exf,ok.bs,ok.bsz,ok.Km,ok.Pz,ok.sG,ok.frf⟩
section
variable{X:Cx}{pins:List (Addr×Obj)}{σ : St}{H:Hp}{s:Shared}{E:Value→Shared→Prop}
theorem Inv.wish(I:Inv X pins σ H s)(E:Value→Shared→Prop):Inv (X.wish E) pins σ H s:=⟨I.ok.wish E,I.os,I.bare,I.base,I.loc,I.cell,I.free,I.lO,I.pin,I.hok,I.len⟩
theorem Inv.rm(I:Inv (X.wish E) pins σ H s):Inv X pins σ H s:=⟨I.ok.rm,I.os,I.bare,I.base,I.loc,I.cell,I.free,I.lO,I.pin,I.hok,I.len⟩
theorem SP.rm{D:Ends}{f:Flow}{s':Shared}(h:SP (X.wish E) pins D f s'):SP X pins D f s':=by
 cases f with
 | next=>obtain⟨σ',H',I,q⟩:=h;exact⟨σ',H',I.rm,q⟩
 | brk=>obtain⟨σ',H',I,q⟩:=h;exact⟨σ',H',I.rm,q⟩
 | cont=>obtain⟨σ',H',I,q⟩:=h;exact⟨σ',H',I.rm,q⟩
 | ret u=>obtain⟨v,σ',H',I,r,q⟩:=h;exact⟨v,σ',H',I.rm,r,q⟩
theorem GZ.nox{st:List Stmt}{t:TS}(h:GZ X.nox st t):GZ X st t:=fun pins s σ H D I hw =>
 wpAny_mono (h pins s σ H D (I.wish _) hw) (fun _ _ q=>q.rm) fun _ _ z=>False.elim z
end
section
variable{X:Cx}{st:Stmt}{rest:List Stmt}{t u:TS}{e:Expr}{te:TE}{pos:Pos}
def Xw:TS:=fun D σ H=>D.nx σ H
def YH(t u:TS):TS:=fun D σ H=>t { D with nx:=u D } σ H
theorem bu:GZ X [] Xw:=fun _ _ σ H _ I h=>wpAny_execs_nil ⟨σ,H,I,h⟩
theorem aA(h1:PS X st t)(h2:GZ X rest u):GZ X (st::rest) (YH t u):=by
 intro pins s σ H D I h
 refine wpAny_execs_cons (dY (h1 pins s σ H { D with nx:=u D } I h) fun f s1 q=>?_)
 cases f with
 | next =>
  obtain⟨σ',H',I',q⟩:=q
  exact h2 pins s1 σ' H' D I' q
 | ret v=>exact q
 | brk=>exact q
 | cont=>exact q
theorem aF(h1:PS X st t):GZ X [st] t:=by
 intro pins s σ H D I h
 refine wpAny_execs_cons (dY (h1 pins s σ H D I h) fun f s1 q=>?_)
 cases f with
 | next=>exact wpAny_execs_nil q
 | ret v=>exact q
 | brk=>exact q
 | cont=>exact q
theorem Inv.quiet{pins:List (Addr×Obj)}{σ : St}{H:Hp}{s:Shared}(I:Inv X pins σ H s):interactive X.env=false:=by simp[interactive,I.ok.kind]
def Hb(te:TE):TS:=fun D σ H=>te σ H fun _ H1=>D.nx σ H1
theorem dJ(he:PE X e te)(hs:swapsWith e none pos.line X.env=pure false:=by rfl):PS X (.Expr e pos) (Hb te):=by
 intro pins s σ H D I h
 exact wpAny_Expr_any (dY (he pins s σ H _ I h) fun v s1 ⟨x,H1,I1,r1,q1⟩=>⟨σ,H1,I1,q1⟩) I.quiet hs
def VB(te:TE):TS:=fun D σ H=>te σ H D.rt
theorem bK(he:PE X e te):PS X (.Return (some e) pos) (VB te):=by
 intro pins s σ H D I h
 exact wpAny_Return_some (dY (he pins s σ H _ I h) fun v s1 ⟨x,H1,I1,r1,q1⟩=>⟨x,σ,H1,I1,r1,q1⟩)
def YJ(c:TT)(t u:TS):TS:=fun D σ H=>c σ H fun b H1=>if b=true then t D σ H1 else u D σ H1
theorem cD{c:Expr}{a b:List Stmt}{tc:TT}(hc:PT X c tc)(ha:GZ X a t)(hb:GZ X b u):PS X (.If c a b pos) (YJ tc t u):=by
 intro pins s σ H D I h
 refine wpAny_If (dY (hc pins s σ H _ I h) fun d s1 ⟨H1,I1,q1⟩=>?_)
 cases d with
 | true=>exact ha pins s1 σ H1 D I1 q1
 | false=>exact hb pins s1 σ H1 D I1 q1
def Q4:TS:=fun _ _ _=>False
theorem jE:PS X st Q4:=fun _ _ _ _ _ _ h=>h.elim
end
abbrev TG:=V→St→Hp→(St→Hp→Prop)→Prop
abbrev Qx:=List V→St→Hp→(St→Hp→Prop)→Prop
def PG(X:Cx)(target:Expr)(t:TG):Prop :=
 ∀ (pins:List (Addr×Obj)) (s:Shared) (σ : St) (H:Hp) (v:V) (u:Value) (Q:St→Hp→Prop),Inv X pins σ H s→RelV v u→t v σ H Q →
  wpAny (model X.prog X.w) X.A (assign target X.env u) (fun _ s'=>∃ σ' H',Inv X pins σ' H' s'∧Q σ' H') X.xe s
def Vm(X:Cx)(ts:List Expr)(t:Qx):Prop :=
 ∀ (pins:List (Addr×Obj)) (s:Shared) (σ : St) (H:Hp) (vs:List V) (us:List Value) (Q:St→Hp→Prop),Inv X pins σ H s→Vals vs us→t vs σ H Q →
  wpAny (model X.prog X.w) X.A (assignInOrder ((assignEach ts X.env).map (·.2)) us) (fun _ s'=>∃ σ' H',Inv X pins σ' H' s'∧Q σ' H') X.xe s
abbrev aas:=V→V→V→Hp→(Hp→Prop)→Prop
def acn(X:Cx)(t:aas):Prop :=
 ∀ (pins:List (Addr×Obj)) (s:Shared) (σ : St) (H:Hp) (o i v:V) (ov iv u:Value) (Q:Hp→Prop),Inv X pins σ H s→RelV o ov→RelV i iv→RelV v u→t o i v H Q →
  wpAny (model X.prog X.w) X.A (setItem ov iv u) (fun _ s'=>∃ H',Inv X pins σ H' s'∧Q H') X.xe s
section
variable{X:Cx}{pos:Pos}
def qH(i:Nat):TG:=fun v σ H Q=>Q (σ.set i (some v)) H
theorem bf{i:Nat}{x:Str}(hN:X.N.Nodup)(hi:X.N[i]? = some x)(hx:Loc X.env.scope x)(hf:X.fn x=true∨X.env.scope.names.lookup x=some .local:=by first|exact .inl rfl|exact .inr rfl|assumption):PG X (.Name x pos) (qH i):=by
 intro pins s σ H v u Q I r h
 exact wpAny_assign_Name (vm I hN hi hx r (fun s' I'=>⟨_,H,I',h⟩) hf)
def T6:Qx:=fun vs σ H Q=>vs=[]∧Q σ H
def Io(t:TG)(u:Qx):Qx:=fun vs σ H Q=>∃ v r,vs=v::r∧t v σ H fun σ' H'=>u r σ' H' Q
theorem lU:Vm X [] T6:=by
 intro pins s σ H vs us Q I r h
 obtain⟨e,h⟩:=h
 subst e
 cases r
 exact assignInOrder_nil ⟨σ,H,I,h⟩
theorem cM{e:Expr}{es:List Expr}{t:TG}{u:Qx}(h1:PG X e t)(h2:Vm X es u)
 (hs:(assignEach (e::es) X.env).map (·.2)=assign e X.env::(assignEach es X.env).map (·.2):=by rfl):Vm X (e::es) (Io t u):=by
 intro pins s σ H vs us Q I r h
 obtain⟨v,vr,e1,h⟩:=h
 subst e1
 cases r with
 | cons r rr =>
  rw[hs]
  refine assignInOrder_cons (dY (h1 pins s σ H _ _ _ I r h) fun _ s1 ⟨σ1,H1,I1,q1⟩=>?_)
  exact h2 pins s1 σ1 H1 _ _ Q I1 rr q1
def ZZ(K:PySem.W.Frag)(n:Nat)(t:Qx):TG:=fun v σ H Q=>∃ a xs,v=.ref a∧yO K H a xs∧xs.length=n∧t xs σ H Q
theorem p6{es:List Expr}{k:Nat}{t:Qx}{n:Nat}(hc:X.calm=true)(h:Vm X es t)
 (hn:(assignEach es X.env).length=n:=by rfl) (hst:(assignEach es X.env).findIdx? (·.1)=none:=by rfl):PG X (.Tuple es k pos) (ZZ X.K n t):=by
 intro pins s σ H v u Q I r hw
 obtain⟨a,xs,e1,hq,hl,hw⟩:=hw
 subst e1
 cases r
 obtain⟨its,rv,ht,hz⟩:=I.tuple hq
 refine assign_Tuple_tuple (I.ok.hd hc) ht (by simp[hn,← hl,rv.length]) hst fun h' hx=>?_
 have I1:Inv X pins σ H { s with heap:=h' }:=I.kept (t':=s.toks) fun b o e=>hx b o (Nat.ne_of_lt (Heap.lt_size e)) e
 exact h pins _ σ H xs _ Q I1 (by simpa using rv) hw
def ab0(to ti:TE)(t:aas):TG:=fun v σ H Q=>to σ H fun o H1=>ti σ H1 fun i H2=>t o i v H2 fun H3=>Q σ H3
theorem RL{o i:Expr}{to ti:TE}{t:aas}(ho:PE X o to)(hi:PE X i ti)(hs:acn X t)
 (ha:∀ v,assign (.Subscript o i pos) X.env v=(do
  let ov ← holding [v] (eval o X.env)
  let iv ← holding [v,ov] (eval i X.env)
  standAt pos
  holding [v,ov,iv] (setItem ov iv v)
  release [v,ov,iv] []):=by intro _;rfl):PG X (.Subscript o i pos) (ab0 to ti t):=by
 intro pins s σ H v u Q I r h
 rw[ha]
 refine wpAny_bind (wpAny_holding (dY (ho pins s σ H _ I h) fun ov s1 ⟨x,H1,I1,r1,q1⟩=>?_))
 refine wpAny_bind (wpAny_holding (dY (hi pins s1 σ H1 _ I1 q1) fun iv s2 ⟨y,H2,I2,r2,q2⟩=>?_))
 refine wpAny_bind (wpAny_standAt (wpAny_bind (wpAny_holding (dY (hs pins s2 σ H2 x y v ov iv u _ I2 r1 r2 r q2) fun _ s3 ⟨H3,I3,q3⟩=>?_))))
 exact wpAny_release ⟨σ,H3,I3,q3⟩
def Hf(te:TE)(g:TG):TS:=fun D σ H=>te σ H fun x H1=>g x σ H1 D.nx
theorem Ej{tg e:Expr}{te:TE}{g:TG}(he:PE X e te)(hg:PG X tg g)(hs:swapsWithSole [tg] e pos.line X.env=pure false:=by rfl)(hw:swappedStores [tg] e X.env=pure none:=by rfl)
 (h1:(assignEach [tg] X.env).map (·.2)=[assign tg X.env]:=by rfl):PS X (.Assign [tg] e pos) (Hf te g):=by
 intro pins s σ H D I h
 refine wpAny_Assign_stores (dY (he pins s σ H _ I h) fun v s1 ⟨x,H1,I1,r1,q1⟩=>?_) hs hw
 rw[h1]
 exact dY (hg pins s1 σ H1 x v _ I1 r1 q1) fun _ s2 q=>q
theorem bH{i:Nat}{x:Str}{e:Expr}{te:TE}{pos':Pos}(hN:X.N.Nodup)(hi:X.N[i]? = some x)(hx:Loc X.env.scope x)(he:PE X e te)(hs:swapsWith e (some (.Name x pos')) pos.line X.env=pure false:=by rfl)(hf:X.fn x=true∨X.env.scope.names.lookup x=some .local:=by first|exact .inl rfl|exact .inr rfl|assumption) :
 PS X (.Assign [.Name x pos'] e pos) (Hf te (qH i)):=by
 intro pins s σ H D I h
 refine wpAny_Assign_Name (dY (he pins s σ H _ I h) fun v s1 ⟨y,H1,I1,r1,q1⟩=>?_) hs
 exact vm I1 hN hi hx r1 (fun s2 I2=>⟨_,H1,I2,q1⟩) hf
end
section
variable{X:Cx}{pos:Pos}
def QX(c:TT)(tb:TS):TS:=fun D σ H=>∃ W:Nat→St→Hp→Prop,(∃ m,W m σ H)∧∀ m σ H,W m σ H →
 c σ H fun b H1=>if b=true then ∃ N:St→Hp→Prop,(∀ σ' H',N σ' H'→∃ m',m' < m∧W m' σ' H')∧tb { D with nx:=N,ct:=N,bk:=D.nx } σ H1 else D.nx σ H1
theorem RG{c:Expr}{body:List Stmt}{tc:TT}{tb:TS}(hp:PassesOwn (model X.prog X.w) X.A X.env X.xe)(hc:PT X c tc)(hb:GZ X body tb):PS X (.While c body [] pos) (QX tc tb):=by
 intro pins s σ H D I h
 obtain⟨W,⟨m0,w0⟩,turn⟩:=h
 refine wpAny_While (codeAny_whileLoop (fun n s'=>∃ σ' H',Inv X pins σ' H' s'∧W n σ' H') ?_ m0 ⟨σ,H,I,w0⟩)
 rintro n s1 ⟨σ1,H1,I1,w1⟩
 refine wpAny_passesOwn hp (dY (hc pins s1 σ1 H1 _ I1 (turn n σ1 H1 w1)) fun b s2 ⟨H2,I2,q2⟩=>?_)
 cases b with
 | true =>
  obtain⟨N,hN,q2⟩:=q2
  rw[if_pos rfl]
  refine wpAny_passesOwn hp (dY (hb pins s2 σ1 H2 _ I2 q2) fun f s3 q3=>?_)
  cases f with
  | next =>
   obtain⟨σ3,H3,I3,n3⟩:=q3
   obtain⟨m',hm,w3⟩:=hN σ3 H3 n3
   exact⟨m',hm,σ3,H3,I3,w3⟩
  | cont =>
   obtain⟨σ3,H3,I3,n3⟩:=q3
   obtain⟨m',hm,w3⟩:=hN σ3 H3 n3
   exact⟨m',hm,σ3,H3,I3,w3⟩
  | brk=>exact q3
  | ret v=>exact q3
 | false =>
  rw[if_neg Bool.false_ne_true]
  exact wpAny_execs_nil ⟨σ1,H2,I2,q2⟩
end
structure It where
 go:Nat→Hp→Prop
 yld:Nat→Hp→V→Hp→Prop
 stop:Nat→Hp→Prop
def pN(X:Cx)(pins:List (Addr×Obj))(H:Hp)(b:Addr):Prop :=
 H b=none∧b≠X.env.locals∧b∉X.fs∧(b∈X.ex∨X.s₀.heap.objs.size≤b)∧(∀ x c,X.env.cells.lookup x=some c→c≠b)∧∀ p∈X.pn++pins,p.1≠b
theorem Inv.uO{X:Cx}{pins:List (Addr×Obj)}{σ : St}{H H':Hp}{s:Shared}{b:Addr}(I:Inv X pins σ H s)(hb:s.heap.objs.size≤b)(hn:H' b=none):pN X pins H' b:=by
 refine⟨hn,Nat.ne_of_gt (Nat.lt_of_lt_of_le I.lt hb),I.acZ hb,.inr (Nat.le_trans I.sz hb),fun x c e z=>?_,fun p hp z=>?_⟩
 ·obtain⟨v,q⟩:=I.cell x c e
  exact absurd (Nat.lt_of_lt_of_le q.lt (by rw[z];exact hb)) (Nat.lt_irrefl _)
 ·exact absurd (Nat.lt_of_lt_of_le (Heap.lt_size (I.pin p hp).1) (by rw[z];exact hb)) (Nat.lt_irrefl _)
structure Turn(P:Program)(w:World)(K:PySem.W.Frag)(tg:Expr)(J:It)(fp:List Addr)(it:Addr)(tn:Nat→Heap→Prop):Prop where
 mem:it∈fp
 obj:∀ i h,tn i h→∀ b∈fp,∃ o,h.get? b=some o∧∀ v,o.data≠.cell v
 keep:∀ i h h',tn i h→(∀ b∈fp,∀ o,h.get? b=some o→h'.get? b=some o)→tn i h'
 item:∀ (X:Cx),X.prog=P→X.w=w→X.K=K→X.calm=true→∀ (i:Nat) (pins:List (Addr×Obj)) (s:Shared) (σ : St) (H:Hp) (E:Value→Shared→Prop),Inv X pins σ H s→(∀ b∈fp,pN X pins H b)→tn i s.heap→J.go i H →
  wpAny (model P w) X.A (pyNext (.ref it)) (fun r s1=>∃ u,r=some u ∧
   wpAny (model P w) X.A (letOwnedTupleGo tg (.ref it) u) (fun _ s2=>∃ x H',Inv X pins σ H' s2∧RelV x u∧J.yld i H x H'∧tn (i+1) s2.heap∧∀ b∈fp,H' b=none) E s1) E s
 done:∀ (X:Cx),X.prog=P→X.w=w→X.K=K→X.calm=true→∀ (i:Nat) (pins:List (Addr×Obj)) (s:Shared) (σ : St) (H:Hp) (E:Value→Shared→Prop),Inv X pins σ H s→(∀ b∈fp,pN X pins H b)→tn i s.heap→J.stop i H →
  wpAny (model P w) X.A (pyNext (.ref it)) (fun r s1=>r=none∧Inv X pins σ H s1) E s
 self:∀ (A:Around) (i:Nat) (s:Shared) (Q:Value→Shared→Prop) (E:Value→Shared→Prop),tn i s.heap→Q (.ref it) s→wpAny (model P w) A (pyIter (.ref it)) Q E s
abbrev TI:=St→Hp→(It→Hp→Prop)→Prop
def PIE(X:Cx)(pins:List (Addr×Obj))(σ : St)(tg:Expr)(R:It→Hp→Prop)(itv:Value)(s2:Shared):Prop :=
 ∃ (it:Addr) (fp:List Addr) (tn:Nat→Heap→Prop) (J:It) (H':Hp),itv=.ref it∧Inv X pins σ H' s2∧Turn X.prog X.w X.K tg J fp it tn∧tn 0 s2.heap∧(∀ b∈fp,pN X pins H' b)∧R J H'
def PI(X:Cx)(tg iter:Expr)(wi:TI):Prop :=
 ∀ (pins:List (Addr×Obj)) (s:Shared) (σ : St) (H:Hp) (R:It→Hp→Prop),Inv X pins σ H s→wi σ H R →
  wpAny (model X.prog X.w) X.A (eval iter X.env) (fun v s1=>wpAny (model X.prog X.w) X.A (pyIter v) (PIE X pins σ tg R) X.xe s1) X.xe s
theorem Ng{M:Model}{A:Around}{E:Value→Shared→Prop}{s:Shared}{tg:Expr}{it:Addr}{u:Value}{o:Obj}{n:String}{vs:Array Value}{Q:Unit→Shared→Prop}(ho:s.heap.get? it=some o)(hc:o.cls=.type n)(hd:o.data=.fields vs)
 (hn:["enumerate", "zip", "dict_itemiterator", "dict_reverseitemiterator", "odict_iterator", "itertools.zip_longest", "itertools.pairwise"].contains n=false) (hQ:Q () s):wpAny M A (letOwnedTupleGo tg (.ref it) u) Q E s:=by
 unfold letOwnedTupleGo
 cases tg<;>first
  | exact wpAny_pure hQ
  | (cases u<;>first
   | exact wpAny_pure hQ
   | (refine wpAny_bind (wpAny_load ho ?_)
      rw[hc,hd]
      show wpAny M A (if (["enumerate", "zip", "dict_itemiterator", "dict_reverseitemiterator", "odict_iterator", "itertools.zip_longest", "itertools.pairwise"].contains n && vs[0]? == some (rawInt _))=true then _ else _) Q E s
      rw[if_neg (by intro h;rw[hn,Bool.false_and] at h;cases h)]
      exact wpAny_pure hQ))
def Itl(K:PySem.W.Frag)(a:Addr):It :=
 ⟨fun i H=>∃ xs x,uW K H a xs∧xs[i]? = some x,fun i H x H'=>H'=H∧∀ xs,uW K H a xs→xs[i]? = some x,fun i H=>∃ xs,uW K H a xs∧xs.length≤i⟩
def Itt(K:PySem.W.Frag)(a:Addr):It :=
 ⟨fun i H=>∃ xs x,yO K H a xs∧xs[i]? = some x,fun i H x H'=>H'=H∧∀ xs,yO K H a xs→xs[i]? = some x,fun i H=>∃ xs,yO K H a xs∧xs.length≤i⟩
def Itr(lo:Int)(n:Nat):It:=⟨fun i _=>i < n,fun i H x H'=>H'=H∧x=.int (lo+i),fun i _=>n≤i⟩
theorem N8{P:Program}{w:World}{K:PySem.W.Frag}{tg:Expr}(a it:Addr):Turn P w K tg (Itl K a) [it] it (fun i h=>h.IsListIter it a i) where
 mem:=by simp
 obj:=fun i h st b hb=>by
  have e:b=it:=by simpa using hb
  subst e
  obtain⟨o,e,c,d⟩:=st
  exact⟨o,e,fun v z=>by rw[d] at z;cases z⟩
 keep:=fun i h h' st k=>st.at fun o e=>k it (by simp) o e
 item:=by
  intro X hP hw hK hc i pins s σ H E I hf st hg
  subst hP hw hK
  obtain⟨xs,x,hq,hx⟩:=hg
  obtain⟨its,rv,p,hz⟩:=I.list hq
  obtain⟨u,hu,ru⟩:=rv.get hx
  obtain⟨f0,f1,f2,f3,f4,f5⟩:=hf it (by simp)
  refine wpAny_pyNext_list_item st p.isList (x:=u) (by simpa using hu) fun h' st' sb=>?_
  have I1:Inv X pins σ H { s with heap:=h' }:=I.turned (t':=s.toks) (fun b o hb e=>(sb.2 b hb).trans e) f0 f1 f3 f4 f5
  obtain⟨o,e,c,d⟩:=id st'
  exact⟨u,rfl,Ng (s:={ s with heap:=h' }) e c d (by decide) ⟨x,H,I1,ru,⟨rfl,fun ys hy=>by rw[I.vK hy hq];exact hx⟩,st',fun b hb=>(hf b hb).1⟩⟩
 done:=by
  intro X hP hw hK hc i pins s σ H E I hf st hg
  subst hP hw hK
  obtain⟨xs,hq,hx⟩:=hg
  obtain⟨its,rv,p,hz⟩:=I.list hq
  obtain⟨f0,f1,f2,f3,f4,f5⟩:=hf it (by simp)
  have hl:=rv.length
  exact wpAny_pyNext_list_end (I.ok.hd hc) st p.isList (by simp;omega) fun h' eb=>⟨rfl,I.turned (t':=s.toks) (fun b o hb e=>eb b o hb e) f0 f1 f3 f4 f5⟩
 self:=fun _ _ _ _ _ st h=>wpAny_pyIter_listiter st h
theorem JQ{P:Program}{w:World}{K:PySem.W.Frag}{tg:Expr}(a it:Addr):Turn P w K tg (Itt K a) [it] it (fun i h=>h.IsTupleIter it a i) where
 mem:=by simp
 obj:=fun i h st b hb=>by
  have e:b=it:=by simpa using hb
  subst e
  obtain⟨o,e,c,d⟩:=st
  exact⟨o,e,fun v z=>by rw[d] at z;cases z⟩
 keep:=fun i h h' st k=>st.at fun o e=>k it (by simp) o e
 item:=by
  intro X hP hw hK hc i pins s σ H E I hf st hg
  subst hP hw hK
  obtain⟨xs,x,hq,hx⟩:=hg
  obtain⟨its,rv,p,hz⟩:=I.tuple hq
  obtain⟨u,hu,ru⟩:=rv.get hx
  obtain⟨f0,f1,f2,f3,f4,f5⟩:=hf it (by simp)
  refine wpAny_pyNext_tuple_item st (show s.heap.IsTuple a its.toArray from p) (x:=u) (by simpa using hu) fun h' st' sb=>?_
  have I1:Inv X pins σ H { s with heap:=h' }:=I.turned (t':=s.toks) (fun b o hb e=>(sb.2 b hb).trans e) f0 f1 f3 f4 f5
  obtain⟨o,e,c,d⟩:=id st'
  exact⟨u,rfl,Ng (s:={ s with heap:=h' }) e c d (by decide) ⟨x,H,I1,ru,⟨rfl,fun ys hy=>by rw[I.wu hy hq];exact hx⟩,st',fun b hb=>(hf b hb).1⟩⟩
 done:=by
  intro X hP hw hK hc i pins s σ H E I hf st hg
  subst hP hw hK
  obtain⟨xs,hq,hx⟩:=hg
  obtain⟨its,rv,p,hz⟩:=I.tuple hq
  obtain⟨f0,f1,f2,f3,f4,f5⟩:=hf it (by simp)
  have hl:=rv.length
  exact wpAny_pyNext_tuple_end (I.ok.hd hc) st (show s.heap.IsTuple a its.toArray from p) (by simp;omega) fun h' eb=>⟨rfl,I.turned (t':=s.toks) (fun b o hb e=>eb b o hb e) f0 f1 f3 f4 f5⟩
 self:=fun _ _ _ _ _ st h=>wpAny_pyIter_tupleiter st h
theorem JR{P:Program}{w:World}{K:PySem.W.Frag}{tg:Expr}(it:Addr)(lo:Int)(n:Nat):Turn P w K tg (Itr lo n) [it] it (fun i h=>IsRangeIter h it (lo+(i:Nat) * 1) ((n:Int) - (i:Nat)) 1) where
 mem:=by simp
 obj:=fun i h st b hb=>by
  have e:b=it:=by simpa using hb
  subst e
  exact⟨_,st,fun v z=>by
   have z':Data.fields _=Data.cell v:=z
   cases z'⟩
 keep:=fun i h h' st k=>k it (by simp) _ st
 item:=by
  intro X hP hw hK hc i pins s σ H E I hf st hg
  subst hP hw hK
  obtain⟨f0,f1,f2,f3,f4,f5⟩:=hf it (by simp)
  have W:=Walks.range (prog:=X.prog) (w:=X.w) (I.ok.hd hc) it lo 1 n
  refine W.item i s _ _ hg st fun v h' tk hv st' kk=>?_
  obtain⟨t,rfl⟩:=hv
  have I1:Inv X pins σ H { s with heap:=h',toks:=tk }:=I.turned (fun b o hb e=>kk b o (by simpa using hb) e) f0 f1 f3 f4 f5
  refine⟨_,rfl,Ng (s:={ s with heap:=h',toks:=tk }) (n := "range_iterator") st' rfl rfl (by decide) ⟨.int (lo+i),H,I1,⟨t,?_⟩,⟨rfl,rfl⟩,st',fun b hb=>(hf b hb).1⟩⟩
  rw[Int.mul_one]
 done:=by
  intro X hP hw hK hc i pins s σ H E I hf st hg
  subst hP hw hK
  obtain⟨f0,f1,f2,f3,f4,f5⟩:=hf it (by simp)
  exact wpAny_pyNext_range_end (I.ok.hd hc) st (by have:n≤i:=hg;omega) fun h' eb=>⟨rfl,I.turned (t':=s.toks) (fun b o hb e=>eb b o hb e) f0 f1 f3 f4 f5⟩
 self:=fun _ _ _ _ _ st h=>wpAny_pyIter_rangeiter st h
end L2
namespace L2
open PySem PySem.Spec PyProof.Rows
section
variable{X:Cx}{tg:Expr}
def Yd(K:PySem.W.Frag)(tl:TE):TI:=fun σ H R=>tl σ H fun x H1=>∃ a,x=.ref a∧(∃ xs,uW K H1 a xs)∧R (Itl K a) H1
def abQ(K:PySem.W.Frag)(tl:TE):TI:=fun σ H R=>tl σ H fun x H1=>∃ a,x=.ref a∧(∃ xs,yO K H1 a xs)∧R (Itt K a) H1
theorem V5{l:Expr}{tl:TE}(hl:PE X l tl):PI X tg l (Yd X.K tl):=by
 intro pins s σ H R I h
 refine dY (hl pins s σ H _ I h) fun v s1 ⟨x,H1,I1,r1,q1⟩=>?_
 obtain⟨a,e,⟨xs,hq⟩,q⟩:=q1
 subst e
 cases r1
 obtain⟨its,rv,p,hz⟩:=I1.list hq
 refine wpAny_pyIter_list p.isList ?_
 refine⟨s1.heap.objs.size,[s1.heap.objs.size],_,_,H1,rfl,I1.kept (t':=s1.toks) fun b o e=>Heap.get?_push_of_some _ e,N8 a _,⟨_,Heap.get?_push_size _ rfl,rfl,rfl⟩,fun b hb=>?_,q⟩
 have e:b=s1.heap.objs.size:=by simpa using hb
 subst e
 exact I1.uO (Nat.le_refl _) (I1.hok.fresh (Nat.le_refl _))
theorem Y7{l:Expr}{tl:TE}(hl:PE X l tl):PI X tg l (abQ X.K tl):=by
 intro pins s σ H R I h
 refine dY (hl pins s σ H _ I h) fun v s1 ⟨x,H1,I1,r1,q1⟩=>?_
 obtain⟨a,e,⟨xs,hq⟩,q⟩:=q1
 subst e
 cases r1
 obtain⟨its,rv,p,hz⟩:=I1.tuple hq
 refine wpAny_pyIter_tuple (show s1.heap.IsTuple a its.toArray from p) ?_
 refine⟨s1.heap.objs.size,[s1.heap.objs.size],_,_,H1,rfl,I1.kept (t':=s1.toks) fun b o e=>Heap.get?_push_of_some _ e,JQ a _,⟨_,Heap.get?_push_size _ rfl,rfl,rfl⟩,fun b hb=>?_,q⟩
 have e:b=s1.heap.objs.size:=by simpa using hb
 subst e
 exact I1.uO (Nat.le_refl _) (I1.hok.fresh (Nat.le_refl _))
theorem Rp{pins:List (Addr×Obj)}{σ : St}{H:Hp}{s:Shared}{R:It→Hp→Prop}{E:Value→Shared→Prop}{lo hi:Int}{t u v:Tok}{tk:Nat}(I:Inv X pins σ H s)(h1:-(2 ^ 62)≤lo)(h2:lo < 2 ^ 62)(h3:-(2 ^ 62)≤hi)(h4:hi < 2 ^ 62)
 (q:R (Itr lo (hi - lo).toNat) H):wpAny (model X.prog X.w) X.A (pyIter (.ref s.heap.objs.size)) (PIE X pins σ tg R) E { s with heap:=s.heap.push { cls:=.type "range", data:=.fields #[.int lo t,.int hi u,.int 1 v] },toks:=tk }:=by
 refine wpAny_pyIter_range (IsRange.new ..) (small_one h1 h2 h3 h4) ?_
 have I1:Inv X pins σ H { s with heap:=s.heap.push { cls:=.type "range", data:=.fields #[.int lo t,.int hi u,.int 1 v] },toks:=tk }:=I.kept fun b o e=>Heap.get?_push_of_some _ e
 refine⟨(s.heap.push { cls:=.type "range", data:=.fields #[.int lo t,.int hi u,.int 1 v] }).objs.size,[(s.heap.push { cls:=.type "range", data:=.fields #[.int lo t,.int hi u,.int 1 v] }).objs.size],_,_,H,rfl,
  I1.kept (t':=tk) fun b o e=>Heap.get?_push_of_some _ e,JR _ lo (hi - lo).toNat,?_,fun b hb=>?_,q⟩
 ·have e1:lo+((0:Nat):Int) * 1=lo:=by simp
  have e2:(((hi - lo).toNat:Nat):Int) - ((0:Nat):Int)=Builtin.Range.rangeSize lo hi 1:=by rw[rangeSize_one];split<;>omega
  show IsRangeIter _ _ (lo+((0:Nat):Int) * 1) ((((hi - lo).toNat:Nat):Int) - ((0:Nat):Int)) 1
  rw[e1,e2]
  exact Heap.get?_push_size _ rfl
 ·have e:b=(s.heap.push { cls:=.type "range", data:=.fields #[.int lo t,.int hi u,.int 1 v] }).objs.size:=by simpa using hb
  subst e
  exact I1.uO (Nat.le_refl _) (I1.hok.fresh (Nat.le_refl _))
def Yb(ta:TA):TI:=fun σ H R=>ta σ H fun vs H1=>∃ j:Int,vs=[.int j]∧-(2 ^ 62)≤j∧j < 2 ^ 62∧R (Itr 0 j.toNat) H1
theorem iz{a:Expr}{ta:TA}{p pos:Pos}(hg:Gl X "range")(hm:X.mg "range" = none)(ha:PA X [a] ta)(hs:starEach [a] X.env=[(false,eval a X.env)]:=by rfl):PI X tg (.Call (.Name "range" p) [a] [] pos) (Yb ta):=by
 intro pins s σ H R I h
 refine Call_ (uM I hg hm boot_range (PyProof.Rows.callWith_type1 (dY (ha pos pins s σ H _ I h) fun us s1 ⟨vs,H1,I1,r1,q1⟩=>?_) hs rfl))
 obtain⟨j,e,q1,q2,q⟩:=q1
 subst e
 cases r1 with
 | cons r rr =>
  cases rr
  obtain⟨t,rfl⟩:=r
  exact call_range_1 (Rp I1 (by omega) (by omega) q1 q2 (by simpa using q))
def YK(wi:TI)(g:TG)(tb:TS):TS:=fun D σ H=>wi σ H fun J H1=>∃ W:Nat→Nat→St→Hp→Prop,(∃ m,W 0 m σ H1)∧∀ i m σ H,W i m σ H →
 (J.stop i H∧D.nx σ H)∨(J.go i H∧∃ N:St→Hp→Prop,(∀ σ' H',N σ' H'→∃ m',m' < m∧W (i+1) m' σ' H')∧∀ x H',J.yld i H x H'→g x σ H' fun σ2 H2=>tb { D with nx:=N,ct:=N,bk:=D.nx } σ2 H2)
def El(fp:List Addr)(h:Heap):List (Addr×Obj):=fp.filterMap fun b=>(h.get? b).map fun o=>(b,o)
theorem jY{fp:List Addr}{h:Heap}{b:Addr}{o:Obj}(hb:b∈fp)(e:h.get? b=some o):(b,o)∈El fp h:=List.mem_filterMap.mpr ⟨b,hb,by rw[e];rfl⟩
theorem O2{fp:List Addr}{h:Heap}{p:Addr×Obj}(hp:p∈El fp h):p.1∈fp∧h.get? p.1=some p.2:=by
 obtain⟨b,hb,e⟩:=List.mem_filterMap.mp hp
 cases q:h.get? b with
 | none=>rw[q] at e;cases e
 | some o =>
  rw[q] at e
  have e':(b,o)=p:=Option.some.inj e
  subst e'
  exact⟨hb,q⟩
theorem Inv.pinned{pins:List (Addr×Obj)}{σ : St}{H:Hp}{s:Shared}{fp:List Addr}(I:Inv X pins σ H s)(hf:∀ b∈fp,pN X pins H b)(ho:∀ b∈fp,∃ o,s.heap.get? b=some o∧∀ v,o.data≠.cell v):Inv X (pins++El fp s.heap) σ H s :=
 I.Ek fun p hp=>(List.mem_append.mp hp).elim (fun z=>I.pin p (List.mem_append_right _ z)) fun z=>by
  obtain⟨hb,e⟩:=O2 z
  obtain⟨f0,f1,f2,_⟩:=hf p.1 hb
  obtain⟨o,e',d⟩:=ho p.1 hb
  rw[e] at e';cases e'
  exact⟨e,f0,f1,f2,d⟩
theorem Inv.oN{pins pl:List (Addr×Obj)}{σ : St}{H:Hp}{s:Shared}(I:Inv X (pins++pl) σ H s):Inv X pins σ H s:=I.Ek fun p hp=>I.pin p (List.mem_append_right _ (List.mem_append_left _ hp))
theorem jF{iter:Expr}{body:List Stmt}{wi:TI}{g:TG}{tb:TS}{pos:Pos}(hp:PassesOwn (model X.prog X.w) X.A X.env X.xe)(hc:X.calm=true)(hi:PI X tg iter wi)(hg:PG X tg g)(hb:GZ X body tb)
 (hs:∀ x,foldedSetIterable iter X.env x=pure x:=by intro _;rfl):PS X (.For tg iter body [] pos) (YK wi g tb):=by
 intro pins s σ H D I h
 refine wpAny_For (dY (hi pins s σ H _ I h) fun v s1 h1=>dY h1 fun itv s2 h2=>?_) hs
 obtain⟨it,fp,tn,J,H2,e,I2,T,st2,f2,W,⟨m0,w0⟩,turn⟩:=h2
 subst e
 have stat:∀ {H':Hp},(∀ b∈fp,H' b=none)→∀ b∈fp,pN X pins H' b:=fun hn b hb=>⟨hn b hb,(f2 b hb).2⟩
 refine codeAny_forLoop_any (fun n s'=>∃ i σ' H',Inv X pins σ' H' s'∧tn i s'.heap∧(∀ b∈fp,H' b=none)∧W i n σ' H') ?_ m0 ⟨0,σ,H2,I2,st2,fun b hb=>(f2 b hb).1,w0⟩
 rintro n s3 ⟨i,σ3,H3,I3,st3,fr3,w3⟩
 rcases turn i n σ3 H3 w3 with ⟨stop,qn⟩|⟨go,N,hN,step⟩
 ·refine wpAny_passesOwn hp (dY (T.done X rfl rfl rfl hc i pins s3 σ3 H3 X.xe I3 (stat fr3) st3 stop) fun r s4 ⟨hr,I4⟩=>?_)
  subst hr
  exact wpAny_execs_nil ⟨σ3,H3,I4,qn⟩
 ·refine wpAny_passesOwn hp (dY (T.item X rfl rfl rfl hc i pins s3 σ3 H3 X.xe I3 (stat fr3) st3 go) fun r s4 ⟨u,hr,h4⟩=>?_)
  subst hr
  refine wpAny_passesOwn hp (dY h4 fun _ s5 ⟨x,H5,I5,r5,y5,st5,fr5⟩=>?_)
  have I5':=I5.pinned (stat fr5) (T.obj _ _ st5)
  refine wpAny_passesOwn hp (dY (hg _ s5 σ3 H5 x u _ I5' r5 (step x H5 y5)) fun _ s6 ⟨σ6,H6,I6,q6⟩=>?_)
  refine wpAny_passesOwn hp (dY (hb _ s6 σ6 H6 _ I6 q6) fun f s7 q7=>?_)
  have again:∀ {σ7:St} {H7:Hp},Inv X (pins++El fp s5.heap) σ7 H7 s7→N σ7 H7→∃ m,m < n∧∃ i σ' H',Inv X pins σ' H' s7∧tn i s7.heap∧(∀ b∈fp,H' b=none)∧W i m σ' H':=fun {σ7 H7} I7 n7=>by
   obtain⟨m',hm,w7⟩:=hN σ7 H7 n7
   refine⟨m',hm,i+1,σ7,H7,I7.oN,T.keep _ _ _ st5 fun b hb o e=>(I7.pin (b,o) (List.mem_append_right _ (List.mem_append_right _ (jY hb e)))).1,fun b hb=>?_,w7⟩
   obtain⟨o,e,d⟩:=T.obj _ _ st5 b hb
   exact(I7.pin (b,o) (List.mem_append_right _ (List.mem_append_right _ (jY hb e)))).2.1
  cases f with
  | next=>obtain⟨σ7,H7,I7,n7⟩:=q7;exact again I7 n7
  | cont=>obtain⟨σ7,H7,I7,n7⟩:=q7;exact again I7 n7
  | brk=>obtain⟨σ7,H7,I7,q7⟩:=q7;exact⟨σ7,H7,I7.oN,q7⟩
  | ret v=>obtain⟨x7,σ7,H7,I7,r7,q7⟩:=q7;exact⟨x7,σ7,H7,I7.oN,r7,q7⟩
end
end L2
namespace L2
open PySem PySem.Spec PyProof.Rows
abbrev R2:=V→V→Hp→VK→Prop
def pM(X:Cx)(f:Value→Value→Sem Value)(r:R2):Prop :=
 ∀ (pins:List (Addr×Obj)) (s:Shared) (σ : St) (H:Hp) (x y:V) (v u:Value) (Q:VK),Inv X pins σ H s→RelV x v→RelV y u→r x y H Q →
  wpAny (model X.prog X.w) X.A (f v u) (EP X pins σ Q) X.xe s
def UnR(X:Cx)(f:Value→Sem Value)(r:V→Hp→VK→Prop):Prop :=
 ∀ (pins:List (Addr×Obj)) (s:Shared) (σ : St) (H:Hp) (x:V) (v:Value) (Q:VK),Inv X pins σ H s→RelV x v→r x H Q →
  wpAny (model X.prog X.w) X.A (f v) (EP X pins σ Q) X.xe s
def ik(X:Cx)(f:Value)(r:List V→Hp→VK→Prop):Prop :=
 ∀ (pins:List (Addr×Obj)) (s:Shared) (σ : St) (H:Hp) (xs:List V) (us:List Value) (Q:VK),Inv X pins σ H s→Vals xs us→r xs H Q →
  wpAny (model X.prog X.w) X.A (call f us) (EP X pins σ Q) X.xe s
def adA(X:Cx)(r:V→Hp→(Bool→Hp→Prop)→Prop):Prop :=
 ∀ (pins:List (Addr×Obj)) (s:Shared) (σ : St) (H:Hp) (x:V) (v:Value) (Q:Bool→Hp→Prop),Inv X pins σ H s→RelV x v→r x H Q →
  wpAny (model X.prog X.w) X.A (truthy v) (TP X pins σ Q) X.xe s
def tOp(r:R2)(ta tb:TE):TE:=fun σ H Q=>ta σ H fun x H1=>tb σ H1 fun y H2=>r x y H2 Q
def tUn(r:V→Hp→VK→Prop)(ta:TE):TE:=fun σ H Q=>ta σ H fun x H1=>r x H1 Q
def rI(C:Int→Int→Prop)(g:Int→Int→V):R2:=fun x y H Q=>∃ i j,x=.int i∧y=.int j∧C i j∧Q (g i j) H
def Qu(g:Int→Int→V):R2:=fun x y H Q=>∃ i j,x=.int i∧y=.int j∧Q (g i j) H
def rU(g:Int→V):V→Hp→VK→Prop:=fun x H Q=>∃ i,x=.int i∧Q (g i) H
section
variable{X:Cx}{a b c:Expr}{ta tb tc:TE}{pos:Pos}
theorem aae(ha:PE X a ta)(hb:PE X b tb){pins:List (Addr×Obj)}{s:Shared}{σ : St}{H:Hp}{R:V→V→Hp→Prop}(I:Inv X pins σ H s)
 (h:ta σ H fun x H1=>tb σ H1 fun y H2=>R x y H2) {Q:Value→Shared→Prop} {f:Value→Value→Sem Value}
 (hf:∀ v u s2 x y H2,Inv X pins σ H2 s2→RelV x v→RelV y u→R x y H2→wpAny (model X.prog X.w) X.A (f v u) Q X.xe s2) :
 wpAny (model X.prog X.w) X.A (eval a X.env) (fun v s₁=>wpAny (model X.prog X.w) X.A (eval b X.env) (fun u s₂=>wpAny (model X.prog X.w) X.A (f v u) Q X.xe s₂) X.xe s₁) X.xe s:=by
 refine dY (ha pins s σ H _ I h) fun v s1 ⟨x,H1,I1,r1,q1⟩=>?_
 refine dY (hb pins s1 σ H1 _ I1 q1) fun u s2 ⟨y,H2,I2,r2,q2⟩=>?_
 exact hf v u s2 x y H2 I2 r1 r2 q2
theorem aW{op:Operator}{r:R2}(ho:pM X (binaryOp op) r)(ha:PE X a ta)(hb:PE X b tb):PE X (.BinOp a op b pos) (tOp r ta tb):=by
 intro pins s σ H Q I h
 exact wpAny_BinOp (aae ha hb I h fun v u s2 x y H2 I2 rx ry q=>ho pins s2 σ H2 x y v u Q I2 rx ry q)
theorem abm{op:UnaryOp}{r:V→Hp→VK→Prop}(ho:UnR X (unaryOp op) r)(ha:PE X a ta):PE X (.UnaryOp op a pos) (tUn r ta):=by
 intro pins s σ H Q I h
 exact UnaryOp_ (dY (ha pins s σ H _ I h) fun v s1 ⟨x,H1,I1,r1,q1⟩=>ho pins s1 σ H1 x v Q I1 r1 q1)
theorem opI{f:Value→Value→Sem Value}{C:Int→Int→Prop}{g:Int→Int→Int}
 (rule:∀ (i j:Int) (t u:Tok) (s:Shared) (Q:Value→Shared→Prop) (E:Value→Shared→Prop),C i j→Q (.int (g i j) s.toks) { s with toks:=s.toks+1 }→wpAny (model X.prog X.w) X.A (f (.int i t) (.int j u)) Q E s) :
 pM X f (rI C fun i j=>.int (g i j)):=by
 intro pins s σ H x y v u Q I rx ry h
 obtain⟨i,j,rfl,rfl,hc,q⟩:=h
 obtain⟨t,rfl⟩:=rx
 obtain⟨t',rfl⟩:=ry
 exact rule i j t t' s _ _ hc ⟨.int (g i j),H,I.tok _,⟨_,rfl⟩,q⟩
theorem abp{f:Value→Value→Sem Value}{g:Int→Int→Int}
 (rule:∀ (i j:Int) (t u:Tok) (s:Shared) (Q:Value→Shared→Prop) (E:Value→Shared→Prop),Q (.int (g i j) s.toks) { s with toks:=s.toks+1 }→wpAny (model X.prog X.w) X.A (f (.int i t) (.int j u)) Q E s) :
 pM X f (Qu fun i j=>.int (g i j)):=by
 intro pins s σ H x y v u Q I rx ry h
 obtain⟨i,j,rfl,rfl,q⟩:=h
 obtain⟨t,rfl⟩:=rx
 obtain⟨t',rfl⟩:=ry
 exact rule i j t t' s _ _ ⟨.int (g i j),H,I.tok _,⟨_,rfl⟩,q⟩
theorem Zj{f:Value→Value→Sem Value}{g:Int→Int→Bool}
 (rule:∀ (i j:Int) (t u:Tok) (s:Shared) (Q:Value→Shared→Prop) (E:Value→Shared→Prop),Q (.bool (g i j)) s→wpAny (model X.prog X.w) X.A (f (.int i t) (.int j u)) Q E s) :
 pM X f (Qu fun i j=>.bl (g i j)):=by
 intro pins s σ H x y v u Q I rx ry h
 obtain⟨i,j,rfl,rfl,q⟩:=h
 obtain⟨t,rfl⟩:=rx
 obtain⟨t',rfl⟩:=ry
 exact rule i j t t' s _ _ ⟨.bl (g i j),H,I,rfl,q⟩
def Xq(i j:Int):Prop:=(-(2 ^ 64) < i∧i < 2 ^ 64)∨(-(2 ^ 64) < j∧j < 2 ^ 64)
theorem Xq.ok{i j:Int}(h:Xq i j):IntMulOk i j:=by
 rcases h with ⟨h1,h2⟩|⟨h1,h2⟩
 ·exact .of_left (intBits_le_64 h1 h2)
 ·exact .of_right (intBits_le_64 h1 h2)
theorem Zi:pM X (binaryOp .Add) (Qu fun i j=>.int (i+j)):=abp fun _ _ _ _ _ _ _ q=>add_int q
theorem J7:pM X (binaryOp .Sub) (Qu fun i j=>.int (i - j)):=abp fun _ _ _ _ _ _ _ q=>sub_int q
theorem jG:pM X (binaryOp .Mult) (rI Xq fun i j=>.int (i * j)):=opI fun _ _ _ _ _ _ _ hc q=>mul_int q hc.ok
theorem cz:pM X (binaryOp .Mod) (rI (fun _ j=>0 < j) fun i j=>.int (i % j)):=opI fun i j _ _ _ _ _ hc q=>by
 have h1:(0:Int) < j:=hc
 exact mod_int' (by omega) (by rw[Int.fmod_eq_emod_of_nonneg i (by omega)];exact q)
theorem unI{f:Value→Sem Value}{g:Int→Int}
 (rule:∀ (i:Int) (t:Tok) (s:Shared) (Q:Value→Shared→Prop) (E:Value→Shared→Prop),Q (.int (g i) s.toks) { s with toks:=s.toks+1 }→wpAny (model X.prog X.w) X.A (f (.int i t)) Q E s) :
 UnR X f (rU fun i=>.int (g i)):=by
 intro pins s σ H x v Q I rx h
 obtain⟨i,rfl,q⟩:=h
 obtain⟨t,rfl⟩:=rx
 exact rule i t s _ _ ⟨.int (g i),H,I.tok _,⟨_,rfl⟩,q⟩
theorem Yz:UnR X (unaryOp .USub) (rU fun i=>.int (-i)):=unI fun _ _ _ _ _ q=>neg_int q
end
section
variable{X:Cx}{a b c:Expr}{ta tb tc:TE}{pos:Pos}
theorem FZ{pins:List (Addr×Obj)}{σ : St}{H:Hp}{s:Shared}{Q:VK}{k k':Bool}(I:Inv X pins σ H s)(q:Q (.bl k) H)(e:k=k'):EP X pins σ Q (.bool k') s:=by
 subst e
 exact⟨.bl k,H,I,rfl,q⟩
theorem abn:pM X (compareOp .Lt) (Qu fun i j=>.bl (decide (i < j))):=Zj fun _ _ _ _ _ _ _ q=>lt_int q
theorem Mm:pM X (compareOp .LtE) (Qu fun i j=>.bl (decide (i≤j))):=Zj fun _ _ _ _ _ _ _ q=>le_int q
theorem abo:pM X (compareOp .Gt) (Qu fun i j=>.bl (decide (j < i))):=Zj fun _ _ _ _ _ _ _ q=>gt_int q
theorem Ox:pM X (compareOp .Lt) (fun x y H Q=>∃ i j,x=.str i∧y=.str j∧Q (.bl (decide (i.cps.toList < j.cps.toList))) H):=by
 intro pins s σ H x y v u Q I rx ry h
 obtain⟨i,j,rfl,rfl,q⟩:=h
 obtain⟨t,rfl⟩:=rx
 obtain⟨t',rfl⟩:=ry
 exact lt_str (FZ I q rfl)
theorem Oz:pM X (compareOp .In) (fun x y H Q=>∃ i j,x=.str i∧y=.str j∧Q (.bl (!(Builtin.Str.occurrences j i 0 j.length 1).isEmpty)) H):=by
 intro pins s σ H x y v u Q I rx ry h
 obtain⟨i,j,rfl,rfl,q⟩:=h
 obtain⟨t,rfl⟩:=rx
 obtain⟨t',rfl⟩:=ry
 exact in_str (FZ I q rfl)
theorem We:pM X (compareOp .IsNot) (fun x y H Q=>y=.non∧Q (.bl (!decide (x=.non))) H):=by
 intro pins s σ H x y v u Q I rx ry h
 obtain⟨rfl,q⟩:=h
 cases ry
 refine isnot_none_gen (FZ I q ?_)
 cases x<;>first
  | (cases rx;rfl)
  | (obtain⟨t,rfl⟩:=rx;rfl)
theorem pM.or{f:Value→Value→Sem Value}{r r':R2}(h:pM X f r)(h':pM X f r'):pM X f (fun x y H Q=>r x y H Q∨r' x y H Q):=by
 intro pins s σ H x y v u Q I rx ry q
 rcases q with q|q
 ·exact h pins s σ H x y v u Q I rx ry q
 ·exact h' pins s σ H x y v u Q I rx ry q
theorem cF(b:Expr){op:CmpOp}(h:op≠.In:=by decide)(h2:op≠.NotIn:=by decide):behindInMarks op b=false:=by
 have e1:(op == CmpOp.In)=false:=by cases op<;>first|rfl|exact absurd rfl h
 have e2:(op == CmpOp.NotIn)=false:=by cases op<;>first|rfl|exact absurd rfl h2
 cases b<;>simp[behindInMarks,e1,e2]
theorem nA{op:CmpOp}{r:R2}(ho:pM X (compareOp op) r)(ha:PE X a ta)(hb:PE X b tb)(hm:behindInMarks op b=false):PE X (.Compare a [op] [b] pos) (tOp r ta tb):=by
 intro pins s σ H Q I h
 exact wpAny_Compare1 (aae ha hb I h fun v u s2 x y H2 I2 rx ry q=>ho pins s2 σ H2 x y v u Q I2 rx ry q) hm
def QZ(t:TE):TT:=fun σ H Q=>t σ H fun x H'=>∃ k,x=.bl k∧Q k H'
theorem bF{op:CmpOp}{r:R2}(ho:pM X (compareOp op) r)(ha:PE X a ta)(hb:PE X b tb)(hm:behindInMarks op b=false):PT X (.Compare a [op] [b] pos) (QZ (tOp r ta tb)):=by
 intro pins s σ H Q I h
 refine wpAny_isTrue_Compare1 (dY (ha pins s σ H _ I h) fun v s1 ⟨x,H1,I1,r1,q1⟩=>dY (hb pins s1 σ H1 _ I1 q1) fun u s2 ⟨y,H2,I2,r2,q2⟩ =>
  dY (ho pins s2 σ H2 x y v u _ I2 r1 r2 q2) fun c s3 ⟨z,H3,I3,r3,k,e,q3⟩=>?_) hm
 subst e
 cases r3
 exact wpAny_truthy_bool ⟨H3,I3,q3⟩
def JS(r r':R2)(ta tb tc:TE):TE:=fun σ H Q=>ta σ H fun x H1=>tb σ H1 fun y H2=>r x y H2 fun z H3=>∃ k,z=.bl k ∧
 (if k=true then tc σ H3 fun w' H4=>r' y w' H4 Q else Q (.bl false) H3)
theorem RT{op op':CmpOp}{r r':R2}(ho:pM X (compareOp op) r)(ho':pM X (compareOp op') r')(ha:PE X a ta)(hb:PE X b tb)(hc:PE X c tc)
 (hm:lastMarks [op,op'] [b,c]=false:=by with_unfolding_all rfl):PE X (.Compare a [op,op'] [b,c] pos) (JS r r' ta tb tc):=by
 intro pins s σ H Q I h
 refine Compare_chain (dY (ha pins s σ H _ I h) fun v s1 ⟨x,H1,I1,r1,q1⟩=>chain_link (dY (hb pins s1 σ H1 _ I1 q1) fun u s2 ⟨y,H2,I2,r2,q2⟩ =>
  dY (ho pins s2 σ H2 x y v u _ I2 r1 r2 q2) fun d s3 ⟨z,H3,I3,r3,k,e,q3⟩=>?_)) hm
 subst e
 cases r3
 refine wpAny_truthy_bool ?_
 cases k with
 | false=>exact ite_ff ⟨.bl false,H3,I3,rfl,q3⟩
 | true=>exact ite_tt (chain_last (dY (hc pins s3 σ H3 _ I3 q3) fun w' s4 ⟨z',H4,I4,r4,q4⟩=>ho' pins s4 σ H4 y z' u w' Q I4 r2 r4 q4))
theorem Rz{op op':CmpOp}{r r':R2}(ho:pM X (compareOp op) r)(ho':pM X (compareOp op') r')(ha:PE X a ta)(hb:PE X b tb)(hc:PE X c tc)
 (hm:lastMarks [op,op'] [b,c]=false:=by with_unfolding_all rfl):PT X (.Compare a [op,op'] [b,c] pos) (QZ (JS r r' ta tb tc)):=by
 intro pins s σ H Q I h
 refine isTrue_chain (dY (ha pins s σ H _ I h) fun v s1 ⟨x,H1,I1,r1,q1⟩=>test_link (dY (hb pins s1 σ H1 _ I1 q1) fun u s2 ⟨y,H2,I2,r2,q2⟩ =>
  dY (ho pins s2 σ H2 x y v u _ I2 r1 r2 q2) fun d s3 ⟨z,H3,I3,r3,k,e,q3⟩=>?_)) hm
 subst e
 cases r3
 refine wpAny_truthy_bool ?_
 cases k with
 | false =>
  obtain⟨k',e',q'⟩:=q3
  cases e'
  exact ite_ff ⟨H3,I3,q'⟩
 | true =>
  refine ite_tt (test_last (dY (hc pins s3 σ H3 _ I3 q3) fun w' s4 ⟨z',H4,I4,r4,q4⟩=>dY (ho' pins s4 σ H4 y z' u w' _ I4 r2 r4 q4) fun d' s5 ⟨z2,H5,I5,r5,k2,e2,q5⟩=>?_))
  subst e2
  cases r5
  exact wpAny_truthy_bool ⟨H5,I5,q5⟩
def aar(K:PySem.W.Frag)(x:V)(H:Hp)(k:Bool):Prop :=
 match x with
 | .non=>k=false
 | .bl b=>k=b
 | .int i=>k=(i != 0)
 | .str y=>y.length≤sizeLine∧k=((y.length:Int) != 0)
 | .byt y=>y.size≤sizeLine∧k=((y.size:Int) != 0)
 | .ref p=>(∃ xs,uW K H p xs∧k = !xs.isEmpty)∨(∃ xs,yO K H p xs∧k = !xs.isEmpty)∨∃ kvs,H p=some (.dK kvs)∧k = !kvs.isEmpty
 | _=>False
theorem KC{κ : Type}{kvs:List (κ×V)}{vs:List (κ×Value)}(r:KV kvs vs):(!vs.isEmpty) = !kvs.isEmpty:=by
 cases r<;>rfl
theorem Ab{xs:List V}{its:List Value}(r:Vals xs its):(!its.toArray.isEmpty) = !xs.isEmpty:=by
 cases r<;>simp
theorem wW:(sizeLine:Nat) < 2 ^ 63:=by rw[sizeLine_eq];decide
theorem YD:adA X (fun x H Q=>∃ k,aar X.K x H k∧Q k H):=by
 intro pins s σ H x v Q I rx h
 obtain⟨k,e,q⟩:=h
 have hl:=wW
 have hs:sizeLine=16777216:=sizeLine_eq
 cases x with
 | non =>
  cases rx
  have e':k=false:=e
  subst e'
  exact truthy_none ⟨H,I,q⟩
 | bl b =>
  cases rx
  have e':k=b:=e
  subst e'
  exact wpAny_truthy_bool ⟨H,I,q⟩
 | int i =>
  obtain⟨t,rfl⟩:=rx
  have e':k=(i != 0):=e
  subst e'
  exact PySem.P.truthy_int ⟨H,I,q⟩
 | str y =>
  obtain⟨t,rfl⟩:=rx
  obtain⟨hy,e'⟩ : y.length≤sizeLine∧k=((y.length:Int) != 0):=e
  subst e'
  exact PySem.P.truthy_str (by omega) ⟨H,I.tok _,q⟩
 | byt y =>
  obtain⟨t,rfl⟩:=rx
  obtain⟨hy,e'⟩ : y.size≤sizeLine∧k=((y.size:Int) != 0):=e
  subst e'
  exact PySem.W.truthy_bytes (by omega) ⟨H,I.tok _,q⟩
 | ref p =>
  cases rx
  have e':(∃ xs,uW X.K H p xs∧k = !xs.isEmpty)∨(∃ xs,yO X.K H p xs∧k = !xs.isEmpty)∨∃ kvs,H p=some (.dK kvs)∧k = !kvs.isEmpty:=e
  rcases e' with ⟨xs,hx,e'⟩|⟨xs,hx,e'⟩|⟨kvs,hx,e'⟩
  ·subst e'
   obtain⟨its,r,pl,hz⟩:=I.list hx
   have hlen:=r.length
   exact wpAny_truthy_list pl.isList (by simp only[List.size_toArray];omega) ⟨H,I.tok _,by rw[Ab r];exact q⟩
  ·subst e'
   obtain⟨its,r,pl,hz⟩:=I.tuple hx
   have hlen:=r.length
   exact truthy_tuple pl (by simp only[List.size_toArray];omega) ⟨H,I.tok _,by rw[Ab r];exact q⟩
  ·subst e'
   obtain⟨hz,hS,vs,r,m⟩ : kvs.length≤sizeLine∧(p == sysModules)=false∧∃ vs,KV kvs vs∧s.heap.DictOf (gD X.prog X.w) p vs:=I.hok p _ hx
   have hlen:kvs.length=vs.length:=Paired.length r
   exact wpAny_truthy_dict hS m (by omega) ⟨H,I.tok _,by rw[KC r];exact q⟩
 | _=>exact(show False from e).elim
theorem Rx(ha:PE X a ta)(he:∀ whole,isTrue a X.env whole=(do let v ← whole;standAt a.pos;holding [v] (truthy v))) :
 PT X a (fun σ H Q=>ta σ H fun x H'=>∃ k,aar X.K x H' k∧Q k H'):=by
 intro pins s σ H Q I h
 exact isTrue_plain (dY (ha pins s σ H _ I h) fun v s1 ⟨x,H1,I1,r1,q1⟩=>YD pins s1 σ H1 x v Q I1 r1 q1) (he _)
theorem J9:pM X (binaryOp .Add) (fun x y H Q=>∃ i j,x=.str i∧y=.str j∧i.length+j.length≤sizeLine∧Q (.str (i++j)) H):=by
 intro pins s σ H x y v u Q I rx ry h
 obtain⟨i,j,rfl,rfl,hz,q⟩:=h
 obtain⟨t,rfl⟩:=rx
 obtain⟨t',rfl⟩:=ry
 exact add_str (fun t' tk=>⟨.str (i++j),H,I.tok _,⟨_,rfl⟩,q⟩) hz
theorem vals1{x:V}{us:List Value}(r:Vals [x] us):∃ u,us=[u]∧RelV x u:=by
 cases r with
 | cons r1 r2=>cases r2;exact⟨_,rfl,r1⟩
theorem vals2{x y:V}{us:List Value}(r:Vals [x,y] us):∃ u w',us=[u,w']∧RelV x u∧RelV y w':=by
 cases r with
 | cons r1 r2 =>
  cases r2 with
  | cons r3 r4=>cases r4;exact⟨_,_,rfl,r1,r3⟩
theorem Qd(hc:X.calm=true):ik X (.builtin "max") (fun xs H Q=>∃ i j,xs=[.int i,.int j]∧Q (.int (if j > i then j else i)) H):=by
 intro pins s σ H xs us Q I r h
 obtain⟨i,j,rfl,q⟩:=h
 obtain⟨u,w',rfl,⟨t,rfl⟩,⟨t',rfl⟩⟩:=vals2 r
 refine max_two_ints (I.ok.hd hc) fun h' tk k=>⟨_,H,I.kept k,?_,q⟩
 by_cases hj:j > i
 ·rw[if_pos hj,if_pos hj];exact⟨_,rfl⟩
 ·rw[if_neg hj,if_neg hj];exact⟨_,rfl⟩
theorem Qc(hc:X.calm=true):ik X (.builtin "min") (fun xs H Q=>∃ i j,xs=[.int i,.int j]∧Q (.int (if j < i then j else i)) H):=by
 intro pins s σ H xs us Q I r h
 obtain⟨i,j,rfl,q⟩:=h
 obtain⟨u,w',rfl,⟨t,rfl⟩,⟨t',rfl⟩⟩:=vals2 r
 refine min_two_ints (I.ok.hd hc) fun h' tk k=>⟨_,H,I.kept k,?_,q⟩
 by_cases hj:j < i
 ·rw[if_pos hj,if_pos hj];exact⟨_,rfl⟩
 ·rw[if_neg hj,if_neg hj];exact⟨_,rfl⟩
theorem Qf:ik X (.type "int") (fun xs H Q=>(∃ i,xs=[.int i]∧Q (.int i) H)∨∃ k,xs=[.bl k]∧Q (.int (if k then 1 else 0)) H):=by
 intro pins s σ H xs us Q I r h
 rcases h with ⟨i,rfl,q⟩|⟨k,rfl,q⟩
 ·obtain⟨u,rfl,t,rfl⟩:=vals1 r
  exact call_int_int ⟨.int i,H,I,⟨_,rfl⟩,q⟩
 ·obtain⟨u,rfl,r1⟩:=vals1 r
  cases r1
  exact call_int_bool ⟨.int (if k then 1 else 0),H,I.tok _,⟨_,rfl⟩,q⟩
def acs(K:PySem.W.Frag)(x:V)(H:Hp)(n:Nat):Prop :=
 match x with
 | .str y=>y.length≤sizeLine∧n=y.length
 | .byt y=>y.size≤sizeLine∧n=y.size
 | .ref p=>(∃ xs,uW K H p xs∧n=xs.length)∨∃ xs,yO K H p xs∧n=xs.length
 | _=>False
theorem Ux:ik X (.builtin "len") (fun xs H Q=>∃ x n,xs=[x]∧acs X.K x H n∧Q (.int n) H):=by
 intro pins s σ H xs us Q I r h
 obtain⟨x,n,rfl,e,q⟩:=h
 obtain⟨u,rfl,rx⟩:=vals1 r
 have hl:=wW
 have hs:sizeLine=16777216:=sizeLine_eq
 cases x with
 | str y =>
  obtain⟨t,rfl⟩:=rx
  obtain⟨hy,e'⟩ : y.length≤sizeLine∧n=y.length:=e
  subst e'
  exact len_str (by omega) ⟨.int _,H,I.tok _,⟨_,rfl⟩,q⟩
 | byt y =>
  obtain⟨t,rfl⟩:=rx
  obtain⟨hy,e'⟩ : y.size≤sizeLine∧n=y.size:=e
  subst e'
  exact PySem.W.len_bytes (by omega) ⟨.int _,H,I.tok _,⟨_,rfl⟩,q⟩
 | ref p =>
  cases rx
  have e':(∃ xs,uW X.K H p xs∧n=xs.length)∨∃ xs,yO X.K H p xs∧n=xs.length:=e
  rcases e' with ⟨xs,hx,e'⟩|⟨xs,hx,e'⟩
  ·subst e'
   obtain⟨its,r',pl,hz⟩:=I.list hx
   have hlen:=r'.length
   exact Calls.call_len_list pl.isList (by simp only[List.size_toArray];omega) ⟨.int xs.length,H,I.tok _,⟨_,by simp only[List.size_toArray];rw[hlen]⟩,q⟩
  ·subst e'
   obtain⟨its,r',pl,hz⟩:=I.tuple hx
   have hlen:=r'.length
   exact len_tuple pl (by simp only[List.size_toArray];omega) ⟨.int xs.length,H,I.tok _,⟨_,by simp only[List.size_toArray];rw[hlen]⟩,q⟩
 | _=>exact(show False from e).elim
end
end L2
namespace L2
open PySem PySem.Spec PyProof.Rows
structure aav(h:Heap)(x dx C:Addr)(mA:Str→Option Value):Prop where
 obj:h.get? x=some (PySem.W.instObj C dx)
 ns:h.Ns1 dx mA
 ne:dx≠x
theorem O6{h:Heap}{dx:Addr}{mA:Str→Option Value}(n:h.Ns1 dx mA):∃ od,h.get? dx=some od∧∀ name,PySem.W.lookIn name od=some (mA name):=by
 obtain⟨o,es,ep,ho,hd,hk,_,hm⟩:=n
 refine⟨o,ho,fun name=>?_⟩
 have e:=hm name
 unfold nsFind findBy at e
 rw[← Array.find?_toList] at e
 unfold PySem.W.lookIn
 rw[hd]
 dsimp only
 split
 ·rename_i y q
  rw[q] at e
  exact congrArg some e
 ·rename_i q
  rw[q] at e
  have a:es.toList.any (·.refKey)=false:=by
   rw[List.any_eq_false]
   intro y hy
   obtain⟨z,t,hkey⟩:=hk y (Array.mem_toList_iff.mp hy)
   simp[DictEntry.refKey,hkey]
  have a':¬ es.toList.any (·.refKey)=true:=by rw[a];exact Bool.false_ne_true
  rw[if_neg a']
  exact congrArg some e
theorem aav.look{h:Heap}{x dx C:Addr}{mA:Str→Option Value}(I:aav h x dx C mA):∃ od,PySem.W.InstAt h x (PySem.W.instObj C dx) C (some od)∧∀ name,PySem.W.lookIn name od=some (mA name) :=
 let ⟨od,ho,hl⟩:=O6 I.ns
 ⟨od,⟨I.obj,rfl,rfl,ho⟩,hl⟩
section
variable{P:Program}{w:World}{H H':Hp}{h h':Heap}{a C dx:Addr}{fs fs':List (Str×V)}
theorem M8(hok:pO P w H h)(e:H a=some (.ins C dx fs)):∃ mA,aav h a dx C mA∧(∀ f,Lp (fs.lookup f) (mA f))∧PySem.Within mA (fs.map (·.1))∧fs.length≤1000∧H dx=some (.own a):=by
 obtain⟨d,z,ne,ob,mA,n,r,q⟩:=(show bZ P w H h a (.ins C dx fs) from hok a _ e)
 exact⟨mA,⟨ob,n,ne⟩,r,q,z,d⟩
end
structure Cls(K:PySem.W.Frag)(C:Addr):Prop where
 pg:PySem.W.plainGet K C Str.empty=true
 hd:PySem.W.hasDictIn K C=true
 po:PySem.W.plainOver K C=true
 sa:PySem.W.findIn K (.ref C) "__setattr__" = some (some (.builtin "object.__setattr__"))
theorem Cls.get{K:PySem.W.Frag}{C:Addr}(c:Cls K C)(f:Str):PySem.W.plainGet K C f=true:=c.pg
section
variable{X:Cx}{pins:List (Addr×Obj)}{σ : St}{H:Hp}{s:Shared}{A:Around}{E:Value→Shared→Prop}{Q:Value→Shared→Prop}{c:Value}{b:Bool}
inductive ug(K:PySem.W.Frag)(H:Hp):V→Value→Prop where
 | non:ug K H .non (.type "NoneType")
 | bl (x:Bool):ug K H (.bl x) (.type "bool")
 | int (i:Int):ug K H (.int i) (.type "int")
 | str (x:Str):ug K H (.str x) (.type "str")
 | flt (x:UInt64):ug K H (.flt x) (.type "float")
 | lst {a:Addr} {xs:List V} (e:H a=some (.lst xs)):ug K H (.ref a) (.type "list")
 | frz {a:Addr} {o:Obj} {xs:List V} (e:H a=some (.frz o (.lst xs))):ug K H (.ref a) (.type "list")
 | tup {a:Addr} {xs:List V} (e:H a=some (.tup xs)):ug K H (.ref a) (.type "tuple")
 | dK {a:Addr} {kvs:List (Key×V)} (e:H a=some (.dK kvs)):ug K H (.ref a) (.type "dict")
 | dT {a:Addr} {kvs:List (List Key×V)} (e:H a=some (.dT kvs)):ug K H (.ref a) (.type "dict")
 | ins {a C dx:Addr} {fs:List (Str×V)} (e:H a=some (.ins C dx fs)) (cl:Cls K C) (ha:PySem.W.findIn K (.ref C) "__class__" = some (some (.builtin "object.__class__")))
  (hn:PySem.W.specialIn K (.builtin "object.__class__") "__get__" = some (some (.builtin "getset_descriptor.__get__"))) (htk:PySem.W.takesIn K (.builtin "object.__class__")=some true)
  (hm:PySem.W.mroIn K C (.type "object")=some true):ug K H (.ref a) (.ref C)
theorem Pn{x:V}{u t:Value}(I:Inv X pins σ H s)(rx:RelV x u)(ty:ug X.K H x t)(e:PySem.W.kitOne X.K t c=some b)(h:∀ tk,Q (.bool b) { s with toks:=tk }) :
 wpAny (model X.prog X.w) A (call (.builtin "isinstance") [u,c]) Q E s:=by
 cases ty with
 | non=>cases (show u=Value.none from rx);exact PySem.W.kia_one PySem.W.kitx_none I.yu True.intro e (fun z=>nomatch z) h
 | bl y=>cases (show u=Value.bool y from rx);exact PySem.W.kia_one PySem.W.kitx_bool I.yu True.intro e (fun z=>nomatch z) h
 | int i=>obtain⟨t,q⟩:=(show ∃ t,u=Value.int i t from rx);cases q;exact PySem.W.kia_one PySem.W.kitx_int I.yu True.intro e (fun z=>nomatch z) h
 | str y=>obtain⟨t,q⟩:=(show ∃ t,u=Value.str y t from rx);cases q;exact PySem.W.kia_one PySem.W.kitx_str I.yu True.intro e (fun z=>nomatch z) h
 | flt y=>obtain⟨t,q⟩:=(show ∃ t,u=Value.float y t from rx);cases q;exact PySem.W.kia_one PySem.W.kitx_float I.yu True.intro e (fun z=>nomatch z) h
 | @lst a xs ea =>
  cases (show u=Value.ref a from rx)
  obtain⟨_,_,n,_,h1⟩:=(show bZ X.prog X.w H s.heap a (.lst xs) from I.hok a _ ea)
  exact PySem.W.kia_one PySem.W.kitx_list I.yu ⟨_,h1,rfl⟩ e (fun z=>nomatch z) h
 | @frz a ob xs ea =>
  cases (show u=Value.ref a from rx)
  obtain⟨_,_,_,n,_,h1⟩:=(show bZ X.prog X.w H s.heap a (.frz ob (.lst xs)) from I.hok a _ ea)
  exact PySem.W.kia_one PySem.W.kitx_list I.yu ⟨_,h1,rfl⟩ e (fun z=>nomatch z) h
 | @tup a xs ea =>
  cases (show u=Value.ref a from rx)
  obtain⟨_,_,_,p⟩:=(show bZ X.prog X.w H s.heap a (.tup xs) from I.hok a _ ea)
  obtain⟨o,h1,h2,_⟩:=p
  exact PySem.W.kia_one PySem.W.kitx_tuple I.yu ⟨o,h1,h2⟩ e (fun z=>nomatch z) h
 | @dK a kvs ea =>
  cases (show u=Value.ref a from rx)
  obtain⟨_,_,vs,_,p⟩:=(show bZ X.prog X.w H s.heap a (.dK kvs) from I.hok a _ ea)
  obtain⟨o,es,ep,h1,h2,_⟩:=p
  exact PySem.W.kia_one PySem.W.kitx_dict I.yu ⟨o,h1,h2.1⟩ e (fun z=>nomatch z) h
 | @dT a kvs ea =>
  cases (show u=Value.ref a from rx)
  obtain⟨_,_,xs,_,o,es,ep,h1,h2,_⟩:=(show bZ X.prog X.w H s.heap a (.dT kvs) from I.hok a _ ea)
  exact PySem.W.kia_one PySem.W.kitx_dict I.yu ⟨o,h1,h2.1⟩ e (fun z=>nomatch z) h
 | @ins a C dx fs ea cl ha hn htk hm =>
  cases (show u=Value.ref a from rx)
  obtain⟨mA,O,_⟩:=M8 I.hok ea
  obtain⟨od,J,_⟩:=O.look
  exact PySem.W.kia_one (PySem.W.kitx_own (cl.get _) cl.hd ha hn htk hm) I.yu J e (fun z=>nomatch z) h
end
end L2
namespace L2
open PySem PySem.Spec PyProof.Rows
structure jq(k:Nat)(A:Around):Prop where
 hd:A.handled=none
 dp:A.depth+3 * k+5 < recursionLimit
 un:A.units+16 * k+200 < cLine
theorem jq.mono{j k:Nat}{A:Around}(r:jq k A)(h:j≤k):jq j A:=⟨r.hd,by have:=r.dp;omega,by have:=r.un;omega⟩
theorem jq.deeper{k:Nat}{A:Around}(r:jq (k+1) A)(env:Env):jq k (A.deeper env) :=
 ⟨r.hd,by have:=r.dp;show A.depth+1+3 * k+5 < _;omega,by have:=r.un;show A.units+3+16 * k+200 < _;omega⟩
theorem jq.in1{k:Nat}{A:Around}(r:jq (k+1) A):jq k A.in1 :=
 ⟨r.hd,by have:=r.dp;show A.depth+3 * k+5 < _;omega,by have:=r.un;show A.units+1+16 * k+200 < _;omega⟩
theorem jq.depth{k:Nat}{A:Around}(r:jq k A):A.depth < recursionLimit:=by have:=r.dp;omega
theorem jq.units{k:Nat}{A:Around}(r:jq k A):A.units+64 < cLine:=by have:=r.un;omega
def rA:TA:=fun _ H Q=>Q [] H
def iW(ta:TE)(tr:TA):TA:=fun σ H Q=>ta σ H fun x H1=>tr σ H1 fun xs H2=>Q (x::xs) H2
section
variable{X:Cx}{e:Expr}{es:List Expr}{te:TE}{t:TA}{pos:Pos}
theorem au:PA X [] rA:=fun _ _ _ _ H Q I h=>Calls.spliced_nil ⟨[],H,I,.nil,h⟩
theorem aj(ha:PE X e te)(hr:PA X es t)(hs:starEach (e::es) X.env=(false,eval e X.env)::starEach es X.env:=by rfl):PA X (e::es) (iW te t):=by
 intro pos pins s σ H Q I h
 rw[hs]
 show wpAny _ _ (spliced ((false,eval e X.env)::backTo pos (starEach es X.env))) _ _ s
 refine Calls.spliced_cons (dY (ha pins s σ H _ I h) fun u s1 ⟨x,H1,I1,r1,q1⟩=>?_)
 exact dY (hr pos pins s1 σ H1 _ I1 q1) fun us s2 ⟨xs,H2,I2,r2,q2⟩=>⟨x::xs,H2,I2,.cons r1 r2,q2⟩
def Vz(t:TA):TE:=fun σ H Q=>t σ H fun xs H1=>xs.length≤sizeLine∧∀ p,H1 p=none→Q (.ref p) (upd H1 p (.tup xs))
def aaP(t:TA):TE:=fun σ H Q=>t σ H fun xs H1=>xs.length≤sizeLine∧∀ p,H1 p=none→Q (.ref p) (upd H1 p (.lst xs))
theorem cZ{x1}(h:PA X es t):PE X (.Tuple es x1 pos) (Vz t):=by
 intro pins s σ H Q I hq
 refine wpAny_Tuple_spliced (dY (h pos pins s σ H _ I hq) fun us s1 ⟨xs,H1,I1,r,z,q⟩=>⟨by rw[← r.length];exact z,?_⟩)
 have hf:H1 s1.heap.objs.size=none:=I1.hok.fresh (Nat.le_refl _)
 refine⟨.ref s1.heap.objs.size,upd H1 s1.heap.objs.size (.tup xs),I1.laid (t':=s1.toks) (fun b u e=>Heap.get?_push_of_some _ e) (Nat.le_refl _) ?_,rfl,q _ hf⟩
 exact⟨z,us,r,⟨_,Heap.get?_push_size _ rfl,rfl,rfl,_,rfl⟩⟩
theorem dO(h:PA X es t):PE X (.List es pos) (aaP t):=by
 intro pins s σ H Q I hq
 refine wpAny_List_spliced (dY (h pos pins s σ H _ I hq) fun us s1 ⟨xs,H1,I1,r,z,q⟩=>⟨by rw[← r.length];exact z,?_⟩)
 have hf:H1 s1.heap.objs.size=none:=I1.hok.fresh (Nat.le_refl _)
 refine⟨.ref s1.heap.objs.size,upd H1 s1.heap.objs.size (.lst xs),I1.laid (t':=s1.toks) (fun b u e=>Heap.get?_push_of_some _ e) (Nat.le_refl _) ?_,rfl,q _ hf⟩
 exact⟨z,us,0,r,Heap.get?_push_size _ rfl⟩
end
abbrev Sp:=List V→Hp→VK→XK→Prop
abbrev GQ:=List Env→Hp→Shared→XK→Value→Shared→Prop
structure Qt(P:Program)(w:World)(K:PySem.W.Frag)(mg:Str→Option Value)(base:Heap)(A:Around)(outer:List Env)(s:Shared)(H:Hp):Prop where
 frames:A.frames=some outer
 mod:Mod K mg base
 bs:∀ b o,base.get? b=some o→s.heap.get? b=some o∧H b=none
 bsz:base.objs.size≤s.heap.objs.size
 sG:s.heap.FunFrames base outer
 frf:∀ b∈frs outer,H b=none
 hok:pO P w H s.heap
 bare:AllBare s.gens
def CE(outer:List Env)(P:Program)(w:World)(H:Hp)(s:Shared)(Q:VK)(u:Value)(s':Shared):Prop :=
 ∃ v H',s'.os=s.os∧AllBare s'.gens∧Un (frs outer) [] H H' s.heap s'.heap∧pO P w H' s'.heap∧RelV v u∧Q v H'
def CR(CX:GQ)(outer:List Env)(P:Program)(w:World)(H:Hp)(s:Shared)(Q:VK)(E:XK)(r:Result)(s':Shared):Prop :=
 match r with
 | .ok (.ret u)=>CE outer P w H s Q u s'
 | .ok _=>False
 | .error e=>CX outer H s E e s'
structure cY(P:Program)(w:World)(K:PySem.W.Frag)(mg:Str→Option Value)(base:Heap)(CX:GQ)(k:Nat)(f:Addr)(fd:FuncData)(ps:List Str)(sp:Sp):Prop where
 len:∀ vs H Q E,sp vs H Q E→vs.length=ps.length
 run:∀ (A:Around) (outer:List Env) (s:Shared) (H:Hp) (args:Args) (us:List Value) (vs:List V) (Q:VK) (E:XK),jq k A→Qt P w K mg base A outer s H→BindsTo s fd args (ps.zip us)→Vals vs us→sp vs H Q E →
  codeAny (model P w) A (.call (.ref f) args) (CR CX outer P w H s Q E) s
theorem cY.imp{P:Program}{w:World}{K:PySem.W.Frag}{mg:Str→Option Value}{base:Heap}{CX:GQ}{k:Nat}{f:Addr}{fd:FuncData}{ps:List Str}{sp sp':Sp}(F:cY P w K mg base CX k f fd ps sp)
 (h:∀ vs H Q E,sp' vs H Q E→sp vs H Q E):cY P w K mg base CX k f fd ps sp' :=
 ⟨fun vs H Q E q=>F.len vs H Q E (h _ _ _ _ q),fun A outer s H args us vs Q E hr he hb hv hs=>F.run A outer s H args us vs Q E hr he hb hv (h _ _ _ _ hs)⟩
section
variable{X:Cx}{pins:List (Addr×Obj)}{σ : St}{H:Hp}{s s':Shared}
theorem Inv.env0(I:Inv X pins σ H s):Qt X.prog X.w X.K X.mg X.base X.A X.stack s H :=
 ⟨I.ok.frames,I.ok.mod,I.bs,Nat.le_trans I.ok.bsz I.sz,I.stack,I.vo,I.hok,I.bare⟩
theorem Inv.after{Q:VK}{u:Value}(I:Inv X pins σ H s)(h:CE X.stack X.prog X.w H s Q u s'):EP X pins σ Q u s':=by
 obtain⟨v,H',os,bare,un,hok,r,q⟩:=h
 obtain⟨hh,g,d,t,os'⟩:=s'
 obtain rfl:os'=s.os:=os
 exact⟨v,H',I.call (h':=hh) (g':=g) (d':=d) (t':=t) (ch:=[]) un hok bare (fun b z=>absurd z (by simp)),r,q⟩
end
def vf(sp:Sp)(dvs:List V)(E:XK)(t:TA):TE:=fun σ H Q=>t σ H fun vs H1=>sp (vs++dvs) H1 Q E
def Binds(K:PySem.W.Frag)(fd:FuncData)(ps:List Str)(ds:List Value):Prop :=
 ∀ (s:Shared) (us:List Value),K.In s.heap→(us++ds).length=ps.length→BindsTo s fd ⟨us,[]⟩ (ps.zip (us++ds))
theorem Binds.all{K:PySem.W.Frag}{fd:FuncData}{ps:List Str}(h:∀ us:List Value,us.length=ps.length→bindArgs fd ⟨us,[]⟩=pure (ps.zip us)):Binds K fd ps []:=fun s us _ hl=>by
 rw[List.append_nil] at hl ⊢
 exact .of_eq (h us hl)
def Bh(CX:GQ)(X:Cx)(E:XK):Prop:=∀ (pins:List (Addr×Obj)) (σ : St) (H:Hp) (s:Shared) (e:Value) (s':Shared),Inv X pins σ H s→CX X.stack H s E e s'→X.xe e s'
section
variable{X:Cx}{CX:GQ}{k:Nat}{f C:Addr}{fd:FuncData}{ps:List Str}{sp:Sp}{dvs:List V}{ds:List Value}{E:XK}{x m:Str}{p pos apos:Pos}{e o:Expr}{es:List Expr}{ta:TE}{t:TA}
theorem YX{pins:List (Addr×Obj)}{σ : St}{H:Hp}{s:Shared}{Q:VK}{us:List Value}{vs:List V}(F:cY X.prog X.w X.K X.mg X.base CX k f fd ps sp)(hr:jq k X.A)(hb:Binds X.K fd ps ds)(hd:Vals dvs ds)(hx:Bh CX X E)
 (I:Inv X pins σ H s) (r:Vals vs us) (h:sp (vs++dvs) H Q E):wpAny (model X.prog X.w) X.A (call (.ref f) us) (EP X pins σ Q) X.xe s:=by
 have r2:Vals (vs++dvs) (us++ds):=r.append hd
 have hl:(us++ds).length=ps.length:=by rw[← r2.length];exact F.len _ _ _ _ h
 refine wpAny_call (codeAny_mono (F.run X.A X.stack s H ⟨us,[]⟩ (us++ds) (vs++dvs) Q E hr I.env0 (hb s us I.yu hl) r2 h) fun r s' hq=>?_)
 cases r with
 | error e=>exact hx pins σ H s e s' I hq
 | ok fl =>
  cases fl with
  | ret u=>exact I.after hq
  | next=>exact False.elim hq
  | brk=>exact False.elim hq
  | cont=>exact False.elim hq
theorem V7(F:cY X.prog X.w X.K X.mg X.base CX k f fd ps sp)(hr:jq k X.A)(hg:Gl X x)(hm:X.mg x=some (.ref f))(hk:PySem.W.keepIn X.K (.ref f)=true)(hb:Binds X.K fd ps ds)(hd:Vals dvs ds)(hx:Bh CX X E)
 (ha:PA X (e::es) t) (hdb:(x == ("__debug__" : Str))=false:=by decide) (he:starEach (e::es) X.env=(false,eval e X.env)::starEach es X.env:=by rfl) (hpl:(backTo pos (starEach es X.env)).any (·.1)=false:=by rfl) :
 PE X (.Call (.Name x p) (e::es) [] pos) (vf sp dvs E t):=by
 intro pins s σ H Q I h
 refine wpAny_Call_Name_kw (tR I hg hm ?_ hdb)
 refine PySem.W.callWith_K (h₀:=X.base) I.ok.mod.kin hk (dY (ha pos pins s σ H _ I h) fun us s1 ⟨vs,H1,I1,r,q⟩=>⟨I1.yu,?_⟩) he hpl
 exact YX F hr hb hd hx I1 r q
end
structure bG(N P:List Str)(sc:Scope):Prop where
 kind:sc.kind=.function
 co:sc.isCoroutine=false
 gen:sc.isGenerator=false
 nd:N.Nodup
 pre:N.take P.length=P
 par:∀ x∈P,sc.names.lookup x=some .local∨sc.names.lookup x=some .cell
 Zr:∀ y∈sc.names,y.2≠.free
theorem CZ{kindOf:Str→Option NameKind}{x:Str}:∀ {binds:List (Str×Value)} {m:Str→Option Value},(∀ v,(x,v)∉binds)→bindL kindOf binds m x=m x
 | [],_,_=>rfl
 | (n,v)::r,m,h=>by
  unfold bindL
  rw[CZ fun w hw=>h w (List.mem_cons_of_mem _ hw)]
  split
  ·have:x≠n:=by rintro rfl;exact h v List.mem_cons_self
   simp[this]
  ·rfl
theorem De{kindOf:Str→Option NameKind}{x:Str}:∀ {binds:List (Str×Value)} {m:Str→Option Value},(∀ v,(x,v)∉binds)→bindC kindOf binds m x=m x
 | [],_,_=>rfl
 | (n,v)::r,m,h=>by
  unfold bindC
  rw[De fun w hw=>h w (List.mem_cons_of_mem _ hw)]
  split
  ·rfl
  ·have:x≠n:=by rintro rfl;exact h v List.mem_cons_self
   simp[this]
theorem Dc{kindOf:Str→Option NameKind}{x:Str}{v:Value}:∀ {P:List Str} {vs:List Value} {i:Nat} {m:Str→Option Value},P.Nodup→P[i]? = some x→vs[i]? = some v→kindOf x=some .local →
 bindL kindOf (P.zip vs) m x=some v
 | [],_,_,_,_,h,_,_=>by simp at h
 | _::_,[],_,_,_,_,h,_=>by simp at h
 | p::P,w::vs,0,m,nd,h1,h2,hk=>by
  simp at h1 h2;subst h1;subst h2
  show bindL kindOf ((p,w)::P.zip vs) m p=_
  unfold bindL
  rw[CZ fun v hv=>(List.nodup_cons.mp nd).1 (List.of_mem_zip hv).1,if_pos hk]
  simp
 | p::P,w::vs,i+1,m,nd,h1,h2,hk=>by
  show bindL kindOf ((p,w)::P.zip vs) m x=_
  unfold bindL
  exact Dc (i:=i) (List.nodup_cons.mp nd).2 (by simpa using h1) (by simpa using h2) hk
theorem Df{kindOf:Str→Option NameKind}{x:Str}{v:Value}:∀ {P:List Str} {vs:List Value} {i:Nat} {m:Str→Option Value},P.Nodup→P[i]? = some x→vs[i]? = some v→kindOf x≠some .local →
 bindC kindOf (P.zip vs) m x=some v
 | [],_,_,_,_,h,_,_=>by simp at h
 | _::_,[],_,_,_,_,h,_=>by simp at h
 | p::P,w::vs,0,m,nd,h1,h2,hk=>by
  simp at h1 h2;subst h1;subst h2
  show bindC kindOf ((p,w)::P.zip vs) m p=_
  unfold bindC
  rw[De fun v hv=>(List.nodup_cons.mp nd).1 (List.of_mem_zip hv).1,if_neg hk]
  simp
 | p::P,w::vs,i+1,m,nd,h1,h2,hk=>by
  show bindC kindOf ((p,w)::P.zip vs) m x=_
  unfold bindC
  exact Df (i:=i) (List.nodup_cons.mp nd).2 (by simpa using h1) (by simpa using h2) hk
def start(N:List Str)(vs:List V):St:=vs.map some++List.replicate (N.length - vs.length) none
def lZ(CX:GQ)(P:Program)(w:World)(K:PySem.W.Frag)(mg:Str→Option Value)(base:Heap)(N:List Str)(qual:Str)(scope:Scope)(f:Addr)(cd:Value)(A:Around)(outer:List Env)(s:Shared)(H:Hp)(E:XK):Cx where
 prog:=P
 w:=w
 K:=K
 mg:=mg
 base:=base
 A:=A.deeper (envOfC qual scope s.heap.objs.size f cd)
 N:=N
 s₀:=s
 H₀:=H
 env:=envOfC qual scope s.heap.objs.size f cd
 outer:=outer
 stack:=envOfC qual scope s.heap.objs.size f cd::outer
 ex:=[]
 calm:=true
 fn:=fun _=>true
 pn:=[]
 xe:=fun e s'=>wpAny (model P w) (A.deeper (envOfC qual scope s.heap.objs.size f cd)) (leaving (envOfC qual scope s.heap.objs.size f cd) e) (fun _ s''=>CX outer H s E e s'') (fun e' s''=>CX outer H s E e' s'') s'
theorem I9{sc:Scope}{n:Nat}{x:Str}(h:sc.names.lookup x=some .cell):∃ c,(cellsFrom n sc.names []).lookup x=some c:=by
 have q:=PySem.W.cellsFrom_some sc.names n [] (.inl h)
 exact Option.isSome_iff_exists.mp q
theorem Cy{CX:GQ}{P:Program}{w:World}{K:PySem.W.Frag}{mg:Str→Option Value}{base:Heap}{N ps:List Str}{qual:Str}{scope:Scope}{f:Addr}{cd:Value}{A:Around}{outer:List Env}{s s1:Shared}{H:Hp}{E:XK}{us:List Value}{vs:List V}
 (S:bG N ps scope) (hd:A.handled=none) (e0:Qt P w K mg base A outer s H) (hl:vs.length=ps.length) (r:Vals vs us)
 (x:InCallC s s.heap.objs.size (bindL (envOfC qual scope s.heap.objs.size f cd).kindOf (ps.zip us) fun _=>none) (cellsFrom (s.heap.objs.size+1) scope.names []) (bindC (envOfC qual scope s.heap.objs.size f cd).kindOf (ps.zip us) fun _=>none) s1) :
 Inv (lZ CX P w K mg base N qual scope f cd A outer s H E) [] (start N vs) H s1:=by
 have hpl:ps.length≤N.length:=by have:=congrArg List.length S.pre;rw[List.length_take] at this;omega
 obtain⟨h1,tk,rfl,hk⟩:=x.done
 have noA:∀ b:Addr,b∉(lZ CX P w K mg base N qual scope f cd A outer s H E).ex:=fun b z=>absurd (show b∈([]:List Addr) from z) (by simp)
 refine⟨⟨e0.mod,S.kind,rfl,rfl,Nat.le_refl _,fun y z c h1 h2=>?_,fun y hy=>?_,fun y c _ h=>?_,fun _=>hd,Around.frames_deeper e0.frames,.inr ⟨rfl,rfl⟩,fun b z=>absurd z (noA b),e0.bs,e0.bsz,fun b _ _=>noA b,fun b z=>absurd z (noA b),e0.sG,e0.frf⟩,
  rfl,e0.bare,Un.kept hk,⟨_,x.toInCall.ns,fun i y v h1 h2 h3=>?_⟩,fun y c h=>⟨_,x.cell y c h⟩,e0.hok.fresh (Nat.le_refl _),fun y c h=>?_,fun p hp=>absurd (show p∈([]:List (Addr×Obj)) from hp) (by simp),e0.hok.kept hk,?_⟩
 ·exact name_of_addr x.apart (PySem.mem_of_lookup h1) (PySem.mem_of_lookup h2)
 ·have hy:scope.names.lookup y=some .cell∨scope.names.lookup y=some .free:=hy
  rcases hy with hy|hy
  ·exact I9 hy
  ·exact absurd rfl (S.Zr _ (PySem.mem_of_lookup hy))
 ·exact Nat.le_of_lt (x.above y c (PySem.mem_of_lookup h))
 ·have hi:i < vs.length:=by
   unfold start at h2
   by_cases hi:i < vs.length
   ·exact hi
   ·rw[List.getElem?_append_right (by simpa using hi)] at h2
    rw[List.getElem?_replicate] at h2
    split at h2<;>cases h2
  have ha:vs[i]? = some v:=by
   unfold start at h2
   rw[List.getElem?_append_left (by simpa using hi),List.getElem?_map] at h2
   cases e:vs[i]? with
   | none=>rw[e] at h2;cases h2
   | some a=>rw[e] at h2;cases h2;rfl
  obtain⟨u,hu,rv⟩:=r.get ha
  have hp:ps[i]? = some y:=by
   rw[← S.pre,List.getElem?_take_of_lt (by omega)];exact h1
  have ndP:ps.Nodup:=by rw[← S.pre];exact S.nd.sublist (List.take_sublist _ _)
  refine⟨u,rv,?_⟩
  rcases S.par y (List.mem_of_getElem? hp) with k|k
  ·exact .inl ⟨k,Dc ndP hp hu k⟩
  ·obtain⟨c,e⟩:=I9 (n:=s.heap.objs.size+1) k
   refine .inr ⟨.inl k,c,e,?_⟩
   have q:=x.cell y c e
   rw[Df ndP hp hu (by show scope.names.lookup y≠_;rw[k];decide)] at q
   exact q
 ·exact e0.hok.fresh (Nat.le_of_lt (x.above y c (PySem.mem_of_lookup h)))
 ·unfold start
  show _=N.length
  rw[List.length_append,List.length_map,List.length_replicate]
  omega
theorem T8{CX:GQ}{P:Program}{w:World}{K:PySem.W.Frag}{mg:Str→Option Value}{base:Heap}{k:Nat}{f:Addr}{name qual:Str}{params:Arguments}{body:List Stmt}{scope:Scope}{dV kV doc pm cdv ct oc:Value}{an od:Option Addr}
 {osl:Array (Option Value)} {N ps:List Str} {sp:Sp} (lk:K.lookup f=some ⟨oc,od,.func (PySem.W.fnOf name qual params body scope dV kV doc pm an cdv ct),osl⟩) (hcd:PySem.W.codeIn K cdv qual=true) (S:bG N ps scope)
 (len:∀ vs H Q E,sp vs H Q E→vs.length=ps.length)
 (hbody:∀ (A:Around) (outer:List Env) (s:Shared) (H:Hp) (vs:List V) (Q:VK) (E:XK),jq k (A.deeper (envOfC qual scope s.heap.objs.size f cdv))→sp vs H Q E →
  ∃ t,GZ (lZ CX P w K mg base N qual scope f cdv A outer s H E) body t∧t { nx:=fun _ H'=>Q .non H',rt:=Q } (start N vs) H) :
 cY P w K mg base CX (k+1) f (PySem.W.fnOf name qual params body scope dV kV doc pm an cdv ct) ps sp:=by
 refine⟨len,fun A outer s H args us vs Q E hr e0 hb r hsp=>?_⟩
 have hl:=len _ _ _ _ hsp
 have KX:K.In s.heap:=e0.mod.kin.keeps fun b o e=>(e0.bs b o e).1
 have lim:s.heap.NoLimit:=e0.mod.nolimit.keeps fun b o e=>(e0.bs b o e).1
 have hkind:∀ y∈ps.zip us,scope.names.lookup y.1=some .local∨(scope.names.lookup y.1=some .cell∧((cellsFrom (s.heap.objs.size+1) scope.names []).lookup y.1).isSome=true):=fun ⟨n,v⟩ hy=>by
  rcases S.par n (List.of_mem_zip hy).1 with q|q
  ·exact .inl q
  ·exact .inr ⟨q,PySem.W.cellsFrom_some _ _ _ (.inl q)⟩
 refine codeAny_call_function hr.depth (KX _ _ lk) rfl S.co S.gen rfl (PySem.W.codeRec_of KX hcd) (hb _ _ _ _ ?_)
 refine wpAny_newFunctionEnv_cells S.kind hkind fun env he s1 x=>?_
 subst he
 refine⟨lim.keeps x.toInCall.keep,codeAny_func ?_⟩
 obtain⟨t,ht,hq⟩:=hbody A outer s H vs Q E (hr.deeper _) hsp
 have I:Inv (lZ CX P w K mg base N qual scope f cdv A outer s H E) [] (start N vs) H s1:=Cy S hr.hd e0 hl r x
 refine wpAny_mono (ht [] s1 (start N vs) H _ I hq) (fun fl s' hs=>?_) fun e s' hs=>hs
 have fin:∀ {σ':St} {H':Hp} {v:V} {u:Value},Inv (lZ CX P w K mg base N qual scope f cdv A outer s H E) [] σ' H' s'→RelV v u→Q v H'→CE outer P w H s Q u s' :=
  fun {σ' H' v u} J rv q=>⟨v,H',J.os,J.bare,J.base,J.hok,rv,q⟩
 cases fl with
 | ret u =>
  obtain⟨v,σ',H',J,rv,q⟩:=hs
  exact fin J rv q
 | next =>
  obtain⟨σ',H',J,q⟩:=hs
  exact fin (v:=V.non) (u:=Value.none) J rfl q
 | brk =>
  obtain⟨_,_,_,q⟩:=hs
  exact False.elim q
 | cont =>
  obtain⟨_,_,_,q⟩:=hs
  exact False.elim q
end L2
namespace L2
open PySem PySem.Spec PyProof.Rows
section
variable{X:Cx}{x:Str}{p pos:Pos}{e:Expr}{es:List Expr}{t:TA}{id T:String}{r:List V→Hp→VK→Prop}
def VD(r:List V→Hp→VK→Prop)(t:TA):TE:=fun σ H Q=>t σ H fun vs H1=>r vs H1 Q
theorem bc(hc:ik X (.builtin id) r)(hg:Gl X x)(hm:X.mg x=none)(hv:bootBuiltins x=some (.builtin id))(ha:PA X (e::es) t)(hn:x ≠ "__name__" := by decide)(hdb:(x == ("__debug__" : Str))=false:=by decide)
 (he:starEach (e::es) X.env=(false,eval e X.env)::starEach es X.env:=by rfl) (hpl:(backTo pos (starEach es X.env)).any (·.1)=false:=by rfl):PE X (.Call (.Name x p) (e::es) [] pos) (VD r t):=by
 intro pins s σ H Q I h
 refine wpAny_Call_Name_kw (uM I hg hm hv ?_ hn hdb)
 exact PyProof.Rows.callWith_builtin1 (dY (ha pos pins s σ H _ I h) fun us s1 ⟨vs,H1,I1,r1,q1⟩=>hc pins s1 σ H1 vs us Q I1 r1 q1) he hpl
theorem dm(hc:ik X (.type T) r)(hg:Gl X x)(hm:X.mg x=none)(hv:bootBuiltins x=some (.type T))(ha:PA X (e::es) t)(hn:x ≠ "__name__" := by decide)(hdb:(x == ("__debug__" : Str))=false:=by decide)
 (he:starEach (e::es) X.env=(false,eval e X.env)::starEach es X.env:=by rfl) (hpl:(backTo pos (starEach es X.env)).any (·.1)=false:=by rfl):PE X (.Call (.Name x p) (e::es) [] pos) (VD r t):=by
 intro pins s σ H Q I h
 refine wpAny_Call_Name_kw (uM I hg hm hv ?_ hn hdb)
 exact PyProof.Rows.callWith_type1 (dY (ha pos pins s σ H _ I h) fun us s1 ⟨vs,H1,I1,r1,q1⟩=>hc pins s1 σ H1 vs us Q I1 r1 q1) he hpl
end
end L2
namespace HT
open PySem PyProof.Rows
section
variable{prog:Program}{w:World}{A:Around}{E:Value→Shared→Prop}{s:Shared}
def uI(n d:Nat):Option Int→Nat
 | none=>d
 | some v=>if v < 0 then (v+(n:Int)).toNat else min v.toNat n
theorem Rj(n d:Nat)(hd:d≤n)(o:Option Int):uI n d o≤n:=by
 cases o with
 | none=>exact hd
 | some v =>
  show (if v < 0 then (v+(n:Int)).toNat else min v.toNat n)≤n
  by_cases hv:v < 0
  ·rw[if_pos hv];omega
  ·rw[if_neg hv];exact Nat.min_le_right _ _
end
end HT
namespace L2
open PySem PySem.Spec PyProof.Rows
abbrev TO:=St→Hp→(Option Int→Hp→Prop)→Prop
def PO(X:Cx)(e:Option Expr)(t:TO):Prop :=
 ∀ (pins:List (Addr×Obj)) (s:Shared) (σ : St) (H:Hp) (Q:Option Int→Hp→Prop),Inv X pins σ H s→t σ H Q →
  wpAny (model X.prog X.w) X.A (evalPart e X.env) (fun u s'=>∃ o H',Inv X pins σ H' s'∧IsPart u o∧Q o H') X.xe s
def Lz:TO:=fun _ H Q=>Q none H
def Xv(t:TE):TO:=fun σ H Q=>t σ H fun x H1=>∃ i,x=.int i∧Q (some i) H1
section
variable{X:Cx}{e:Expr}{te:TE}{lo hi:Option Expr}{tl th:TO}{pos p2:Pos}
theorem tH:PO X none Lz:=by
 intro pins s σ H Q I h
 rw[evalPart_none]
 exact wpAny_pure ⟨none,H,I,.none,h⟩
theorem nu(h:PE X e te):PO X (some e) (Xv te):=by
 intro pins s σ H Q I hw
 rw[evalPart_some]
 refine dY (h pins s σ H _ I hw) fun u s1 ⟨x,H1,I1,r1,q1⟩=>?_
 obtain⟨i,rfl,q⟩:=q1
 obtain⟨t,rfl⟩:=r1
 exact⟨some i,H1,I1,.int i t,q⟩
def Ys(X:Cx)(r:V→Option Int→Option Int→Hp→VK→Prop):Prop :=
 ∀ (pins:List (Addr×Obj)) (s:Shared) (σ : St) (H:Hp) (x:V) (v vl vu:Value) (lo hi:Option Int) (sl:Addr) (Q:VK),Inv X pins σ H s→RelV x v→s.heap.IsSliceOf sl vl vu .none→IsPart vl lo→IsPart vu hi→r x lo hi H Q →
  ∃ T id,typeLookup (.type T) "__getitem__" = pure (some (.builtin id))∧s.TypeIs v T∧wpAny (model X.prog X.w) X.A (getItem v (.ref sl)) (EP X pins σ Q) X.xe s
theorem Ys.or{r r':V→Option Int→Option Int→Hp→VK→Prop}(h:Ys X r)(h':Ys X r'):Ys X (fun x lo hi H Q=>r x lo hi H Q∨r' x lo hi H Q):=by
 intro pins s σ H x v vl vu lo hi sl Q I rx hs pl pu q
 rcases q with q|q
 ·exact h pins s σ H x v vl vu lo hi sl Q I rx hs pl pu q
 ·exact h' pins s σ H x v vl vu lo hi sl Q I rx hs pl pu q
def tSl(r:V→Option Int→Option Int→Hp→VK→Prop)(te:TE)(tl th:TO):TE:=fun σ H Q=>te σ H fun x H1=>tl σ H1 fun l H2=>th σ H2 fun u H3=>r x l u H3 Q
theorem mL{r:V→Option Int→Option Int→Hp→VK→Prop}(hr:Ys X r)(he:PE X e te)(hl:PO X lo tl)(hu:PO X hi th):PE X (.Subscript e (.Slice lo hi none p2) pos) (tSl r te tl th):=by
 intro pins s σ H Q I h
 refine Subscript_ (dY (he pins s σ H _ I h) fun v s1 ⟨x,H1,I1,r1,q1⟩=>?_)
 refine wpAny_Slice (dY (hl pins s1 σ H1 _ I1 q1) fun vl s2 ⟨l,H2,I2,pl,q2⟩=>dY (hu pins s2 σ H2 _ I2 q2) fun vu s3 ⟨u,H3,I3,pu,q3⟩=>?_)
 rw[evalPart_none]
 refine wpAny_pure ?_
 have I4:Inv X pins σ H3 { s3 with heap:=s3.heap.push { cls:=.type "slice", data:=.fields #[vl,vu,.none] } }:=I3.kept (t':=s3.toks) fun b ob q=>Heap.get?_push_of_some _ q
 obtain⟨T,id,hT,ht,hg⟩:=hr pins { s3 with heap:=s3.heap.push { cls:=.type "slice", data:=.fields #[vl,vu,.none] } } σ H3 x v vl vu l u s3.heap.objs.size Q I4 r1 (Heap.IsSliceOf.new ..) pl pu q3
 show wpAny (model X.prog X.w) X.A (subscriptTail e (.Slice lo hi none p2) v (.ref s3.heap.objs.size)) (EP X pins σ Q) X.xe { s3 with heap:=s3.heap.push { cls:=.type "slice", data:=.fields #[vl,vu,.none] } }
 exact tail_any (ops:=[.ref s3.heap.objs.size,v]) ht hT hg (by with_unfolding_all rfl)
def PQ(xs:List V)(lo hi:Option Int):List V:=(xs.drop (HT.uI xs.length 0 lo)).take (HT.uI xs.length xs.length hi - HT.uI xs.length 0 lo)
theorem IK(xs:List V)(lo hi:Option Int):(PQ xs lo hi).length≤xs.length:=by
 unfold PQ
 rw[List.length_take,List.length_drop]
 omega
end
end L2
namespace L2
open PySem PySem.Spec PyProof.Rows
def Bv(n:Nat)(i:Int):Option Nat:=if 0≤i then (if i < n then some i.toNat else none) else if -(n:Int)≤i then some (i+n).toNat else none
def v7{α : Type}(xs:List α)(i:Int):Option α:=(Bv xs.length i).bind fun j=>xs[j]?
theorem M5{n:Nat}{i:Int}{j:Nat}(h:Bv n i=some j):seqIndex? i n=some j∧j < n∧-(n:Int)≤i∧i < n:=by
 unfold Bv at h
 by_cases h0:0≤i
 ·rw[if_pos h0] at h
  by_cases h1:i < n
  ·rw[if_pos h1] at h
   have e:i.toNat=j:=Option.some.inj h
   exact⟨by rw[seqIndex_of h0 h1,e],by omega,by omega,h1⟩
  ·rw[if_neg h1] at h;cases h
 ·rw[if_neg h0] at h
  by_cases h1:-(n:Int)≤i
  ·rw[if_pos h1] at h
   have e:(i+n).toNat=j:=Option.some.inj h
   exact⟨by rw[seqIndex_neg (by omega) h1,e],by omega,h1,by omega⟩
  ·rw[if_neg h1] at h;cases h
theorem Gq{α : Type}{xs:List α}{i:Int}{v:α}(h:v7 xs i=some v):∃ j,seqIndex? i xs.length=some j∧xs[j]? = some v∧j < xs.length∧-(xs.length:Int)≤i∧i < xs.length:=by
 unfold v7 at h
 cases e:Bv xs.length i with
 | none=>rw[e] at h;cases h
 | some j =>
  rw[e] at h
  obtain⟨h1,h2,h3,h4⟩:=M5 e
  exact⟨j,h1,h,h2,h3,h4⟩
def Xm(b:Expr):Prop:=∀ o i,subscripted b false o i=operate [o,i] (getItem o i)
def Xn(X:Cx)(r:R2):Prop :=
 ∀ (value slice:Expr) (pins:List (Addr×Obj)) (s:Shared) (σ : St) (H:Hp) (x y:V) (v u:Value) (Q:VK),Inv X pins σ H s→RelV x v→RelV y u→r x y H Q →
  subscripted slice false v u=operate [v,u] (getItem v u)→wpAny (model X.prog X.w) X.A (subscriptTail value slice v u) (EP X pins σ Q) X.xe s
def Vp(X:Cx)(id:String)(r:V→List V→Hp→VK→Prop):Prop :=
 ∀ (pins:List (Addr×Obj)) (s:Shared) (σ : St) (H:Hp) (x:V) (xs:List V) (v:Value) (us:List Value) (Q:VK),Inv X pins σ H s→RelV x v→Vals xs us→r x xs H Q →
  wpAny (model X.prog X.w) X.A (call (.builtin id) (v::us)) (EP X pins σ Q) X.xe s
section
variable{X:Cx}{a b:Expr}{ta tb:TE}{pos:Pos}
theorem Xn.or{r r':R2}(h:Xn X r)(h':Xn X r'):Xn X (fun x y H Q=>r x y H Q∨r' x y H Q):=by
 intro value slice pins s σ H x y v u Q I rx ry q hs
 rcases q with q|q
 ·exact h value slice pins s σ H x y v u Q I rx ry q hs
 ·exact h' value slice pins s σ H x y v u Q I rx ry q hs
theorem cO{r:R2}(hr:Xn X r)(ha:PE X a ta)(hb:PE X b tb)(hs:Xm b):PE X (.Subscript a b pos) (tOp r ta tb):=by
 intro pins s σ H Q I h
 exact Subscript_ (aae ha hb I h fun v u s2 x y H2 I2 rx ry q=>hr a b pins s2 σ H2 x y v u Q I2 rx ry q (hs _ _))
def aba(K:PySem.W.Frag):R2:=fun x y H Q=>∃ p xs i v,x=.ref p∧y=.int i∧uW K H p xs∧v7 xs i=some v∧Q v H
def aa8(K:PySem.W.Frag):R2:=fun x y H Q=>∃ p xs i v,x=.ref p∧y=.int i∧yO K H p xs∧v7 xs i=some v∧Q v H
def aa9:R2:=fun x y H Q=>∃ z i c,x=.str z∧y=.int i∧z.length≤sizeLine∧v7 z.cps.toList i=some c∧Q (.str ⟨#[c]⟩) H
theorem Wu:Xn X (aba X.K):=by
 intro value slice pins s σ H x y v u Q I rx ry h hs
 obtain⟨p,xs,i,z,rfl,rfl,hq,he,q⟩:=h
 cases rx
 obtain⟨t,rfl⟩:=ry
 obtain⟨its,r,pl,hz⟩:=I.list hq
 obtain⟨j,h1,h2,h3,h4,h5⟩:=Gq he
 obtain⟨w,ew,rw'⟩:=r.get h2
 have hl:=r.length
 have hn:=wW
 have fin:EP X pins σ Q w s:=⟨z,H,I,rw',q⟩
 by_cases h0:0≤i
 ·have hj:i.toNat=j:=by
   rw[seqIndex_of h0 h5] at h1
   exact Option.some.inj h1
  exact item_listR pl.isList h0 (by omega) (by rw[hj];simpa using ew) fin hs
 ·have hj:(i+(its.toArray.size:Int)).toNat=j:=by
   rw[seqIndex_neg (by omega) h4] at h1
   rw[List.size_toArray,← hl]
   exact Option.some.inj h1
  exact subscriptTail_builtinR (x:=w) pl.isList.typeIs slot_list_getitem.lookup
   (wpAny_getItem_list_neg (Q:=fun r s'=>r=w∧EP X pins σ Q r s') pl.isList (by omega) (by rw[List.size_toArray]<;>omega) (by omega) (by rw[hj];simpa using ew) ⟨rfl,fin⟩) hs
theorem ZK:Xn X (aa8 X.K):=by
 intro value slice pins s σ H x y v u Q I rx ry h hs
 obtain⟨p,xs,i,z,rfl,rfl,hq,he,q⟩:=h
 cases rx
 obtain⟨t,rfl⟩:=ry
 obtain⟨its,r,pl,hz⟩:=I.tuple hq
 obtain⟨j,h1,h2,h3,h4,h5⟩:=Gq he
 obtain⟨w,ew,rw'⟩:=r.get h2
 have hl:=r.length
 have hn:=wW
 have fin:EP X pins σ Q w s:=⟨z,H,I,rw',q⟩
 exact subscriptTail_builtinR (x:=w) pl.typeIs slot_tuple_getitem.lookup
  (getItem_tuple (j:=j) (Q:=fun r s'=>r=w∧EP X pins σ Q r s') pl (by omega) (by omega) (by rw[List.size_toArray,← hl];exact h1) (by simpa using ew) ⟨rfl,fin⟩) hs
theorem ZL:Xn X aa9:=by
 intro value slice pins s σ H x y v u Q I rx ry h hs
 obtain⟨z,i,c,rfl,rfl,hz,he,q⟩:=h
 obtain⟨t,rfl⟩:=rx
 obtain⟨t',rfl⟩:=ry
 obtain⟨j,h1,h2,h3,h4,h5⟩:=Gq he
 have hl:z.cps.toList.length=z.length:=by simp[Str.length]
 rw[hl] at h1 h4 h5
 have hn:=wW
 exact tail_any (typeIs_str s z t) slot_str_getitem.lookup (getItem_str (c:=c) (by
  have e1:decide (i < -(2 ^ 63:Int))=false:=decide_eq_false (by omega)
  have e2:decide (i ≥ 2 ^ 63)=false:=decide_eq_false (by omega)
  rw[e1,e2,Bool.or_false]) (by rw[h1];simpa using h2) ⟨.str ⟨#[c]⟩,H,I.tok _,⟨_,rfl⟩,q⟩) hs
def rIx(K:PySem.W.Frag):R2:=fun x y H Q=>aba K x y H Q∨aa8 K x y H Q∨aa9 x y H Q
theorem bN:Xn X (rIx X.K):=Wu.or (ZK.or ZL)
theorem Ks(its:List Value)(n j:Nat)(u:Value):Obj.mapSeq (·.setIfInBounds j u) { cls:=.type "list", data:=.seq its.toArray n }={ cls:=.type "list", data:=.seq (its.set j u).toArray n }:=by
 simp[Obj.mapSeq]
theorem Inv.lst{pins:List (Addr×Obj)}{σ : St}{H:Hp}{s:Shared}{p:Addr}{xs:List V}(I:Inv X pins σ H s)(h:H p=some (.lst xs)) :
 ∃ (its:List Value) (n:Nat),Vals xs its∧s.heap.get? p=some { cls:=.type "list", data:=.seq its.toArray n }∧xs.length≤sizeLine:=by
 obtain⟨z,its,n,r,e⟩:=I.hok p _ h
 exact⟨its,n,r,e,z⟩
theorem Inv.Zx{pins:List (Addr×Obj)}{σ : St}{H:Hp}{s:Shared}{p:Addr}{xs ys:List V}{its its':List Value}{n n':Nat}{f:Obj→Obj}(I:Inv X pins σ H s)(h:H p=some (.lst xs))
 (ho:s.heap.get? p=some { cls:=.type "list", data:=.seq its.toArray n }) (hf:f { cls:=.type "list", data:=.seq its.toArray n }={ cls:=.type "list", data:=.seq its'.toArray n' }) (r:Vals ys its') (hz:ys.length≤sizeLine) (t:Nat) :
 Inv X pins σ (upd H p (.lst ys)) { s with heap:=s.heap.update p f,toks:=t }:=by
 have e:(s.heap.update p f).get? p=some { cls:=.type "list", data:=.seq its'.toArray n' }:=by
  rw[Heap.get?_update_self f ho (by rw[hf]<;>rfl),hf]
 refine I.write (x:=p) (e:=p) (by rw[h];trivial) (.inl rfl) (fun b u hb q=>(Heap.get?_update_other _ _ (Ne.symm hb)).trans q) ⟨_,e⟩ ?_
 exact⟨hz,its',n',r,e⟩
def XD:V→V→V→Hp→(Hp→Prop)→Prop:=fun o i v H Q=>∃ p xs k j,o=.ref p∧i=.int k∧H p=some (.lst xs)∧Bv xs.length k=some j∧Q (upd H p (.lst (xs.set j v)))
theorem set_list:acn X XD:=by
 intro pins s σ H o i v ov iv u Q I ro ri rv h
 obtain⟨p,xs,k,j,rfl,rfl,hp,hj,q⟩:=h
 cases ro
 obtain⟨t,rfl⟩:=ri
 obtain⟨its,n,r,ho,hz⟩:=I.lst hp
 obtain⟨h1,h2,h3,h4⟩:=M5 hj
 have hl:=r.length
 have hn:=wW
 have I':Inv X pins σ (upd H p (.lst (xs.set j v))) { s with heap:=s.heap.update p (Obj.mapSeq (·.setIfInBounds j u)) } :=
  I.Zx hp ho (Ks its n j u) (r.set rv j) (by rw[List.length_set];exact hz) s.toks
 by_cases h0:0≤k
 ·have hk:k.toNat=j:=by
   rw[seqIndex_of h0 h4] at h1
   exact Option.some.inj h1
  exact PySem.W.ki_setAt ho h0 (by omega) (by rw[List.size_toArray,← hl];exact h4) (by rw[hk];exact⟨_,I',q⟩)
 ·have hk:(k+(its.toArray.size:Int)).toNat=j:=by
   rw[seqIndex_neg (by omega) h3] at h1
   rw[List.size_toArray,← hl]
   exact Option.some.inj h1
  exact PySem.W.ki_setBack ho (by omega) (by rw[List.size_toArray,← hl];exact h3) (by omega) (by rw[hk];exact⟨_,I',q⟩)
theorem Eb(lo hi:Option Int)(n:Nat):(sliceBounds lo hi none n).1=((HT.uI n 0 lo:Nat):Int)∧(sliceBounds lo hi none n).2.1=((HT.uI n n hi:Nat):Int)∧(sliceBounds lo hi none n).2.2=1:=by
 refine⟨?_,?_,rfl⟩
 ·cases lo with
  | none=>simp[sliceBounds,HT.uI]
  | some i =>
   simp only[sliceBounds,HT.uI,Option.getD_none,show (1:Int) > 0 by decide,if_true]
   by_cases h:i < 0
   ·simp only[h,if_true]<;>omega
   ·simp only[h,if_false]<;>omega
 ·cases hi with
  | none=>simp[sliceBounds,HT.uI]
  | some i =>
   simp only[sliceBounds,HT.uI,Option.getD_none,show (1:Int) > 0 by decide,if_true]
   by_cases h:i < 0
   ·simp only[h,if_true]<;>omega
   ·simp only[h,if_false]<;>omega
theorem Bo(its:List Value)(lo hi:Option Int):slicePick its.toArray lo hi none=((its.drop (HT.uI its.length 0 lo)).take (HT.uI its.length its.length hi - HT.uI its.length 0 lo)).toArray:=by
 obtain⟨h1,h2,h3⟩:=Eb lo hi its.toArray.size
 unfold slicePick
 rw[h1,h2,h3]
 simp only[sliceRange_one,pick_run,List.size_toArray]<;>rfl
def aa3(K:PySem.W.Frag):V→Option Int→Option Int→Hp→VK→Prop:=fun x lo hi H Q=>∃ a xs,x=.ref a∧uW K H a xs∧∀ p,H p=none→Q (.ref p) (upd H p (.lst (PQ xs lo hi)))
theorem VJ:Ys X (aa3 X.K):=by
 intro pins s σ H x v vl vu lo hi sl Q I rx hs pl pu h
 obtain⟨a,xs,rfl,hx,q⟩:=h
 cases rx
 obtain⟨its,r,ht,hz⟩:=I.list hx
 have hlen:=r.length
 refine⟨"list", _,slot_list_getitem.lookup,ht.isList.typeIs,?_⟩
 refine wpAny_getItem_list_slice ht.isList hs pl pu .none (by simp) ?_ (by rw[List.size_toArray]<;>omega)
 rw[Bo,← hlen]
 refine⟨.ref s.heap.objs.size,_,I.laid (t':=s.toks) (o:=.lst (PQ xs lo hi)) (fun b ob q=>Heap.get?_push_of_some _ q) (Nat.le_refl _) ?_,rfl,q _ (I.hok.fresh (Nat.le_refl _))⟩
 exact⟨Nat.le_trans (IK xs lo hi) hz,_,0,(r.drop (HT.uI xs.length 0 lo)).take (HT.uI xs.length xs.length hi - HT.uI xs.length 0 lo),Heap.get?_push_size _ rfl⟩
def T9:V→Bool
 | .non=>true
 | .bl _=>true
 | .int _=>true
 | .str _=>true
 | _=>false
def eqV:V→V→Bool
 | .non,.non=>true
 | .bl a,.bl b=>a == b
 | .bl a,.int b=>(if a then 1 else 0) == b
 | .int a,.bl b=>a == (if b then 1 else 0)
 | .int a,.int b=>a == b
 | .str a,.str b=>a == b
 | _,_=>false
theorem Z4{A:Around}{s:Shared}{y x:V}{u v:Value}(ry:RelV y u)(rx:RelV x v)(fy:T9 y=true)(fx:T9 x=true):SeqAt.EqAt A s u v (eqV y x):=by
 cases y with
 | non =>
  cases ry
  cases x with
  | non=>cases rx;exact SeqAt.EqAt.same _
  | bl b=>cases rx;exact SeqAt.EqAt.none_bool b
  | int b=>obtain⟨t,rfl⟩:=rx;exact SeqAt.EqAt.none_int b t
  | str b=>obtain⟨t,rfl⟩:=rx;exact SeqAt.EqAt.none_str b t
  | _=>exact absurd (show false=true from fx) Bool.false_ne_true
 | bl a =>
  cases ry
  cases x with
  | non=>cases rx;exact SeqAt.EqAt.bool_none a
  | bl b=>cases rx;exact SeqAt.EqAt.bool_bool a b
  | int b=>obtain⟨t,rfl⟩:=rx;exact SeqAt.EqAt.bool_int a b t
  | str b=>obtain⟨t,rfl⟩:=rx;exact SeqAt.EqAt.bool_str a b t
  | _=>exact absurd (show false=true from fx) Bool.false_ne_true
 | int a =>
  obtain⟨t',rfl⟩:=ry
  cases x with
  | non=>cases rx;exact SeqAt.EqAt.int_none a t'
  | bl b=>cases rx;exact SeqAt.EqAt.int_bool a t' b
  | int b=>obtain⟨t,rfl⟩:=rx;exact SeqAt.EqAt.int_int a t' b t
  | str b=>obtain⟨t,rfl⟩:=rx;exact SeqAt.EqAt.int_str a t' b t
  | _=>exact absurd (show false=true from fx) Bool.false_ne_true
 | str a =>
  obtain⟨t',rfl⟩:=ry
  cases x with
  | non=>cases rx;exact SeqAt.EqAt.str_none a t'
  | bl b=>cases rx;exact SeqAt.EqAt.str_bool a t' b
  | int b=>obtain⟨t,rfl⟩:=rx;exact SeqAt.EqAt.str_int a t' b t
  | str b=>obtain⟨t,rfl⟩:=rx;exact SeqAt.EqAt.str_str a t' b t
  | _=>exact absurd (show false=true from fx) Bool.false_ne_true
 | _=>exact absurd (show false=true from fy) Bool.false_ne_true
theorem Gk:ik X (.type "list") (fun xs H Q=>∃ p ys,xs=[.ref p]∧(uW X.K H p ys∨yO X.K H p ys)∧∀ l,H l=none→Q (.ref l) (upd H l (.lst ys))):=by
 intro pins s σ H xs us Q I r h
 obtain⟨p,ys,rfl,hq,q⟩:=h
 obtain⟨u,rfl,rx⟩:=vals1 r
 cases rx
 have fin:∀ (its:List Value),Vals ys its→ys.length≤sizeLine→∀ (h':Heap) (c':Nat),(∀ b o',s.heap.get? b=some o'→h'.get? b=some o') →
  h'.get? s.heap.objs.size=some { cls:=.type "list", dict:=none,data:=.seq its.toArray c',slots:=#[] }→EP X pins σ Q (.ref s.heap.objs.size) { s with heap:=h' }:=fun its r' hz h' c' kp e =>
  ⟨.ref s.heap.objs.size,_,I.laid (t':=s.toks) kp (Nat.le_refl _) (show bZ X.prog X.w _ h' _ (.lst ys) from ⟨hz,its,c',r',e⟩),rfl,q _ (I.hok.fresh (Nat.le_refl _))⟩
 rcases hq with hq|hq
 ·obtain⟨its,r',pl,hz⟩:=I.list hq
  have hlen:=r'.length
  obtain⟨o,ho,hc,n,hd⟩:=pl.isList
  exact call_list_seq p (.inl rfl) ho hc hd (fun h' c' kp e=>fin its r' hz h' c' kp e) (by simp only[List.size_toArray]<;>omega)
 ·obtain⟨its,r',pl,hz⟩:=I.tuple hq
  have hlen:=r'.length
  obtain⟨o,ho,hc,n,hd⟩:=pl
  exact call_list_seq p (.inr rfl) ho hc hd (fun h' c' kp e=>fin its r' hz h' c' kp e) (by simp only[List.size_toArray]<;>omega)
theorem By:ik X (.type "tuple") (fun xs H Q=>∃ p ys,xs=[.ref p]∧((uW X.K H p ys∧∀ l,H l=none→Q (.ref l) (upd H l (.tup ys)))∨(yO X.K H p ys∧Q (.ref p) H))):=by
 intro pins s σ H xs us Q I r h
 obtain⟨p,ys,rfl,h⟩:=h
 obtain⟨u,rfl,rx⟩:=vals1 r
 cases rx
 rcases h with ⟨hq,q⟩|⟨hq,q⟩
 ·obtain⟨its,r',pl,hz⟩:=I.list hq
  have hlen:=r'.length
  refine call_tuple_list pl.isList (fun h' kp=>?_) (by simp only[List.size_toArray]<;>omega)
  have I1:Inv X pins σ H { s with heap:=h' }:=I.kept (t':=s.toks) kp
  have I2:Inv X pins σ (upd H h'.objs.size (.tup ys)) { s with heap:=h'.push { cls:=.type "tuple", data:=.seq its.toArray } } :=
   I1.laid (t':=s.toks) (fun b o e=>Heap.get?_push_of_some _ e) (Nat.le_refl _) (show bZ X.prog X.w _ _ _ (.tup ys) from ⟨hz,its,r',Qo.new _ _⟩)
  exact⟨.ref h'.objs.size,_,I2,rfl,q _ (I1.hok.fresh (Nat.le_refl _))⟩
 ·obtain⟨its,r',pl,hz⟩:=I.tuple hq
  exact call_tuple_same pl ⟨.ref p,H,I,rfl,q⟩
def tyV(K:PySem.W.Frag)(T:String)(x:V)(H:Hp):Prop:=match x with
 | .str _=>T = "str"
 | .int _=>T = "int"
 | .ref p=>(T = "list" ∧ ∃ xs,uW K H p xs)∨(T = "tuple" ∧ ∃ o,K.lookup p=some o∧o.cls=.type "tuple" ∧ o.dict=none) ∨
  (T = "dict" ∧ ((∃ kvs,H p=some (.dK kvs))∨∃ kvs,H p=some (.dT kvs)))∨(T = "set" ∧ ∃ S n,H p=some (.set S n))
 | _=>False
theorem JN{pins:List (Addr×Obj)}{σ : St}{H:Hp}{s:Shared}{T:String}{x:V}{v:Value}(I:Inv X pins σ H s)(r:RelV x v)(ty:tyV X.K T x H) :
 s.TypeIs v T∧∀ a,v=.ref a→∃ ob,s.heap.get? a=some ob∧ob.dict=none:=by
 cases x with
 | str z =>
  obtain⟨t,rfl⟩:=r
  cases (show T = "str" from ty)
  exact⟨typeIs_str s z t,fun _ e=>nomatch e⟩
 | int i =>
  obtain⟨t,rfl⟩:=r
  cases (show T = "int" from ty)
  exact⟨typeIs_int s i t,fun _ e=>nomatch e⟩
 | ref p =>
  cases r
  rcases ty with ⟨rfl,xs,hq⟩|⟨rfl,o,hk,hc,hd⟩|⟨rfl,hk⟩|⟨rfl,S,n,hk⟩
  ·obtain⟨its,_,pl,_⟩:=I.list hq
   refine⟨pl.isList.typeIs,fun a e=>?_⟩
   cases e
   obtain⟨o,n,e,c,hd,_⟩:=pl
   exact⟨o,e,hd⟩
  ·refine⟨⟨o,I.yu p o hk,hc⟩,fun a e=>?_⟩
   cases e
   exact⟨o,I.yu _ o hk,hd⟩
  ·have z:∃ o,s.heap.get? p=some o∧o.ExactDict:=by
    rcases hk with ⟨kvs,hk⟩|⟨kvs,hk⟩
    ·obtain⟨_,_,_,_,o,_,_,e,ex,_⟩:=I.hok p _ hk
     exact⟨o,e,ex⟩
    ·obtain⟨_,_,_,_,o,_,_,e,ex,_⟩:=I.hok p _ hk
     exact⟨o,e,ex⟩
   obtain⟨o,e,ex⟩:=z
   refine⟨⟨o,e,ex.1⟩,fun a e2=>?_⟩
   cases e2
   exact⟨o,e,ex.2.1⟩
  ·obtain⟨o,_,_,_,e,ex,_⟩:=I.hok p _ hk
   refine⟨⟨o,e,ex.1⟩,fun a e2=>?_⟩
   cases e2
   exact⟨o,e,ex.2.1⟩
 | _=>exact False.elim ty
def aaS(K:PySem.W.Frag)(T:String)(r:V→List V→Hp→VK→Prop)(to:TE):TE:=fun σ H Q=>to σ H fun x H1=>tyV K T x H1∧r x [] H1 Q
def tBM(K:PySem.W.Frag)(T:String)(r:V→List V→Hp→VK→Prop)(to:TE)(t:TA):TE:=fun σ H Q=>to σ H fun x H1=>tyV K T x H1∧t σ H1 fun xs H2=>r x xs H2 Q
variable{o e:Expr}{es:List Expr}{to:TE}{t:TA}{name:Str}{apos cpos:Pos}{T id:String}{r:V→List V→Hp→VK→Prop}
theorem Zb(pa:PlainAttrs T)(slot:Slot T name id)(hty:typeOf (.builtin id)=pure (.type "method_descriptor"))(hm:Vp X id r)(ho:PE X o to)
 (hbase:attributeBase o name X.env (eval o X.env)=eval o X.env:=by rfl) (hline:(apos.endLine == cpos.line)=true:=by rfl):PE X (.Call (.Attribute o name apos) [] [] cpos) (aaS X.K T r to):=by
 intro pins s σ H Q I h
 refine wpAny_Call_method0_late hbase hline (dY (ho pins s σ H _ I h) fun v s1 ⟨x,H1,I1,r1,ty,q1⟩=>?_)
 obtain⟨h1,h2⟩:=JN I1 r1 ty
 exact⟨T,id,pa,slot,hty,h1,h2,Calls.callWith_builtin rfl (PySem.evalArgs_none (hm pins s1 σ H1 x [] v [] Q I1 r1 .nil q1))⟩
theorem mO(pa:PlainAttrs T)(slot:Slot T name id)(hty:typeOf (.builtin id)=pure (.type "method_descriptor"))(hm:Vp X id r)(ho:PE X o to)(ha:PA X (e::es) t)
 (hbase:attributeBase o name X.env (eval o X.env)=eval o X.env:=by rfl)
 (hfew:((backTo cpos (starEach (e::es) X.env)).all (fun x=>!x.1) && (backToKw cpos (keywordEach [] X.env)).all (fun x=>x.1.isSome)
  && decide ((e::es).length+([]:List Keyword).length+(if ([]:List Keyword).isEmpty then 0 else 1) < 30))=true:=by rfl)
 (hline:(apos.endLine == cpos.line)=true:=by rfl) (hs:starEach (e::es) X.env=(false,eval e X.env)::starEach es X.env:=by rfl) (hplain:(backTo cpos (starEach es X.env)).any (·.1)=false:=by rfl) :
 PE X (.Call (.Attribute o name apos) (e::es) [] cpos) (tBM X.K T r to t):=by
 intro pins s σ H Q I h
 refine wpAny_Call_method_late hbase hfew hline rfl (dY (ho pins s σ H _ I h) fun v s1 ⟨x,H1,I1,r1,ty,q1⟩=>?_)
 obtain⟨h1,h2⟩:=JN I1 r1 ty
 refine⟨T,id,pa,slot,hty,h1,h2,?_⟩
 have hA:=ha cpos pins s1 σ H1 _ I1 q1
 rw[hs] at hA ⊢
 refine Calls.callWith_builtin (by show (false || (backTo cpos (starEach es X.env)).any (·.1))=false;rw[hplain]<;>rfl) (Calls.evalArgs_plain ?_)
 exact dY hA fun us s2 ⟨vs,H2,I2,r2,q2⟩=>hm pins s2 σ H2 x vs v us Q I2 r1 r2 q2
end
end L2
namespace L2
open PySem PySem.Spec PyProof.Rows
def MtM(X:Cx)(id:String)(r:V→List V→Hp→VK→Prop):Prop :=
 ∀ (pins:List (Addr×Obj)) (s:Shared) (σ : St) (H:Hp) (x:V) (xs:List V) (v:Value) (us:List Value) (Q:VK),Inv X pins σ H s→RelV x v→Vals xs us→r x xs H Q →
  wpAny (model X.prog X.w) X.A (call (.builtin id) (v::us)) (EP X pins σ Q) X.xe s
theorem Vals.one:∀ {x:V} {us:List Value},Vals [x] us→∃ u,us=[u]∧RelV x u
 | _,_,.cons r .nil=>⟨_,rfl,r⟩
theorem Vals.eraseIdx:∀ {xs:List V} {us:List Value} (i:Nat),Vals xs us→Vals (xs.eraseIdx i) (us.eraseIdx i)
 | _,_,_,.nil=>.nil
 | _,_,0,.cons _ t=>t
 | _,_,i+1,.cons r t=>.cons r (Vals.eraseIdx i t)
theorem Cr{α : Type}:∀ (l:List α) (i:Nat),(l.eraseIdx i).length≤l.length
 | [],_=>Nat.le_refl _
 | _::_,0=>Nat.le_succ _
 | _::r,i+1=>Nat.succ_le_succ (Cr r i)
section
variable{X:Cx}{pins:List (Addr×Obj)}{σ : St}{H:Hp}{s:Shared}{l b:Addr}{xs ys zs:List V}
theorem Inv.abJ{its its':List Value}{n:Nat}{f:Array Value→Array Value}{t':Nat}(I:Inv X pins σ H s)(hH:H l=some (.lst xs))
 (e:s.heap.get? l=some { cls:=.type "list", data:=.seq its.toArray n }) (hf:f its.toArray=its'.toArray) (hv:Vals ys its') (hz:ys.length≤sizeLine) :
 Inv X pins σ (upd H l (.lst ys)) { s with heap:=s.heap.update l (Obj.mapSeq f),toks:=t' }:=by
 have q:=PySem.IsL.update e f
 rw[hf] at q
 refine I.write (x:=l) (e:=l) (by rw[hH];exact trivial) (.inl rfl) (fun b' u hb hu=>(Heap.get?_update_other s.heap (Obj.mapSeq f) (Ne.symm hb)).trans hu) ⟨_,q⟩ ?_
 exact⟨hz,its',_,hv,q⟩
theorem Inv.ac3{its:List Value}{t':Nat}(I:Inv X pins σ H s)(hv:Vals ys its)(hz:ys.length≤sizeLine) :
 Inv X pins σ (upd H s.heap.objs.size (.lst ys)) { s with heap:=s.heap.push { cls:=.type "list", data:=.seq its.toArray },toks:=t' } :=
 I.laid (fun _ _ q=>Heap.get?_push_of_some _ q) (Nat.le_refl _) ⟨hz,its,0,hv,Heap.get?_push_size _ rfl⟩
theorem Inv.fresh(I:Inv X pins σ H s):H s.heap.objs.size=none:=I.hok.fresh (Nat.le_refl _)
theorem Inv.abI(I:Inv X pins σ H s)(hH:H l=some (.lst xs)):xs.length≤sizeLine∧∃ (its:List Value) (n:Nat),Vals xs its∧xs.length=its.length∧s.heap.get? l=some { cls:=.type "list", data:=.seq its.toArray n }:=by
 obtain⟨z,its,n,r,e⟩:=I.hok l _ hH
 exact⟨z,its,n,r,r.length,e⟩
end
section
variable{X:Cx}
def Eg:V→List V→Hp→VK→Prop:=fun x vs H Q=>∃ l xs y,x=.ref l∧vs=[y]∧H l=some (.lst xs)∧xs.length < sizeLine∧Q .non (upd H l (.lst (xs++[y])))
theorem d8:MtM X "list.append" Eg:=by
 intro pins s σ H x vs v us Q I rx rv h
 obtain⟨l,xs,y,rfl,rfl,hH,hz,q⟩:=h
 cases rx
 obtain⟨u,rfl,ru⟩:=rv.one
 obtain⟨z,its,n,r,hl,e⟩:=I.abI hH
 refine call_meets F.slot_list_append ⟨_,e,rfl⟩ F.entry_list_append (F.args_list_append_2 _ _) (PySem.list_append l its.toArray n u (by rw[List.size_toArray];omega)) ⟨e,?_⟩
 refine⟨.non,_,I.abJ (its':=its++[u]) hH e (by simp) (r.append (.cons ru .nil)) ?_,rfl,q⟩
 rw[List.length_append,List.length_singleton]
 omega
def Ru:V→List V→Hp→VK→Prop:=fun x vs H Q=>∃ l xs i k y,x=.ref l∧vs=[.int i]∧H l=some (.lst xs)∧-(2 ^ 63)≤i∧i < 2 ^ 63∧seqIndex? i xs.length=some k∧xs[k]? = some y∧Q y (upd H l (.lst (xs.eraseIdx k)))
theorem S5:MtM X "list.pop" Ru:=by
 intro pins s σ H x vs v us Q I rx rv h
 obtain⟨l,xs,i,k,y,rfl,rfl,hH,h1,h2,hk,hy,q⟩:=h
 cases rx
 obtain⟨u,rfl,ru⟩:=rv.one
 obtain⟨t,rfl⟩:=ru
 obtain⟨z,its,n,r,hl,e⟩:=I.abI hH
 obtain⟨w,hw,rw'⟩:=r.get hy
 refine call_meets F.slot_list_pop ⟨_,e,rfl⟩ F.entry_list_pop (F.args_list_pop_2 _ _)
  (MeetsSeq.list_pop_at l its.toArray n i t k w (fitsIndex_both h1 h2) (by rw[List.size_toArray,← hl];exact hk) (by rw[← Array.getElem?_toList];exact hw) (by rw[List.size_toArray];omega)) ⟨e,?_⟩
 refine⟨y,_,I.abJ (its':=its.eraseIdx k) hH e ?_ (r.eraseIdx k) ?_,rw',q⟩
 ·show its.toArray.eraseIdxIfInBounds k=(its.eraseIdx k).toArray
  rw[List.eraseIdxIfInBounds_toArray]
 ·have:=Cr xs k
  omega
end
end L2
namespace L2
open PySem PySem.Spec PyProof.Rows
section
variable{κ : Type}[DecidableEq κ]
def uB(kvs:List (κ×V))(k:κ):Option V:=(kvs.find? fun kv=>decide (kv.1=k)).map (·.2)
def putK(kvs:List (κ×V))(k:κ)(v:V):List (κ×V) :=
 if (kvs.any fun kv=>decide (kv.1=k))=true then kvs.map (fun kv=>if kv.1=k then (kv.1,v) else kv) else kvs++[(k,v)]
theorem zb{p:κ×V}{r:List (κ×V)}{k:κ}(e:p.1=k):uB (p::r) k=some p.2:=by simp[uB,List.find?_cons,e]
theorem zc{p:κ×V}{r:List (κ×V)}{k:κ}(e:¬ p.1=k):uB (p::r) k=uB r k:=by simp[uB,List.find?_cons,e]
theorem G6(k:κ):∀ kvs:List (κ×V),(kvs.any fun kv=>decide (kv.1=k))=(uB kvs k).isSome
 | []=>rfl
 | p::r=>by
  rw[List.any_cons]
  by_cases e:p.1=k
  ·simp only[zb e,decide_eq_true e,Bool.true_or,Option.isSome_some]
  ·rw[zc e,decide_eq_false e,Bool.false_or];exact G6 k r
theorem xY(kvs:List (κ×V))(k:κ)(v:V):(putK kvs k v).length≤kvs.length+1:=by
 unfold putK
 split
 ·rw[List.length_map];omega
 ·rw[List.length_append,List.length_cons,List.length_nil];omega
theorem Lp.wX{o:Option V}{u:Option Value}(r:Lp o u):o.isSome=u.isSome:=by
 cases o with
 | none=>cases u with
  | none=>rfl
  | some _=>exact(show False from r).elim
 | some _=>cases u with
  | none=>exact(show False from r).elim
  | some _=>rfl
theorem KV.val{kvs:List (κ×V)}{vs:List (κ×Value)}(r:KV kvs vs)(k:κ):Lp (uB kvs k) (valueAt vs k):=by
 unfold KV at r
 induction r with
 | nil=>exact True.intro
 | @cons p q ps qs h t ih =>
  obtain⟨h1,h2⟩:=h
  by_cases e:p.1=k
  ·have e':q.1=k:=h1.symm.trans e
   have b:valueAt (q::qs) k=some q.2:=by simp[valueAt,List.find?_cons,e']
   rw[zb e,b];exact h2
  ·have e':¬ q.1=k:=fun z=>e (h1.trans z)
   have b:valueAt (q::qs) k=valueAt qs k:=by simp[valueAt,List.find?_cons,e']
   rw[zc e,b];exact ih
theorem KV.any{kvs:List (κ×V)}{vs:List (κ×Value)}(r:KV kvs vs)(k:κ):(kvs.any fun kv=>decide (kv.1=k))=vs.any fun kv=>decide (kv.1=k):=by
 unfold KV at r
 induction r with
 | nil=>rfl
 | cons h t ih=>rw[List.any_cons,List.any_cons,ih,h.1]
theorem KV.repl{kvs:List (κ×V)}{vs:List (κ×Value)}(r:KV kvs vs)(k:κ){y:V}{u:Value}(ry:RelV y u) :
 KV (kvs.map fun kv=>if kv.1=k then (kv.1,y) else kv) (vs.map fun kv=>if kv.1=k then (kv.1,u) else kv):=by
 unfold KV at r ⊢
 induction r with
 | nil=>exact .nil
 | @cons p q ps qs h t ih =>
  rw[List.map_cons,List.map_cons]
  refine .cons ?_ ih
  obtain⟨h1,h2⟩:=h
  by_cases e:p.1=k
  ·rw[if_pos e,if_pos (h1.symm.trans e)];exact⟨h1,ry⟩
  ·rw[if_neg e,if_neg (fun z=>e (h1.trans z))];exact⟨h1,h2⟩
theorem KV.put{kvs:List (κ×V)}{vs:List (κ×Value)}(r:KV kvs vs)(k:κ){y:V}{u:Value}(ry:RelV y u):KV (putK kvs k y) (stored vs k u):=by
 unfold putK stored
 rw[r.any k]
 by_cases e:(vs.any fun kv=>decide (kv.1=k))=true
 ·rw[if_pos e,if_pos e];exact r.repl k ry
 ·rw[if_neg e,if_neg e];exact Paired.snoc r ⟨rfl,ry⟩
theorem KV.length{kvs:List (κ×V)}{vs:List (κ×Value)}(r:KV kvs vs):kvs.length=vs.length:=Paired.length r
end
theorem TF{P:Program}{w:World}{k:Key}{u:Value}(r:RelV (kV k) u):(gD P w).is k u=true:=by
 cases k with
 | inl i=>obtain⟨t,e⟩:=(show ∃ t,u=Value.int i t from r);subst e;exact HQ P w i t
 | inr x=>obtain⟨t,e⟩:=(show ∃ t,u=Value.str x t from r);subst e;exact HN P w x t
theorem Cw{P:Program}{w:World}:∀ {ks:List Key} {us:List Value},Vals (ks.map kV) us→ItemsAre (gD P w) ks us
 | [],_,r=>by rw[List.map_nil] at r;cases r;exact .nil
 | k::ks,_,r=>by
  rw[List.map_cons] at r
  cases r with
  | cons h t=>exact .cons (TF h) (Cw t)
abbrev KT(H:Hp):List (List Key×V)→List (List Key×Addr×Value)→Prop:=Paired fun p q=>p.1=q.1∧H q.2.1=some (.tup (p.1.map kV))∧RelV p.2 q.2.2
theorem KT.val{H:Hp}{kvs:List (List Key×V)}{xs:List (List Key×Addr×Value)}(r:KT H kvs xs)(k:List Key):Lp (uB kvs k) ((atKey xs k).map (·.2)):=by
 induction r with
 | nil=>exact True.intro
 | @cons p q ps qs h t ih =>
  obtain⟨h1,_,h2⟩:=h
  by_cases e:p.1=k
  ·have e':q.1=k:=h1.symm.trans e
   have b:atKey (q::qs) k=some q.2:=by simp[atKey,List.find?_cons,e']
   rw[zb e,b];exact h2
  ·have e':¬ q.1=k:=fun z=>e (h1.trans z)
   have b:atKey (q::qs) k=atKey qs k:=by simp[atKey,List.find?_cons,e']
   rw[zc e,b];exact ih
theorem KT.repl{H:Hp}{kvs:List (List Key×V)}{xs:List (List Key×Addr×Value)}(r:KT H kvs xs)(k:List Key){y:V}{u:Value}(ry:RelV y u) :
 KT H (kvs.map fun kv=>if kv.1=k then (kv.1,y) else kv) (xs.map (putAt k u)):=by
 induction r with
 | nil=>exact .nil
 | @cons p q ps qs h t ih =>
  rw[List.map_cons,List.map_cons]
  refine .cons ?_ ih
  obtain⟨h1,h2,h3⟩:=h
  unfold putAt
  by_cases e:p.1=k
  ·rw[if_pos e,if_pos (h1.symm.trans e)];exact⟨h1,h2,ry⟩
  ·rw[if_neg e,if_neg (fun z=>e (h1.trans z))];exact⟨h1,h2,h3⟩
theorem KT.put{H:Hp}{kvs:List (List Key×V)}{xs:List (List Key×Addr×Value)}(r:KT H kvs xs)(k:List Key){b:Addr}{y:V}{u:Value}(hb:H b=some (.tup (k.map kV)))(ry:RelV y u) :
 KT H (putK kvs k y) (storedH xs k b u):=by
 have e:(kvs.any fun kv=>decide (kv.1=k))=(atKey xs k).isSome:=by
  rw[G6,(r.val k).wX,Option.isSome_map]
 unfold putK storedH
 rw[e]
 by_cases q:(atKey xs k).isSome=true
 ·rw[if_pos q,if_pos q];exact r.repl k ry
 ·rw[if_neg q,if_neg q];exact Paired.snoc r ⟨rfl,hb,ry⟩
theorem KT.keeps{H H':Hp}{kvs:List (List Key×V)}{xs:List (List Key×Addr×Value)}(r:KT H kvs xs)(ht:∀ b ys,H b=some (.tup ys)→H' b=some (.tup ys)):KT H' kvs xs :=
 Paired.Zw r fun _ _ z=>⟨z.1,ht _ _ z.2.1,z.2.2⟩
section
variable{P:Program}{w:World}{H:Hp}{h:Heap}{a:Addr}
theorem XC{u:HO}(ok:pO P w H h)(e:Rd H a u):bZ P w H h a u:=e.ok ok
theorem Yh{kvs:List (Key×V)}(ok:pO P w H h)(e:Rd H a (.dK kvs)):kvs.length≤sizeLine∧(a == sysModules)=false∧∃ vs,KV kvs vs∧h.DictOf (gD P w) a vs :=
 show bZ P w H h a (.dK kvs) from XC ok e
theorem ab5{kvs:List (Key×V)}(ok:pO P w H h)(e:H a=some (.dK kvs)):kvs.length≤sizeLine∧(a == sysModules)=false∧∃ vs,KV kvs vs∧h.DictOf (gD P w) a vs:=Yh ok (.inl e)
theorem Kz{ks:List Key}(ok:pO P w H h)(e:H a=some (.tup (ks.map kV))):(tupleKind (gD P w)).is h ks a:=by
 obtain⟨_,its,r,o,h1,h2,_,n,h3⟩:=(show bZ P w H h a (.tup (ks.map kV)) from ok a _ e)
 exact⟨o,its.toArray,n,h1,h2,h3,by simpa using Cw r⟩
theorem Yg{kvs:List (List Key×V)}(ok:pO P w H h)(e:Rd H a (.dT kvs)):kvs.length≤sizeLine∧(a == sysModules)=false ∧
 ∃ xs,KT H kvs xs∧h.DictOfH (tupleKind (gD P w)) a xs:=by
 obtain⟨z,y,xs,r,o,es,ep,h1,h2,h3,h4,h5⟩:=(show bZ P w H h a (.dT kvs) from XC ok e)
 refine⟨z,y,xs,r,o,es,ep,h1,h2,h3,h4,fun x hx=>?_,h5⟩
 have all:∀ {l:List (List Key×V)} {m:List (List Key×Addr×Value)},KT H l m→∀ x∈m,(tupleKind (gD P w)).is h x.1 x.2.1:=by
  intro l m q
  induction q with
  | nil=>intro x hx;exact nomatch hx
  | @cons p q ps qs hq t ih =>
   intro x hx
   rcases List.mem_cons.mp hx with e|hx
   ·subst e
    exact Kz ok (by rw[← hq.1];exact hq.2.1)
   ·exact ih x hx
 exact all r x hx
theorem ab4{kvs:List (List Key×V)}(ok:pO P w H h)(e:H a=some (.dT kvs)):kvs.length≤sizeLine∧(a == sysModules)=false ∧
 ∃ xs,KT H kvs xs∧h.DictOfH (tupleKind (gD P w)) a xs:=Yg ok (.inl e)
end
def GK(H:Hp)(a:Addr)(y:V)(r:Option V):Prop :=
 (∃ kvs k,Rd H a (.dK kvs)∧y=kV k∧r=uB kvs k)∨∃ kvs k b,Rd H a (.dT kvs)∧y=.ref b∧H b=some (.tup (k.map kV))∧r=uB kvs k
def Jy(H:Hp)(a:Addr)(y v:V)(H':Hp):Prop :=
 (∃ kvs k,H a=some (.dK kvs)∧y=kV k∧kvs.length < sizeLine∧H'=upd H a (.dK (putK kvs k v))) ∨
 ∃ kvs k b,H a=some (.dT kvs)∧y=.ref b∧H b=some (.tup (k.map kV))∧kvs.length < sizeLine∧H'=upd H a (.dT (putK kvs k v))
theorem GK.k{H:Hp}{a:Addr}{kvs:List (Key×V)}{k:Key}(e:H a=some (.dK kvs)):GK H a (kV k) (uB kvs k):=.inl ⟨kvs,k,.inl e,rfl,rfl⟩
theorem GK.t{H:Hp}{a b:Addr}{kvs:List (List Key×V)}{k:List Key}(e:H a=some (.dT kvs))(eb:H b=some (.tup (k.map kV))):GK H a (.ref b) (uB kvs k):=.inr ⟨kvs,k,b,.inl e,rfl,eb,rfl⟩
theorem Jy.k{H:Hp}{a:Addr}{kvs:List (Key×V)}{k:Key}{v:V}(e:H a=some (.dK kvs))(hl:kvs.length < sizeLine):Jy H a (kV k) v (upd H a (.dK (putK kvs k v))):=.inl ⟨kvs,k,e,rfl,hl,rfl⟩
theorem Jy.t{H:Hp}{a b:Addr}{kvs:List (List Key×V)}{k:List Key}{v:V}(e:H a=some (.dT kvs))(eb:H b=some (.tup (k.map kV)))(hl:kvs.length < sizeLine) :
 Jy H a (.ref b) v (upd H a (.dT (putK kvs k v))):=.inr ⟨kvs,k,b,e,rfl,eb,hl,rfl⟩
section
variable{X:Cx}{pins:List (Addr×Obj)}{σ : St}{H:Hp}{s:Shared}{a:Addr}{y v:V}{u r:Value}{o:Option V}{A:Around}{E:Value→Shared→Prop}
theorem Inv.big(I:Inv X pins σ H s):sysModules < s.heap.objs.size:=by
 have h:mainGlobals < s.heap.objs.size:=(I.mod.glob.keeps I.bk).lt
 exact Nat.lt_trans (by decide) h
theorem adn{Q:Value→Shared→Prop}(hu:A.units+1 < cLine)(I:Inv X pins σ H s)(g:GK H a y o)(ry:RelV y u)(h:∀ s',Inv X pins σ H s'→Q (.bool o.isSome) s') :
 wpAny (model X.prog X.w) A (compareOp .In u (.ref a)) Q E s:=by
 rcases g with ⟨kvs,k,e,ey,l⟩|⟨kvs,k,b,e,ey,eb,l⟩
 ·subst ey
  obtain⟨z,hd,vs,rel,dd⟩:=Yh I.hok e
  refine wpAny_in_of (TF ry) hd dd.mapOf ?_
  rw[← (rel.val k).wX,← l]
  exact h _ (I.tok _)
 ·subst ey
  cases (show u=Value.ref b from ry)
  obtain⟨z,hd,xs,rel,dd⟩:=Yg I.hok e
  refine wpAny_in_heap (tupleKind_room_in1 hu) (Kz I.hok eb) hd dd ?_
  have q:=(rel.val k).wX
  rw[Option.isSome_map] at q
  rw[← q,← l]
  exact h _ (I.tok _)
theorem Np{h':Heap}{t':Nat}{ob:HO}(I:Inv X pins σ H s)(mu:Mut (H a))(hs:Heap.SameBut a s.heap h')(he:∃ q,h'.get? a=some q)(new:bZ X.prog X.w (upd H a ob) h' a ob) :
 Inv X pins σ (upd H a ob) { s with heap:=h',toks:=t' } :=
 I.write (x:=a) (e:=a) mu (.inl rfl) (fun b q hb z=>(hs.2 b hb).trans z) he new
theorem Z6{P:Program}{w:World}{H':Hp}{h':Heap}{kvs:List (Key×V)}{vs:List (Key×Value)}(z:kvs.length≤sizeLine)(hd:(a == sysModules)=false)(rel:KV kvs vs)(dd:h'.DictOf (gD P w) a vs) :
 bZ P w H' h' a (.dK kvs):=⟨z,hd,vs,rel,dd⟩
theorem PK{H':Hp}{Q:Unit→Shared→Prop}(hu:A.units+1 < cLine)(I:Inv X pins σ H s)(g:Jy H a y v H')(ry:RelV y u)(rv:RelV v r)(h:∀ s',Inv X pins σ H' s'→Q () s') :
 wpAny (model X.prog X.w) A (setItem (.ref a) u r) Q E s:=by
 rcases g with ⟨kvs,k,e,ey,l,eH⟩|⟨kvs,k,b,e,ey,eb,l,eH⟩
 ·subst ey eH
  obtain⟨z,hd,vs,rel,dd⟩:=ab5 I.hok e
  have hz:vs.length≤sizeLine:=by rw[← rel.length];exact z
  have hl:(putK kvs k v).length≤sizeLine:=by have:=xY kvs k v;omega
  refine wpAny_setItem_pairs (hsz:=hz) (TF ry) dd fun h' dd' hs=>h _ ?_
  have he:∃ q,h'.get? a=some q:=let ⟨q,_,_,hq,_⟩:=dd';⟨q,hq⟩
  exact Np I (by rw[e];exact True.intro) hs he (Z6 hl hd (rel.put k rv) dd')
 ·subst ey eH
  cases (show u=Value.ref b from ry)
  obtain⟨z,hd,xs,rel,dd⟩:=ab4 I.hok e
  have hz:xs.length≤sizeLine:=by rw[← Paired.length rel];exact z
  have hl:(putK kvs k v).length≤sizeLine:=by have:=xY kvs k v;omega
  refine wpAny_setItem_heap (hsz:=hz) (tupleKind_room_in1 hu) (Kz I.hok eb) dd fun h' dd' hs=>h _ ?_
  obtain⟨q,es,ep,hq,h2,h3,h4,_,h5⟩:=dd'
  refine Np I (by rw[e];exact True.intro) hs ⟨q,hq⟩ ⟨hl,hd,_,(rel.put k eb rv).keeps fun c ys ec=>?_,q,es,ep,hq,h2,h3,h4,h5⟩
  rw[aJ (abC ec e (fun z=>nomatch z))]
  exact ec
end
def aaQ(ty td:TE):TE:=fun σ H Q=>ty σ H fun y H1=>td σ H1 fun x H2=>∃ a o,x=.ref a∧GK H2 a y o∧Q (.bl o.isSome) H2
def ni(td ty tv:TE):TS:=fun D σ H=>tv σ H fun v H1=>td σ H1 fun x H2=>ty σ H2 fun y H3=>∃ a H4,x=.ref a∧Jy H3 a y v H4∧D.nx σ H4
section
variable{X:Cx}{o i e value:Expr}{pos pos' tpos:Pos}{td ty tv:TE}
theorem RV(hu:X.A.units+1 < cLine)(hi:PE X i ty)(ho:PE X o td):PC X .In i o (aaQ ty td):=by
 intro pins s σ H Q I h
 refine dY (hi pins s σ H _ I h) fun iv s1 ⟨y,H1,I1,ry,q1⟩=>dY (ho pins s1 σ H1 _ I1 q1) fun u s2 ⟨x,H2,I2,rx,a,ov,ex,g,q2⟩=>?_
 subst ex
 obtain rfl:u=Value.ref a:=rx
 exact adn hu I2 g ry fun s3 I3=>⟨.bl ov.isSome,H2,I3,rfl,q2⟩
theorem Ei(hu:X.A.units+1 < cLine)(ho:PE X o td)(hi:PE X i ty)(hv:PE X value tv)(hs:swapsWith value (some (.Subscript o i pos')) pos.line X.env=pure false) :
 PS X (.Assign [.Subscript o i pos'] value pos) (ni td ty tv):=by
 intro pins s σ H D I h
 refine wpAny_Assign_Subscript (dY (hv pins s σ H _ I h) fun r s1 ⟨v,H1,I1,rv,q1⟩=>dY (ho pins s1 σ H1 _ I1 q1) fun u s2 ⟨x,H2,I2,rx,q2⟩=>dY (hi pins s2 σ H2 _ I2 q2) fun iv s3 ⟨y,H3,I3,ry,a,H4,ex,g,q3⟩=>?_) hs
 subst ex
 obtain rfl:u=Value.ref a:=rx
 exact PK hu I3 g ry rv fun s4 I4=>⟨σ,H4,I4,q3⟩
end
theorem Ug{P:Program}{w:World}{H:Hp}(h:Heap)(hb:sysModules < h.objs.size):bZ P w H (h.push { cls:=.type "dict", data:=.dict #[] }) h.objs.size (.dK []) :=
 ⟨Nat.zero_le _,beq_eq_false_iff_ne.mpr (Ne.symm (Nat.ne_of_lt hb)),[],.nil,Heap.DictOf.new h⟩
theorem Uc{P:Program}{w:World}{H:Hp}(h:Heap)(hb:sysModules < h.objs.size):bZ P w H (h.push { cls:=.type "dict", data:=.dict #[] }) h.objs.size (.dT []) :=
 ⟨Nat.zero_le _,beq_eq_false_iff_ne.mpr (Ne.symm (Nat.ne_of_lt hb)),[],.nil,_,#[],0,Heap.get?_push_size _ rfl,⟨rfl,rfl,rfl⟩,rfl,rfl,List.nodup_nil⟩
def Q6:TE:=fun _ H Q=>∀ p,H p=none→Q (.ref p) (upd H p (.dK []))
def Q5:TE:=fun _ H Q=>∀ p,H p=none→Q (.ref p) (upd H p (.dT []))
section
variable{X:Cx}{pos:Pos}
theorem RQ:PE X (.Dict [] [] pos) Q6:=fun pins s σ H Q I h =>
 wpAny_Dict_empty ⟨.ref s.heap.objs.size,_,I.laid (a:=s.heap.objs.size) (o:=.dK []) (t':=s.toks) (fun _ _ q=>Heap.get?_push_of_some _ q) (Nat.le_refl _) (Ug s.heap I.big),rfl,h _ (I.hok.fresh (Nat.le_refl _))⟩
theorem RP:PE X (.Dict [] [] pos) Q5:=fun pins s σ H Q I h =>
 wpAny_Dict_empty ⟨.ref s.heap.objs.size,_,I.laid (a:=s.heap.objs.size) (o:=.dT []) (t':=s.toks) (fun _ _ q=>Heap.get?_push_of_some _ q) (Nat.le_refl _) (Uc s.heap I.big),rfl,h _ (I.hok.fresh (Nat.le_refl _))⟩
end
end L2
namespace Att
open PySem PySem.W PySem.Calls PyProof.Rows
theorem yw{P:Params}{h:Heap}:∀ (ns:List Int) (vs:List Value),WellAll P h vs (ns.map WData.int)→IntsAre vs ns:=by
 intro ns
 induction ns with
 | nil =>
  intro vs w
  rw[List.map_nil] at w
  cases w
  exact .nil
 | cons n ns ih =>
  intro vs w
  rw[List.map_cons] at w
  cases w with
  | cons a b =>
   cases a
   exact .cons _ _ (ih _ b)
theorem Ol{l:OpenLaw}{n:Nat}(hn:l.most=some n){P:Params}{h:Heap}{args:List WData}{vals:List Value}
 (hpre:l.row.toRowW.claim.pre args=true) (hwl:WellAll P h vals args) :
 ∃ a vs ns,vals=[Value.ref a]∧args=[WData.list (ns.map WData.int)]∧h.get? a=some { cls:=.type "list", data:=.seq vs.toArray }∧IntsAre vs ns∧ns.length≤n:=by
 have hsh:WShape.hasAll [] args [.list .int]=true:=(pre_splitW hpre).1
 have hc:l.pre.holds [] { args:=args }=true:=(pre_splitW hpre).2
 obtain⟨d,r,rfl,h1,h2⟩:=hasAllW_cons hsh
 obtain rfl:=hasAllW_nil h2
 obtain⟨xs,rfl,h3⟩:=hasW_list h1
 obtain⟨ns,rfl⟩:=items_int h3
 have hlen:ns.length≤n:=by
  unfold OpenLaw.pre at hc
  have h4:(WTm.not (.lt (.lit (.int (n:Int))) (.len (.arg 0)))).holds [] { args:=[.list (ns.map .int)] }=true:=by
   have h4:=(holds_andW hc).1
   rw[hn] at h4
   exact h4
  have h5:=condW_of h4 (w_not (w_lt w_lit (w_len_list (w_arg rfl))))
  rw[List.length_map] at h5
  refine Nat.le_of_not_lt fun q=>?_
  have q':(n:Int) < ((ns.length:Nat):Int):=by omega
  first
   | (rw[decide_eq_true q'] at h5;exact absurd h5 (by decide))
   | (simp at h5;omega)
 cases hwl with
 | cons w1 w2 =>
  cases w2
  cases w1 with
  | list ho hall=>exact⟨_,_,ns,rfl,rfl,ho,yw ns _ hall,hlen⟩
theorem Ot(l:OpenLaw)(args:List WData):l.row.toRowW.claim.post args (.bool true) args=true :=
 postW_of (r:=l.row.toRowW) (X:=(true == true))
  (show WShape.has [] (.bool true) .bool=true by first|rfl|decide|simp[WShape.has,WShape.arms,WShape.armsAll])
  (show (WTm.eq .res (.lit (.bool true))).value [] { args:=args,res:=some (.bool true),after:=args }=some (.bool (true == true)) from w_eq_bool (w_res rfl) w_lit) rfl
theorem Jl{l:OpenLaw}{n:Nat}{q:Program}{loose:List Str}{XP:(Str→Option Value)→Heap→Prop}{YP:World→Heap→Prop}{d:DefRec}
 (hn:l.most=some n) (hdf:d.params.defaults=[])
 (call:∀ (w:World) (s₀ s₁:Shared) (mg mb:Str→Option Value) (fa:Addr) (o:Obj) (pm cd doc:Value) (a:Addr) (vs:List Value) (ns:List Int),
  Ground q loose [] XP w s₀ mg mb s₁.heap→YP w s₁.heap →
  s₁.heap.get? fa=some o→o.data=.func (docDef d.name d.params d.body d.scope pm cd doc)→s₁.heap.CodeRec cd d.name→mg d.name=some (.ref fa) →
  s₁.heap.get? a=some { cls:=.type "list", data:=.seq vs.toArray }→IntsAre vs ns→ns.length≤n→s₁.gens = #[] →
  codeAny (model l.prog w) callerA (.call (.ref fa) ⟨[.ref a],[]⟩) (fun r s'=>r=.ok (.ret (.bool true))∧OldK s₁.heap s'.heap∧s'.os=s₁.os∧AllBare s'.gens) s₁) :
 WalkO q loose XP YP l.row.toRowW d [] (fun f vs=>PySem.call f vs):=by
 intro w s₀ s₁ mg mb G Y fa o pm cd doc dV kV ho hd hcd hD hmg hg args vals as hpre hlay hrd hwl hlo
 obtain rfl:dV=.none:=Dflts.none hD hdf
 obtain rfl:kV=.none:=Dflts.noKw hD
 obtain⟨a,vs,ns,rfl,rfl,hobj,hints,hlen⟩:=Ol hn hpre hwl
 refine enter_call (codeAny_mono (call w s₀ s₁ mg mb fa o pm cd doc a vs ns G Y ho (fd_plain hd) hcd hmg hobj hints hlen hg) fun r s' hq=>?_)
 obtain⟨rfl,h2,h3,h4⟩:=hq
 exact⟨.inl ⟨.bool true,.bool true,[],rfl,fun _=>rfl,.bool true,Ot l _,fun _=>⟨List.Pairwise.nil,fun _ hm=>(nomatch hm)⟩⟩,h2,h3,h4⟩
end Att
namespace L2
open PySem PySem.Spec PyProof.Rows
theorem BW:∀ {vs:List Value} {ns:List Int},IntsAre vs ns→Vals (ns.map V.int) vs
 | _,_,.nil=>.nil
 | _,_,.cons n t h=>.cons ⟨t,rfl⟩ (BW h)
end L2
namespace L2
open PySem PySem.Spec PyProof.Rows
end L2
namespace L2
open PySem PySem.Spec PyProof.Rows
def lX(s:Stmt):Arguments:=match s with
 | .FunctionDef _ a _ _ _ _ _ _ _ _=>a
 | _=>{ posonlyargs:=[],args:=[],vararg:=none,kwonlyargs:=[],kw_defaults:=[],kwarg:=none,defaults:=[] }
def iG(s:Stmt):List Stmt:=match s with
 | .FunctionDef _ _ b _ _ _ _ _ _ _=>b
 | _=>[]
def aQ(s:Stmt):Scope:=match s with
 | .FunctionDef _ _ _ _ _ _ sc _ _ _=>sc
 | _=>{ kind:=.function,names:=[],isGenerator:=false,isCoroutine:=false }
abbrev dH:GQ:=fun _ _ _ _ _ _=>False
abbrev E0:XK:=fun _ _ _=>False
theorem bQ{X:Cx}:Bh dH X E0:=fun _ _ _ _ _ _ _ h=>h.elim
structure nZ(K:PySem.W.Frag)(x qual:Str)(st:Stmt)(f:Addr)(fd:FuncData):Prop where
 ex:∃ (oc:Value) (od:Option Addr) (kV doc pm:Value) (an:Option Addr) (cdv ct:Value) (osl:Array (Option Value)),
  fd=PySem.W.fnOf x qual (lX st) (iG st) (aQ st) .none kV doc pm an cdv ct∧K.lookup f=some ⟨oc,od,.func fd,osl⟩∧PySem.W.codeIn K cdv qual=true
 kp:PySem.W.keepIn K (.ref f)=true
section
variable{P:Program}{w:World}{K:PySem.W.Frag}{mg:Str→Option Value}{base:Heap}
theorem nZ.ok{x qual:Str}{st:Stmt}{f:Addr}{fd:FuncData}{N ps:List Str}{k:Nat}{sp:Sp}(F:nZ K x qual st f fd)(S:bG N ps (aQ st))(len:∀ vs H Q E,sp vs H Q E→vs.length=ps.length)
 (hbody:∀ (cdv:Value) (A:Around) (outer:List Env) (s:Shared) (H:Hp) (vs:List V) (Q:VK) (E:XK),jq k (A.deeper (envOfC qual (aQ st) s.heap.objs.size f cdv))→sp vs H Q E →
  ∃ t,GZ (lZ dH P w K mg base N qual (aQ st) f cdv A outer s H E).nox (iG st) t∧t { nx:=fun _ H'=>Q .non H',rt:=Q } (start N vs) H):cY P w K mg base dH (k+1) f fd ps sp:=by
 obtain⟨oc,od,kV,doc,pm,an,cdv,ct,osl,rfl,lk,hcd⟩:=F.ex
 refine T8 lk hcd S len fun A outer s H vs Q E hr hsp=>?_
 obtain⟨t,h,q⟩:=hbody cdv A outer s H vs Q E hr hsp
 exact⟨t,h.nox,q⟩
theorem nZ.binds{x qual:Str}{st:Stmt}{f:Addr}{fd:FuncData}{ps:List Str}(F:nZ K x qual st f fd)
 (h:∀ (kV doc pm:Value) (an:Option Addr) (cdv ct:Value) (us:List Value),us.length=ps.length→bindArgs (PySem.W.fnOf x qual (lX st) (iG st) (aQ st) .none kV doc pm an cdv ct) ⟨us,[]⟩=pure (ps.zip us)):Binds K fd ps []:=by
 obtain⟨oc,od,kV,doc,pm,an,cdv,ct,osl,rfl,lk,hcd⟩:=F.ex
 exact .all (h kV doc pm an cdv ct)
theorem T7{x qual:Str}{st:Stmt}{f:Addr}{oc:Value}{od an:Option Addr}{osl:Array (Option Value)}{kV doc pm cdv ct:Value}(l:K.lookup f=some ⟨oc,od,.func (PySem.W.fnOf x qual (lX st) (iG st) (aQ st) .none kV doc pm an cdv ct),osl⟩)
 (c:PySem.W.codeIn K cdv qual=true) (k:PySem.W.keepIn K (.ref f)=true):nZ K x qual st f (PySem.W.fnOf x qual (lX st) (iG st) (aQ st) .none kV doc pm an cdv ct):=⟨⟨oc,od,kV,doc,pm,an,cdv,ct,osl,rfl,l,c⟩,k⟩
end
theorem eV{A:Around}{k:Nat}(hr:jq k A):A.units+1 < cLine:=Nat.lt_of_le_of_lt (Nat.add_le_add_left (by decide:1≤64) _) hr.units
section
variable{X:Cx}
theorem pv(i:Nat){x:Str}{pos:Pos}(hN:X.N[i]? = some x:=by rfl)(hv:Vis X.env.scope x:=by first|exact Or.inl rfl|exact Or.inr (Or.inl rfl)|exact Or.inr (Or.inr rfl))(hd:(x == ("__debug__" : Str))=false:=by decide)
 (hcd:(x == ("__classdict__" : Str))=false:=by decide):PE X (.Name x pos) (uD i):=Y9 hN hv hd hcd
end
theorem Fz{A B:Prop}(h:B):if false=true then A else B:=by
 rw[if_neg Bool.false_ne_true]
 exact h
theorem Fy{A B:Prop}(h:A):if true=true then A else B:=by
 rw[if_pos rfl]
 exact h
def gH(H H':Hp):Prop:=∀ b o,H b=some o→H' b=some o
theorem gH.refl(H:Hp):gH H H:=fun _ _ h=>h
theorem gH.trans{H H1 H2:Hp}(a:gH H H1)(b:gH H1 H2):gH H H2:=fun c o h=>b c o (a c o h)
theorem gH.free{H H':Hp}(e:gH H H'){l:Addr}(h:H' l=Option.none):H l=Option.none:=by
 cases q:H l with
 | none=>rfl
 | some o =>
  rw[e l o q] at h
  cases h
end L2
namespace L2
open PySem PySem.Spec PyProof.Rows
section
variable{prog:Program}{w:World}{A:Around}{R:Result→Shared→Prop}{s:Shared}
theorem Gi{elt target iter:Expr}{ifs:List Expr}{scope:Scope}{pos:Pos}{it acc:Value}{env:Env}(I:Nat→Shared→Prop)
 (turn:∀ n s,I n s→wpAny (model prog w) A (pyNext it) (fun r s₁=>match r with
  | none=>R (.ok .next) s₁
  | some v=>wpAny (model prog w) A (letOwnedTupleGo target it v) (fun _ s₂=>wpAny (model prog w) A (assign target env v) (fun _ s₃ =>
   wpAny (model prog w) A (forIn ifs true fun c r=>if r=true then do let ok ← isTrue c env (eval c env);pure (ForInStep.yield ok) else pure (ForInStep.yield r)) (fun ok s₄ =>
    if ok=true then wpAny (model prog w) A (eval elt env) (fun x s₅ =>
     wpAny (model prog w) A (call (.builtin "list.append") [acc,x]) (fun _ s₆=>∃ m,m < n∧I m s₆) (fun _ _=>False) s₅) (fun _ _=>False) s₄
    else ∃ m,m < n∧I m s₄) (fun _ _=>False) s₃) (fun _ _=>False) s₂) (fun _ _=>False) s₁) (fun _ _=>False) s)
 (n:Nat) (h:I n s) :
 codeAny (model prog w) A (.compLoop (.ListComp elt [⟨target,iter,ifs,0⟩] scope pos) 0 it acc env) R s:=by
 refine codeAny_loop rfl I (fun n s hI=>?_) n h
 show wpAny _ A ((compTurn (.ListComp elt [⟨target,iter,ifs,0⟩] scope pos) 0 it acc env).onRaise (fun x=>do noteFrame x env;theTreesLotGoes x)) _ _ s
 refine wpAny_noted (wpAny_mono (E:=fun _ _=>False) ?_ (fun _ _ q=>q) fun _ _ q=>q.elim)
 rw[compTurn_list]
 refine wpAny_bind (wpAny_standAt (wpAny_bind (dY (turn n s hI) fun r s₁ h₁=>?_)))
 cases r with
 | none=>exact wpAny_pure h₁
 | some v =>
  refine wpAny_bind (dY h₁ fun _ s₂ h₂=>wpAny_bind (dY h₂ fun _ s₃ h₃=>wpAny_bind (dY h₃ fun ok s₄ h₄=>?_)))
  cases ok with
  | false=>exact wpAny_pure ⟨rfl,h₄⟩
  | true=>exact wpAny_bind (wpAny_bind (dY h₄ fun x s₅ h₅=>wpAny_bind (dY h₅ fun _ s₆ h₆=>wpAny_pure (wpAny_pure ⟨rfl,h₆⟩))))
end
theorem pO.track{P:Program}{w:World}{H:Hp}{h:Heap}{a:Addr}{o:HO}(x:pO P w H h)(hn:H a=none)(new:bZ P w (upd H a o) h a o):pO P w (upd H a o) h:=fun b u e=>by
 by_cases hb:b=a
 ·subst hb;rw[aU] at e;cases e;exact new
 ·rw[aJ hb] at e
  exact(x b u e).stay (fun c v _ q=>q) (fun c q=>by rw[aJ (aX q hn)];exact q) fun c xs q=>by rw[aJ (aX q hn)];exact q
theorem lookup_mem{α : Type}:∀ {l:List (Str×α)} {x:Str} {k:α},l.lookup x=some k→(x,k)∈l
 | [],_,_,h=>by simp at h
 | (n,k')::r,x,k,h=>by
  rw[List.lookup_cons] at h
  cases hx:x == n with
  | true =>
   rw[hx] at h
   have:x=n:=by simpa using hx
   cases h;subst this;exact List.mem_cons_self
  | false=>rw[hx] at h;exact List.mem_cons_of_mem _ (lookup_mem h)
theorem jK{env:Env}:∀ {names:List (Str×NameKind)} {x:Str} {k:NameKind},
 (names.map fun (n,k)=>if (k == NameKind.free && env.scope.kind == .function && env.kindOf n == some .cell) then (n,NameKind.cell) else (n,k)).lookup x=some k →
 ∃ k',names.lookup x=some k'∧(k=k'∨(k'=.free∧k=.cell))
 | [],_,_,h=>by simp at h
 | (n,k0)::r,x,k,h=>by
  have ih:=@jK env r x k
  have h':List.lookup x ((if (k0 == NameKind.free && env.scope.kind == .function && env.kindOf n == some .cell)=true then (n,NameKind.cell) else (n,k0)) ::
   (r.map fun (n,k)=>if (k == NameKind.free && env.scope.kind == .function && env.kindOf n == some .cell) then (n,NameKind.cell) else (n,k)))=some k:=h
  by_cases hc:(k0 == NameKind.free && env.scope.kind == .function && env.kindOf n == some .cell)=true
  ·rw[if_pos hc,List.lookup_cons] at h'
   rw[List.lookup_cons]
   cases hx:x == n with
   | true =>
    rw[hx] at h';cases h'
    simp only[Bool.and_eq_true] at hc
    exact⟨k0,rfl,.inr ⟨by simpa using hc.1.1,rfl⟩⟩
   | false=>rw[hx] at h';exact ih h'
  ·rw[if_neg hc,List.lookup_cons] at h'
   rw[List.lookup_cons]
   cases hx:x == n with
   | true=>rw[hx] at h';cases h';exact⟨_,rfl,.inl rfl⟩
   | false=>rw[hx] at h';exact ih h'
theorem uP{env:Env}{f:(Str×NameKind)→List (Str×Addr)→Sem (ForInStep (List (Str×Addr)))}
 (hf:∀ n k r,f (n,k) r=if (k == NameKind.free)=true then (cellOf env n >>= fun a=>pure (ForInStep.yield ((n,a)::r))) else pure (ForInStep.yield r)) :
 ∀ (names:List (Str×NameKind)) (acc:List (Str×Addr)),(∀ y∈names,y.2=.free→∃ c,env.cells.lookup y.1=some c)→(∀ x c,acc.lookup x=some c→env.cells.lookup x=some c) →
  ∃ cl,forIn names acc f=pure cl∧(∀ x c,cl.lookup x=some c→env.cells.lookup x=some c)∧(∀ x,(∃ c,acc.lookup x=some c)→∃ c,cl.lookup x=some c)∧∀ x,(x,NameKind.free)∈names→∃ c,cl.lookup x=some c
 | [],acc,_,hacc=>⟨acc,rfl,hacc,fun _ h=>h,fun _ h=>by simp at h⟩
 | (n,k)::r,acc,hn,hacc=>by
  have hr:∀ y∈r,y.2=.free→∃ c,env.cells.lookup y.1=some c:=fun y hy=>hn y (List.mem_cons_of_mem _ hy)
  by_cases hk:(k == NameKind.free)=true
  ·have hk':k=.free:=by simpa using hk
   obtain⟨c,hc⟩:=hn (n,k) List.mem_cons_self hk'
   obtain⟨cl,e,h1,h2,h3⟩:=uP hf r ((n,c)::acc) hr (fun x c' h=>by
    rw[List.lookup_cons] at h
    cases hx:x == n with
    | true => rw [hx] at h; cases h; have : x = n := by simpa using hx
              subst this;exact hc
    | false=>rw[hx] at h;exact hacc x c' h)
   refine⟨cl,?_,h1,fun x ⟨c',hx⟩=>h2 x ?_,fun x hx=>?_⟩
   ·rw[List.forIn_cons,hf,if_pos hk]
    have:cellOf env n=pure c:=by unfold cellOf;rw[hc]
    rw[this]
    exact e
   ·rw[List.lookup_cons]
    cases x == n with
    | true=>exact⟨_,rfl⟩
    | false=>exact⟨c',hx⟩
   ·rcases List.mem_cons.mp hx with e|hx
    ·cases e
     exact h2 _ ⟨c,by rw[List.lookup_cons];simp⟩
    ·exact h3 x hx
  ·obtain⟨cl,e,h1,h2,h3⟩:=uP hf r acc hr hacc
   refine⟨cl,?_,h1,h2,fun x hx=>?_⟩
   ·rw[List.forIn_cons,hf,if_neg hk]
    exact e
   ·rcases List.mem_cons.mp hx with e|hx
    ·cases e
     exact absurd rfl hk
    ·exact h3 x hx
theorem W4{sc:Scope}{env:Env}(h:∀ y∈sc.names,y.2=.free→∃ c,env.cells.lookup y.1=some c) :
 ∃ cl,closureFor sc env=pure cl∧(∀ x c,cl.lookup x=some c→env.cells.lookup x=some c)∧∀ x,(x,NameKind.free)∈sc.names→∃ c,cl.lookup x=some c:=by
 obtain⟨cl,e,h1,_,h3⟩:=uP (env:=env) (f:=fun x r=>match x with|(name,kind)=>if (kind == NameKind.free)=true then (cellOf env name >>= fun a=>pure (ForInStep.yield ((name,a)::r))) else pure (ForInStep.yield r))
  (fun n k r=>rfl) sc.names [] h (fun _ _ h=>by simp at h)
 refine⟨cl,?_,h1,h3⟩
 unfold closureFor
 refine Eq.trans ?_ e
 exact bind_pure _
def pick(ρ : List (Option Nat))(σ : St):St:=ρ.map fun o=>o.bind fun j=>(σ[j]?).join
def CG(X:Cx)(N':List Str)(sc:Scope)(cl:List (Str×Addr))(C:Addr)(s:Shared)(H:Hp)(fp:List Addr):Cx :=
 { X with N:=N',s₀:=s,H₀:=H,env:=compEnvC sc cl C X.env,outer:=X.stack,ex:=fp,fn:=fun _=>false,xe:=fun _ _=>False }
structure dW(X:Cx)(N':List Str)(ρ : List (Option Nat))(sc:Scope):Prop where
 kind:sc.kind=.function
 z6:∀ y∈sc.names,y.2≠.cell
 names:∀ y∈sc.names,y.2=.local→sc.names.lookup y.1=some .local
 free:∀ y∈sc.names,y.2=.free→(X.env.kindOf y.1=some .cell∨X.env.kindOf y.1=some .free)
 len:ρ.length=N'.length
 ix:∀ (i j:Nat),ρ[i]? = some (some j)→∃ x,N'[i]? = some x∧X.N[j]? = some x∧sc.names.lookup x=some .free
def PTs(X:Cx)(ifs:List Expr)(t:TT):Prop :=
 ∀ (pins:List (Addr×Obj)) (s:Shared) (σ : St) (H:Hp) (Q:Bool→Hp→Prop),Inv X pins σ H s→t σ H Q →
  wpAny (model X.prog X.w) X.A (forIn ifs true fun c r=>if r=true then do let ok ← isTrue c X.env (eval c X.env);pure (ForInStep.yield ok) else pure (ForInStep.yield r)) (TP X pins σ Q) X.xe s
def aaM:TT:=fun _ H Q=>Q true H
theorem jf{X:Cx}:PTs X [] aaM:=fun _ _ _ H _ I h=>wpAny_tests_nil ⟨H,I,h⟩
theorem tE{X:Cx}{c:Expr}{t:TT}(h:PT X c t):PTs X [c] t:=fun pins s σ H Q I hw=>wpAny_tests_one (h pins s σ H Q I hw)
def Jw(ρ : List (Option Nat))(g:TG):Prop:=∀ v σ H Q,g v σ H Q→g v σ H fun σ2 H2=>(σ2.length = σ.length∧∀ (i j:Nat),ρ[i]? = some (some j)→σ2[i]? = σ[i]?)∧Q σ2 H2
def GF(ρ : List (Option Nat))(g:Qx):Prop:=∀ v σ H Q,g v σ H Q→g v σ H fun σ2 H2=>(σ2.length = σ.length∧∀ (i j:Nat),ρ[i]? = some (some j)→σ2[i]? = σ[i]?)∧Q σ2 H2
theorem fY{ρ : List (Option Nat)}{i:Nat}(h:ρ[i]? = some none):Jw ρ (qH i):=fun v σ H Q q=>by
 refine⟨⟨List.length_set,fun k j e=>?_⟩,q⟩
 have:i≠k:=by intro z;subst z;rw[h] at e;cases e
 rw[List.getElem?_set_ne this]
theorem KZ{ρ : List (Option Nat)}:GF ρ T6:=fun v σ H Q ⟨e,q⟩=>⟨e,⟨rfl,fun _ _ _=>rfl⟩,q⟩
theorem pI{ρ : List (Option Nat)}{i:Nat}{u:Qx}(h:ρ[i]? = some none)(hu:GF ρ u)(mu:∀ v σ H Q Q',(∀ a b,Q a b→Q' a b)→u v σ H Q→u v σ H Q'):GF ρ (Io (qH i) u):=fun vs σ H Q ⟨v,r,e,q⟩=>by
 refine⟨v,r,e,?_⟩
 refine mu _ _ _ _ _ (fun a b ⟨⟨l,k⟩,z⟩=>⟨⟨l.trans List.length_set,fun i' j' e'=>(k i' j' e').trans ?_⟩,z⟩) (hu _ _ _ _ q)
 have:i≠i':=by intro z;subst z;rw[h] at e';cases e'
 rw[List.getElem?_set_ne this]
theorem wY:∀ v σ H Q Q',(∀ a b,Q a b→Q' a b)→T6 v σ H Q→T6 v σ H Q':=fun _ _ _ _ _ m ⟨e,q⟩=>⟨e,m _ _ q⟩
theorem FQ{i:Nat}{u:Qx}(mu:∀ v σ H Q Q',(∀ a b,Q a b→Q' a b)→u v σ H Q→u v σ H Q'):∀ v σ H Q Q',(∀ a b,Q a b→Q' a b)→Io (qH i) u v σ H Q→Io (qH i) u v σ H Q' :=
 fun _ _ _ _ _ m ⟨v,r,e,q⟩=>⟨v,r,e,mu _ _ _ _ _ m q⟩
theorem KY{ρ : List (Option Nat)}{K:PySem.W.Frag}{n:Nat}{u:Qx}(hu:GF ρ u):Jw ρ (ZZ K n u):=fun v σ H Q ⟨a,xs,e,hq,hl,q⟩=>⟨a,xs,e,hq,hl,hu _ _ _ _ q⟩
def acz(J:It)(ρ : List (Option Nat))(g:TG)(tc:TT)(te:TE)(σ : St)(H1:Hp)(Q:VK):Prop:=∃ W:Nat→Nat→List V→Hp→Prop,(∃ m,W 0 m [] H1)∧∀ i m acc H,W i m acc H →
 (J.stop i H∧∀ p,H p=none→Q (.ref p) (upd H p (.lst acc))) ∨
 (J.go i H∧acc.length < sizeLine∧∃ N:List V→Hp→Prop,(∀ acc' H',N acc' H'→∃ m',m' < m∧W (i+1) m' acc' H') ∧
  ∀ x H',J.yld i H x H'→g x (pick ρ σ) H' fun σ2 H2=>tc σ2 H2 fun b H3=>if b=true then te σ2 H3 fun y H4=>N (acc++[y]) H4 else N acc H3)
def LC(wi:TI)(ρ : List (Option Nat))(g:TG)(tc:TT)(te:TE):TE:=fun σ H Q=>wi σ H fun J H1=>acz J ρ g tc te σ H1 Q
section
variable{X:Cx}{elt tg iter:Expr}{ifs:List Expr}{sc:Scope}{pos cpos:Pos}{N':List Str}{ρ : List (Option Nat)}{wi:TI}{g:TG}{tc:TT}{te:TE}
theorem CJ(hcalm:X.calm=true)(S:dW X N' ρ sc)(hi:PI X tg iter wi)
 (hg:∀ cl C s H fp,PG (CG X N' sc cl C s H fp) tg g) (gk:Jw ρ g) (hc:∀ cl C s H fp,PTs (CG X N' sc cl C s H fp) ifs tc) (he:∀ cl C s H fp,PE (CG X N' sc cl C s H fp) elt te)
 (hs:∀ x,foldedSetIterable iter X.env x=pure x)
 (use:Option (Value→Sem Unit)) {R:Value→Shared→Prop} {pins:List (Addr×Obj)} {s:Shared} {σ : St} {H:Hp} {Q:VK} (I:Inv X pins σ H s) (h:LC wi ρ g tc te σ H Q)
 (hR:∀ s' D C H',Inv X pins σ H' s'→Q (.ref D) H'→(∃ m,s'.heap.Ns C m)→pN X pins H' C→compPost (model X.prog X.w) X.A X.xe use R (.ref D) C (.ok .next) s') :
 wpAny (model X.prog X.w) X.A (comprehension (.ListComp elt [⟨tg,iter,ifs,0⟩] sc pos) sc X.env cpos (newList []) false (eval iter X.env) use) R X.xe s:=by
 obtain⟨cl,hcl,hsub,hall⟩:=W4 (sc:=sc) (env:=X.env) fun y hy hf=>I.ok.has y.1 (S.free y hy hf)
 refine wpAny_comprehension_free rfl hs hcl S.kind S.names (dY (hi pins s σ H _ I h) fun v s1 h1=>dY h1 fun itv s2 h2=>?_)
 obtain⟨it,fp,tn,J,H2,e,I2,T,st2,f2,W,⟨m0,w0⟩,turn⟩:=h2
 subst e
 refine wpAny_newList (items:=[]) ?_
 refine wpAny_newFunctionEnv S.z6 (by intro y hy;simp at hy) (fun h₁ hns hsb=>?_) S.kind
 dsimp only at hns hsb ⊢
 generalize hH2:s2.heap.push { cls:=.type "list", data:=.seq ([]:List Value).toArray }=Hh at hns hsb ⊢
 have hCs:Hh.objs.size=s2.heap.objs.size+1:=by rw[← hH2,Heap.size_push]
 generalize hD:s2.heap.objs.size=D at *
 generalize hCC:Hh.objs.size=C at *
 have hDC:D≠C:=by omega
 have ltC:∀ b:Nat,b < s2.heap.objs.size→b≠C∧b≠D∧b < D:=fun b h=>by omega
 have ltD:∀ b:Nat,b < D→b≠C∧b≠D:=fun b h=>by omega
 have old:∀ b o,s2.heap.get? b=some o→h₁.get? b=some o:=fun b o e=>hsb.extBut b o (ltC b (Heap.lt_size e)).1 (Heap.get?_push_of_some _ (by rw[← hH2];exact Heap.get?_push_of_some _ e))
 have newD:h₁.get? D=some { cls:=.type "list", data:=.seq ([]:List Value).toArray }:=hsb.extBut _ _ hDC (Heap.get?_push_of_some _ (by rw[← hH2,← hD];exact Heap.get?_push_size _ rfl))
 have ltb:∀ b∈fp,b < D:=fun b hb=>by
  obtain⟨o,e,_⟩:=T.obj _ _ st2 b hb
  exact(ltC b (Heap.lt_size e)).2.2
 have fD:pN X pins H2 D:=I2.uO (by omega) (I2.hok.fresh (by omega))
 have fC:pN X pins H2 C:=I2.uO (by omega) (I2.hok.fresh (by omega))
 have nst:∀ b,b≠X.env.locals→b∉X.fs→b∉frs X.stack:=fun b h1 h2 hb=>by
  rcases List.mem_cons.mp (I2.DX b hb) with e|e
  ·exact h1 e
  ·exact h2 e
 have ok':(CG X N' sc cl C s2 H2 fp).Ok:=by
  refine⟨I2.ok.mod,S.kind,I2.ok.glob,I2.ok.blt,(by show s2.heap.objs.size≤C;omega),fun x y c e1 e2=>I2.ok.inj x y c (hsub _ _ e1) (hsub _ _ e2),fun x hx=>?_,fun x c z=>(by cases z),I2.ok.hd,I2.ok.frames,.inl rfl,
   fun b hb=>⟨(ltD b (ltb b hb)).1,fun x c e=>(f2 b hb).2.2.2.2.1 x c (hsub _ _ e)⟩,I2.bs,(by show X.base.objs.size≤s2.heap.objs.size;exact Nat.le_trans I2.ok.bsz I2.sz),fun b o e hb=>?_,fun b hb=>nst b (f2 b hb).2.1 (f2 b hb).2.2.1,I2.stack,I2.vo⟩
  ·have hx':∃ k',sc.names.lookup x=some k'∧(k'=.cell∨k'=.free):=by
    rcases hx with hx|hx
    ·obtain⟨k',e1,e2⟩:=jK (env:=X.env) (names:=sc.names) hx
     rcases e2 with e2|⟨e2,_⟩
     ·exact⟨k',e1,.inl e2.symm⟩
     ·exact⟨k',e1,.inr e2⟩
    ·obtain⟨k',e1,e2⟩:=jK (env:=X.env) (names:=sc.names) hx
     rcases e2 with e2|⟨e2,_⟩
     ·exact⟨k',e1,.inr e2.symm⟩
     ·exact⟨k',e1,.inr e2⟩
   obtain⟨k',e1,e2⟩:=hx'
   have hm:=lookup_mem e1
   rcases e2 with e2|e2
   ·exact absurd e2 (S.z6 _ hm)
   ·subst e2;exact hall x hm
  ·rcases (f2 b hb).2.2.2.1 with z|z
   ·exact I2.ok.Km b o e z
   ·exact absurd (Nat.lt_of_lt_of_le (Heap.lt_size e) (Nat.le_trans I2.ok.bsz z)) (Nat.lt_irrefl _)
 have RK:∀ p∈X.pn++pins,p.1 < D:=fun p hp=>(ltC p.1 (Heap.lt_size (I2.pin p hp).1)).2.2
 have aab:∀ x c,cl.lookup x=some c→c < D:=fun x c e=>by
  obtain⟨v,q⟩:=I2.cell x c (hsub _ _ e)
  exact(ltC c q.lt).2.2
 have I':∀ tk,Inv (CG X N' sc cl C s2 H2 fp) (pins++[(D,{ cls:=.type "list", data:=.seq ([]:List Value).toArray })]) (pick ρ σ) H2 { s2 with heap:=h₁,toks:=tk }:=fun tk=>by
  refine⟨ok',rfl,I2.bare,Un.kept old,⟨_,hns,fun i x v e1 e2 e3=>?_⟩,fun x c e=>?_,fC.1,fun x c e=>I2.lO x c (hsub _ _ e),fun p hp=>?_,I2.hok.kept old,?_⟩
  ·have e2':∃ j,ρ[i]? = some (some j)∧σ[j]? = some (some v):=by
    unfold pick at e2
    rw[List.getElem?_map] at e2
    cases hr:ρ[i]? with
    | none=>rw[hr] at e2;cases e2
    | some o =>
     rw[hr] at e2
     cases o with
     | none=>cases e2
     | some j =>
      refine⟨j,rfl,?_⟩
      have e2:(σ[j]?).join=some v:=Option.some.inj e2
      cases hq:σ[j]? with
      | none=>rw[hq] at e2;cases e2
      | some o' => rw [hq] at e2; have e2 : o' = some v := e2
                   rw[e2]
   obtain⟨j,hj,hv⟩:=e2'
   obtain⟨y,ey,eN,ef⟩:=S.ix i j hj
   have e1':N'[i]? = some x:=e1
   rw[ey] at e1';cases e1'
   obtain⟨m,hn,hl⟩:=I2.loc
   have hm:=lookup_mem ef
   have kX:=S.free _ hm rfl
   obtain⟨u,ru,lk⟩:=hl j x v eN hv (by rcases kX with k|k;exact .inr (.inl k);exact .inr (.inr k))
   refine⟨u,ru,.inr ⟨?_,?_⟩⟩
   ·show (relabel sc X.env).names.lookup x=some .cell∨(relabel sc X.env).names.lookup x=some .free
    rcases e3 with e3|e3|e3
    ·obtain⟨k',q1,q2⟩:=jK (env:=X.env) (names:=sc.names) e3
     rw[ef] at q1;cases q1
     rcases q2 with q2|⟨_,q2⟩<;>cases q2
    ·exact .inl e3
    ·exact .inr e3
   ·obtain⟨c,hc'⟩:=hall x hm
    refine⟨c,hc',?_⟩
    rcases lk with ⟨k,_⟩|⟨_,c',ec,z⟩
    ·rcases kX with k'|k'<;>(rw[k] at k';cases k')
    ·rw[hsub _ _ hc'] at ec;cases ec
     obtain⟨o,ho,hd⟩:=z
     exact⟨o,old _ _ ho,hd⟩
  ·obtain⟨v,o,ho,hd⟩:=I2.cell x c (hsub _ _ e)
   exact⟨v,o,old _ _ ho,hd⟩
  ·have hp':p∈X.pn++pins∨p=(D,{ cls:=.type "list", data:=.seq ([]:List Value).toArray }):=by
    rcases List.mem_append.mp hp with z|z
    ·exact .inl (List.mem_append_left _ z)
    ·rcases List.mem_append.mp z with z|z
     ·exact .inl (List.mem_append_right _ z)
     ·exact .inr (by simpa using z)
   rcases hp' with z|z
   ·obtain⟨q1,q2,q3,q4,q5⟩:=I2.pin p z
    exact⟨old _ _ q1,q2,(ltD p.1 (RK p z)).1,nst _ q3 q4,q5⟩
   ·subst z
    exact⟨newD,fD.1,hDC,nst _ fD.2.1 fD.2.2.1,fun v z=>by cases z⟩
  ·show (pick ρ σ).length=N'.length
   unfold pick;rw[List.length_map];exact S.len
 have stat:∀ {H':Hp} {o:Obj},(∀ b∈fp,H' b=none)→∀ b∈fp,pN (CG X N' sc cl C s2 H2 fp) (pins++[(D,o)]) H' b:=fun {H' o} hn b hb=>by
  refine⟨hn b hb,(ltD b (ltb b hb)).1,nst b (f2 b hb).2.1 (f2 b hb).2.2.1,.inl hb,fun x c e=>(f2 b hb).2.2.2.2.1 x c (hsub _ _ e),fun p hp=>?_⟩
  rcases List.mem_append.mp hp with z|z
  ·exact(f2 b hb).2.2.2.2.2 p (List.mem_append_left _ z)
  ·rcases List.mem_append.mp z with z|z
   ·exact(f2 b hb).2.2.2.2.2 p (List.mem_append_right _ z)
   ·have e:p=(D,o):=by simpa using z
    subst e
    exact Ne.symm (ltD b (ltb b hb)).2
 have loop:∀ tk,codeAny (model X.prog X.w) X.A (.compLoop (.ListComp elt [⟨tg,iter,ifs,0⟩] sc pos) 0 (.ref it) (.ref D) (compEnvC sc cl C X.env)) (compPost (model X.prog X.w) X.A X.xe use R (.ref D) C) { s2 with heap:=h₁,toks:=tk }:=fun tk=>by
  refine Gi (fun n s'=>∃ (i:Nat) (acc:List V) (its:List Value) (k:Nat) (H':Hp),Inv (CG X N' sc cl C s2 H2 fp) (pins++[(D,{ cls:=.type "list", data:=.seq its.toArray k })]) (pick ρ σ) H' s'∧Vals acc its∧acc.length≤sizeLine∧tn i s'.heap∧(∀ b∈fp,H' b=none)∧W i n acc H')
   ?_ m0 ⟨0,[],[],0,H2,I' tk,.nil,Nat.zero_le _,T.keep _ _ _ st2 fun b hb o e=>old b o e,fun b hb=>(f2 b hb).1,w0⟩
  rintro n s3 ⟨i,acc,its,k,H3,I3,va,hz0,st3,fr3,w3⟩
  rcases turn i n acc H3 w3 with ⟨stop,qn⟩|⟨go,hz,Nn,hN,step⟩
  ·refine dY (T.done (CG X N' sc cl C s2 H2 fp) rfl rfl rfl hcalm i _ s3 _ H3 (fun _ _=>False) I3 (stat fr3) st3 stop) fun r s4 ⟨hr,I4⟩=>?_
   subst hr
   obtain⟨p1,p2,p3,p4,p5⟩:=I4.pin (D,{ cls:=.type "list", data:=.seq its.toArray k }) (by simp)
   have p1:s4.heap.get? D=some { cls:=.type "list", data:=.seq its.toArray k }:=p1
   have p2:H3 D=none:=p2
   have B:=I4.base
   have upn:∀ b o,H3 b=some o→upd H3 D (.lst acc) b=some o:=fun b o e=>by rw[aJ (aX e p2)];exact e
   have IX:Inv X pins σ (upd H3 D (.lst acc)) s4:=by
    refine I2.call' (ch:=fp) I4.os ⟨fun b o q1 q2 q3 q4=>B.keep b o q1 q2 q3 q4,fun b o q1 q2 q3 q4=>B.slot b o q1 q2 q3 q4,fun b o q1 q2 q3=>?_,fun b o q1 q2=>B.there b o q1 q2,
     fun b xs q=>upn _ _ (B.tups b xs q),fun b o u q=>upn _ _ (B.wZ b o u q),fun b w ps q=>?_⟩ (I4.hok.track p2 ⟨hz0,its,k,va,p1⟩) I4.bare fun b hb=>⟨(f2 b hb).2.2.2.1,(f2 b hb).2.1,(f2 b hb).2.2.2.2.1,(f2 b hb).2.2.2.2.2⟩
    ·rw[aJ (ltC b (Heap.lt_size q1)).2.1]
     exact B.free b o q1 q2 q3
    ·obtain⟨more,q'⟩:=B.wz b w ps q
     exact⟨more,upn _ _ q'⟩
   obtain⟨m,hm,_⟩:=I4.loc
   refine hR s4 D C _ IX (qn D p2) ⟨m,hm⟩ (I2.uO (by omega) ?_)
   rw[aJ (Ne.symm hDC)]
   exact I4.free
  ·refine dY (T.item (CG X N' sc cl C s2 H2 fp) rfl rfl rfl hcalm i _ s3 _ H3 (fun _ _=>False) I3 (stat fr3) st3 go) fun r s4 ⟨u,hr,h4⟩=>?_
   subst hr
   refine dY h4 fun _ s5 ⟨x,H5,I5,r5,y5,st5,fr5⟩=>?_
   have I5':=I5.pinned (stat fr5) (T.obj _ _ st5)
   refine dY (hg cl C s2 H2 fp _ s5 _ H5 x u _ I5' r5 (gk _ _ _ _ (step x H5 y5))) fun _ s6 ⟨σ6,H6,I6,⟨l6,k6⟩,q6⟩=>?_
   refine dY (hc cl C s2 H2 fp _ s6 σ6 H6 _ I6 q6) fun ok s7 ⟨H7,I7,q7⟩=>?_
   have wk:∀ {Cm:List (Addr×Obj)} {H':Hp} {s':Shared},Inv (CG X N' sc cl C s2 H2 fp) Cm σ6 H' s'→Inv (CG X N' sc cl C s2 H2 fp) Cm (pick ρ σ) H' s':=fun {Cm H' s'} J' =>
    J'.weak l6.symm fun j v e=>by
     have:∃ j',ρ[j]? = some (some j'):=by
      unfold pick at e
      rw[List.getElem?_map] at e
      cases hr:ρ[j]? with
      | none=>rw[hr] at e;cases e
      | some o =>
       rw[hr] at e
       cases o with
       | none=>cases e
       | some j'=>exact⟨j',rfl⟩
     obtain⟨j',hj'⟩:=this
     rw[k6 j j' hj'];exact e
   cases ok with
   | false =>
    have q7:Nn acc H7:=by simpa using q7
    rw[if_neg Bool.false_ne_true]
    obtain⟨m',hm,w7⟩:=hN acc H7 q7
    refine⟨m',hm,i+1,acc,its,k,H7,wk I7.oN,va,hz0,T.keep _ _ _ st5 fun b hb o e=>(I7.pin (b,o) (List.mem_append_right _ (List.mem_append_right _ (jY hb e)))).1,fun b hb=>?_,w7⟩
    obtain⟨o,e,d⟩:=T.obj _ _ st5 b hb
    exact(I7.pin (b,o) (List.mem_append_right _ (List.mem_append_right _ (jY hb e)))).2.1
   | true =>
    have q7:te σ6 H7 fun y H4=>Nn (acc++[y]) H4:=by simpa using q7
    rw[if_pos rfl]
    refine dY (he cl C s2 H2 fp _ s7 σ6 H7 _ I7 q7) fun xv s8 ⟨y,H8,I8,r8,n8⟩=>?_
    obtain⟨p1,p2,p3,p4,p5⟩:=I8.pin (D,{ cls:=.type "list", data:=.seq its.toArray k }) (by simp)
    have p1:s8.heap.get? D=some { cls:=.type "list", data:=.seq its.toArray k }:=p1
    have p2:H8 D=none:=p2
    refine wpAny_list_append_plain ⟨k,p1⟩ (fun h' pl sb=>?_) (by rw[List.size_toArray,← va.length];omega)
    obtain⟨k',pl⟩:=pl
    obtain⟨m',hm,w8⟩:=hN _ _ n8
    have Ia:Inv (CG X N' sc cl C s2 H2 fp) pins σ6 H8 s8:=I8.oN.oN
    have Ib:Inv (CG X N' sc cl C s2 H2 fp) pins σ6 H8 { s8 with heap:=h' }:=Ia.turned (t':=s8.toks) (it:=D) (fun b o hb e=>(sb.2 b hb).trans e) p2 hDC (.inr (by show s2.heap.objs.size≤D;omega)) (fun x c e=>(ltD c (aab x c e)).2) fun p hp=>(ltD p.1 (RK p hp)).2
    have pl':h'.get? D=some { cls:=.type "list", data:=.seq (its++[xv]).toArray k' }:=by rw[pl];simp
    have Ic:Inv (CG X N' sc cl C s2 H2 fp) (pins++[(D,{ cls:=.type "list", data:=.seq (its++[xv]).toArray k' })]) σ6 H8 { s8 with heap:=h' }:=Ib.Ek fun p hp=>by
     rcases List.mem_append.mp hp with z|z
     ·exact Ib.pin p (List.mem_append_right _ z)
     ·have e:p=(D,{ cls:=.type "list", data:=.seq (its++[xv]).toArray k' }):=by simpa using z
      subst e
      exact⟨pl',p2,p3,p4,fun v z=>by cases z⟩
    refine⟨m',hm,i+1,acc++[y],its++[xv],k',H8,wk Ic,va.append (.cons r8 .nil),(by rw[List.length_append,List.length_singleton];omega),T.keep _ _ _ st5 fun b hb o e=>?_,fun b hb=>?_,w8⟩
    ·exact(sb.2 b (ltD b (ltb b hb)).2).trans (I8.pin (b,o) (List.mem_append_right _ (List.mem_append_right _ (jY hb e)))).1
    ·obtain⟨o,e,d⟩:=T.obj _ _ st5 b hb
     exact(I8.pin (b,o) (List.mem_append_right _ (List.mem_append_right _ (jY hb e)))).2.1
 refine codeAny_compStart_list (loop _) (T.self X.A 0 _ _ _ (T.keep _ _ _ st2 fun b hb o e=>old b o e) (loop _))
theorem jg(hcalm:X.calm=true)(S:dW X N' ρ sc)(hi:PI X tg iter wi)
 (hg:∀ cl C s H fp,PG (CG X N' sc cl C s H fp) tg g) (gk:Jw ρ g) (hc:∀ cl C s H fp,PTs (CG X N' sc cl C s H fp) ifs tc) (he:∀ cl C s H fp,PE (CG X N' sc cl C s H fp) elt te)
 (hs:∀ x,foldedSetIterable iter X.env x=pure x:=by intro _;rfl) :
 PE X (.ListComp elt [⟨tg,iter,ifs,0⟩] sc pos) (LC wi ρ g tc te):=by
 intro pins s σ H Q I h
 rw[eval_ListComp]
 refine CJ hcalm S hi hg gk hc he hs none I h fun s' D C H' I' q ⟨m,hm⟩ f=>⟨m,hm,fun h' sb=>?_⟩
 exact⟨.ref D,H',I'.turned (t':=s'.toks) (it:=C) (fun b o hb e=>(sb.2 b hb).trans e) f.1 f.2.1 f.2.2.2.1 f.2.2.2.2.1 f.2.2.2.2.2,rfl,q⟩
theorem tG{i:Nat}{x:Str}{px:Pos}(hcalm:X.calm=true)(hN:X.N.Nodup)(hix:X.N[i]? = some x)(hx:Loc X.env.scope x)(S:dW X N' ρ sc)(hi:PI X tg iter wi)
 (hg:∀ cl C s H fp,PG (CG X N' sc cl C s H fp) tg g) (gk:Jw ρ g) (hc:∀ cl C s H fp,PTs (CG X N' sc cl C s H fp) ifs tc) (he:∀ cl C s H fp,PE (CG X N' sc cl C s H fp) elt te)
 (hsw:swapsWith (.ListComp elt [⟨tg,iter,ifs,0⟩] sc pos) (some (.Name x px)) cpos.line X.env=pure true:=by rfl)
 (hs:∀ x,foldedSetIterable iter X.env x=pure x:=by intro _;rfl)
 (hf:X.fn x=true∨X.env.scope.names.lookup x=some .local:=by first|exact .inl rfl|exact .inr rfl|assumption) :
 PS X (.Assign [.Name x px] (.ListComp elt [⟨tg,iter,ifs,0⟩] sc pos) cpos) (Hf (LC wi ρ g tc te) (qH i)):=by
 intro pins s σ H D I h
 rw[exec_Assign_Name_used _ _ _ _ hsw]
 refine wpAny_bind (wpAny_standAt (wpAny_bind ?_))
 show wpAny _ X.A (do let _ ← comprehension (.ListComp elt [⟨tg,iter,ifs,0⟩] sc pos) sc X.env _ (newList []) false (eval iter X.env) (some (assign (.Name x px) X.env))) _ _ s
 refine wpAny_bind (dY (CJ (Q:=fun y H1=>D.nx (σ.set i (some y)) H1) (R:=fun _ s'=>SP X pins D .next s') hcalm S hi hg gk hc he hs (some (assign (.Name x px) X.env)) I h fun s' Da C H' I' q ⟨m,hm⟩ f=>?_) fun _ s' hq=>wpAny_pure (wpAny_pure hq))
 show wpAny _ X.A (assign (.Name x px) X.env (.ref Da)) _ _ _
 refine wpAny_assign_Name (BZ I' hN hix hx (v:=.ref Da) rfl (fun s2 I2 ⟨a,sb,ha⟩=>⟨m,hm.sameBut sb ?_,fun h' sb2=>?_⟩) hf)
 ·rcases ha with e|e
  ·subst e;exact f.2.1
  ·exact fun z=>f.2.2.2.2.1 x a e z.symm
 ·exact⟨_,H',I2.turned (t':=s2.toks) (it:=C) (fun b o hb e=>(sb2.2 b hb).trans e) f.1 f.2.1 f.2.2.2.1 f.2.2.2.2.1 f.2.2.2.2.2,q⟩
end
structure It.Of(J:It)(Ok:Hp→Prop)(xs:List V):Prop where
 go:∀ i H,Ok H→i < xs.length→J.go i H
 yld:∀ i H x H',Ok H→i < xs.length→J.yld i H x H'→H'=H∧xs[i]? = some x
 stop:∀ H,Ok H→J.stop xs.length H
theorem Mp{K:PySem.W.Frag}{a:Addr}{xs:List V}:(Itl K a).Of (fun H=>uW K H a xs) xs :=
 ⟨fun i H h hi=>⟨xs,xs[i],h,by simp[hi]⟩,fun i H x H' h _ y=>⟨y.1,y.2 xs h⟩,fun H h=>⟨xs,h,Nat.le_refl _⟩⟩
theorem R8{K:PySem.W.Frag}{a:Addr}{xs:List V}:(Itt K a).Of (fun H=>yO K H a xs) xs :=
 ⟨fun i H h hi=>⟨xs,xs[i],h,by simp[hi]⟩,fun i H x H' h _ y=>⟨y.1,y.2 xs h⟩,fun H h=>⟨xs,h,Nat.le_refl _⟩⟩
def J1(lo:Int)(n:Nat):List V:=(List.range n).map fun i=>V.int (lo+(i:Nat))
theorem zH(lo:Int)(n:Nat):(J1 lo n).length=n:=by simp[J1]
theorem Rn{lo:Int}{n i:Nat}(h:i < n):(J1 lo n)[i]? = some (.int (lo+i)):=by simp[J1,h]
theorem Sg{lo:Int}{n:Nat}:(Itr lo n).Of (fun _=>True) (J1 lo n) :=
 ⟨fun i H _ hi=>by rw[zH] at hi;exact hi,fun i H x H' _ hi y=>⟨y.1,by rw[zH] at hi;rw[y.2];exact Rn hi⟩,fun H _=>by rw[zH];exact Nat.le_refl _⟩
end L2
namespace L2
open PySem PySem.Spec PyProof.Rows
def sgn(c:Nat):V:=.str ⟨#[c]⟩
def JV(x:Str):List V:=x.cps.toList.map sgn
theorem Hq(x:Str):(JV x).length=x.length:=by simp[JV,Str.length]
def Its(x:Str):It:=⟨fun i _=>i < x.length,fun i H y H'=>H'=H∧(JV x)[i]? = some y,fun i _=>i=x.length⟩
theorem R9{x:Str}:(Its x).Of (fun _=>True) (JV x) :=
 ⟨fun i H _ hi=>by rw[Hq] at hi;exact hi,fun i H y H' _ _ h=>h,fun H _=>Hq x⟩
theorem G7{P:Program}{w:World}{K:PySem.W.Frag}{tg:Expr}(it:Addr)(x:Str)(t:Tok)(ty:String)
 (hty:["enumerate", "zip", "dict_itemiterator", "dict_reverseitemiterator", "odict_iterator", "itertools.zip_longest", "itertools.pairwise"].contains ty=false)
 (W:∀ A':Around,A'.handled=none→Walks P w A' it [it] [it] x.cps.size (SignAt x) (fun i h=>h.IsStrIter it ty x t i))
 (sf:∀ (A:Around) (i:Nat) (s:Shared) (Q:Value→Shared→Prop) (E:Value→Shared→Prop),s.heap.IsStrIter it ty x t i→Q (.ref it) s→wpAny (model P w) A (pyIter (.ref it)) Q E s) :
 Turn P w K tg (Its x) [it] it (fun i h=>h.IsStrIter it ty x t i) where
 mem:=by simp
 obj:=fun i h st b hb=>by
  have e:b=it:=by simpa using hb
  subst e
  obtain⟨o,e,c,d⟩:=st
  exact⟨o,e,fun v z=>by rw[d] at z;cases z⟩
 keep:=fun i h h' st k=>let ⟨o,ho,r⟩:=st;⟨o,k it (by simp) o ho,r⟩
 item:=by
  intro X hP hw hK hc i pins s σ H E I hf st hg
  subst hP hw hK
  obtain⟨f0,f1,f2,f3,f4,f5⟩:=hf it (by simp)
  refine(W X.A (I.ok.hd hc)).item i s _ _ hg st fun v h' tk hv st' kk=>?_
  obtain⟨c,u,e,rfl⟩:=hv
  have I1:Inv X pins σ H { s with heap:=h',toks:=tk }:=I.turned (fun b o hb e=>kk b o (by simpa using hb) e) f0 f1 f3 f4 f5
  obtain⟨o,e',c',d'⟩:=id st'
  refine⟨_,rfl,Ng (s:={ s with heap:=h',toks:=tk }) e' c' d' hty ⟨sgn c,H,I1,⟨u,rfl⟩,⟨rfl,?_⟩,st',fun b hb=>(hf b hb).1⟩⟩
  unfold JV
  rw[List.getElem?_map,Array.getElem?_toList,e]
  rfl
 done:=by
  intro X hP hw hK hc i pins s σ H E I hf st hg
  subst hP hw hK
  obtain⟨f0,f1,f2,f3,f4,f5⟩:=hf it (by simp)
  have hg:i=x.length:=hg
  subst hg
  exact(W X.A (I.ok.hd hc)).done s _ _ st fun h' tk kk=>⟨rfl,I.turned (fun b o hb e=>kk b o (by simpa using hb) e) f0 f1 f3 f4 f5⟩
 self:=sf
section
variable{X:Cx}{tg:Expr}
def abR(tl:TE):TI:=fun σ H R=>tl σ H fun x H1=>∃ z,x=.str z∧R (Its z) H1
theorem Y8{l:Expr}{tl:TE}(hl:PE X l tl):PI X tg l (abR tl):=by
 intro pins s σ H R I h
 refine dY (hl pins s σ H _ I h) fun v s1 ⟨x,H1,I1,r1,q1⟩=>?_
 obtain⟨z,e,q⟩:=q1
 subst e
 obtain⟨t,rfl⟩:=r1
 cases ha:z.cps.all (· < 128)
 ·refine wpAny_pyIter_wide ha ?_
  refine⟨s1.heap.objs.size,[s1.heap.objs.size],_,Its z,H1,rfl,I1.kept (t':=s1.toks) fun b o e=>Heap.get?_push_of_some _ e,G7 _ z t "str_iterator" (by decide) (fun A' hA=>Walks.strWide hA _ z t) (fun _ _ _ _ _ st hQ=>wpAny_pyIter_striter_wide st hQ),⟨_,Heap.get?_push_size _ rfl,rfl,rfl⟩,fun b hb=>?_,q⟩
  have e:b=s1.heap.objs.size:=by simpa using hb
  subst e
  exact I1.uO (Nat.le_refl _) (I1.hok.fresh (Nat.le_refl _))
 ·refine wpAny_pyIter_ascii ha ?_
  refine⟨s1.heap.objs.size,[s1.heap.objs.size],_,Its z,H1,rfl,I1.kept (t':=s1.toks) fun b o e=>Heap.get?_push_of_some _ e,G7 _ z t "str_ascii_iterator" (by decide) (fun A' hA=>Walks.strAscii hA _ z t) (fun _ _ _ _ _ st hQ=>wpAny_pyIter_striter_ascii st hQ),⟨_,Heap.get?_push_size _ rfl,rfl,rfl⟩,fun b hb=>?_,q⟩
  have e:b=s1.heap.objs.size:=by simpa using hb
  subst e
  exact I1.uO (Nat.le_refl _) (I1.hok.fresh (Nat.le_refl _))
theorem Lx:∀ {bs:List Bool} {us:List Value},Vals (bs.map V.bl) us→us=bs.map Value.bool
 | [],_,.nil=>rfl
 | b::r,_,.cons q t=>by rw[Lx t,show _=Value.bool b from q];rfl
theorem range_all(bs:List Bool):(List.range bs.length).all (fun i=>bs.getD i false)=bs.all id:=by
 induction bs with
 | nil=>rfl
 | cons b r ih =>
  rw[List.length_cons,List.range_succ_eq_map,List.all_cons,List.all_map,List.all_cons]
  congr 1
def abj(K:PySem.W.Frag)(f:List Bool→Bool):List V→Hp→VK→Prop:=fun xs H Q=>∃ a bs,xs=[.ref a]∧uW K H a (bs.map V.bl)∧Q (.bl (f bs)) H
theorem QT{P:Program}{w:World}{A:Around}(bs:List Bool):TruthOf P w A (fun i v=>(bs.map Value.bool).toArray[i]? = some v) (fun i=>bs.getD i false):=by
 intro i v s Q E hv hq
 have:v=.bool (bs.getD i false):=by
  rw[List.getElem?_toArray,List.getElem?_map] at hv
  cases hb:bs[i]? with
  | none=>rw[hb] at hv;cases hv
  | some b =>
   rw[hb] at hv
   rw[List.getD_eq_getElem?_getD,hb]
   exact(Option.some.inj hv).symm
 subst this
 exact wpAny_truthy_bool hq
theorem Ja(hc:X.calm=true):ik X (.builtin "all") (abj X.K (·.all id)):=by
 intro pins s σ H xs us Q I r h
 obtain⟨a,bs,rfl,hq,q⟩:=h
 obtain⟨u,rfl,ru⟩:=vals1 r
 cases ru
 obtain⟨its,rv,p,hz⟩:=I.list hq
 have e:=Lx rv
 subst e
 have hlt:a < s.heap.objs.size:=by obtain⟨o,n,e,_⟩:=p;exact Heap.lt_size e
 refine call_all_walk (wpAny_pyIter_list p.isList ⟨_,_,_,_,_,_,fun i=>bs.getD i false,rfl,Walks.list (A:=X.A.in1) (I.ok.hd hc) _ a (Nat.ne_of_lt hlt) (bs.map Value.bool).toArray,⟨⟨_,Heap.get?_push_size _ rfl,rfl,rfl⟩,(p.keeps fun b o e=>Heap.get?_push_of_some _ e).isList⟩,QT bs,fun h' tk kk=>?_⟩)
 refine⟨.bl (bs.all id),H,I.kept fun b o e=>kk b o (by simpa using Nat.ne_of_lt (Heap.lt_size e)) (Heap.get?_push_of_some _ e),?_,q⟩
 show Value.bool _=Value.bool _
 rw[← range_all]
 simp
theorem OD:pM X (compareOp .Gt) (fun x y H Q=>∃ i j,x=.str i∧y=.str j∧Q (.bl (decide (j.cps.toList < i.cps.toList))) H):=by
 intro pins s σ H x y v u Q I rx ry h
 obtain⟨i,j,rfl,rfl,q⟩:=h
 obtain⟨t,rfl⟩:=rx
 obtain⟨t',rfl⟩:=ry
 exact PySem.P.gt_str (FZ I q rfl)
def PX(x:Str)(lo hi:Option Int):Str:=⟨((x.cps.toList.drop (HT.uI x.length 0 lo)).take (HT.uI x.length x.length hi - HT.uI x.length 0 lo)).toArray⟩
theorem Ra(lo hi:Option Int)(n:Nat):Builtin.Str.strSliceIndices lo hi 1 n=(List.range (HT.uI n n hi - HT.uI n 0 lo)).map (fun k=>HT.uI n 0 lo+k):=by
 have h1:∀ (v:Option Int) (d:Nat),d≤n→(match v with|none=>(d:Int)|some i=>max 0 (min (if i < 0 then i+(n:Int) else i) (n:Int)))=((HT.uI n d v:Nat):Int):=by
  intro v d hd
  cases v with
  | none=>rfl
  | some i =>
   show max 0 (min (if i < 0 then i+(n:Int) else i) (n:Int))=(((if i < 0 then (i+(n:Int)).toNat else min i.toNat n):Nat):Int)
   by_cases hv:i < 0
   ·simp only[if_pos hv];omega
   ·simp only[if_neg hv];omega
 have fin:∀ (p q:Int) (a b:Nat),p=(a:Int)→q=(b:Int)→sliceRange p q 1=(List.range (b - a)).map (fun k=>a+k):=by
  intro p q a b e1 e2
  subst e1 e2
  unfold sliceRange
  simp only[show ((1:Int) > 0)=True from by simp,if_true]
  by_cases hlt:(a:Int) < b
  ·have e3:(((b:Int) - a+1 - 1) / 1).toNat=b - a:=by first|omega|(simp;done)|(simp;omega)
   simp only[hlt,if_true,e3]
   refine List.map_congr_left fun k _=>?_
   omega
  ·have:b - a=0:=by omega
   simp[hlt,this]
 unfold Builtin.Str.strSliceIndices
 refine fin _ _ _ _ ?_ ?_
 ·have:=h1 lo 0 (Nat.zero_le _)
  cases lo with
  | none=>exact this
  | some i=>exact this
 ·have:=h1 hi n (Nat.le_refl _)
  cases hi with
  | none=>exact this
  | some i=>exact this
theorem Oh(x:Str)(lo hi:Option Int):Txt.slice x lo hi=PX x lo hi:=by
 have hle:HT.uI x.length x.length hi≤x.length:=HT.Rj _ _ (Nat.le_refl _) hi
 have ha:HT.uI x.length 0 lo≤x.length:=HT.Rj _ _ (Nat.zero_le _) lo
 unfold Txt.slice PX
 rw[Ra]
 generalize HT.uI x.length 0 lo=a at *
 generalize HT.uI x.length x.length hi=b at *
 have hp:((List.range (b - a)).map (fun k=>a+k)).filterMap (fun i=>x.cps[i]?)=(x.cps.toList.drop a).take (b - a):=by
  have h:=StrLaws.picks x.cps.toList (b - a) a (by simp[Str.length] at hle ha ⊢;omega)
  simpa using h
 split
 ·rename_i h
  simp only[List.length_map,List.length_range,beq_self_eq_true,Bool.true_and,beq_iff_eq] at h
  have e:a=0∨x.length=0:=by omega
  have e2:(x.cps.toList.drop a).take (b - a)=x.cps.toList:=by
   rw[h]
   rcases e with e|e
   ·subst e
    rw[List.drop_zero]
    exact List.take_of_length_le (by simp[Str.length])
   ·have:x.cps.toList=[]:=List.eq_nil_of_length_eq_zero (by simpa [Str.length] using e)
    rw[this];simp
  rw[e2]
 ·rw[hp]
def aa2:V→Option Int→Option Int→Hp→VK→Prop:=fun x lo hi H Q=>∃ z,x=.str z∧z.length≤sizeLine∧Q (.str (PX z lo hi)) H
theorem YT:Ys X aa2:=by
 intro pins s σ H x v vl vu lo hi sl Q I rx hs pl pu h
 obtain⟨z,rfl,hz,q⟩:=h
 obtain⟨t,rfl⟩:=rx
 have fin:∀ (l u:Option (Int×Tok)),vl=partValue l→vu=partValue u→lo=l.map (·.1)→hi=u.map (·.1) →
  wpAny (model X.prog X.w) X.A (getItem (.str z t) (.ref sl)) (EP X pins σ Q) X.xe s:=by
  intro l u e1 e2 e3 e4
  subst e1 e2 e3 e4
  refine wpAny_getItem_str_slice (l:=l) (u:=u) (st:=none) hs rfl ?_
  refine post_val_or_str ⟨Nat.le_trans (Txt.slice_le z _ _) hz,fun t' k=>?_⟩
  refine⟨.str (PX z _ _),H,I.tok k,⟨t',?_⟩,q⟩
  show Value.str (Txt.slice z _ _) t'=_
  rw[Oh]
 refine⟨"str", _,F.slot_str_getitem.lookup,typeIs_str _ _ _,?_⟩
 cases pl with
 | none=>cases pu with
  | none=>exact fin none none rfl rfl rfl rfl
  | int j tj=>exact fin none (some (j,tj)) rfl rfl rfl rfl
 | int i ti=>cases pu with
  | none=>exact fin (some (i,ti)) none rfl rfl rfl rfl
  | int j tj=>exact fin (some (i,ti)) (some (j,tj)) rfl rfl rfl rfl
def abh(neg:Bool):R2:=fun x y H Q=>∃ c z,x=sgn c∧y=.str z∧Q (.bl (if neg then !decide (c∈z.cps.toList) else decide (c∈z.cps.toList))) H
theorem Zh:pM X (compareOp .In) (abh false):=by
 intro pins s σ H x y v u Q I rx ry h
 obtain⟨c,z,rfl,rfl,q⟩:=h
 refine Oz pins s σ H _ _ v u Q I rx ry ⟨_,z,rfl,rfl,?_⟩
 rw[StrLaws.found_one];exact q
def abd(K:PySem.W.Frag):List V→Hp→VK→Prop:=fun xs H Q=>∃ x t T b,xs=[x,.ty T]∧ug K H x t∧PySem.W.kitOne K t (.type T)=some b∧Q (.bl b) H
theorem lA:ik X (.builtin "isinstance") (abd X.K):=by
 intro pins s σ H xs us Q I r h
 obtain⟨x,t,T,b,rfl,ty,e,q⟩:=h
 obtain⟨u,w',rfl,rx,rt⟩:=vals2 r
 cases (show w'=Value.type T from rt)
 exact Pn I rx ty e fun tk=>⟨.bl b,H,I.tok tk,rfl,q⟩
end
end L2
namespace L2
open PySem PySem.Spec PyProof.Rows
def Uu(osc:Scope)(N N':List Str)(ρ : List (Option Nat))(sc:Scope):Bool :=
 sc.names.all (fun y=>!(decide (y.2=.cell))) && sc.names.all (fun y=>!(decide (y.2=.local)) || decide (sc.names.lookup y.1=some .local)) &&
 sc.names.all (fun y=>!(decide (y.2=.free)) || (decide (osc.names.lookup y.1=some .cell) || decide (osc.names.lookup y.1=some .free))) &&
 decide (ρ.length=N'.length) && (List.range ρ.length).all fun i=>match ρ[i]? with
  | some (some j)=>(match N'[i]? with|some x=>decide (N[j]? = some x) && decide (sc.names.lookup x=some .free)|none=>false)
  | _=>true
theorem dW.of{X:Cx}{N':List Str}{ρ : List (Option Nat)}{sc:Scope}(hk:sc.kind=.function)(h:Uu X.env.scope X.N N' ρ sc=true):dW X N' ρ sc:=by
 unfold Uu at h
 simp only[Bool.and_eq_true,List.all_eq_true,Bool.or_eq_true,Bool.not_eq_true',decide_eq_true_eq,decide_eq_false_iff_not] at h
 obtain⟨⟨⟨⟨h1,h2⟩,h3⟩,h4⟩,h5⟩:=h
 refine⟨hk,fun y hy=>h1 y hy,fun y hy e=>(h2 y hy).resolve_left (fun z=>z e),fun y hy e=>(h3 y hy).resolve_left (fun z=>z e),h4,fun i j e=>?_⟩
 have hi:i < ρ.length:=(List.getElem?_eq_some_iff.mp e).1
 have q:=h5 i (List.mem_range.mpr hi)
 rw[e] at q
 cases hN:N'[i]? with
 | none=>rw[hN] at q;cases q
 | some x =>
  rw[hN] at q
  simp only[Bool.and_eq_true,decide_eq_true_eq] at q
  exact⟨x,rfl,q.1,q.2⟩
structure nM(P:Program)(w:World)(K:PySem.W.Frag)(mg:Str→Option Value)(base:Heap)(CX:GQ)(k:Nat)(x:Str)(ps:List Str)(sp:Sp):Prop where
 ex:∃ (f:Addr) (fd:FuncData),mg x=some (.ref f)∧PySem.W.keepIn K (.ref f)=true∧Binds K fd ps []∧cY P w K mg base CX k f fd ps sp
theorem bz{X:Cx}{CX:GQ}{k:Nat}{x:Str}{ps:List Str}{sp:Sp}{E:XK}{e:Expr}{es:List Expr}{t:TA}{p pos:Pos}(C:nM X.prog X.w X.K X.mg X.base CX k x ps sp)(hr:jq k X.A)(hg:Gl X x)(hx:Bh CX X E)
 (ha:PA X (e::es) t) (hdb:(x == ("__debug__" : Str))=false:=by decide) (he:starEach (e::es) X.env=(false,eval e X.env)::starEach es X.env:=by rfl) (hpl:(backTo pos (starEach es X.env)).any (·.1)=false:=by rfl) :
 PE X (.Call (.Name x p) (e::es) [] pos) (vf sp [] E t):=by
 obtain⟨f,fd,hm,hk,hb,F⟩:=C.ex
 exact V7 F hr hg hm hk hb .nil hx ha hdb he hpl
theorem ph{X:Cx}{x:Str}{T:String}{pos:Pos}(hg:Gl X x)(hm:X.mg x=none)(hv:bootBuiltins x=some (.type T))(hn:x ≠ "__name__" := by decide)(hd:(x == ("__debug__" : Str))=false:=by decide):PE X (.Name x pos) (tC (.ty T)) :=
 V9 hg hm hv rfl hn hd
structure qY(K:PySem.W.Frag)(mg:Str→Option Value)(x:Str)(st:Stmt)(ps:List Str):Prop where
 ex:∃ (f:Addr) (fd:FuncData),mg x=some (.ref f)∧PySem.W.keepIn K (.ref f)=true∧Binds K fd ps []∧(∀ (s:Shared) (us:List Value),us.length=ps.length→BindsTo s fd ⟨us,[]⟩ (ps.zip us))∧nZ K x x st f fd
theorem cR{K:PySem.W.Frag}{h:Heap}{mg:Str→Option Value}{x:Str}{st:Stmt}{ps:List Str}{f:Addr}{oc:Value}{od an:Option Addr}{osl:Array (Option Value)}{kV doc pm cdv ct:Value}(X:K.In h)(G:h.Ns mainGlobals mg)
 (hb:∀ (kV doc pm:Value) (an:Option Addr) (cdv ct:Value) (us:List Value),us.length=ps.length→bindArgs (PySem.W.fnOf x x (lX st) (iG st) (aQ st) .none kV doc pm an cdv ct) ⟨us,[]⟩=pure (ps.zip us))
 (a:PySem.W.nsIn K mainGlobals x=some (some (.ref f))) (l:K.lookup f=some ⟨oc,od,.func (PySem.W.fnOf x x (lX st) (iG st) (aQ st) .none kV doc pm an cdv ct),osl⟩)
 (c:PySem.W.codeIn K cdv x=true) (k:PySem.W.keepIn K (.ref f)=true):qY K mg x st ps:=by
 have F:=T7 (st:=st) l c k
 exact⟨f,_,PySem.W.mg_of X G a,k,F.binds hb,fun s us hl=>.of_eq (hb kV doc pm an cdv ct us hl),F⟩
theorem qY.cal{P:Program}{w:World}{K:PySem.W.Frag}{mg:Str→Option Value}{base:Heap}{CX:GQ}{k:Nat}{x:Str}{st:Stmt}{ps:List Str}{sp:Sp}(F:qY K mg x st ps)(h:∀ f fd,nZ K x x st f fd→cY P w K mg base CX k f fd ps sp) :
 nM P w K mg base CX k x ps sp:=by
 obtain⟨f,fd,h1,h2,h3,_,h4⟩:=F.ex
 exact⟨f,fd,h1,h2,h3,h f fd h4⟩
end L2
namespace Mi
open PySem
inductive D where
 | non|bl (b:Bool)|int (i:Int)|str (x:Str)|lst (ds:List D)|tup (ds:List D)
mutual
def D.dep:D→Nat
 | .lst ds=>cH ds+1
 | .tup ds=>cH ds+1
 | _=>0
def cH:List D→Nat
 | []=>0
 | d::r=>max d.dep (cH r)
end
mutual
/-- Python's == -/
def cL:D→D→Bool
 | .non,.non=>true
 | .bl a,.bl b=>a == b
 | .bl a,.int b=>(if a then 1 else 0) == b
 | .int a,.bl b=>a == (if b then 1 else 0)
 | .int a,.int b=>a == b
 | .str a,.str b=>a == b
 | .lst a,.lst b=>jT a b
 | .tup a,.tup b=>jT a b
 | _,_=>false
def jT:List D→List D→Bool
 | [],[]=>true
 | a::r,b::s=>cL a b && jT r s
 | _,_=>false
end
mutual
/-- no list in it -/
def X8:D→Bool
 | .lst _=>false
 | .tup ds=>Wx ds
 | _=>true
def Wx:List D→Bool
 | []=>true
 | d::r=>X8 d && Wx r
end
def Bv(n:Nat)(i:Int):Option Nat:=if 0≤i then (if i < n then some i.toNat else none) else if -(n:Int)≤i then some (i+n).toNat else none
def v7{α : Type}(xs:List α)(i:Int):Option α:=(Bv xs.length i).bind fun j=>xs[j]?
def uI(n d:Nat):Option Int→Nat
 | none=>d
 | some v=>if v < 0 then (v+(n:Int)).toNat else min v.toNat n
def uU{α : Type}(xs:List α)(lo hi:Option Int):List α:=(xs.drop (uI xs.length 0 lo)).take (uI xs.length xs.length hi - uI xs.length 0 lo)
abbrev Ky:=Sum Int Str
inductive W where
 | d (x:D)|dk (kvs:List (Ky×D))|dt (kvs:List (List Ky×D))|ex (c:String)
abbrev Env:=List (Option W)
structure yp where
 cls:String
 val:List D
inductive Rs(α : Type) where
 | ok (a:α)|ex (x:yp)|no
def Rs.bind{α β : Type}:Rs α→(α→Rs β)→Rs β
 | .ok a,f=>f a
 | .ex x,_=>.ex x
 | .no,_=>.no
@[simp] theorem az {α β : Type} (a:α) (f:α→Rs β):(Rs.ok a).bind f=f a:=rfl
@[simp] theorem acL {α β : Type} (x:yp) (f:α→Rs β):(Rs.ex x).bind f=.ex x:=rfl
@[simp] theorem acK {α β : Type} (f:α→Rs β):(Rs.no).bind f=.no:=rfl
theorem bind_assoc{α β γ : Type}(r:Rs α)(f:α→Rs β)(g:β→Rs γ):(r.bind f).bind g=r.bind fun a=>(f a).bind g:=by cases r<;>rfl
def Fin{α : Type}(r:Rs α)(k:α→Prop):Prop:=match r with
 | .ok a=>k a
 | _=>False
theorem aq{α β : Type}{r:Rs α}{f:α→Rs β}{k:β→Prop}:Fin (r.bind f) k↔Fin r fun a=>Fin (f a) k:=by cases r<;>exact Iff.rfl
theorem Fin.mono{α : Type}{r:Rs α}{k k':α→Prop}(h:Fin r k)(m:∀ a,k a→k' a):Fin r k':=by
 cases r with
 | ok a=>exact m a h
 | ex x=>exact h
 | no=>exact h
theorem Am{α : Type}{r s:Rs α}{k:α→Prop}(h:Fin (if true=true then r else s) k):Fin r k:=by simpa using h
theorem An{α : Type}{r s:Rs α}{k:α→Prop}(h:Fin (if false=true then r else s) k):Fin s k:=by simpa using h
theorem gF{α : Type}{a:α}{k:α→Prop}(h:Fin (.ok a) k):k a:=h
def tM{α : Type}:Option α→Rs α
 | some a=>.ok a
 | none=>.no
def aN{α : Type}(c:Prop)[Decidable c](r:Rs α):Rs α:=if c then r else .no
theorem ao{α : Type}{c:Prop}[Decidable c]{r:Rs α}(h:c):aN c r=r:=if_pos h
theorem aV{α : Type}{c:Prop}[Decidable c]{r:Rs α}{k:α→Prop}(h:Fin (aN c r) k):c∧Fin r k:=by
 unfold aN at h
 split at h
 ·exact⟨‹_›,h⟩
 ·exact h.elim
abbrev E:=Env→Rs D
abbrev C:=Env→Rs Bool
def mC(d:D):E:=fun _=>.ok d
def mV(i:Nat):E:=fun e=>match e[i]? with
 | some (some (.d x))=>.ok x
 | _=>.no
def m1(f:D→Rs D)(a:E):E:=fun e=>(a e).bind f
def m2(f:D→D→Rs D)(a b:E):E:=fun e=>(a e).bind fun x=>(b e).bind fun y=>f x y
def iZ:List E→Env→Rs (List D)
 | [],_=>.ok []
 | a::r,e=>(a e).bind fun x=>(iZ r e).bind fun xs=>.ok (x::xs)
def mN(f:List D→Rs D)(as:List E):E:=fun e=>(iZ as e).bind f
def dTup(ds:List D):Rs D:=aN (ds.length≤16777216) (.ok (.tup ds))
def gq(ds:List D):Rs D:=aN (ds.length≤16777216) (.ok (.lst ds))
def asB:D→Rs Bool
 | .bl b=>.ok b
 | _=>.no
def Ku(a b:E):E:=fun e=>(a e).bind fun x=>(asB x).bind fun c=>if c=true then b e else .ok (.bl false)
def wR(f g:D→D→Rs D)(a b c:E):E:=fun e=>(a e).bind fun x=>(b e).bind fun y=>(f x y).bind fun z=>(asB z).bind fun k=>if k=true then (c e).bind fun w=>g y w else .ok (.bl false)
def asI:D→Rs Int
 | .int i=>.ok i
 | _=>.no
def pF:Option E→Env→Rs (Option Int)
 | none,_=>.ok none
 | some a,e=>(a e).bind fun x=>(asI x).bind fun i=>.ok (some i)
def j7(x:Str)(lo hi:Option Int):Str:=⟨(uU x.cps.toList lo hi).toArray⟩
def JC(x:D)(lo hi:Option Int):Rs D:=match x with
 | .lst ds=>.ok (.lst (uU ds lo hi))
 | .str z=>aN (z.length≤16777216) (.ok (.str (j7 z lo hi)))
 | _=>.no
def pD(f:D→Option Int→Option Int→Rs D)(a:E)(lo hi:Option E):E:=fun e=>(a e).bind fun x=>(pF lo e).bind fun l=>(pF hi e).bind fun h=>f x l h
def cB(a:E):C:=fun e=>(a e).bind asB
def uf(a b:C):C:=fun e=>(a e).bind fun c=>if c=true then b e else .ok false
def Uy(a b:C):C:=fun e=>(a e).bind fun c=>if c=true then .ok true else b e
def qW(a:C):C:=fun e=>(a e).bind fun c=>.ok (!c)
def ado:D→Rs Bool
 | .non=>.ok false
 | .bl b=>.ok b
 | .int i=>.ok (i != 0)
 | .str y=>aN (y.length≤16777216) (.ok ((y.length:Int) != 0))
 | .lst ds=>.ok (!ds.isEmpty)
 | .tup ds=>.ok (!ds.isEmpty)
def aac(a:E):C:=fun e=>(a e).bind ado
abbrev I:=Env→Rs (List D)
def Ge:D→Rs (List D)
 | .lst ds=>.ok ds
 | .tup ds=>.ok ds
 | .str x=>.ok (x.cps.toList.map fun c=>.str ⟨#[c]⟩)
 | _=>.no
def rY(a:E):I:=fun e=>(a e).bind Ge
def dB(lo hi:Int):List D:=(List.range (hi - lo).toNat).map fun k=>.int (lo+(k:Nat))
def okR(i:Int):Prop:=-(2 ^ 62)≤i∧i < 2 ^ 62
instance (i:Int):Decidable (okR i):=inferInstanceAs (Decidable (_∧_))
def iD(a:E):I:=fun e=>(a e).bind fun x=>(asI x).bind fun j=>aN (okR j) (.ok (dB 0 j))
def pK(k:Nat):List D→List D
 | []=>[]
 | d::r=>.tup [.int k,d]::pK (k+1) r
def tW:D→Rs (List D)
 | .lst ds=>.ok ds
 | _=>.no
def TX(a:E):I:=fun e=>(a e).bind fun x=>(tW x).bind fun ds=>.ok (pK 0 ds)
def pJ:List D→List D→List D
 | a::r,b::s=>.tup [a,b]::pJ r s
 | _,_=>[]
inductive Tg where
 | n (i:Nat)|t (is:List Nat)
def uE:List Nat→List D→Env→Rs Env
 | [],[],e=>.ok e
 | i::is,d::ds,e=>uE is ds (e.set i (some (.d d)))
 | _,_,_=>.no
def Tg.put:Tg→D→Env→Rs Env
 | .n i,d,e=>.ok (e.set i (some (.d d)))
 | .t is,.tup ds,e=>uE is ds e
 | _,_,_=>.no
def qG(ρ : List (Option Nat))(e:Env):Env:=ρ.map fun o=>o.bind fun j=>(e[j]?).join
def eX(tg:Tg)(c:C)(a:E)(e:Env):List D→Rs (List D)
 | []=>.ok []
 | x::r=>(tg.put x e).bind fun e1=>(c e1).bind fun k=>if k=true then (a e1).bind fun y=>(eX tg c a e r).bind fun ys=>.ok (y::ys) else eX tg c a e r
def jA:C:=fun _=>.ok true
def fL(ρ : List (Option Nat))(it:I)(tg:Tg)(c:C)(a:E):E:=fun e=>(it e).bind fun xs=>aN (xs.length≤16777216) ((eX tg c a (qG ρ e) xs).bind fun ys=>.ok (.lst ys))
abbrev Fn:=List W→Rs W
abbrev EW:=Env→Rs W
def wD(a:E):EW:=fun e=>(a e).bind fun x=>.ok (.d x)
def wV(i:Nat):EW:=fun e=>match e[i]? with
 | some (some w)=>.ok w
 | _=>.no
def bM:List EW→Env→Rs (List W)
 | [],_=>.ok []
 | a::r,e=>(a e).bind fun x=>(bM r e).bind fun xs=>.ok (x::xs)
def qF(f:Fn)(as:List EW):EW:=fun e=>(bM as e).bind f
def asD:W→Rs D
 | .d x=>.ok x
 | _=>.no
def aZ(f:Fn)(as:List EW):E:=fun e=>(qF f as e).bind asD
def Vh:W→Rs D
 | .d x=>aN (X8 x=true) (.ok x)
 | _=>.no
def rW(f:Fn)(as:List EW):E:=fun e=>(qF f as e).bind Vh
inductive Out where
 | nx (e:Env)|rt (w:W)|bk (e:Env)|ct (e:Env)
abbrev S:=Env→Rs Out
def bB:S:=fun e=>.ok (.nx e)
def aY(s t:S):S:=fun e=>(s e).bind fun o=>match o with
 | .nx e'=>t e'
 | o=>.ok o
def Ri(i:Nat)(a:EW):S:=fun e=>(a e).bind fun w=>.ok (.nx (e.set i (some w)))
def bW(i:Nat)(a:E):S:=fun e=>(a e).bind fun d=>.ok (.nx (e.set i (some (.d d))))
def VN(tg:Tg)(a:E):S:=fun e=>(a e).bind fun d=>(tg.put d e).bind fun e'=>.ok (.nx e')
def rP(a:E):S:=fun e=>(a e).bind fun _=>.ok (.nx e)
def dF(a:EW):S:=fun e=>(a e).bind fun w=>.ok (.rt w)
def iy(c:C)(s t:S):S:=fun e=>(c e).bind fun k=>if k=true then s e else t e
def ji:S:=fun _=>.no
def qj(tg:Tg)(body:S):List D→Env→Rs Out
 | [],e=>.ok (.nx e)
 | x::r,e=>(tg.put x e).bind fun e1=>(body e1).bind fun o=>match o with
  | .nx e2=>qj tg body r e2
  | .ct e2=>qj tg body r e2
  | .bk e2=>.ok (.nx e2)
  | .rt w=>.ok (.rt w)
def m7(it:I)(tg:Tg)(body:S):S:=fun e=>(it e).bind fun xs=>qj tg body xs e
def jV(c:C)(body:S):Nat→Env→Rs Out
 | 0,_=>.no
 | n+1,e=>(c e).bind fun k=>if k=true then (body e).bind fun o=>match o with
  | .nx e2=>jV c body n e2
  | .ct e2=>jV c body n e2
  | .bk e2=>.ok (.nx e2)
  | .rt w=>.ok (.rt w)
  else .ok (.nx e)
def J0(n:Nat)(c:C)(body:S):S:=jV c body n
def getL(e:Env)(i:Nat):Rs (List D):=match e[i]? with
 | some (some (.d (.lst ds)))=>.ok ds
 | _=>.no
def putL(e:Env)(i:Nat)(ds:List D):Env:=e.set i (some (.d (.lst ds)))
def bV(i:Nat)(a:E):S:=fun e=>(a e).bind fun d=>(getL e i).bind fun ds=>aN (ds.length < 16777216) (.ok (.nx (putL e i (ds++[d]))))
def Ma(ds:List D)(i:Int):Rs (D×List D):=aN (-(2 ^ 63)≤i∧i < 2 ^ 63) ((tM (Bv ds.length i)).bind fun k=>(tM ds[k]?).bind fun d=>.ok (d,ds.eraseIdx k))
def pX(x y:Nat)(k:E):S:=fun e=>(k e).bind fun z=>(asI z).bind fun i=>(getL e y).bind fun ds=>(Ma ds i).bind fun p=>(getL (putL e y p.2) x).bind fun es =>
 aN (es.length < 16777216) (.ok (.nx (putL (putL e y p.2) x (es++[p.1]))))
def pW(x:Nat)(k a:E):S:=fun e=>(a e).bind fun d=>(k e).bind fun z=>(asI z).bind fun i=>(getL e x).bind fun ds=>(tM (Bv ds.length i)).bind fun j=>.ok (.nx (putL e x (ds.set j d)))
def PL:D→Option Ky
 | .int i=>some (.inl i)
 | .str x=>some (.inr x)
 | _=>none
def Cz:List D→Option (List Ky)
 | []=>some []
 | d::r=>match PL d,Cz r with
  | some k,some ks=>some (k::ks)
  | _,_=>none
def Bm{κ : Type}[DecidableEq κ](kvs:List (κ×D))(k:κ):Option D:=(kvs.find? fun kv=>decide (kv.1=k)).map (·.2)
def ab8(w:W)(k:D):Rs (Option D):=match w with
 | .dk kvs=>(tM (PL k)).bind fun k=>.ok (Bm kvs k)
 | .dt kvs=>match k with
  | .tup ds=>(tM (Cz ds)).bind fun k=>.ok (Bm kvs k)
  | _=>.no
 | _=>.no
def putK{κ : Type}[DecidableEq κ](k:κ)(v:D)(kvs:List (κ×D)):List (κ×D) :=
 if (kvs.any fun kv=>decide (kv.1=k))=true then kvs.map (fun kv=>if kv.1=k then (kv.1,v) else kv) else kvs++[(k,v)]
def Z8(w:W)(k v:D):Rs W:=match w with
 | .dk kvs=>aN (kvs.length < 16777216) ((tM (PL k)).bind fun k=>.ok (.dk (putK k v kvs)))
 | .dt kvs=>match k with
  | .tup ds=>aN (kvs.length < 16777216) ((tM (Cz ds)).bind fun k=>.ok (.dt (putK k v kvs)))
  | _=>.no
 | _=>.no
def Fg(i:Nat)(k:E):E:=fun e=>(k e).bind fun d=>(wV i e).bind fun w=>(ab8 w d).bind fun o=>.ok (.bl o.isSome)
def ni(i:Nat)(k v:E):S:=fun e=>(v e).bind fun x=>(k e).bind fun d=>(wV i e).bind fun w=>(Z8 w d x).bind fun w'=>.ok (.nx (e.set i (some w')))
def yd:Out→Rs W
 | .rt w=>.ok w
 | .nx _=>.ok (.d .non)
 | _=>.no
def vP(k n:Nat)(body:S):Fn:=fun ws=>aN (ws.length=k) ((body (ws.map some++List.replicate (n - ws.length) none)).bind yd)
def ql:Out→Rs W
 | .rt w=>.ok w
 | _=>.no
def Nh(k n:Nat)(body:S):Fn:=fun ws=>aN (ws.length=k) ((body (ws.map some++List.replicate (n - ws.length) none)).bind ql)
def fnZ:Fn:=fun _=>.no
def vG(i j:Int):Prop:=(-(2 ^ 64) < i∧i < 2 ^ 64)∨(-(2 ^ 64) < j∧j < 2 ^ 64)
instance (i j:Int):Decidable (vG i j):=inferInstanceAs (Decidable (_∨_))
def vH(j:Int):Prop:=0 < j∧j.natAbs.log2 < 9000
instance (j:Int):Decidable (vH j):=inferInstanceAs (Decidable (_∧_))
def abq(i j:Int):Prop:=0≤j∧j≤1000000∧i.natAbs < 2 ^ 64
instance (i j:Int):Decidable (abq i j):=inferInstanceAs (Decidable (_∧_))
def di:D→D→Rs D
 | .int i,.int j=>.ok (.int (i+j))
 | .str i,.str j=>aN (i.length+j.length≤16777216) (.ok (.str (i++j)))
 | .lst i,.lst j=>aN (i.length+j.length≤16777216) (.ok (.lst (i++j)))
 | _,_=>.no
def yx:D→D→Rs D
 | .int i,.int j=>.ok (.int (i - j))
 | _,_=>.no
def cQ:D→D→Rs D
 | .int i,.int j=>aN (vG i j) (.ok (.int (i * j)))
 | _,_=>.no
def dD:D→D→Rs D
 | .int i,.int j=>aN (vH j) (.ok (.int (i / j)))
 | _,_=>.no
def bT:D→D→Rs D
 | .int i,.int j=>aN (0 < j) (.ok (.int (i % j)))
 | _,_=>.no
def Z9:D→Rs D
 | .int i=>.ok (.int (-i))
 | _=>.no
def Bx:D→D→Rs D
 | .int i,.int j=>.ok (.bl (decide (i < j)))
 | .str i,.str j=>.ok (.bl (decide (i.cps.toList < j.cps.toList)))
 | _,_=>.no
def dGt:D→D→Rs D
 | .int i,.int j=>.ok (.bl (decide (j < i)))
 | .str i,.str j=>.ok (.bl (decide (j.cps.toList < i.cps.toList)))
 | _,_=>.no
def WX:D→D→Rs D
 | .int i,.int j=>.ok (.bl (decide (i≤j)))
 | _,_=>.no
def tX(x y:D):Rs D:=aN (x.dep≤16) (.ok (.bl (cL x y)))
def GR(x y:D):Rs D:=aN (x.dep≤16) (.ok (.bl (!cL x y)))
def Ii:D→Bool
 | .non=>true
 | _=>false
def Aw(x y:D):Rs D:=match y with
 | .non=>.ok (.bl (!Ii x))
 | _=>.no
def Qw(x y:D):Rs D:=match y with
 | .lst ds=>aN (cH ds≤16) (.ok (.bl (ds.any fun e=>cL e x)))
 | .tup ds=>aN (cH ds≤16) (.ok (.bl (ds.any fun e=>cL e x)))
 | .str z=>match x with
  | .str s=>aN (s.length=1) (.ok (.bl (decide (s.cps.getD 0 0∈z.cps.toList))))
  | _=>.no
 | _=>.no
def dC(x y:D):Rs D:=match y with
 | .lst ds=>aN (cH ds≤16) (.ok (.bl (!ds.any fun e=>cL e x)))
 | .tup ds=>aN (cH ds≤16) (.ok (.bl (!ds.any fun e=>cL e x)))
 | _=>.no
def dU(x y:D):Rs D:=match x,y with
 | .lst ds,.int i=>tM (v7 ds i)
 | .tup ds,.int i=>tM (v7 ds i)
 | .str z,.int i=>aN (z.length≤16777216) ((tM (v7 z.cps.toList i)).bind fun c=>.ok (.str ⟨#[c]⟩))
 | _,_=>.no
def iR:List D→Rs D
 | [.lst ds]=>.ok (.int ds.length)
 | [.tup ds]=>.ok (.int ds.length)
 | [.str z]=>aN (z.length≤16777216) (.ok (.int z.length))
 | _=>.no
def xn:List D→Rs D
 | [.int i,.int j]=>.ok (.int (max i j))
 | _=>.no
def BJ:List D→Rs D
 | [.int i,.int j]=>.ok (.int (min i j))
 | _=>.no
def Gv:List D→Option (List Bool)
 | []=>some []
 | .bl b::r=>(Gv r).map (b :: ·)
 | _=>none
def Qm:List D→Rs D
 | [.lst ds]=>(tM (Gv ds)).bind fun bs=>.ok (.bl (bs.all id))
 | _=>.no
def Be:List D→Rs D
 | [.lst ds]=>.ok (.lst ds)
 | [.tup ds]=>.ok (.lst ds)
 | _=>.no
def qw:List D→Rs D
 | [.lst ds]=>.ok (.tup ds)
 | [.tup ds]=>.ok (.tup ds)
 | _=>.no
def aaj:List D→Rs D
 | [.int i]=>.ok (.int i)
 | [.bl k]=>.ok (.int (if k then 1 else 0))
 | _=>.no
def Pq(t:String):D→Bool
 | .non=>false
 | .bl _=>t == "bool" || t == "int"
 | .int _=>t == "int"
 | .str _=>t == "str"
 | .lst _=>t == "list"
 | .tup _=>t == "tuple"
def JP:D→String
 | .non => "NoneType" | .bl _ => "bool" | .int _ => "int" | .str _ => "str" | .lst _ => "list" | .tup _ => "tuple"
def yN(ts:List String)(x:D):Rs D:=.ok (.bl (ts.any fun t=>Pq t x))
def mY:List D→Option (List Str)
 | []=>some []
 | .str b::r=>(mY r).map (b :: ·)
 | _=>none
def Nq(x y:D):Rs D:=match x,y with
 | .str sep,.lst ds=>(tM (mY ds)).bind fun ys=>aN ((ys.map (·.length)).sum+ys.length * sep.length≤16777216) (.ok (.str (Str.join sep ys)))
 | _,_=>.no
def met(val:Nat→Str):Nat→List Str
 | 0=>[]
 | i+1=>if val i∈met val i then met val i else met val i++[val i]
def Fp(ys:List Str):Nat:=(met (fun i=>ys.getD i Str.empty) ys.length).length
end Mi
namespace L2
open PySem PySem.Spec PyProof.Rows
open Mi (D cH cL jT)
mutual
theorem wM:∀ d:D,cL d d=true
 | .non=>rfl
 | .bl b=>by simp[cL]
 | .int i=>by simp[cL]
 | .str x=>by simp[cL]
 | .lst ds=>by rw[cL];exact uJ ds
 | .tup ds=>by rw[cL];exact uJ ds
theorem uJ:∀ ds:List D,jT ds ds=true
 | []=>rfl
 | d::r=>by rw[jT,wM d,uJ r];rfl
end
theorem oZ:∀ {ds es:List D},ds.length≠es.length→jT ds es=false
 | [],[],h=>absurd rfl h
 | [],_::_,_=>rfl
 | _::_,[],_=>rfl
 | d::r,e::s,h=>by rw[jT,oZ (fun z=>h (by rw[List.length_cons,List.length_cons,z])),Bool.and_false]
theorem o6:∀ {ds es:List D},ds.length=es.length→jT ds es=(List.range ds.length).all fun j=>cL (ds.getD j .non) (es.getD j .non)
 | [],[],_=>rfl
 | [],_::_,h=>by simp at h
 | _::_,[],h=>by simp at h
 | d::r,e::s,h=>by
  rw[jT,o6 (by simpa using h),List.length_cons,List.range_succ_eq_map,List.all_cons,List.all_map]
  rfl
mutual
/-- the value v in the heap H is the tree d -/
def Rep(K:PySem.W.Frag)(H:Hp):D→V→Prop
 | .non,v=>v=.non
 | .bl b,v=>v=.bl b
 | .int i,v=>v=.int i
 | .str x,v=>v=.str x
 | .lst ds,v=>∃ a xs,v=.ref a∧uW K H a xs∧bU K H ds xs
 | .tup ds,v=>∃ a xs,v=.ref a∧yO K H a xs∧bU K H ds xs
def bU(K:PySem.W.Frag)(H:Hp):List D→List V→Prop
 | [],vs=>vs=[]
 | d::ds,vs=>∃ v r,vs=v::r∧Rep K H d v∧bU K H ds r
end
theorem bU.length{K:PySem.W.Frag}{H:Hp}:∀ {ds:List D} {vs:List V},bU K H ds vs→ds.length=vs.length
 | [],vs,h=>by rw[bU] at h;subst h;rfl
 | d::ds,vs,h=>by
  rw[bU] at h
  obtain⟨v,r,rfl,_,q⟩:=h
  rw[List.length_cons,List.length_cons,bU.length q]
theorem bU.get{K:PySem.W.Frag}{H:Hp}:∀ {ds:List D} {vs:List V} {j:Nat} {v:V},bU K H ds vs→vs[j]? = some v→Rep K H (ds.getD j .non) v
 | [],vs,j,v,h,e=>by rw[bU] at h;subst h;simp at e
 | d::ds,vs,0,v,h,e=>by
  rw[bU] at h
  obtain⟨v',r,rfl,p,q⟩:=h
  simp at e;subst e;exact p
 | d::ds,vs,j+1,v,h,e=>by
  rw[bU] at h
  obtain⟨v',r,rfl,p,q⟩:=h
  have:=bU.get (j:=j) (v:=v) q (by simpa using e)
  simpa using this
section
variable{X:Cx}{pins:List (Addr×Obj)}{σ : St}{H:Hp}{s:Shared}
theorem Inv.HY(I:Inv X pins σ H s){a:Addr}{xs ys:List V}(h:uW X.K H a xs)(h':yO X.K H a ys):False:=by
 obtain⟨its,_,p,_⟩:=I.list h
 obtain⟨its',_,q,_⟩:=I.tuple h'
 obtain⟨o,n,e,c,_⟩:=p
 obtain⟨o',e',c',_⟩:=q
 rw[e] at e';cases e'
 rw[c] at c'
 exact absurd (Value.type.inj c') (by decide)
mutual
theorem Rep.inj(I:Inv X pins σ H s):∀ {d e:D} {v:V},Rep X.K H d v→Rep X.K H e v→d=e
 | .non,e,v,h,h'=>by
  rw[Rep] at h;subst h
  cases e<;>rw[Rep] at h'<;>first|rfl|(obtain⟨_,_,z,_⟩:=h';cases z)|cases h'
 | .bl b,e,v,h,h'=>by
  rw[Rep] at h;subst h
  cases e<;>rw[Rep] at h'<;>first|(obtain⟨_,_,z,_⟩:=h';cases z)|(cases h';rfl)|cases h'
 | .int b,e,v,h,h'=>by
  rw[Rep] at h;subst h
  cases e<;>rw[Rep] at h'<;>first|(obtain⟨_,_,z,_⟩:=h';cases z)|(cases h';rfl)|cases h'
 | .str b,e,v,h,h'=>by
  rw[Rep] at h;subst h
  cases e<;>rw[Rep] at h'<;>first|(obtain⟨_,_,z,_⟩:=h';cases z)|(cases h';rfl)|cases h'
 | .lst ds,e,v,h,h'=>by
  rw[Rep] at h
  obtain⟨a,xs,rfl,q,r⟩:=h
  cases e with
  | lst es =>
   rw[Rep] at h'
   obtain⟨a',xs',z,q',r'⟩:=h'
   cases z
   rw[I.vK q' q] at r'
   rw[bU.inj I r r']
  | tup es =>
   rw[Rep] at h'
   obtain⟨a',xs',z,q',r'⟩:=h'
   cases z
   exact(I.HY q q').elim
  | _=>rw[Rep] at h';cases h'
 | .tup ds,e,v,h,h'=>by
  rw[Rep] at h
  obtain⟨a,xs,rfl,q,r⟩:=h
  cases e with
  | tup es =>
   rw[Rep] at h'
   obtain⟨a',xs',z,q',r'⟩:=h'
   cases z
   rw[I.wu q' q] at r'
   rw[bU.inj I r r']
  | lst es =>
   rw[Rep] at h'
   obtain⟨a',xs',z,q',r'⟩:=h'
   cases z
   exact(I.HY q' q).elim
  | _=>rw[Rep] at h';cases h'
theorem bU.inj(I:Inv X pins σ H s):∀ {ds es:List D} {vs:List V},bU X.K H ds vs→bU X.K H es vs→ds=es
 | [],es,vs,h,h'=>by
  rw[bU] at h;subst h
  cases es with
  | nil=>rfl
  | cons e es=>rw[bU] at h';obtain⟨_,_,z,_⟩:=h';cases z
 | d::ds,es,vs,h,h'=>by
  rw[bU] at h
  obtain⟨v,r,rfl,p,q⟩:=h
  cases es with
  | nil=>rw[bU] at h';cases h'
  | cons e es =>
   rw[bU] at h'
   obtain⟨v',r',z,p',q'⟩:=h'
   cases z
   rw[Rep.inj I p p',bU.inj I q q']
end
theorem xj:∀ {ds:List D} {j:Nat},(ds.getD j .non).dep≤cH ds
 | [],j=>by simp[D.dep]
 | d::ds,0=>by simp[cH];omega
 | d::ds,j+1=>by
  have:=xj (ds:=ds) (j:=j)
  have e:(d::ds).getD (j+1) .non=ds.getD j .non:=by simp
  rw[e,cH];omega
def _root_.Mi.D.flat:D→Bool
 | .lst _=>false
 | .tup _=>false
 | _=>true
def _root_.Mi.D.toV:D→V
 | .non=>.non|.bl b=>.bl b|.int i=>.int i|.str x=>.str x|.lst _=>.non|.tup _=>.non
theorem Rep.flat{K:PySem.W.Frag}:∀ {d:D} {v:V},d.flat=true→Rep K H d v→v=d.toV∧T9 v=true
 | .non,v,_,h=>by rw[Rep] at h;subst h;exact⟨rfl,rfl⟩
 | .bl b,v,_,h=>by rw[Rep] at h;subst h;exact⟨rfl,rfl⟩
 | .int b,v,_,h=>by rw[Rep] at h;subst h;exact⟨rfl,rfl⟩
 | .str b,v,_,h=>by rw[Rep] at h;subst h;exact⟨rfl,rfl⟩
 | .lst _,v,z,h=>by cases z
 | .tup _,v,z,h=>by cases z
theorem Oq:∀ {d e:D},d.flat=true→e.flat=true→cL d e=eqV d.toV e.toV:=by
 intro d e h1 h2
 cases d<;>cases e<;>first|rfl|exact absurd (show false=true from h1) Bool.false_ne_true|exact absurd (show false=true from h2) Bool.false_ne_true
open SeqAt in
theorem Ub(I:Inv X pins σ H s):∀ (n:Nat) (d e:D) (A:Around) {x y:V} {u u':Value},d.dep≤n→A.units+n < cLine→Rep X.K H d x→Rep X.K H e y→RelV x u→RelV y u'→EqAt A s u u' (cL d e):=by
 intro n
 induction n using Nat.strongRecOn with
 | ind n ih =>
  intro d e A x y u u' hd hu h h' r r'
  have hu0:A.units < cLine:=by omega
  by_cases hdf:d.flat=true
  ·obtain⟨ex,fx⟩:=h.flat hdf
   subst ex
   by_cases hef:e.flat=true
   ·obtain⟨ey,fy⟩:=h'.flat hef
    subst ey
    rw[Oq hdf hef]
    exact Z4 r r' fx fy
   ·cases e with
    | lst es =>
     rw[Rep] at h'
     obtain⟨a,xs,rfl,q,_⟩:=h'
     cases r'
     obtain⟨its,_,p,_⟩:=I.list q
     cases d with
     | non=>cases r;exact EqAt.none_list p.isList hu0
     | bl b=>cases r;exact EqAt.bool_list b p.isList hu0
     | int b=>obtain⟨t,rfl⟩:=r;exact EqAt.int_list b t p.isList hu0
     | str b=>obtain⟨t,rfl⟩:=r;exact EqAt.str_list b t p.isList hu0
     | _=>cases hdf
    | tup es =>
     rw[Rep] at h'
     obtain⟨a,xs,rfl,q,_⟩:=h'
     cases r'
     obtain⟨its,_,p,_⟩:=I.tuple q
     cases d with
     | non=>cases r;exact EqAt.none_tuple p hu0
     | bl b=>cases r;exact EqAt.bool_tuple b p hu0
     | int b=>obtain⟨t,rfl⟩:=r;exact EqAt.int_tuple b t p hu0
     | str b=>obtain⟨t,rfl⟩:=r;exact EqAt.str_tuple b t p hu0
     | _=>cases hdf
    | _=>exact absurd rfl hef
  ·by_cases hef:e.flat=true
   ·obtain⟨ey,fy⟩:=h'.flat hef
    subst ey
    cases d with
    | lst ds =>
     rw[Rep] at h
     obtain⟨a,xs,rfl,q,_⟩:=h
     cases r
     obtain⟨its,_,p,_⟩:=I.list q
     cases e with
     | non=>cases r';exact EqAt.list_none p.isList hu0
     | bl b=>cases r';exact EqAt.list_bool b p.isList hu0
     | int b=>obtain⟨t,rfl⟩:=r';exact EqAt.list_int b t p.isList hu0
     | str b=>obtain⟨t,rfl⟩:=r';exact EqAt.list_str b t p.isList hu0
     | _=>cases hef
    | tup ds =>
     rw[Rep] at h
     obtain⟨a,xs,rfl,q,_⟩:=h
     cases r
     obtain⟨its,_,p,_⟩:=I.tuple q
     cases e with
     | non=>cases r';exact EqAt.tuple_none p hu0
     | bl b=>cases r';exact EqAt.tuple_bool b p hu0
     | int b=>obtain⟨t,rfl⟩:=r';exact EqAt.tuple_int b t p hu0
     | str b=>obtain⟨t,rfl⟩:=r';exact EqAt.tuple_str b t p hu0
     | _=>cases hef
    | _=>exact absurd rfl hdf
   ·-- both are lists or tuples
    have item:∀ {ds es:List D} {xs ys:List V} {its its':List Value},cH ds+1≤n→bU X.K H ds xs→bU X.K H es ys→Vals xs its→Vals ys its' →
     ∀ j (h1:j < its.toArray.size) (h2:j < its'.toArray.size),EqAt A.in1 s its.toArray[j] its'.toArray[j] (cL (ds.getD j .non) (es.getD j .non)):=by
     intro ds es xs ys its its' hn q q' v v' j h1 h2
     have h1':j < its.length:=by simpa using h1
     have h2':j < its'.length:=by simpa using h2
     have e1:j < xs.length:=by rw[v.length];exact h1'
     have e2:j < ys.length:=by rw[v'.length];exact h2'
     have g1:xs[j]? = some xs[j]:=by simp[e1]
     have g2:ys[j]? = some ys[j]:=by simp[e2]
     obtain⟨w1,k1,r1⟩:=v.get g1
     obtain⟨w2,k2,r2⟩:=v'.get g2
     have t1:its.toArray[j]=w1:=by obtain⟨_,k1⟩:=List.getElem?_eq_some_iff.mp k1;simpa using k1
     have t2:its'.toArray[j]=w2:=by obtain⟨_,k2⟩:=List.getElem?_eq_some_iff.mp k2;simpa using k2
     rw[t1,t2]
     have:=xj (ds:=ds) (j:=j)
     refine ih (n - 1) (by omega) _ _ A.in1 (by omega) ?_ (q.get g1) (q'.get g2) r1 r2
     show A.units+1+(n - 1) < cLine
     omega
    cases d with
    | lst ds =>
     rw[Rep] at h
     obtain⟨a,xs,rfl,q,rr⟩:=h
     cases r
     obtain⟨its,v,p,_⟩:=I.list q
     have hn:cH ds+1≤n:=by simpa [D.dep] using hd
     cases e with
     | lst es =>
      rw[Rep] at h'
      obtain⟨b,ys,rfl,q',rr'⟩:=h'
      cases r'
      obtain⟨its',v',p',_⟩:=I.list q'
      by_cases hab:a=b
      ·subst hab
       rw[I.vK q' q] at rr'
       rw[bU.inj I rr rr',wM]
       exact EqAt.same _
      ·have l1:=rr.length
       have l2:=rr'.length
       have l3:=v.length
       have l4:=v'.length
       by_cases hl:ds.length=es.length
       ·rw[cL,o6 hl]
        have:=RcAt.lists p.isList p'.isList (by simp;omega) hu0 (item hn rr rr' v v')
        have e:its.toArray.size=ds.length:=by simp;omega
        rw[e] at this
        exact .of_refs hab this
       ·rw[cL,oZ hl]
        exact .of_refs hab (RcAt.lists_lengths p.isList p'.isList (by simp;omega) hu0)
     | tup es =>
      rw[Rep] at h'
      obtain⟨b,ys,rfl,q',_⟩:=h'
      cases r'
      obtain⟨its',_,p',_⟩:=I.tuple q'
      exact EqAt.list_tuple p.isList p' hu0
     | _=>exact absurd rfl hef
    | tup ds =>
     rw[Rep] at h
     obtain⟨a,xs,rfl,q,rr⟩:=h
     cases r
     obtain⟨its,v,p,_⟩:=I.tuple q
     have hn:cH ds+1≤n:=by simpa [D.dep] using hd
     cases e with
     | tup es =>
      rw[Rep] at h'
      obtain⟨b,ys,rfl,q',rr'⟩:=h'
      cases r'
      obtain⟨its',v',p',_⟩:=I.tuple q'
      by_cases hab:a=b
      ·subst hab
       rw[I.wu q' q] at rr'
       rw[bU.inj I rr rr',wM]
       exact EqAt.same _
      ·have l1:=rr.length
       have l2:=rr'.length
       have l3:=v.length
       have l4:=v'.length
       have R:=RcAt.tuples p p' hu0 (item hn rr rr' v v')
       have e1:its.toArray.size=ds.length:=by simp;omega
       have e2:its'.toArray.size=es.length:=by simp;omega
       rw[e1,e2] at R
       by_cases hl:ds.length=es.length
       ·rw[cL,o6 hl]
        rw[hl,Nat.min_self,beq_self_eq_true,Bool.and_true,← hl] at R
        exact .of_refs hab R
       ·rw[cL,oZ hl]
        have:(ds.length == es.length)=false:=by simpa using hl
        rw[this,Bool.and_false] at R
        exact .of_refs hab R
     | lst es =>
      rw[Rep] at h'
      obtain⟨b,ys,rfl,q',_⟩:=h'
      cases r'
      obtain⟨its',_,p',_⟩:=I.list q'
      exact EqAt.tuple_list p p'.isList hu0
     | _=>exact absurd rfl hef
    | _=>exact absurd rfl hdf
def V1(K:PySem.W.Frag)(neg:Bool):R2:=fun x y H Q=>∃ (p:Addr) (xs:List V) (d:D) (ds:List D),y=.ref p∧(uW K H p xs∨yO K H p xs)∧Rep K H d x∧bU K H ds xs∧cH ds≤16 ∧
 Q (.bl (if neg then !ds.any (fun e=>cL e d) else ds.any (fun e=>cL e d))) H
theorem bU.main{K:PySem.W.Frag}:∀ {ds:List D} {xs:List V} {us:List Value},bU K H ds xs→Vals xs us→∀ u∈us,∃ b∈ds,∃ y,Rep K H b y∧RelV y u
 | [],xs,us,hr,hv,u,hu=>by
  rw[bU] at hr;subst hr;cases hv;cases hu
 | b::bs,xs,us,hr,hv,u,hu=>by
  rw[bU] at hr
  obtain⟨y,r,rfl,p,q⟩:=hr
  cases hv with
  | cons ry t =>
   rcases List.mem_cons.mp hu with rfl|hu
   ·exact⟨b,List.mem_cons_self,_,p,ry⟩
   ·obtain⟨b',hb',w⟩:=bU.main q t u hu
    exact⟨b',List.mem_cons_of_mem _ hb',w⟩
theorem bU.any{K:PySem.W.Frag}{e:Value→Bool}{f:D→Bool}(key:∀ b y u,Rep K H b y→RelV y u→e u=f b):∀ {ds:List D} {xs:List V} {us:List Value},bU K H ds xs→Vals xs us→us.any e=ds.any f
 | [],xs,us,hr,hv=>by
  rw[bU] at hr;subst hr;cases hv;rfl
 | b::bs,xs,us,hr,hv=>by
  rw[bU] at hr
  obtain⟨y,r,rfl,p,q⟩:=hr
  cases hv with
  | cons ry t=>rw[List.any_cons,List.any_cons,key b y _ p ry,bU.any key q t]
theorem Nm:∀ {ds:List D} {b:D},b∈ds→b.dep≤cH ds
 | d::ds,b,h=>by
  rw[cH]
  rcases List.mem_cons.mp h with rfl|h
  ·omega
  ·have:=Nm h;omega
open Classical in
theorem yH(I:Inv X pins σ H s){A:Around}(hu:A.units+16 < cLine){d:D}{x:V}{v:Value}(hx:Rep X.K H d x)(rx:RelV x v){ds:List D}{xs:List V}{us:List Value}(hd:cH ds≤16)(hr:bU X.K H ds xs)(hv:Vals xs us) :
 ∃ e:Value→Bool,(∀ u∈us,SeqAt.EqAt A s u v (e u))∧us.any e=ds.any (fun b=>cL b d):=by
 have key:∀ b y u,Rep X.K H b y→RelV y u→(fun u=>decide (∃ b y,Rep X.K H b y∧RelV y u∧cL b d=true)) u=cL b d:=by
  intro b y u hb hy
  cases hp:cL b d with
  | true=>exact decide_eq_true ⟨b,y,hb,hy,hp⟩
  | false =>
   refine decide_eq_false ?_
   rintro ⟨b',y',hb',hy',hp'⟩
   have:=hy.inj hy'
   subst this
   rw[Rep.inj I hb hb',hp'] at hp
   cases hp
 refine⟨fun u=>decide (∃ b y,Rep X.K H b y∧RelV y u∧cL b d=true),fun u hu'=>?_,bU.any key hr hv⟩
 obtain⟨b,hb,y,rb,ry⟩:=bU.main hr hv u hu'
 rw[key b y u rb ry]
 exact Ub I 16 b d A (Nat.le_trans (Nm hb) hd) hu rb hx ry rx
theorem Zg(hu:X.A.units+64 < cLine):pM X (compareOp .In) (V1 X.K false):=by
 intro pins s σ H x y v u Q I rx ry h
 obtain⟨p,xs,d,ds,rfl,hq,hx,hr,hd,q⟩:=h
 cases ry
 have hu1:X.A.in1.units+16 < cLine:=by show X.A.units+1+16 < cLine;omega
 rcases hq with hq|hq
 ·obtain⟨its,r,pl,hz⟩:=I.list hq
  obtain⟨e,he,ea⟩:=yH I hu1 hx rx hd hr r
  refine SeqAt.in_listAt e pl.isList (fun w hw=>he w (by simpa using hw)) ⟨.bl _,H,I,rfl,?_⟩
  rw[show its.toArray.any e=its.any e by simp,ea]
  exact q
 ·obtain⟨its,r,pl,hz⟩:=I.tuple hq
  obtain⟨e,he,ea⟩:=yH I hu1 hx rx hd hr r
  refine SeqAt.in_tupleAt e pl (fun w hw=>he w (by simpa using hw)) ⟨.bl _,H,I,rfl,?_⟩
  rw[show its.toArray.any e=its.any e by simp,ea]
  exact q
theorem fJ(hu:X.A.units+64 < cLine):pM X (compareOp .NotIn) (V1 X.K true):=by
 intro pins s σ H x y v u Q I rx ry h
 obtain⟨p,xs,d,ds,rfl,hq,hx,hr,hd,q⟩:=h
 cases ry
 have hu1:X.A.in1.units+16 < cLine:=by show X.A.units+1+16 < cLine;omega
 rcases hq with hq|hq
 ·obtain⟨its,r,pl,hz⟩:=I.list hq
  obtain⟨e,he,ea⟩:=yH I hu1 hx rx hd hr r
  refine SeqAt.notIn_listAt e pl.isList (fun w hw=>he w (by simpa using hw)) ⟨.bl _,H,I,rfl,?_⟩
  rw[show its.toArray.any e=its.any e by simp,ea]
  exact q
 ·obtain⟨its,r,pl,hz⟩:=I.tuple hq
  obtain⟨e,he,ea⟩:=yH I hu1 hx rx hd hr r
  refine SeqAt.notIn_tupleAt e pl (fun w hw=>he w (by simpa using hw)) ⟨.bl _,H,I,rfl,?_⟩
  rw[show its.toArray.any e=its.any e by simp,ea]
  exact q
end
end L2
namespace L2
open PySem PySem.Spec PyProof.Rows
theorem vC{H:Hp}{p:Addr}{o:HO}(hp:H p=none):gH H (upd H p o):=fun b u e=>by rw[aJ (aX e hp)];exact e
theorem zj:∀ {ys:List Str} {us:List Value},Vals (ys.map V.str) us→StrsAre us ys
 | [],_,.nil=>.nil
 | y::ys,_,.cons r t=>by
  obtain⟨tk,rfl⟩:=(show ∃ tk,_=Value.str y tk from r)
  exact .cons y tk (zj t)
section
variable{X:Cx}
def rJoin(K:PySem.W.Frag):V→List V→Hp→VK→Prop:=fun x vs H Q=>∃ (sep:Str) (p:Addr) (ys:List Str),x=.str sep∧vs=[.ref p]∧uW K H p (ys.map V.str)∧(ys.map (·.length)).sum+ys.length * sep.length≤16777216∧Q (.str (Str.join sep ys)) H
theorem Ms:Vp X "str.join" (rJoin X.K):=by
 intro pins s σ H x vs v us Q I rx rv h
 obtain⟨sep,p,ys,rfl,rfl,hq,hz,q⟩:=h
 obtain⟨t,rfl⟩:=rx
 obtain⟨u,rfl,ru⟩:=rv.one
 cases ru
 obtain⟨its,r,pl,_⟩:=I.list hq
 refine join_list pl.isList (by simpa using zj r) hz fun t' k=>⟨.str (Str.join sep ys),H,I.tok k,⟨t',?_⟩,q⟩
 show Value.str (Builtin.Str.glued sep ys) t'=_
 rw[StrLaws.glued_eq_join]
def Yt(i j:Int):Prop:=0 < j∧j.natAbs.log2 < 9000
theorem cg:pM X (binaryOp .FloorDiv) (rI Yt fun i j=>.int (i / j)):=opI fun i j _ _ _ _ _ hc q=>by
 refine floordiv_int (by have:=hc.1;omega) ?_ (.inl (PyProof.noPylong_of_log2 hc.2))
 rw[Int.fdiv_eq_ediv_of_nonneg i (by have:=hc.1;omega)]
 exact q
theorem K9(hc:X.calm=true):ik X (.builtin "max") (fun xs H Q=>∃ i j z,xs=[.int i,.int j]∧max i j=z∧Q (.int z) H):=by
 intro pins s σ H xs us Q I r ⟨i,j,z,e1,e2,q⟩
 subst e2
 refine Qd hc pins s σ H xs us Q I r ⟨i,j,e1,?_⟩
 rw[show (if j > i then j else i)=max i j by split<;>omega]
 exact q
theorem K8(hc:X.calm=true):ik X (.builtin "min") (fun xs H Q=>∃ i j z,xs=[.int i,.int j]∧min i j=z∧Q (.int z) H):=by
 intro pins s σ H xs us Q I r ⟨i,j,z,e1,e2,q⟩
 subst e2
 refine Qc hc pins s σ H xs us Q I r ⟨i,j,e1,?_⟩
 rw[show (if j < i then j else i)=min i j by split<;>omega]
 exact q
end
end L2
namespace A
open PySem L2 PyProof.Rows
open Mi (D W Rs Fin aq)
inductive P2{α β : Type}(F:α→β→Prop):List α→List β→Prop
 | nil:P2 F [] []
 | cons {a b l m}:F a b→P2 F l m→P2 F (a::l) (b::m)
section
variable{α β : Type}{F G:α→β→Prop}
theorem P2.imp(h:∀ a b,F a b→G a b):∀ {l m},P2 F l m→P2 G l m
 | _,_,.nil=>.nil
 | _,_,.cons x t=>.cons (h _ _ x) (t.imp h)
theorem P2.len:∀ {l m},P2 F l m→l.length=m.length
 | _,_,.nil=>rfl
 | _,_,.cons _ t=>by rw[List.length_cons,List.length_cons,t.len]
theorem P2.append:∀ {l m l' m'},P2 F l m→P2 F l' m'→P2 F (l++l') (m++m')
 | _,_,_,_,.nil,s=>s
 | _,_,_,_,.cons x t,s=>.cons x (t.append s)
theorem P2.get:∀ {l m} {i:Nat} {a b},P2 F l m→l[i]? = some a→m[i]? = some b→F a b
 | _,_,_,_,_,.nil,e,_=>by simp at e
 | _,_,0,_,_,.cons x _,e,e'=>by simp at e e';subst e e';exact x
 | _,_,i+1,a,b,.cons _ t,e,e'=>t.get (i:=i) (by simpa using e) (by simpa using e')
theorem P2.getL{l m}{i:Nat}{a}(t:P2 F l m)(e:l[i]? = some a):∃ b,m[i]? = some b∧F a b:=by
 have h:i < m.length:=by rw[← t.len];exact(List.getElem?_eq_some_iff.mp e).1
 exact⟨m[i],by simp[h],t.get e (by simp[h])⟩
theorem P2.abY{l m}{i:Nat}{b}(t:P2 F l m)(e:m[i]? = some b):∃ a,l[i]? = some a∧F a b:=by
 have h:i < l.length:=by rw[t.len];exact(List.getElem?_eq_some_iff.mp e).1
 exact⟨l[i],by simp[h],t.get (by simp[h]) e⟩
theorem P2.set{a b}(x:F a b):∀ {l m} (i:Nat),P2 F l m→P2 F (l.set i a) (m.set i b)
 | _,_,_,.nil=>.nil
 | _,_,0,.cons _ t=>.cons x t
 | _,_,i+1,.cons y t=>.cons y (t.set x i)
theorem P2.take:∀ {l m} (n:Nat),P2 F l m→P2 F (l.take n) (m.take n)
 | _,_,0,_=>.nil
 | _,_,_+1,.nil=>.nil
 | _,_,n+1,.cons x t=>.cons x (t.take n)
theorem P2.drop:∀ {l m} (n:Nat),P2 F l m→P2 F (l.drop n) (m.drop n)
 | _,_,0,t=>t
 | _,_,_+1,.nil=>.nil
 | _,_,n+1,.cons _ t=>t.drop n
theorem P2.erase:∀ {l m} (n:Nat),P2 F l m→P2 F (l.eraseIdx n) (m.eraseIdx n)
 | _,_,_,.nil=>.nil
 | _,_,0,.cons _ t=>t
 | _,_,n+1,.cons x t=>.cons x (t.erase n)
end
def Lst(H:Hp)(a:Addr)(xs:List V):Prop:=H a=some (.lst xs)∨∃ o,H a=some (.frz o (.lst xs))
mutual
def Rep(H:Hp):D→V→Prop
 | .non,v=>v=.non
 | .bl b,v=>v=.bl b
 | .int i,v=>v=.int i
 | .str x,v=>v=.str x
 | .lst ds,v=>∃ a xs,v=.ref a∧Lst H a xs∧bU H ds xs
 | .tup ds,v=>∃ a xs,v=.ref a∧H a=some (.tup xs)∧bU H ds xs
def bU(H:Hp):List D→List V→Prop
 | [],vs=>vs=[]
 | d::ds,vs=>∃ v r,vs=v::r∧Rep H d v∧bU H ds r
end
theorem mK{H:Hp}:∀ {ds:List D} {vs:List V},bU H ds vs↔P2 (Rep H) ds vs
 | [],vs=>by
  rw[bU]
  exact⟨fun h=>by subst h;exact .nil,fun h=>by cases h;rfl⟩
 | d::ds,vs=>by
  rw[bU]
  constructor
  ·rintro ⟨v,r,rfl,p,q⟩
   exact .cons p (mK.mp q)
  ·intro h
   cases h with
   | cons p q=>exact⟨_,_,rfl,p,mK.mpr q⟩
@[simp] theorem LQ {H:Hp} {v:V}:Rep H .non v↔v=.non:=by rw[Rep]
@[simp] theorem zJ {H:Hp} {v:V} {b:Bool}:Rep H (.bl b) v↔v=.bl b:=by rw[Rep]
@[simp] theorem pZ {H:Hp} {v:V} {b:Int}:Rep H (.int b) v↔v=.int b:=by rw[Rep]
@[simp] theorem lR {H:Hp} {v:V} {b:Str}:Rep H (.str b) v↔v=.str b:=by rw[Rep]
theorem nq{H:Hp}{v:V}{ds:List D}:Rep H (.lst ds) v↔∃ a xs,v=.ref a∧Lst H a xs∧P2 (Rep H) ds xs:=by
 rw[Rep];exact⟨fun ⟨a,xs,e,l,r⟩=>⟨a,xs,e,l,mK.mp r⟩,fun ⟨a,xs,e,l,r⟩=>⟨a,xs,e,l,mK.mpr r⟩⟩
theorem jd{H:Hp}{v:V}{ds:List D}:Rep H (.tup ds) v↔∃ a xs,v=.ref a∧H a=some (.tup xs)∧P2 (Rep H) ds xs:=by
 rw[Rep];exact⟨fun ⟨a,xs,e,l,r⟩=>⟨a,xs,e,l,mK.mp r⟩,fun ⟨a,xs,e,l,r⟩=>⟨a,xs,e,l,mK.mpr r⟩⟩
theorem Lst.same{H H':Hp}{a:Addr}{xs:List V}(s:gH H H')(h:Lst H a xs):Lst H' a xs:=by
 rcases h with h|⟨o,h⟩
 ·exact .inl (s _ _ h)
 ·exact .inr ⟨o,s _ _ h⟩
theorem Lst.sq{K:PySem.W.Frag}{H:Hp}{a:Addr}{xs:List V}(h:Lst H a xs):uW K H a xs:=.inl h
mutual
theorem jD{H H':Hp}(s:gH H H'):∀ {d:D} {v:V},Rep H d v→Rep H' d v
 | .non,v,h=>by rw[Rep] at h ⊢;exact h
 | .bl b,v,h=>by rw[Rep] at h ⊢;exact h
 | .int i,v,h=>by rw[Rep] at h ⊢;exact h
 | .str x,v,h=>by rw[Rep] at h ⊢;exact h
 | .lst ds,v,h=>by
  rw[Rep] at h ⊢
  obtain⟨a,xs,e,q,r⟩:=h
  exact⟨a,xs,e,q.same s,wI s r⟩
 | .tup ds,v,h=>by
  rw[Rep] at h ⊢
  obtain⟨a,xs,e,q,r⟩:=h
  exact⟨a,xs,e,s _ _ q,wI s r⟩
theorem wI{H H':Hp}(s:gH H H'):∀ {ds:List D} {vs:List V},bU H ds vs→bU H' ds vs
 | [],vs,h=>by rw[bU] at h ⊢;exact h
 | d::ds,vs,h=>by
  rw[bU] at h ⊢
  obtain⟨v,r,e,p,q⟩:=h
  exact⟨v,r,e,jD s p,wI s q⟩
end
theorem cJ{H H':Hp}(s:gH H H'){ds:List D}{vs:List V}(h:P2 (Rep H) ds vs):P2 (Rep H') ds vs:=h.imp fun _ _=>jD s
mutual
theorem pY(K:PySem.W.Frag){H:Hp}:∀ {d:D} {v:V},Rep H d v→L2.Rep K H d v
 | .non,v,h=>by rw[Rep] at h;rw[L2.Rep];exact h
 | .bl b,v,h=>by rw[Rep] at h;rw[L2.Rep];exact h
 | .int i,v,h=>by rw[Rep] at h;rw[L2.Rep];exact h
 | .str x,v,h=>by rw[Rep] at h;rw[L2.Rep];exact h
 | .lst ds,v,h=>by
  rw[Rep] at h
  rw[L2.Rep]
  obtain⟨a,xs,e,q,r⟩:=h
  exact⟨a,xs,e,q.sq,yD K r⟩
 | .tup ds,v,h=>by
  rw[Rep] at h
  rw[L2.Rep]
  obtain⟨a,xs,e,q,r⟩:=h
  exact⟨a,xs,e,.inl (.inl q),yD K r⟩
theorem yD(K:PySem.W.Frag){H:Hp}:∀ {ds:List D} {vs:List V},bU H ds vs→L2.bU K H ds vs
 | [],vs,h=>by rw[bU] at h;rw[L2.bU];exact h
 | d::ds,vs,h=>by
  rw[bU] at h
  rw[L2.bU]
  obtain⟨v,r,e,p,q⟩:=h
  exact⟨v,r,e,pY K p,yD K q⟩
end
def NT:HO→Prop
 | .tbl _ _=>False
 | _=>True
structure Old(H H':Hp):Prop where
 nt:∀ a o,H a=some o→NT o→H' a=some o
 dom:∀ a,H' a=none→H a=none
 tb:∀ a w ps,H a=some (.tbl w ps)→∃ ps',H' a=some (.tbl w ps')
theorem Old.at{H H':Hp}(s:Old H H'){a:Addr}{o:HO}(q:H a=some o)(n:NT o:=by trivial):H' a=some o:=s.nt a o q n
theorem Old.free{H H':Hp}(s:Old H H'){a:Addr}(h:H' a=none):H a=none:=s.dom a h
theorem Old.refl(H:Hp):Old H H:=⟨fun _ _ e _=>e,fun _ e=>e,fun _ _ ps e=>⟨ps,e⟩⟩
theorem Old.trans{H H1 H2:Hp}(a:Old H H1)(b:Old H1 H2):Old H H2:=⟨fun x o e n=>b.nt x o (a.nt x o e n) n,fun x e=>a.dom x (b.dom x e),fun x w ps e=>let ⟨p1,e1⟩:=a.tb x w ps e;b.tb x w p1 e1⟩
theorem Old.of{H H':Hp}(s:gH H H'):Old H H':=⟨fun a o e _=>s a o e,fun a e=>s.free e,fun a w ps e=>⟨ps,s a _ e⟩⟩
theorem Old.tab{H H':Hp}(s:Old H H'){a:Addr}{w:Str}{ps:Array Value}{o:HO}(q:H a=some (.tbl w ps))(n:NT o):¬ H' a=some o:=fun e=>by
 obtain⟨p,z⟩:=s.tb a w ps q
 rw[e] at z;cases z;exact n
theorem Old.put{H0 H:Hp}(s:Old H0 H){p:Addr}{o u:HO}(h0:H0 p=none)(h:H p=some u):Old H0 (upd H p o) :=
 ⟨fun a v e n=>by rw[aJ (aX e h0)];exact s.nt a v e n,fun a e=>by
  by_cases hp:a=p
  ·subst hp;exact h0
  ·rw[aJ hp] at e;exact s.dom a e,fun a w ps e=>by rw[aJ (aX e h0)];exact s.tb a w ps e⟩
def mU(c:Addr)(q:Str):Heap→Prop:=fun h=>∃ o vs t,h.get? c=some o∧o.data=.fields vs∧vs[1]? = some (.str q t)
class fQ where
 l:List (Addr×Str)
 cl:String→Addr
variable[Tb:fQ]
structure jr(H:Hp):Prop where
 has:∀ p∈Tb.l,∃ ps,H p.1=some (.tbl p.2 ps)
 cd:∀ T q ps,H T=some (.tbl q ps)→TriplesOk ps.toList∧∀ pos v,codeAmong pos ps.toList=some v→∃ c,v=.ref c∧H c=some (.ext (mU c q))
theorem jr.new{H:Hp}(k:jr H){p:Addr}{o:HO}(h:H p=none)(n:NT o):jr (upd H p o):=⟨fun r hr=>let ⟨ps,e⟩:=k.has r hr;⟨ps,by rw[aJ (aX e h)];exact e⟩,fun T q ps e=>by
 by_cases hp:T=p
 ·subst hp;rw[aU] at e;cases e;exact n.elim
 ·rw[aJ hp] at e
  obtain⟨t,r⟩:=k.cd T q ps e
  refine⟨t,fun pos v z=>?_⟩
  obtain⟨c,e1,e2⟩:=r pos v z
  exact⟨c,e1,by rw[aJ (aX e2 h)];exact e2⟩⟩
def Cell:HO→Prop
 | .lst _=>True
 | .dK _=>True
 | .dT _=>True
 | .ext _=>True
 | _=>False
theorem Cell.nt:∀ {o:HO},Cell o→NT o:=fun {o} c=>by cases o<;>first|exact c.elim|trivial
def Jz:HO→Prop
 | .lst _=>True
 | .dK _=>True
 | .dT _=>True
 | _=>False
theorem Jz.cell:∀ {o:HO},Jz o→Cell o:=fun {o} c=>by cases o<;>first|exact c.elim|trivial
theorem jr.put{H:Hp}(k:jr H){p:Addr}{o u:HO}(h:H p=some u)(c:Jz u)(n:NT o):jr (upd H p o):=⟨fun r hr=>let ⟨ps,e⟩:=k.has r hr;⟨ps,by rw[aJ (fun y=>by rw[y,h] at e;cases e;exact c.elim)];exact e⟩,fun T q ps e=>by
 by_cases hp:T=p
 ·subst hp;rw[aU] at e;cases e;exact n.elim
 ·rw[aJ hp] at e
  obtain⟨t,r⟩:=k.cd T q ps e
  refine⟨t,fun pos v z=>?_⟩
  obtain⟨x,e1,e2⟩:=r pos v z
  refine⟨x,e1,?_⟩
  rw[aJ (fun y=>by subst y;rw[h] at e2;cases e2;exact c.elim)];exact e2⟩
structure Vw(H Hv:Hp):Prop where
 sub:gH Hv H
 tup:∀ a xs,H a=some (.tup xs)→Hv a=some (.tup xs)
 frz:∀ a o u,H a=some (.frz o u)→Hv a=some (.frz o u)
 cd:jr H
 nv:∀ a o,Hv a=some o→NT o
structure b8(H Hv H' Hv':Hp):Prop where
 old:Old H H'
 vis:gH Hv Hv'
 vw:Vw H' Hv'
 hid:∀ a o,H a=some o→Hv a=none→Hv' a=none
theorem b8.refl{H Hv:Hp}(v:Vw H Hv):b8 H Hv H Hv:=⟨Old.refl _,gH.refl _,v,fun _ _ _ e=>e⟩
theorem Old.some{H H':Hp}(s:Old H H'){a:Addr}{o:HO}(q:H a=some o):∃ o',H' a=some o':=by
 cases h:H' a with
 | none=>rw[s.dom a h] at q;cases q
 | some o'=>exact⟨o',rfl⟩
theorem b8.trans{H Hv H1 Hv1 H2 Hv2:Hp}(g:b8 H Hv H1 Hv1)(k:b8 H1 Hv1 H2 Hv2):b8 H Hv H2 Hv2 :=
 ⟨g.old.trans k.old,g.vis.trans k.vis,k.vw,fun a o e n=>let ⟨o',e'⟩:=g.old.some e;k.hid a o' e' (g.hid a o e n)⟩
theorem oM{H Hv:Hp}(v:Vw H Hv){p:Addr}(h:H p=none):Hv p=none:=v.sub.free h
theorem b8.new{H Hv:Hp}(v:Vw H Hv){p:Addr}{o:HO}(h:H p=none)(nt:NT o:=by trivial):b8 H Hv (upd H p o) (upd Hv p o):=by
 refine⟨.of (vC h),vC (oM v h),⟨fun b u e=>?_,fun b xs e=>?_,fun b q u e=>?_,v.cd.new h nt,fun b u e=>?_⟩,fun b u e n=>?_⟩
 ·by_cases hb:b=p
  ·subst hb;rw[aU] at e ⊢;exact e
  ·rw[aJ hb] at e ⊢;exact v.sub b u e
 ·by_cases hb:b=p
  ·subst hb;rw[aU] at e ⊢;exact e
  ·rw[aJ hb] at e ⊢;exact v.tup b xs e
 ·by_cases hb:b=p
  ·subst hb;rw[aU] at e ⊢;exact e
  ·rw[aJ hb] at e ⊢;exact v.frz b q u e
 ·by_cases hb:b=p
  ·subst hb;rw[aU] at e;cases e;exact nt
  ·rw[aJ hb] at e;exact v.nv b u e
 ·rw[aJ (aX e h)];exact n
theorem b8.Ko{H Hv:Hp}(v:Vw H Hv){p:Addr}{o:HO}(c:Cell o)(h:H p=none):b8 H Hv (upd H p o) Hv:=by
 refine⟨.of (vC h),gH.refl _,⟨fun b u e=>?_,fun b xs e=>?_,fun b q u e=>?_,v.cd.new h c.nt,v.nv⟩,fun b u e n=>n⟩
 ·rw[aJ (aX (v.sub b u e) h)];exact v.sub b u e
 ·by_cases hb:b=p
  ·subst hb;rw[aU] at e;cases e;exact c.elim
  ·rw[aJ hb] at e;exact v.tup b xs e
 ·by_cases hb:b=p
  ·subst hb;rw[aU] at e;cases e;exact c.elim
  ·rw[aJ hb] at e;exact v.frz b q u e
theorem Vw.show{H Hv:Hp}(v:Vw H Hv){a:Addr}{o:HO}(h:H a=some o)(n:Hv a=none)(nt:NT o):Vw H (upd Hv a o)∧gH Hv (upd Hv a o):=by
 refine⟨⟨fun b u e=>?_,fun b xs e=>?_,fun b q u e=>?_,v.cd,fun b u e=>?_⟩,vC n⟩
 ·by_cases hb:b=a
  ·subst hb;rw[aU] at e;rw[h];exact e
  ·rw[aJ hb] at e;exact v.sub b u e
 ·by_cases hb:b=a
  ·subst hb;rw[aU];rw[h] at e;exact e
  ·rw[aJ hb];exact v.tup b xs e
 ·by_cases hb:b=a
  ·subst hb;rw[aU];rw[h] at e;exact e
  ·rw[aJ hb];exact v.frz b q u e
 ·by_cases hb:b=a
  ·subst hb;rw[aU] at e;cases e;exact nt
  ·rw[aJ hb] at e;exact v.nv b u e
theorem Lst.old{H H':Hp}{a:Addr}{xs:List V}(s:Old H H')(h:Lst H a xs):Lst H' a xs:=by
 rcases h with h|⟨o,h⟩
 ·exact .inl (s.at h)
 ·exact .inr ⟨o,s.at h⟩
mutual
theorem LR{H H':Hp}(t:∀ a xs,H a=some (.tup xs)→H' a=some (.tup xs)):∀ {d:D} {v:V},Mi.X8 d=true→Rep H d v→Rep H' d v
 | .non,v,_,h=>by rw[Rep] at h ⊢;exact h
 | .bl b,v,_,h=>by rw[Rep] at h ⊢;exact h
 | .int i,v,_,h=>by rw[Rep] at h ⊢;exact h
 | .str x,v,_,h=>by rw[Rep] at h ⊢;exact h
 | .lst ds,v,z,h=>by rw[Mi.X8] at z;cases z
 | .tup ds,v,z,h=>by
  rw[Mi.X8] at z
  rw[Rep] at h ⊢
  obtain⟨a,xs,e,q,r⟩:=h
  exact⟨a,xs,e,t _ _ q,Hs t z r⟩
theorem Hs{H H':Hp}(t:∀ a xs,H a=some (.tup xs)→H' a=some (.tup xs)):∀ {ds:List D} {vs:List V},Mi.Wx ds=true→bU H ds vs→bU H' ds vs
 | [],vs,_,h=>by rw[bU] at h ⊢;exact h
 | d::ds,vs,z,h=>by
  rw[Mi.Wx,Bool.and_eq_true] at z
  rw[bU] at h ⊢
  obtain⟨v,r,e,p,q⟩:=h
  exact⟨v,r,e,LR t z.1 p,Hs t z.2 q⟩
end
def JD{κ : Type}(H:Hp)(kvs:List (κ×D))(kv:List (κ×V)):Prop:=P2 (fun p q=>p.1=q.1∧Rep H p.2 q.2) kvs kv
theorem JD.same{κ : Type}{H H':Hp}(s:gH H H'){kvs:List (κ×D)}{kv:List (κ×V)}(h:JD H kvs kv):JD H' kvs kv:=P2.imp (fun _ _ z=>⟨z.1,jD s z.2⟩) h
def fj(Hv:Hp):W→HO→Prop
 | .d (.lst ds),.lst xs=>P2 (Rep Hv) ds xs
 | .dk kvs,.dK kv=>JD Hv kvs kv
 | .dt kvs,.dT kv=>JD Hv kvs kv
 | _,_=>False
theorem fj.same{H H':Hp}(s:gH H H'):∀ {w:W} {o:HO},fj H w o→fj H' w o:=fun {w o} h=>by
 cases w with
 | d x =>
  cases x with
  | lst ds=>cases o with
   | lst xs=>exact cJ s h
   | _=>exact h.elim
  | _=>cases o<;>exact h.elim
 | dk kvs=>cases o with
  | dK kv=>exact JD.same s h
  | _=>exact h.elim
 | dt kvs=>cases o with
  | dT kv=>exact JD.same s h
  | _=>exact h.elim
 | ex c=>exact h.elim
theorem fj.Yj{H:Hp}{w:W}{o:HO}(h:fj H w o):Jz o:=by
 cases w with
 | d x =>
  cases x with
  | lst ds=>cases o with
   | lst xs=>trivial
   | _=>exact h.elim
  | _=>cases o<;>exact h.elim
 | dk kvs=>cases o with
  | dK kv=>trivial
  | _=>exact h.elim
 | dt kvs=>cases o with
  | dT kv=>trivial
  | _=>exact h.elim
 | ex c=>exact h.elim
theorem fj.cell{H:Hp}{w:W}{o:HO}(h:fj H w o):Cell o:=h.Yj.cell
theorem fj.nt{H:Hp}{w:W}{o:HO}(h:fj H w o):NT o:=h.cell.nt
def xf(a C:Addr):Heap→Prop:=fun h=>∃ o,h.get? a=some o∧o.cls=.ref C∧o.dict=none∧∃ vs,o.data=.fields vs
def uh(H:Hp):W→V→Prop
 | .d x,v=>Rep H x v
 | .dk kvs,v=>∃ a kv,v=.ref a∧H a=some (.dK kv)∧JD H kvs kv
 | .dt kvs,v=>∃ a kv,v=.ref a∧H a=some (.dT kv)∧JD H kvs kv
 | .ex c,v=>∃ a,v=.ref a∧H a=some (.ext (xf a (Tb.cl c)))
theorem oY{H H':Hp}(s:gH H H'):∀ {w:W} {v:V},uh H w v→uh H' w v
 | .d x,v,h=>jD (d:=x) s h
 | .dk kvs,v,⟨a,kv,e,q,r⟩=>⟨a,kv,e,s _ _ q,r.same s⟩
 | .dt kvs,v,⟨a,kv,e,q,r⟩=>⟨a,kv,e,s _ _ q,r.same s⟩
 | .ex c,v,⟨a,e,q⟩=>⟨a,e,s _ _ q⟩
theorem wJ{H:Hp}{w:W}{a:Addr}{o:HO}(h:H a=some o)(c:fj H w o):uh H w (.ref a):=by
 cases w with
 | d x =>
  cases x with
  | lst ds=>cases o with
   | lst xs=>exact nq.mpr ⟨a,xs,rfl,.inl h,c⟩
   | _=>exact c.elim
  | _=>cases o<;>exact c.elim
 | dk kvs=>cases o with
  | dK kv=>exact⟨a,kv,rfl,h,c⟩
  | _=>exact c.elim
 | dt kvs=>cases o with
  | dT kv=>exact⟨a,kv,rfl,h,c⟩
  | _=>exact c.elim
 | ex z=>exact c.elim
def Own(H Hv:Hp)(w:W)(v:V):Prop:=∃ a o,v=.ref a∧H a=some o∧Hv a=none∧fj Hv w o
def RB(H Hv:Hp)(w:W)(v:V):Prop:=uh Hv w v∨∃ a o,v=.ref a∧H a=some o∧fj Hv w o
theorem RB.grow{H Hv H' Hv':Hp}(g:b8 H Hv H' Hv'){w:W}{v:V}(h:RB H Hv w v):RB H' Hv' w v:=by
 rcases h with h|⟨a,o,e,q,c⟩
 ·exact .inl (oY g.vis h)
 ·exact .inr ⟨a,o,e,g.old.at q c.nt,c.same g.vis⟩
theorem Own.grow{H Hv H' Hv':Hp}(g:b8 H Hv H' Hv'){w:W}{v:V}(h:Own H Hv w v):Own H' Hv' w v:=by
 obtain⟨a,o,e,q,n,c⟩:=h
 exact⟨a,o,e,g.old.at q c.nt,g.hid _ _ q n,c.same g.vis⟩
theorem RB.full{H Hv:Hp}(v:Vw H Hv){w:W}{x:V}(h:RB H Hv w x):uh H w x:=by
 rcases h with h|⟨a,o,rfl,q,c⟩
 ·exact oY v.sub h
 ·exact wJ q (c.same v.sub)
abbrev RD(H Hv:Hp)(d:D)(v:V):Prop:=RB H Hv (.d d) v
theorem RD.Om{H Hv:Hp}{d:D}{v:V}(h:RD H Hv d v)(n:∀ ds,d≠.lst ds):Rep Hv d v:=by
 rcases h with h|⟨a,o,e,q,c⟩
 ·exact h
 ·cases d with
  | lst ds=>exact absurd rfl (n ds)
  | _=>cases o<;>exact c.elim
theorem RD.lst{H Hv:Hp}(w:Vw H Hv){ds:List D}{v:V}(h:RD H Hv (.lst ds) v):∃ a xs,v=.ref a∧Lst H a xs∧P2 (Rep Hv) ds xs:=by
 rcases h with h|⟨a,o,e,q,c⟩
 ·obtain⟨a,xs,e,l,r⟩:=nq.mp h
  exact⟨a,xs,e,l.same w.sub,r⟩
 ·cases o with
  | lst xs=>exact⟨a,xs,e,.inl q,c⟩
  | _=>exact c.elim
theorem RD.tup{H Hv:Hp}(w:Vw H Hv){ds:List D}{v:V}(h:RD H Hv (.tup ds) v):∃ a xs,v=.ref a∧H a=some (.tup xs)∧Hv a=some (.tup xs)∧P2 (Rep Hv) ds xs:=by
 obtain⟨a,xs,e,l,r⟩:=jd.mp (h.Om fun _ z=>by cases z)
 exact⟨a,xs,e,w.sub _ _ l,l,r⟩
theorem RD.int{H Hv:Hp}{i:Int}{v:V}(h:RD H Hv (.int i) v):v=.int i:=pZ.mp (h.Om fun _ z=>by cases z)
theorem RD.str{H Hv:Hp}{i:Str}{v:V}(h:RD H Hv (.str i) v):v=.str i:=lR.mp (h.Om fun _ z=>by cases z)
theorem RD.bl{H Hv:Hp}{i:Bool}{v:V}(h:RD H Hv (.bl i) v):v=.bl i:=zJ.mp (h.Om fun _ z=>by cases z)
theorem RD.non{H Hv:Hp}{v:V}(h:RD H Hv .non v):v=.non:=LQ.mp (h.Om fun _ z=>by cases z)
theorem RD.full{H Hv:Hp}(v:Vw H Hv){d:D}{x:V}(h:RD H Hv d x):Rep H d x:=RB.full v h
abbrev Kd:=Hp→Hp→Hp→W→V→Prop
def qP:Kd:=fun _ H' Hv' w v=>RB H' Hv' w v
def qV:Kd:=fun _ _ Hv' w v=>uh Hv' w v
def qN:Kd:=fun H H' Hv' w v=>∃ a o,v=.ref a∧H a=none∧H' a=some o∧Hv' a=none∧fj Hv' w o
theorem iK{H H' Hv':Hp}{i:Int}:qV H H' Hv' (.d (.int i)) (.int i):=(pZ (H:=Hv')).mpr rfl
theorem wL{H H' Hv':Hp}{i:Str}:qV H H' Hv' (.d (.str i)) (.str i):=(lR (H:=Hv')).mpr rfl
theorem gO{H H' Hv':Hp}{i:Bool}:qV H H' Hv' (.d (.bl i)) (.bl i):=(zJ (H:=Hv')).mpr rfl
theorem J2{H H' Hv':Hp}:qV H H' Hv' (.d .non) .non:=(LQ (H:=Hv')).mpr rfl
class KM (κ : Kd):Prop where
 mono:∀ {H H1 H' Hv' w v},Old H H1→κ H1 H' Hv' w v→κ H H' Hv' w v
instance:KM qP:=⟨fun _ h=>h⟩
instance:KM qV:=⟨fun _ h=>h⟩
instance:KM qN:=⟨fun s ⟨a,o,e,n,r⟩=>⟨a,o,e,s.free n,r⟩⟩
structure R0(M:Nat→Bool)(e:Mi.Env)(σ : L2.St)(H Hv:Hp):Prop where
 vw:Vw H Hv
 len:σ.length=e.length
 nob:∀ i w,e[i]? = some (some w)→M i=false→∃ v,σ[i]? = some (some v)∧uh Hv w v
 own:∀ i w,e[i]? = some (some w)→M i=true→∃ v,σ[i]? = some (some v)∧Own H Hv w v
theorem R0.grow{M:Nat→Bool}{e:Mi.Env}{σ : L2.St}{H Hv H' Hv':Hp}(r:R0 M e σ H Hv)(g:b8 H Hv H' Hv'):R0 M e σ H' Hv' :=
 ⟨g.vw,r.len,fun i w h m=>let ⟨v,q,z⟩:=r.nob i w h m;⟨v,q,oY g.vis z⟩,fun i w h m=>let ⟨v,q,z⟩:=r.own i w h m;⟨v,q,z.grow g⟩⟩
structure R1(M:Nat→Bool)(H0 Hv0:Hp)(e:Mi.Env)(σ : L2.St)(H Hv:Hp):Prop extends R0 M e σ H Hv where
 gw:b8 H0 Hv0 H Hv
 fresh:∀ i w a,e[i]? = some (some w)→M i=true→σ[i]? = some (some (.ref a))→H0 a=none
 sep:∀ i j w w' a b,i≠j→e[i]? = some (some w)→e[j]? = some (some w')→M i=true→M j=true→σ[i]? = some (some (.ref a))→σ[j]? = some (some (.ref b))→a≠b
theorem R1.grow{M:Nat→Bool}{H0 Hv0:Hp}{e:Mi.Env}{σ : L2.St}{H Hv H' Hv':Hp}(r:R1 M H0 Hv0 e σ H Hv)(g:b8 H Hv H' Hv'):R1 M H0 Hv0 e σ H' Hv' :=
 ⟨r.toR0.grow g,r.gw.trans g,r.fresh,r.sep⟩
end A
namespace A
open PySem L2 PyProof.Rows
open Mi (D W Rs Fin aq)
variable[Tb:fQ]
abbrev Qq:=Mi.Env
class KG (κ : Kd):Prop where
 go:∀ {H H1 Hv1 H2 Hv2 w v},b8 H1 Hv1 H2 Hv2→κ H H1 Hv1 w v→κ H H2 Hv2 w v
instance:KG qP:=⟨fun g h=>h.grow g⟩
instance:KG qV:=⟨fun g h=>oY g.vis h⟩
instance:KG qN:=⟨fun g ⟨a,o,e,n,q,z,c⟩=>⟨a,o,e,n,g.old.at q c.nt,g.hid _ _ q z,c.same g.vis⟩⟩
def AW(M:Nat→Bool)(κ : Kd)(t:TE)(m:Mi.EW):Prop:=∀ e σ H Hv Q,R0 M e σ H Hv→Fin (m e) (fun w=>∀ v H' Hv',b8 H Hv H' Hv'→κ H H' Hv' w v→Q v H')→t σ H Q
def AE(M:Nat→Bool)(κ : Kd)(t:TE)(m:Mi.E):Prop:=∀ e σ H Hv Q,R0 M e σ H Hv→Fin (m e) (fun d=>∀ v H' Hv',b8 H Hv H' Hv'→κ H H' Hv' (.d d) v→Q v H')→t σ H Q
def AT(M:Nat→Bool)(t:TT)(m:Mi.C):Prop:=∀ e σ H Hv Q,R0 M e σ H Hv→Fin (m e) (fun b=>∀ H' Hv',b8 H Hv H' Hv'→Q b H')→t σ H Q
def AA(M:Nat→Bool)(κ : Kd)(t:TA)(m:Qq→Rs (List D)):Prop:=∀ e σ H Hv Q,R0 M e σ H Hv→Fin (m e) (fun ds=>∀ vs H' Hv',b8 H Hv H' Hv'→P2 (fun d v=>κ H H' Hv' (.d d) v) ds vs→Q vs H')→t σ H Q
def AAW(M:Nat→Bool)(κ : Kd)(t:TA)(m:Qq→Rs (List W)):Prop:=∀ e σ H Hv Q,R0 M e σ H Hv→Fin (m e) (fun ws=>∀ vs H' Hv',b8 H Hv H' Hv'→P2 (fun w v=>κ H H' Hv' w v) ws vs→Q vs H')→t σ H Q
def AO(M:Nat→Bool)(t:TO)(m:Qq→Rs (Option Int)):Prop:=∀ e σ H Hv Q,R0 M e σ H Hv→Fin (m e) (fun o=>∀ H' Hv',b8 H Hv H' Hv'→Q o H')→t σ H Q
section
variable{M:Nat→Bool}{κ : Kd}{t ta tb tc te:TE}{a b c:Mi.E}{r r':R2}{f g:D→D→Rs D}
theorem AE.w(h:AE M κ t a):AW M κ t (Mi.wD a):=fun e σ H Hv Q I q=>h e σ H Hv Q I ((aq.mp q).mono fun d z=>z)
theorem X6{H H' Hv':Hp}{w:W}{v:V}(h:qV H H' Hv' w v):qP H H' Hv' w v:=.inl h
theorem abO{H H' Hv':Hp}{w:W}{v:V}(h:qN H H' Hv' w v):qP H H' Hv' w v:=by
 obtain⟨a,o,e,_,q,_,c⟩:=h
 exact .inr ⟨a,o,e,q,c⟩
theorem M3{H Hv H' Hv':Hp}(g:b8 H Hv H' Hv'){w:W}{v:V}(h:qN H H' Hv' w v):∃ Qs,b8 H Hv H' Qs∧uh Qs w v:=by
 obtain⟨a,o,rfl,n,q,z,c⟩:=h
 obtain⟨vw,s⟩:=g.vw.show q z c.nt
 refine⟨upd Hv' a o,⟨g.old,g.vis.trans s,vw,fun b u e m=>?_⟩,wJ aU (c.same s)⟩
 rw[aJ (aX e n)];exact g.hid b u e m
theorem AW.p(h:AW M qV t m):AW M qP t m:=fun e σ H Hv Q I q=>h e σ H Hv Q I (q.mono fun w z v H' Hv' g k=>z v H' Hv' g (X6 k))
theorem AW.nv(h:AW M qN t m):AW M qV t m:=fun e σ H Hv Q I q=>h e σ H Hv Q I (q.mono fun w z v H' Hv' g k=>let ⟨Qs,g',r⟩:=M3 g k;z v H' Qs g' r)
theorem AE.p(h:AE M qV t a):AE M qP t a:=fun e σ H Hv Q I q=>h e σ H Hv Q I (q.mono fun w z v H' Hv' g k=>z v H' Hv' g (X6 k))
theorem AE.np(h:AE M qN t a):AE M qP t a:=fun e σ H Hv Q I q=>h e σ H Hv Q I (q.mono fun w z v H' Hv' g k=>z v H' Hv' g (abO k))
theorem AE.nv(h:AE M qN t a):AE M qV t a:=fun e σ H Hv Q I q=>h e σ H Hv Q I (q.mono fun w z v H' Hv' g k=>let ⟨Qs,g',r⟩:=M3 g k;z v H' Qs g' r)
theorem aM{i:Int}:AE M qV (tC (.int i)) (Mi.mC (.int i)):=fun e σ H Hv Q I h=>h _ H Hv (.refl I.vw) iK
theorem mZ{i:Str}:AE M qV (tC (.str i)) (Mi.mC (.str i)):=fun e σ H Hv Q I h=>h _ H Hv (.refl I.vw) wL
theorem BK{i:Bool}:AE M qV (tC (.bl i)) (Mi.mC (.bl i)):=fun e σ H Hv Q I h=>h _ H Hv (.refl I.vw) gO
theorem Yo:AE M qV (tC .non) (Mi.mC .non):=fun e σ H Hv Q I h=>h _ H Hv (.refl I.vw) J2
theorem X5{e:Qq}{i:Nat}{k:D→Prop}(h:Fin (Mi.mV i e) k):∃ d,e[i]? = some (some (.d d))∧k d:=by
 unfold Mi.mV at h
 split at h
 ·exact⟨_,‹_›,h⟩
 ·exact h.elim
theorem Ls{e:Qq}{i:Nat}{k:W→Prop}(h:Fin (Mi.wV i e) k):∃ w,e[i]? = some (some w)∧k w:=by
 unfold Mi.wV at h
 split at h
 ·exact⟨_,‹_›,h⟩
 ·exact h.elim
theorem ak(i:Nat)(hm:M i=false):AE M qV (uD i) (Mi.mV i):=fun e σ H Hv Q I h=>by
 obtain⟨d,he,k⟩:=X5 h
 obtain⟨v,q,z⟩:=I.nob i _ he hm
 exact⟨v,q,k v H Hv (.refl I.vw) z⟩
theorem Zd{H Hv:Hp}{w:W}{v:V}(h:Own H Hv w v):RB H Hv w v:=by
 obtain⟨a,o,e,q,_,c⟩:=h
 exact .inr ⟨a,o,e,q,c⟩
theorem R0.any{e:Qq}{σ : L2.St}{H Hv:Hp}(I:R0 M e σ H Hv){i:Nat}{w:W}(he:e[i]? = some (some w)):∃ v,σ[i]? = some (some v)∧RB H Hv w v:=by
 cases hm:M i with
 | false =>
  obtain⟨v,q,z⟩:=I.nob i w he hm
  exact⟨v,q,.inl z⟩
 | true =>
  obtain⟨v,q,z⟩:=I.own i w he hm
  exact⟨v,q,Zd z⟩
theorem xF(i:Nat):AE M qP (uD i) (Mi.mV i):=fun e σ H Hv Q I h=>by
 obtain⟨d,he,k⟩:=X5 h
 obtain⟨v,q,z⟩:=I.any he
 exact⟨v,q,k v H Hv (.refl I.vw) z⟩
theorem aak(i:Nat)(hm:M i=false):AW M qV (uD i) (Mi.wV i):=fun e σ H Hv Q I h=>by
 obtain⟨d,he,k⟩:=Ls h
 obtain⟨v,q,z⟩:=I.nob i _ he hm
 exact⟨v,q,k v H Hv (.refl I.vw) z⟩
def B2(κ : Kd)(r:R2)(f:D→D→Rs D):Prop:=∀ x y v u H Hv Q,Vw H Hv→RD H Hv x v→RD H Hv y u→Fin (f x y) (fun d=>∀ w H' Hv',b8 H Hv H' Hv'→κ H H' Hv' (.d d) w→Q w H')→r v u H Q
def B1(κ : Kd)(r:V→Hp→VK→Prop)(f:D→Rs D):Prop:=∀ x v H Hv Q,Vw H Hv→RD H Hv x v→Fin (f x) (fun d=>∀ w H' Hv',b8 H Hv H' Hv'→κ H H' Hv' (.d d) w→Q w H')→r v H Q
def BN(κ : Kd)(r:List V→Hp→VK→Prop)(f:List D→Rs D):Prop:=∀ ds vs H Hv Q,Vw H Hv→P2 (RD H Hv) ds vs→Fin (f ds) (fun d=>∀ w H' Hv',b8 H Hv H' Hv'→κ H H' Hv' (.d d) w→Q w H')→r vs H Q
theorem aC[KM κ](hr:B2 κ r f)(ha:AE M qP ta a)(hb:AE M qP tb b):AE M κ (tOp r ta tb) (Mi.m2 f a b):=fun e σ H Hv Q I h =>
 ha e σ H Hv _ I ((aq.mp h).mono fun x hx v H1 Hv1 g1 rx=>hb e σ H1 Hv1 _ (I.grow g1) ((aq.mp hx).mono fun y hy u H2 Hv2 g2 ry =>
  hr x y v u H2 Hv2 Q g2.vw (RB.grow g2 rx) ry (hy.mono fun d hd w H3 Hv3 g3 rw=>hd w H3 Hv3 (g1.trans (g2.trans g3)) (KM.mono (g1.old.trans g2.old) rw))))
theorem ady[KM κ]{r:V→Hp→VK→Prop}{f:D→Rs D}(hr:B1 κ r f)(ha:AE M qP ta a):AE M κ (tUn r ta) (Mi.m1 f a):=fun e σ H Hv Q I h =>
 ha e σ H Hv _ I ((aq.mp h).mono fun x hx v H1 Hv1 g1 rx=>hr x v H1 Hv1 Q g1.vw rx (hx.mono fun d hd w H3 Hv3 g3 rw=>hd w H3 Hv3 (g1.trans g3) (KM.mono g1.old rw)))
theorem Le{x:D}{k:Bool→Prop}(h:Fin (Mi.asB x) k):∃ b,x=.bl b∧k b:=by
 cases x with
 | bl b=>exact⟨b,rfl,h⟩
 | _=>exact h.elim
theorem Gu{x:D}{k:Int→Prop}(h:Fin (Mi.asI x) k):∃ b,x=.int b∧k b:=by
 cases x with
 | int b=>exact⟨b,rfl,h⟩
 | _=>exact h.elim
theorem Vl(ha:AE M qP ta a)(hb:AE M qV tb b):AE M qV (Xx ta tb) (Mi.Ku a b):=fun e σ H Hv Q I h =>
 ha e σ H Hv _ I ((aq.mp h).mono fun x hx v H1 Hv1 g1 rx=>by
  obtain⟨k,rfl,hk⟩:=Le (aq.mp hx)
  cases RD.bl rx
  refine⟨k,rfl,?_⟩
  cases k with
  | true=>exact Fy (hb e σ H1 Hv1 Q (I.grow g1) (Fin.mono (Mi.Am hk) fun d hd w H2 Hv2 g2 rw=>hd w H2 Hv2 (g1.trans g2) rw))
  | false=>exact Fz ((Mi.gF (Mi.An hk)) _ H1 Hv1 g1 gO))
theorem NP(h1:B2 qV r f)(h2:B2 qV r' g)(ha:AE M qP ta a)(hb:AE M qP tb b)(hc:AE M qP tc c):AE M qV (JS r r' ta tb tc) (Mi.wR f g a b c):=fun e σ H Hv Q I h =>
 ha e σ H Hv _ I ((aq.mp h).mono fun x hx v H1 Hv1 g1 rx=>hb e σ H1 Hv1 _ (I.grow g1) ((aq.mp hx).mono fun y hy u H2 Hv2 g2 ry =>
  h1 x y v u H2 Hv2 _ g2.vw (RB.grow g2 rx) ry ((aq.mp hy).mono fun d hd w H3 Hv3 g3 rw=>by
   obtain⟨k,rfl,hk⟩:=Le (aq.mp hd)
   cases (zJ (H:=Hv3)).mp rw
   refine⟨k,rfl,?_⟩
   cases k with
   | false=>exact Fz ((Mi.gF (Mi.An hk)) _ H3 Hv3 (g1.trans (g2.trans g3)) gO)
   | true=>exact Fy (hc e σ H3 Hv3 _ (I.grow (g1.trans (g2.trans g3))) ((aq.mp (Mi.Am hk)).mono fun z hz w4 H4 Hv4 g4 rz =>
    h2 y z u w4 H4 Hv4 Q g4.vw (RB.grow (g3.trans g4) ry) rz (hz.mono fun d hd w5 H5 Hv5 g5 r5=>hd w5 H5 Hv5 (g1.trans (g2.trans (g3.trans (g4.trans g5)))) r5))))))
theorem uc:AO M Lz (Mi.pF none):=fun e σ H Hv Q I h=>h H Hv (.refl I.vw)
theorem nH(ha:AE M qP ta a):AO M (Xv ta) (Mi.pF (some a)):=fun e σ H Hv Q I h =>
 ha e σ H Hv _ I ((aq.mp h).mono fun x hx v H1 Hv1 g1 rx=>by
  obtain⟨i,rfl,hk⟩:=Gu (aq.mp hx)
  exact⟨i,RD.int rx,hk H1 Hv1 g1⟩)
def BS(κ : Kd)(r:V→Option Int→Option Int→Hp→VK→Prop)(f:D→Option Int→Option Int→Rs D):Prop:=∀ x lo hi v H Hv Q,Vw H Hv→RD H Hv x v→Fin (f x lo hi) (fun d=>∀ w H' Hv',b8 H Hv H' Hv'→κ H H' Hv' (.d d) w→Q w H')→r v lo hi H Q
theorem Lj[KM κ]{r:V→Option Int→Option Int→Hp→VK→Prop}{tl th:TO}{lo hi:Option Mi.E}{f:D→Option Int→Option Int→Rs D}(hr:BS κ r f)(ha:AE M qP ta a)(hl:AO M tl (Mi.pF lo))(hh:AO M th (Mi.pF hi)):AE M κ (tSl r ta tl th) (Mi.pD f a lo hi):=fun e σ H Hv Q I h =>
 ha e σ H Hv _ I ((aq.mp h).mono fun x hx v H1 Hv1 g1 rx=>hl e σ H1 Hv1 _ (I.grow g1) ((aq.mp hx).mono fun l hl H2 Hv2 g2=>hh e σ H2 Hv2 _ (I.grow (g1.trans g2)) ((aq.mp hl).mono fun u hu H3 Hv3 g3 =>
  hr x l u v H3 Hv3 Q g3.vw (RB.grow (g2.trans g3) rx) (hu.mono fun d hd w H4 Hv4 g4 rw=>hd w H4 Hv4 (g1.trans (g2.trans (g3.trans g4))) (KM.mono (g1.old.trans (g2.old.trans g3.old)) rw)))))
theorem qX(ha:AE M qP ta a):AT M (tB ta) (Mi.cB a):=fun e σ H Hv Q I h =>
 ha e σ H Hv _ I ((aq.mp h).mono fun x hx v H1 Hv1 g1 rx=>by
  obtain⟨k,rfl,hk⟩:=Le hx
  exact⟨k,RD.bl rx,hk H1 Hv1 g1⟩)
theorem bC(ha:AE M qP ta a):AT M (QZ ta) (Mi.cB a):=qX ha
theorem Vb{K:PySem.W.Frag}(ha:AE M qP ta a):AT M (fun σ H Q=>ta σ H fun x H'=>∃ k,aar K x H' k∧Q k H') (Mi.aac a):=fun e σ H Hv Q I h =>
 ha e σ H Hv _ I ((aq.mp h).mono fun x hx v H1 Hv1 g1 rx=>by
  cases x with
  | non=>cases RD.non rx;exact⟨false,rfl,hx H1 Hv1 g1⟩
  | bl b=>cases RD.bl rx;exact⟨b,rfl,hx H1 Hv1 g1⟩
  | int i=>cases RD.int rx;exact⟨_,rfl,hx H1 Hv1 g1⟩
  | str y =>
   cases RD.str rx
   obtain⟨hz,hq⟩:=Mi.aV hx
   exact⟨_,⟨by rw[sizeLine_eq];exact hz,rfl⟩,hq H1 Hv1 g1⟩
  | lst ds =>
   obtain⟨p,xs,rfl,l,r⟩:=RD.lst g1.vw rx
   refine⟨!xs.isEmpty,.inl ⟨xs,l.sq,rfl⟩,?_⟩
   have:ds.isEmpty=xs.isEmpty:=by cases r<;>rfl
   rw[← this];exact hx H1 Hv1 g1
  | tup ds =>
   obtain⟨p,xs,rfl,l,_,r⟩:=RD.tup g1.vw rx
   refine⟨!xs.isEmpty,.inr (.inl ⟨xs,.inl (.inl l),rfl⟩),?_⟩
   have:ds.isEmpty=xs.isEmpty:=by cases r<;>rfl
   rw[← this];exact hx H1 Hv1 g1)
variable{tt uu:TT}{k l:Mi.C}
theorem Gp(ha:AT M tt k)(hb:AT M uu l):AT M (aaU tt uu) (Mi.uf k l):=fun e σ H Hv Q I h =>
 ha e σ H Hv _ I ((aq.mp h).mono fun x hx H1 Hv1 g1=>by
  cases x with
  | true=>exact Fy (hb e σ H1 Hv1 Q (I.grow g1) (Fin.mono (Mi.Am hx) fun b hd H2 Hv2 g2=>hd H2 Hv2 (g1.trans g2)))
  | false=>exact Fz ((Mi.gF (Mi.An hx)) H1 Hv1 g1))
theorem Nv(ha:AT M tt k)(hb:AT M uu l):AT M (tOr tt uu) (Mi.Uy k l):=fun e σ H Hv Q I h =>
 ha e σ H Hv _ I ((aq.mp h).mono fun x hx H1 Hv1 g1=>by
  cases x with
  | false=>exact Fz (hb e σ H1 Hv1 Q (I.grow g1) (Fin.mono (Mi.An hx) fun b hd H2 Hv2 g2=>hd H2 Hv2 (g1.trans g2)))
  | true=>exact Fy ((Mi.gF (Mi.Am hx)) H1 Hv1 g1))
theorem sS(ha:AT M tt k):AT M (aaO tt) (Mi.qW k):=fun e σ H Hv Q I h =>
 ha e σ H Hv _ I ((aq.mp h).mono fun x hx H1 Hv1 g1=>hx H1 Hv1 g1)
theorem lL:AT M aaM Mi.jA:=fun e σ H Hv Q I h=>h H Hv (.refl I.vw)
variable{tr:TA}{as:List Mi.E}{ws:List Mi.EW}
theorem aO:AA M κ rA (Mi.iZ []):=fun e σ H Hv Q I h=>h [] H Hv (.refl I.vw) .nil
theorem aB[KM κ][KG κ](ha:AE M κ ta a)(hr:AA M κ tr (Mi.iZ as)):AA M κ (iW ta tr) (Mi.iZ (a::as)):=fun e σ H Hv Q I h =>
 ha e σ H Hv _ I ((aq.mp h).mono fun x hx v H1 Hv1 g1 rx=>hr e σ H1 Hv1 _ (I.grow g1) ((aq.mp hx).mono fun xs hs vs H2 Hv2 g2 rs =>
  hs (v::vs) H2 Hv2 (g1.trans g2) (.cons (KG.go g2 rx) (rs.imp fun _ _ z=>KM.mono g1.old z))))
theorem bj:AAW M κ rA (Mi.bM []):=fun e σ H Hv Q I h=>h [] H Hv (.refl I.vw) .nil
theorem aD[KM κ][KG κ]{w:Mi.EW}(ha:AW M κ ta w)(hr:AAW M κ tr (Mi.bM ws)):AAW M κ (iW ta tr) (Mi.bM (w::ws)):=fun e σ H Hv Q I h =>
 ha e σ H Hv _ I ((aq.mp h).mono fun x hx v H1 Hv1 g1 rx=>hr e σ H1 Hv1 _ (I.grow g1) ((aq.mp hx).mono fun xs hs vs H2 Hv2 g2 rs =>
  hs (v::vs) H2 Hv2 (g1.trans g2) (.cons (KG.go g2 rx) (rs.imp fun _ _ z=>KM.mono g1.old z))))
theorem iT[KM κ]{r:List V→Hp→VK→Prop}{f:List D→Rs D}(hr:BN κ r f)(ha:AA M qP tr (Mi.iZ as)):AE M κ (VD r tr) (Mi.mN f as):=fun e σ H Hv Q I h =>
 ha e σ H Hv _ I ((aq.mp h).mono fun ds hx vs H1 Hv1 g1 rx=>hr ds vs H1 Hv1 Q g1.vw rx (hx.mono fun d hd w H3 Hv3 g3 rw=>hd w H3 Hv3 (g1.trans g3) (KM.mono g1.old rw)))
theorem iJ(ha:AA M qV tr (Mi.iZ as)):AE M qV (Vz tr) (Mi.mN Mi.dTup as):=fun e σ H Hv Q I h =>
 ha e σ H Hv _ I ((aq.mp h).mono fun ds hx vs H1 Hv1 g1 rx=>by
  obtain⟨hz,hq⟩:=Mi.aV hx
  refine⟨by rw[← rx.len,sizeLine_eq];exact hz,fun p hp=>?_⟩
  have g2:b8 H1 Hv1 (upd H1 p (.tup vs)) (upd Hv1 p (.tup vs)):=.new g1.vw hp
  exact hq _ _ _ (g1.trans g2) (jd.mpr ⟨p,vs,rfl,aU,cJ g2.vis rx⟩))
theorem gZ(ha:AA M qV tr (Mi.iZ as)):AE M qN (aaP tr) (Mi.mN Mi.gq as):=fun e σ H Hv Q I h =>
 ha e σ H Hv _ I ((aq.mp h).mono fun ds hx vs H1 Hv1 g1 rx=>by
  obtain⟨hz,hq⟩:=Mi.aV hx
  refine⟨by rw[← rx.len,sizeLine_eq];exact hz,fun p hp=>?_⟩
  have g2:b8 H1 Hv1 (upd H1 p (.lst vs)) Hv1:=.Ko g1.vw trivial hp
  exact hq _ _ _ (g1.trans g2) ⟨p,.lst vs,rfl,g1.old.free hp,aU,oM g1.vw hp,rx⟩)
def lE(f:Mi.Fn):Sp:=fun vs H Q _=>∃ Hv ws,Vw H Hv∧P2 (uh Hv) ws vs∧Fin (f ws) (fun w=>∀ v H' Hv',b8 H Hv H' Hv'→qV H H' Hv' w v→Q v H')
def yC(f:Mi.Fn):Sp:=fun vs H Q _=>∃ Hv ws,Vw H Hv∧P2 (uh Hv) ws vs∧Fin (f ws) (fun w=>∀ v H' Hv',b8 H Hv H' Hv'→qN H H' Hv' w v→Q v H')
variable{fn:Mi.Fn}{E:XK}
theorem Xd(ha:AAW M qV tr (Mi.bM ws)):AW M qV (vf (lE fn) [] E tr) (Mi.qF fn ws):=fun e σ H Hv Q I h =>
 ha e σ H Hv _ I ((aq.mp h).mono fun ds hx vs H1 Hv1 g1 rx=>by
  rw[List.append_nil]
  exact⟨Hv1,ds,g1.vw,rx,hx.mono fun d hd w H3 Hv3 g3 rw=>hd w H3 Hv3 (g1.trans g3) rw⟩)
theorem Va(ha:AAW M qV tr (Mi.bM ws)):AW M qN (vf (yC fn) [] E tr) (Mi.qF fn ws):=fun e σ H Hv Q I h =>
 ha e σ H Hv _ I ((aq.mp h).mono fun ds hx vs H1 Hv1 g1 rx=>by
  rw[List.append_nil]
  exact⟨Hv1,ds,g1.vw,rx,hx.mono fun d hd w H3 Hv3 g3 rw=>hd w H3 Hv3 (g1.trans g3) (KM.mono (κ:=qN) g1.old rw)⟩)
theorem aao{w:W}{k:D→Prop}(h:Fin (Mi.asD w) k):∃ d,w=.d d∧k d:=by
 cases w with
 | d x=>exact⟨x,rfl,h⟩
 | _=>exact h.elim
theorem AW.d{w:Mi.EW}(h:AW M κ t w):AE M κ t (fun e=>(w e).bind Mi.asD):=fun e σ H Hv Q I q =>
 h e σ H Hv Q I ((aq.mp q).mono fun w z v H' Hv' g k=>by
  obtain⟨d,rfl,z⟩:=aao z
  exact z v H' Hv' g k)
theorem bR(ha:AAW M qV tr (Mi.bM ws)):AE M qV (vf (lE fn) [] E tr) (Mi.aZ fn ws):=(Xd ha).d
theorem jN(ha:AAW M qV tr (Mi.bM ws)):AE M qN (vf (yC fn) [] E tr) (Mi.aZ fn ws):=(Va ha).d
def Qv(H:Hp):Hp:=fun a=>match H a with
 | some (.tbl _ _)=>none
 | x=>x
theorem jJ{H:Hp}{a:Addr}{o:HO}(h:H a=some o)(n:NT o):Qv H a=some o:=by
 unfold Qv;rw[h];cases o<;>first|rfl|exact n.elim
theorem yF{H:Hp}{a:Addr}{o:HO}(h:Qv H a=some o):H a=some o∧NT o:=by
 unfold Qv at h
 cases q:H a with
 | none=>rw[q] at h;cases h
 | some u =>
  rw[q] at h
  cases u with
  | tbl w ps=>cases h
  | _=>cases h;exact⟨rfl,trivial⟩
theorem Vw.all{H:Hp}(k:jr H):Vw H (Qv H):=⟨fun a o e=>(yF e).1,fun a xs e=>jJ e trivial,fun a o u e=>jJ e trivial,k,fun a o e=>(yF e).2⟩
theorem RB.ab1{H Hv:Hp}(v:Vw H Hv){w:W}{x:V}(h:RB H Hv w x):uh (Qv H) w x:=by
 have s:gH Hv (Qv H):=fun a o e=>jJ (v.sub a o e) (v.nv a o e)
 rcases h with h|⟨a,o,rfl,q,c⟩
 ·exact oY s h
 ·exact wJ (jJ q c.nt) (c.same s)
def seen(H Hv H':Hp):Hp:=fun a=>match Hv a,H a with
 | none,some _=>none
 | _,_=>Qv H' a
theorem Oj{H Hv H':Hp}(v:Vw H Hv)(s:Old H H')(k':jr H'):b8 H Hv H' (seen H Hv H'):=by
 have key:∀ a,(∃ o,H a=some o∧Hv a=none∧seen H Hv H' a=none)∨(seen H Hv H' a=Qv H' a∧∀ o,H a=some o→Hv a=some o):=fun a=>by
  cases h1:Hv a with
  | none =>
   cases h2:H a with
   | none=>exact .inr ⟨by unfold seen;rw[h1,h2],fun o e=>by cases e⟩
   | some o=>exact .inl ⟨o,rfl,rfl,by unfold seen;rw[h1,h2]⟩
  | some o =>
   refine .inr ⟨by unfold seen;rw[h1],fun u e=>?_⟩
   rw[v.sub a o h1] at e;exact e
 have back:∀ b o,H' b=some o→NT o→(∃ u,H b=some u)→∃ u,H b=some u:=fun _ _ _ _ z=>z
 refine⟨s,fun b o e=>?_,⟨fun b o e=>?_,fun b xs e=>?_,fun b q u e=>?_,k',fun b o e=>?_⟩,fun b o e n=>?_⟩
 ·rcases key b with ⟨u,_,z,_⟩|⟨z,_⟩
  ·rw[e] at z;cases z
  ·rw[z];exact jJ (s.nt b o (v.sub b o e) (v.nv b o e)) (v.nv b o e)
 ·rcases key b with ⟨u,_,_,z⟩|⟨z,_⟩
  ·rw[e] at z;cases z
  ·rw[z] at e;exact(yF e).1
 ·rcases key b with ⟨u,h1,h2,_⟩|⟨z,_⟩
  ·cases u with
   | tbl w ps=>exact absurd e (s.tab h1 trivial)
   | _ =>
    have:=s.nt b _ h1 trivial
    rw[e] at this;cases this
    try (rw[v.tup b xs h1] at h2;cases h2)
  ·rw[z];exact jJ e trivial
 ·rcases key b with ⟨w,h1,h2,_⟩|⟨z,_⟩
  ·cases w with
   | tbl w ps=>exact absurd e (s.tab h1 trivial)
   | _ =>
    have:=s.nt b _ h1 trivial
    rw[e] at this;cases this
    try (rw[v.frz b q u h1] at h2;cases h2)
  ·rw[z];exact jJ e trivial
 ·rcases key b with ⟨u,_,_,z⟩|⟨z,_⟩
  ·rw[e] at z;cases z
  ·rw[z] at e;exact(yF e).2
 ·rcases key b with ⟨u,h1,h2,z⟩|⟨z,k⟩
  ·exact z
  ·rw[k o e] at n;cases n
theorem NQ(ha:AAW M qP tr (Mi.bM ws)):AE M qV (vf (lE fn) [] E tr) (Mi.rW fn ws):=fun e σ H Hv Q I h =>
 ha e σ H Hv _ I ((aq.mp (aq.mp h)).mono fun ds hx vs H1 Hv1 g1 rx=>by
  rw[List.append_nil]
  refine⟨Qv H1,ds,.all g1.vw.cd,rx.imp fun w v z=>RB.ab1 g1.vw z,hx.mono fun w hd v H3 Hv3 g3 rw=>?_⟩
  cases w with
  | d x =>
   obtain⟨hi,hd⟩:=Mi.aV hd
   have g4:=Oj g1.vw g3.old g3.vw.cd
   refine hd v H3 _ (g1.trans g4) (LR g4.vw.tup hi (jD g3.vw.sub rw))
  | _=>exact hd.elim)
end
end A
namespace A
open PySem L2 PyProof.Rows
open Mi (D W Rs Fin aq Out Tg)
variable[Tb:fQ]
structure ItD(J:It)(P:Hp→Hp→Prop)(ds:List D):Prop where
 go:∀ i H Hv,P H Hv→Vw H Hv→i < ds.length→J.go i H
 yld:∀ i H Hv x H',P H Hv→Vw H Hv→i < ds.length→J.yld i H x H'→∃ Hv' d,b8 H Hv H' Hv'∧ds[i]? = some d∧Rep Hv' d x
 stop:∀ H Hv,P H Hv→Vw H Hv→J.stop ds.length H
def AIc(M:Nat→Bool)(wi:TI)(it:Mi.I):Prop:=∀ e σ H Hv (R:It→Hp→Prop),R0 M e σ H Hv→Fin (it e) (fun ds=>∀ (J:It) H' Hv' (P:Hp→Hp→Prop),b8 H Hv H' Hv'→ItD J P ds→P H' Hv'→(∀ H1 Hv1 H2 Hv2,P H1 Hv1→b8 H1 Hv1 H2 Hv2→P H2 Hv2)→R J H')→wi σ H R
def NZ(M:Nat→Bool)(wi:TI)(it:Mi.I):Prop:=∀ e σ H Hv (R:It→Hp→Prop),R0 M e σ H Hv→Fin (it e) (fun ds=>∀ (J:It) H' Hv' (P:Hp→Hp→Prop),b8 H Hv H' Hv'→ItD J P ds→P H' Hv'→(∀ H1 Hv1 H2 Hv2,P H1 Hv1→gH Hv1 Hv2→Vw H2 Hv2→P H2 Hv2)→R J H')→wi σ H R
theorem lJ{α : Type}{r:Rs α}{k:α→Prop}(h:Fin r k):∃ x,r=.ok x∧k x:=by
 cases r with
 | ok x=>exact⟨x,rfl,h⟩
 | _=>exact h.elim
section
variable{M:Nat→Bool}{ta tb:TE}{a b:Mi.E}{wi:TI}{it:Mi.I}{tr:TA}{as:List Mi.E}
theorem NZ.c(h:NZ M wi it):AIc M wi it:=fun e σ H Hv R I q=>h e σ H Hv R I (q.mono fun ds z J H' Hv' P g o p k=>z J H' Hv' P g o p fun H1 Hv1 H2 Hv2 p g'=>k H1 Hv1 H2 Hv2 p g'.vis g'.vw)
theorem uN{J:It}{Ok:Hp→Prop}{xs:List V}(O:J.Of Ok xs){ds:List D}{P:Hp→Hp→Prop}(ok:∀ H Hv,P H Hv→Vw H Hv→Ok H)(r:∀ H Hv,P H Hv→P2 (Rep Hv) ds xs)(ex:∃ H Hv,P H Hv):ItD J P ds:=by
 have hl:ds.length=xs.length:=by obtain⟨H,Hv,p⟩:=ex;exact(r H Hv p).len
 refine⟨fun i H Hv p v hi=>O.go i H (ok H Hv p v) (by omega),fun i H Hv x H' p v hi y=>?_,fun H Hv p v=>by rw[hl];exact O.stop H (ok H Hv p v)⟩
 obtain⟨rfl,hx⟩:=O.yld i H x H' (ok H Hv p v) (by omega) y
 obtain⟨d,hd,rx⟩:=(r H' Hv p).abY hx
 exact⟨Hv,d,.refl v,hd,rx⟩
def ZR(K:PySem.W.Frag)(tl:TE):TI:=fun σ H R=>Yd K tl σ H R∨abQ K tl σ H R∨abR tl σ H R
theorem eY{X:Cx}{tg l:Expr}{tl:TE}(hl:PE X l tl):PI X tg l (ZR X.K tl):=fun pins s σ H R I h=>by
 rcases h with h|h|h
 ·exact V5 hl pins s σ H R I h
 ·exact Y7 hl pins s σ H R I h
 ·exact Y8 hl pins s σ H R I h
theorem Ho(H:Hp)(z:Str):P2 (Rep H) (z.cps.toList.map fun c=>D.str ⟨#[c]⟩) (JV z):=by
 unfold JV
 induction z.cps.toList with
 | nil=>exact .nil
 | cons c r ih=>exact .cons (lR.mpr rfl) ih
theorem jh{K:PySem.W.Frag}(ha:AE M qP ta a):AIc M (ZR K ta) (Mi.rY a):=fun e σ H Hv R I h=>by
 obtain⟨d,hd,h⟩:=lJ (aq.mp h)
 have run:∀ Q:VK,(∀ v H' Hv',b8 H Hv H' Hv'→RD H' Hv' d v→Q v H')→ta σ H Q:=fun Q q=>ha e σ H Hv Q I (by rw[hd];exact q)
 cases d with
 | lst ds =>
  refine .inl (run _ fun v H' Hv' g r=>?_)
  obtain⟨p,xs,rfl,l,r⟩:=RD.lst g.vw r
  exact⟨p,rfl,⟨xs,l.sq⟩,h (Itl K p) H' Hv' (fun H Hv=>Lst H p xs∧P2 (Rep Hv) ds xs) g (uN Mp (fun H Hv p v=>p.1.sq) (fun H Hv p=>p.2) ⟨H',Hv',l,r⟩) ⟨l,r⟩ fun H1 Hv1 H2 Hv2 z g'=>⟨z.1.old g'.old,cJ g'.vis z.2⟩⟩
 | tup ds =>
  refine .inr (.inl (run _ fun v H' Hv' g r=>?_))
  obtain⟨p,xs,rfl,l,_,r⟩:=RD.tup g.vw r
  exact⟨p,rfl,⟨xs,.inl (.inl l)⟩,h (Itt K p) H' Hv' (fun H Hv=>H p=some (.tup xs)∧P2 (Rep Hv) ds xs) g (uN R8 (fun H Hv p v=>.inl (.inl p.1)) (fun H Hv p=>p.2) ⟨H',Hv',l,r⟩) ⟨l,r⟩ fun H1 Hv1 H2 Hv2 z g'=>⟨g'.old.at z.1,cJ g'.vis z.2⟩⟩
 | str z =>
  refine .inr (.inr (run _ fun v H' Hv' g r=>?_))
  exact⟨z,RD.str r,h (Its z) H' Hv' (fun _ _=>True) g (uN R9 (fun _ _ _ _=>trivial) (fun H Hv _=>Ho Hv z) ⟨H,Hv,trivial⟩) trivial fun _ _ _ _ _ _=>trivial⟩
 | _=>exact h.elim
theorem qx{K:PySem.W.Frag}(ha:AE M qV ta a):NZ M (ZR K ta) (Mi.rY a):=fun e σ H Hv R I h=>by
 obtain⟨d,hd,h⟩:=lJ (aq.mp h)
 have run:∀ Q:VK,(∀ v H' Hv',b8 H Hv H' Hv'→Rep Hv' d v→Q v H')→ta σ H Q:=fun Q q=>ha e σ H Hv Q I (by rw[hd];exact q)
 cases d with
 | lst ds =>
  refine .inl (run _ fun v H' Hv' g r=>?_)
  obtain⟨p,xs,rfl,l,r⟩:=nq.mp r
  exact⟨p,rfl,⟨xs,(l.same g.vw.sub).sq⟩,h (Itl K p) H' Hv' (fun H Hv=>Lst Hv p xs∧P2 (Rep Hv) ds xs) g (uN Mp (fun H Hv p v=>(p.1.same v.sub).sq) (fun H Hv p=>p.2) ⟨H',Hv',l,r⟩) ⟨l,r⟩ fun H1 Hv1 H2 Hv2 z s v=>⟨z.1.same s,cJ s z.2⟩⟩
 | tup ds =>
  refine .inr (.inl (run _ fun v H' Hv' g r=>?_))
  obtain⟨p,xs,rfl,l,r⟩:=jd.mp r
  exact⟨p,rfl,⟨xs,.inl (.inl (g.vw.sub _ _ l))⟩,h (Itt K p) H' Hv' (fun H Hv=>Hv p=some (.tup xs)∧P2 (Rep Hv) ds xs) g (uN R8 (fun H Hv p v=>.inl (.inl (v.sub _ _ p.1))) (fun H Hv p=>p.2) ⟨H',Hv',l,r⟩) ⟨l,r⟩ fun H1 Hv1 H2 Hv2 z s v=>⟨s _ _ z.1,cJ s z.2⟩⟩
 | str z =>
  refine .inr (.inr (run _ fun v H' Hv' g r=>?_))
  exact⟨z,lR.mp r,h (Its z) H' Hv' (fun _ _=>True) g (uN R9 (fun _ _ _ _=>trivial) (fun H Hv _=>Ho Hv z) ⟨H,Hv,trivial⟩) trivial fun _ _ _ _ _ _ _=>trivial⟩
 | _=>exact h.elim
theorem VP(H:Hp)(lo hi:Int):P2 (Rep H) (Mi.dB lo hi) (J1 lo (hi - lo).toNat):=by
 unfold Mi.dB J1
 induction List.range (hi - lo).toNat with
 | nil=>exact .nil
 | cons c r ih=>exact .cons (pZ.mpr rfl) ih
theorem Pk(lo hi:Int)(H Hv:Hp):ItD (Itr lo (hi - lo).toNat) (fun _ _=>True) (Mi.dB lo hi):=uN Sg (fun _ _ _ _=>trivial) (fun H Hv _=>VP Hv lo hi) ⟨H,Hv,trivial⟩
theorem iH(ha:AE M qP ta a):NZ M (Yb (iW ta rA)) (Mi.iD a):=fun e σ H Hv R I h =>
 ha e σ H Hv _ I ((aq.mp h).mono fun x hx v H1 Hv1 g1 rx=>by
  obtain⟨j,rfl,hk⟩:=Gu (aq.mp hx)
  obtain⟨hz,hq⟩:=Mi.aV hk
  cases RD.int rx
  refine⟨j,rfl,hz.1,hz.2,?_⟩
  have:=hq (Itr 0 (j - 0).toNat) H1 Hv1 _ g1 (Pk 0 j H Hv) trivial fun _ _ _ _ _ _ _=>trivial
  rw[Int.sub_zero] at this
  exact this)
end
def ZX:List Nat→Qx
 | []=>T6
 | i::r=>Io (qH i) (ZX r)
def wy:Tg→List Nat
 | .n i=>[i]
 | .t is=>is
def tgG(K:PySem.W.Frag):Tg→TG
 | .n i=>qH i
 | .t is=>ZZ K is.length (ZX is)
section
variable{P:Mi.Env→L2.St→Prop}{H Hv:Hp}
theorem T5:∀ {is:List Nat} {ds:List D} {xs:List V} {e:Mi.Env} {σ : L2.St} {Q:L2.St→Hp→Prop},(∀ i∈is,∀ e σ d v,P e σ→Rep Hv d v→P (e.set i (some (.d d))) (σ.set i (some v)))→P e σ→P2 (Rep Hv) ds xs →
 Fin (Mi.uE is ds e) (fun e'=>∀ σ',P e' σ'→Q σ' H)→ZX is xs σ H Q
 | [],[],xs,e,σ,Q,cl,p,r,h=>by
  cases r
  exact⟨rfl,h σ p⟩
 | [],_::_,xs,e,σ,Q,cl,p,r,h=>h.elim
 | _::_,[],xs,e,σ,Q,cl,p,r,h=>h.elim
 | i::is,d::ds,xs,e,σ,Q,cl,p,r,h=>by
  cases r with
  | cons x t=>exact⟨_,_,rfl,T5 (fun j hj=>cl j (List.mem_cons_of_mem _ hj)) (cl i List.mem_cons_self _ _ _ _ p x) t h⟩
theorem zr:∀ {is:List Nat} {ds:List D} {e:Mi.Env} {k:Mi.Env→Prop},Fin (Mi.uE is ds e) k→ds.length=is.length
 | [],[],_,_,_=>rfl
 | [],_::_,_,_,h=>h.elim
 | _::_,[],_,_,h=>h.elim
 | i::is,d::ds,e,k,h=>by rw[List.length_cons,List.length_cons,zr (is:=is) (ds:=ds) (k:=k) h]
theorem DW{K:PySem.W.Frag}(vw:Vw H Hv){tg:Tg}{d:D}{v:V}{e:Mi.Env}{σ : L2.St}{Q:L2.St→Hp→Prop}(cl:∀ i∈wy tg,∀ e σ d v,P e σ→Rep Hv d v→P (e.set i (some (.d d))) (σ.set i (some v)))(p:P e σ)(r:Rep Hv d v)
 (h:Fin (tg.put d e) (fun e'=>∀ σ',P e' σ'→Q σ' H)):tgG K tg v σ H Q:=by
 cases tg with
 | n i=>exact h _ (cl i (by simp[wy]) _ _ _ _ p r)
 | t is =>
  cases d with
  | tup ds =>
   obtain⟨a,xs,e1,l,r⟩:=jd.mp r
   exact⟨a,xs,e1,.inl (.inl (vw.sub _ _ l)),by rw[← r.len];exact zr h,T5 cl p r h⟩
  | _=>exact h.elim
end
theorem jC{α : Type}{l:List α}{i j:Nat}{x y:α}(h:(l.set i x)[j]? = some y):(i=j∧x=y∧i < l.length)∨(i≠j∧l[j]? = some y):=by
 rw[List.getElem?_set] at h
 split at h
 ·split at h
  ·exact .inl ⟨‹_›,Option.some.inj h,by omega⟩
  ·cases h
 ·exact .inr ⟨‹_›,h⟩
theorem R0.set{M:Nat→Bool}{e:Mi.Env}{σ : L2.St}{H Hv:Hp}(I:R0 M e σ H Hv){i:Nat}{w:W}{v:V}(hm:M i=false)(r:uh Hv w v):R0 M (e.set i (some w)) (σ.set i (some v)) H Hv:=by
 refine⟨I.vw,by rw[List.length_set,List.length_set];exact I.len,fun j w' h m=>?_,fun j w' h m=>?_⟩
 ·rcases jC h with ⟨rfl,h,l⟩|⟨n,h⟩
  ·cases h
   exact⟨v,by rw[List.getElem?_set_self (by rw[I.len];exact l)],r⟩
  ·obtain⟨u,q,z⟩:=I.nob j w' h m
   exact⟨u,by rw[List.getElem?_set_ne n];exact q,z⟩
 ·rcases jC h with ⟨rfl,h,l⟩|⟨n,h⟩
  ·rw[hm] at m;cases m
  ·obtain⟨u,q,z⟩:=I.own j w' h m
   exact⟨u,by rw[List.getElem?_set_ne n];exact q,z⟩
theorem R1.set{M:Nat→Bool}{H0 Hv0:Hp}{e:Mi.Env}{σ : L2.St}{H Hv:Hp}(I:R1 M H0 Hv0 e σ H Hv){i:Nat}{w:W}{v:V}(hm:M i=false)(r:uh Hv w v):R1 M H0 Hv0 (e.set i (some w)) (σ.set i (some v)) H Hv:=by
 have nj:∀ {j:Nat} {w':W},(e.set i (some w))[j]? = some (some w')→M j=true→i≠j∧e[j]? = some (some w'):=fun {j w'} h m=>by
  rcases jC h with ⟨rfl,_,_⟩|⟨n,h⟩
  ·rw[hm] at m;cases m
  ·exact⟨n,h⟩
 refine⟨I.toR0.set hm r,I.gw,fun j w' a h m q=>?_,fun j k w1 w2 a b hjk h1 h2 m1 m2 q1 q2=>?_⟩
 ·obtain⟨n,h⟩:=nj h m
  rw[List.getElem?_set_ne n] at q
  exact I.fresh j w' a h m q
 ·obtain⟨n1,h1⟩:=nj h1 m1
  obtain⟨n2,h2⟩:=nj h2 m2
  rw[List.getElem?_set_ne n1] at q1
  rw[List.getElem?_set_ne n2] at q2
  exact I.sep j k w1 w2 a b hjk h1 h2 m1 m2 q1 q2
def zP(ρ : List (Option Nat))(M:Nat→Bool):Nat→Bool:=fun i=>match ρ[i]? with
 | some (some j)=>M j
 | _=>false
theorem Hu{α : Type}{ρ : List (Option Nat)}{e:List (Option α)}{i:Nat}{w:α}(h:(ρ.map fun o=>o.bind fun j=>(e[j]?).join)[i]? = some (some w)):∃ j,ρ[i]? = some (some j)∧e[j]? = some (some w):=by
 rw[List.getElem?_map] at h
 cases hr:ρ[i]? with
 | none=>rw[hr] at h;cases h
 | some o =>
  rw[hr] at h
  cases o with
  | none=>cases h
  | some j =>
   refine⟨j,rfl,?_⟩
   have h:(e[j]?).join=some w:=Option.some.inj h
   cases hq:e[j]? with
   | none=>rw[hq] at h;cases h
   | some o' => rw [hq] at h; have h : o' = some w := h
                rw[h]
theorem Mf{α : Type}{ρ : List (Option Nat)}{e:List (Option α)}{i j:Nat}{w:α}(h1:ρ[i]? = some (some j))(h2:e[j]? = some (some w)):(ρ.map fun o=>o.bind fun j=>(e[j]?).join)[i]? = some (some w):=by
 rw[List.getElem?_map,h1]
 show some ((e[j]?).join)=_
 rw[h2];rfl
theorem R0.pick{M:Nat→Bool}{e:Mi.Env}{σ : L2.St}{H Hv:Hp}(I:R0 M e σ H Hv)(ρ : List (Option Nat)):R0 (zP ρ M) (Mi.qG ρ e) (L2.pick ρ σ) H Hv:=by
 refine⟨I.vw,by unfold Mi.qG L2.pick;rw[List.length_map,List.length_map],fun i w h m=>?_,fun i w h m=>?_⟩
 ·obtain⟨j,h1,h2⟩:=Hu h
  have m:M j=false:=by unfold zP at m;rw[h1] at m;exact m
  obtain⟨v,q,z⟩:=I.nob j w h2 m
  exact⟨v,Mf h1 q,z⟩
 ·obtain⟨j,h1,h2⟩:=Hu h
  have m:M j=true:=by unfold zP at m;rw[h1] at m;exact m
  obtain⟨v,q,z⟩:=I.own j w h2 m
  exact⟨v,Mf h1 q,z⟩
theorem Qa{tg:Tg}{c:Mi.C}{a:Mi.E}{e:Mi.Env}{x:D}{r:List D}{k:List D→Prop}(h:Fin (Mi.eX tg c a e (x::r)) k) :
 Fin (tg.put x e) fun e1=>Fin (c e1) fun b=>if b=true then Fin (a e1) fun y=>Fin (Mi.eX tg c a e r) fun ys=>k (y::ys) else Fin (Mi.eX tg c a e r) k:=by
 refine(aq.mp h).mono fun e1 h1=>(aq.mp h1).mono fun b h2=>?_
 cases b with
 | true=>exact Fy ((aq.mp (Mi.Am h2)).mono fun y h3=>(aq.mp h3).mono fun ys h4=>h4)
 | false=>exact Fz (Mi.An h2)
theorem gC{M:Nat→Bool}{K:PySem.W.Frag}{ρ : List (Option Nat)}{wi:TI}{it:Mi.I}{tg:Tg}{tc:TT}{c:Mi.C}{te:TE}{a:Mi.E}(hi:AIc M wi it)(hm:∀ i∈wy tg,zP ρ M i=false)(hc:AT (zP ρ M) tc c)(he:AE (zP ρ M) qV te a) :
 AE M qN (LC wi ρ (tgG K tg) tc te) (Mi.fL ρ it tg c a):=fun e σ H Hv Q I h =>
 hi e σ H Hv _ I ((aq.mp h).mono fun ds h1 J H1 Hv1 P g1 O p1 per=>by
  obtain⟨hz,h1⟩:=Mi.aV h1
  have h1:=aq.mp h1
  have I1:=I.grow g1
  refine⟨fun i m acc H'=>m=ds.length - i∧i≤ds.length∧∃ Hv',b8 H1 Hv1 H' Hv'∧P H' Hv'∧acc.length≤i∧∃ done,P2 (Rep Hv') done acc∧Fin (Mi.eX tg c a (Mi.qG ρ e) (ds.drop i)) fun ys=>∀ v H2 Hv2,b8 H Hv H2 Hv2→qN H H2 Hv2 (.d (.lst (done++ys))) v→Q v H2,
   ⟨ds.length,by simp,Nat.zero_le _,Hv1,.refl g1.vw,p1,Nat.le_refl _,[],.nil,by rw[List.drop_zero];exact h1.mono fun ys z=>z⟩,?_⟩
  rintro i m acc H' ⟨rfl,hle,Hv',g,pp,l,done,pd,hf⟩
  by_cases hlt:i < ds.length
  ·refine .inr ⟨O.go i H' Hv' pp g.vw hlt,by rw[sizeLine_eq];omega,fun acc' H2=>∃ Hv2,b8 H1 Hv1 H2 Hv2∧P H2 Hv2∧acc'.length≤i+1∧∃ done,P2 (Rep Hv2) done acc'∧Fin (Mi.eX tg c a (Mi.qG ρ e) (ds.drop (i+1))) fun ys=>∀ v H3 Hv3,b8 H Hv H3 Hv3→qN H H3 Hv3 (.d (.lst (done++ys))) v→Q v H3,
    fun acc' H2 z=>⟨ds.length - (i+1),by omega,rfl,hlt,z⟩,fun x H2 y=>?_⟩
   obtain⟨Hv2,d,g2,hd,rx⟩:=O.yld i H' Hv' x H2 pp g.vw hlt y
   have g12:=g.trans g2
   have hdr:ds.drop i=d::ds.drop (i+1):=by
    obtain⟨hl,e1⟩:=List.getElem?_eq_some_iff.mp hd
    rw[List.drop_eq_getElem_cons hl,e1]
   rw[hdr] at hf
   have hf:=Qa hf
   refine DW (P:=fun e1 σ1=>R0 (zP ρ M) e1 σ1 H2 Hv2) g2.vw (fun j hj e1 σ1 d1 v1 r1 z=>r1.set (hm j hj) z) ((I1.grow g12).pick ρ) rx (hf.mono fun e1 hf1 σ1 r1=>?_)
   refine hc e1 σ1 H2 Hv2 _ r1 (hf1.mono fun b hb H3 Hv3 g3=>?_)
   cases b with
   | true =>
    refine Fy (he e1 σ1 H3 Hv3 _ (r1.grow g3) (Fin.mono (by simpa using hb) fun y hy v H4 Hv4 g4 ry=>?_))
    exact⟨Hv4,g12.trans (g3.trans g4),per _ _ _ _ pp (g2.trans (g3.trans g4)),by rw[List.length_append,List.length_singleton];omega,done++[y],(cJ (g2.trans (g3.trans g4)).vis pd).append (.cons ry .nil),hy.mono fun ys z v H5 Hv5 g5 k=>z v H5 Hv5 g5 (by rw[List.append_assoc] at k;exact k)⟩
   | false=>exact Fz ⟨Hv3,g12.trans g3,per _ _ _ _ pp (g2.trans g3),by omega,done,cJ (g2.trans g3).vis pd,by simpa using hb⟩
  ·have hi:i=ds.length:=by omega
   subst hi
   refine .inl ⟨O.stop H' Hv' pp g.vw,fun p hp=>?_⟩
   rw[List.drop_of_length_le (Nat.le_refl _)] at hf
   have g2:b8 H' Hv' (upd H' p (.lst acc)) Hv':=.Ko g.vw trivial hp
   refine hf _ _ _ (g1.trans (g.trans g2)) ⟨p,.lst acc,rfl,(g1.old.trans g.old).free hp,aU,oM g.vw hp,?_⟩
   show P2 (Rep Hv') (done++[]) acc
   rw[List.append_nil];exact pd)
def nJ(M:Nat→Bool)(κ : Kd)(H0 Hv0:Hp)(D:Ends)(Hv:Hp):Out→Prop
 | .nx e=>∀ σ H' Hv',R1 M H0 Hv0 e σ H' Hv'→gH Hv Hv'→D.nx σ H'
 | .rt w=>∀ v H' Hv',b8 H0 Hv0 H' Hv'→κ H0 H' Hv' w v→D.rt v H'
 | .bk e=>∀ σ H' Hv',R1 M H0 Hv0 e σ H' Hv'→gH Hv Hv'→D.bk σ H'
 | .ct e=>∀ σ H' Hv',R1 M H0 Hv0 e σ H' Hv'→gH Hv Hv'→D.ct σ H'
def AS(M:Nat→Bool)(κ : Kd)(t:TS)(m:Mi.S):Prop:=∀ H0 Hv0 e σ H Hv D,R1 M H0 Hv0 e σ H Hv→Fin (m e) (nJ M κ H0 Hv0 D Hv)→t D σ H
section
variable{M:Nat→Bool}{κ : Kd}{t u:TS}{m n:Mi.S}{te:TE}{a b:Mi.E}{w:Mi.EW}
theorem bw:AS M κ Xw Mi.bB:=fun H0 Hv0 e σ H Hv D I h=>h σ H Hv I (gH.refl _)
theorem jM:AS M κ Q4 Mi.ji:=fun H0 Hv0 e σ H Hv D I h=>h
theorem aK(h1:AS M κ t m)(h2:AS M κ u n):AS M κ (YH t u) (Mi.aY m n):=fun H0 Hv0 e σ H Hv D I h =>
 h1 H0 Hv0 e σ H Hv _ I ((aq.mp h).mono fun o ho=>by
  cases o with
  | nx e'=>exact fun σ' H' Hv' I' s=>h2 H0 Hv0 e' σ' H' Hv' D I' (Fin.mono ho fun o z=>by
   cases o with
   | nx e2=>exact fun σ2 H2 Hv2 I2 s2=>z σ2 H2 Hv2 I2 (s.trans s2)
   | rt w=>exact z
   | bk e2=>exact fun σ2 H2 Hv2 I2 s2=>z σ2 H2 Hv2 I2 (s.trans s2)
   | ct e2=>exact fun σ2 H2 Hv2 I2 s2=>z σ2 H2 Hv2 I2 (s.trans s2))
  | rt w=>exact ho
  | bk e'=>exact ho
  | ct e'=>exact ho)
theorem t6(ha:AE M qP te a):AS M κ (Hb te) (Mi.rP a):=fun H0 Hv0 e σ H Hv D I h =>
 ha e σ H Hv _ I.toR0 ((aq.mp h).mono fun d hd v H1 Hv1 g1 r=>hd σ H1 Hv1 (I.grow g1) g1.vis)
theorem bO(i:Nat)(hm:M i=false)(ha:AE M qV te a):AS M κ (Hf te (qH i)) (Mi.bW i a):=fun H0 Hv0 e σ H Hv D I h =>
 ha e σ H Hv _ I.toR0 ((aq.mp h).mono fun d hd v H1 Hv1 g1 r=>hd _ H1 Hv1 ((I.grow g1).set hm r) g1.vis)
theorem Vg{K:PySem.W.Frag}(tg:Tg)(hm:∀ i∈wy tg,M i=false)(ha:AE M qV te a):AS M κ (Hf te (tgG K tg)) (Mi.VN tg a):=fun H0 Hv0 e σ H Hv D I h =>
 ha e σ H Hv _ I.toR0 ((aq.mp h).mono fun d hd v H1 Hv1 g1 r =>
  DW (P:=fun e1 σ1=>R1 M H0 Hv0 e1 σ1 H1 Hv1) g1.vw (fun j hj e1 σ1 d1 v1 r1 z=>r1.set (hm j hj) z) (I.grow g1) r ((aq.mp hd).mono fun e1 h1 σ1 I1=>h1 σ1 H1 Hv1 I1 g1.vis))
theorem dj(ha:AW M qV te w):AS M qV (VB te) (Mi.dF w):=fun H0 Hv0 e σ H Hv D I h =>
 ha e σ H Hv _ I.toR0 ((aq.mp h).mono fun d hd v H1 Hv1 g1 r=>hd v H1 Hv1 (I.gw.trans g1) r)
theorem tZ(ha:AW M qN te w):AS M qN (VB te) (Mi.dF w):=fun H0 Hv0 e σ H Hv D I h =>
 ha e σ H Hv _ I.toR0 ((aq.mp h).mono fun d hd v H1 Hv1 g1 r=>hd v H1 Hv1 (I.gw.trans g1) (KM.mono (κ:=qN) I.gw.old r))
theorem cV{tt:TT}{c:Mi.C}(hc:AT M tt c)(h1:AS M κ t m)(h2:AS M κ u n):AS M κ (YJ tt t u) (Mi.iy c m n):=fun H0 Hv0 e σ H Hv D I h =>
 hc e σ H Hv _ I.toR0 ((aq.mp h).mono fun b hb H1 Hv1 g1=>by
  have up:∀ o,nJ M κ H0 Hv0 D Hv o→nJ M κ H0 Hv0 D Hv1 o:=fun o z=>by
   cases o with
   | nx e2=>exact fun σ2 H2 Hv2 I2 s2=>z σ2 H2 Hv2 I2 (g1.vis.trans s2)
   | rt w=>exact z
   | bk e2=>exact fun σ2 H2 Hv2 I2 s2=>z σ2 H2 Hv2 I2 (g1.vis.trans s2)
   | ct e2=>exact fun σ2 H2 Hv2 I2 s2=>z σ2 H2 Hv2 I2 (g1.vis.trans s2)
  cases b with
  | true=>exact Fy (h1 H0 Hv0 e σ H1 Hv1 D (I.grow g1) (Fin.mono (Mi.Am hb) up))
  | false=>exact Fz (h2 H0 Hv0 e σ H1 Hv1 D (I.grow g1) (Fin.mono (Mi.An hb) up)))
theorem nJ.up{H0 Hv0 Hv Hv1:Hp}{D:Ends}(s:gH Hv Hv1){o:Out}(z:nJ M κ H0 Hv0 D Hv o):nJ M κ H0 Hv0 D Hv1 o:=by
 cases o with
 | nx e2=>exact fun σ2 H2 Hv2 I2 s2=>z σ2 H2 Hv2 I2 (s.trans s2)
 | rt w=>exact z
 | bk e2=>exact fun σ2 H2 Hv2 I2 s2=>z σ2 H2 Hv2 I2 (s.trans s2)
 | ct e2=>exact fun σ2 H2 Hv2 I2 s2=>z σ2 H2 Hv2 I2 (s.trans s2)
theorem j9{K:PySem.W.Frag}{wi:TI}{it:Mi.I}{tg:Tg}(hi:NZ M wi it)(hm:∀ i∈wy tg,M i=false)(hb:AS M κ t m):AS M κ (YK wi (tgG K tg) t) (Mi.m7 it tg m):=fun H0 Hv0 e σ H Hv D I h =>
 hi e σ H Hv _ I.toR0 ((aq.mp h).mono fun ds h1 J H1 Hv1 P g1 O p1 per=>by
  refine⟨fun i k σ' H'=>k=ds.length - i∧i≤ds.length∧∃ e' Hv',R1 M H0 Hv0 e' σ' H' Hv'∧P H' Hv'∧Fin (Mi.qj tg m (ds.drop i) e') (nJ M κ H0 Hv0 D Hv'),
   ⟨ds.length,by simp,Nat.zero_le _,e,Hv1,I.grow g1,p1,by rw[List.drop_zero];exact h1.mono fun o z=>z.up g1.vis⟩,?_⟩
  rintro i k σ' H' ⟨rfl,hle,e',Hv',I',pp,hf⟩
  by_cases hlt:i < ds.length
  ·refine .inr ⟨O.go i H' Hv' pp I'.vw hlt,fun σ2 H2=>∃ e2 Hv2,R1 M H0 Hv0 e2 σ2 H2 Hv2∧P H2 Hv2∧Fin (Mi.qj tg m (ds.drop (i+1)) e2) (nJ M κ H0 Hv0 D Hv2),
    fun σ2 H2 z=>⟨ds.length - (i+1),by omega,rfl,hlt,z⟩,fun x H2 y=>?_⟩
   obtain⟨Hv2,d,g2,hd,rx⟩:=O.yld i H' Hv' x H2 pp I'.vw hlt y
   have I2:=I'.grow g2
   have hdr:ds.drop i=d::ds.drop (i+1):=by
    obtain⟨hl,e1⟩:=List.getElem?_eq_some_iff.mp hd
    rw[List.drop_eq_getElem_cons hl,e1]
   rw[hdr] at hf
   refine DW (P:=fun e1 σ1=>R1 M H0 Hv0 e1 σ1 H2 Hv2) g2.vw (fun j hj e1 σ1 d1 v1 r1 z=>r1.set (hm j hj) z) I2 rx ((aq.mp hf).mono fun e1 h1 σ1 I1=>?_)
   refine hb H0 Hv0 e1 σ1 H2 Hv2 _ I1 ((aq.mp h1).mono fun o ho=>?_)
   cases o with
   | nx e2=>exact fun σ2 H3 Hv3 I3 s3=>⟨e2,Hv3,I3,per _ _ _ _ pp (g2.vis.trans s3) I3.vw,Fin.mono ho fun o z=>z.up (g2.vis.trans s3)⟩
   | ct e2=>exact fun σ2 H3 Hv3 I3 s3=>⟨e2,Hv3,I3,per _ _ _ _ pp (g2.vis.trans s3) I3.vw,Fin.mono ho fun o z=>z.up (g2.vis.trans s3)⟩
   | bk e2=>exact fun σ2 H3 Hv3 I3 s3=>ho σ2 H3 Hv3 I3 (g2.vis.trans s3)
   | rt w=>exact ho
  ·have hi:i=ds.length:=by omega
   subst hi
   refine .inl ⟨O.stop H' Hv' pp I'.vw,?_⟩
   rw[List.drop_of_length_le (Nat.le_refl _)] at hf
   exact hf σ' H' Hv' I' (gH.refl _))
theorem Vf{tt:TT}{c:Mi.C}(k:Nat)(hc:AT M tt c)(hb:AS M κ t m):AS M κ (QX tt t) (Mi.J0 k c m):=fun H0 Hv0 e σ H Hv D I h=>by
 refine⟨fun j σ' H'=>∃ e' Hv',R1 M H0 Hv0 e' σ' H' Hv'∧Fin (Mi.jV c m j e') (nJ M κ H0 Hv0 D Hv'),⟨k,e,Hv,I,h⟩,?_⟩
 rintro j σ' H' ⟨e',Hv',I',hf⟩
 cases j with
 | zero=>exact hf.elim
 | succ j =>
  refine hc e' σ' H' Hv' _ I'.toR0 ((aq.mp hf).mono fun b hb' H1 Hv1 g1=>?_)
  cases b with
  | false=>exact Fz ((Mi.gF (Mi.An hb')) σ' H1 Hv1 (I'.grow g1) g1.vis)
  | true =>
   refine Fy ⟨fun σ2 H2=>∃ e2 Hv2,R1 M H0 Hv0 e2 σ2 H2 Hv2∧Fin (Mi.jV c m j e2) (nJ M κ H0 Hv0 D Hv2),fun σ2 H2 z=>⟨j,Nat.lt_succ_self j,z⟩,?_⟩
   refine hb H0 Hv0 e' σ' H1 Hv1 _ (I'.grow g1) ((aq.mp (Mi.Am hb')).mono fun o ho=>?_)
   cases o with
   | nx e2=>exact fun σ2 H2 Hv2 I2 s2=>⟨e2,Hv2,I2,Fin.mono ho fun o z=>z.up (g1.vis.trans s2)⟩
   | ct e2=>exact fun σ2 H2 Hv2 I2 s2=>⟨e2,Hv2,I2,Fin.mono ho fun o z=>z.up (g1.vis.trans s2)⟩
   | bk e2=>exact fun σ2 H2 Hv2 I2 s2=>ho σ2 H2 Hv2 I2 (g1.vis.trans s2)
   | rt w=>exact ho
end
end A
namespace A
open PySem L2 PyProof.Rows
open Mi (D W Rs Fin aq Out Tg)
variable[Tb:fQ]
section
variable{M:Nat→Bool}{κ : Kd}{te:TE}{a b:Mi.E}{w:Mi.EW}{K:PySem.W.Frag}
theorem R1.write{H0 Hv0:Hp}{e:Mi.Env}{σ : L2.St}{H Hv:Hp}(I:R1 M H0 Hv0 e σ H Hv){i:Nat}{w w':W}{p:Addr}{o:HO}(hm:M i=true)(he:e[i]? = some (some w))(hs:σ[i]? = some (some (.ref p)))(c:fj Hv w' o):R1 M H0 Hv0 (e.set i (some w')) σ (upd H p o) Hv:=by
 have hp:∃ o',H p=some o'∧Hv p=none∧Jz o':=by
  obtain⟨v,q,a,o',e1,q1,n,c'⟩:=I.own i w he hm
  rw[hs] at q;cases q;cases e1
  exact⟨o',q1,n,c'.Yj⟩
 obtain⟨o',hp,hn,hcc⟩:=hp
 have h0:H0 p=none:=I.fresh i w p he hm hs
 have vw:Vw (upd H p o) Hv:=by
  refine⟨fun b u q=>?_,fun b xs q=>?_,fun b z u q=>?_,I.vw.cd.put hp hcc c.nt,I.vw.nv⟩
  ·rw[aJ (aX q hn)];exact I.vw.sub b u q
  ·by_cases hb:b=p
   ·subst hb;rw[aU] at q;cases q;exact c.cell.elim
   ·rw[aJ hb] at q;exact I.vw.tup b xs q
  ·by_cases hb:b=p
   ·subst hb;rw[aU] at q;cases q;exact c.cell.elim
   ·rw[aJ hb] at q;exact I.vw.frz b z u q
 have get:∀ {j:Nat} {w2:W},(e.set i (some w'))[j]? = some (some w2)→(i=j∧w'=w2)∨(i≠j∧e[j]? = some (some w2)):=fun {j w2} h=>by
  rcases jC h with ⟨x,y,_⟩|z
  ·exact .inl ⟨x,Option.some.inj y⟩
  ·exact .inr z
 have get':∀ {j:Nat} {w2:W},(e.set i (some w'))[j]? = some (some w2)→∃ w3,e[j]? = some (some w3):=fun {j w2} h=>by
  rcases get h with ⟨x,_⟩|⟨_,z⟩
  ·subst x;exact⟨w,he⟩
  ·exact⟨w2,z⟩
 refine⟨⟨vw,by rw[List.length_set];exact I.len,fun j w2 h m=>?_,fun j w2 h m=>?_⟩,⟨I.gw.old.put h0 hp,I.gw.vis,vw,I.gw.hid⟩,fun j w2 x h m q=>?_,fun j k w1 w2 x y hjk h1 h2 m1 m2 q1 q2=>?_⟩
 ·rcases get h with ⟨rfl,_⟩|⟨_,z⟩
  ·rw[hm] at m;cases m
  ·exact I.nob j w2 z m
 ·rcases get h with ⟨rfl,rfl⟩|⟨n,z⟩
  ·exact⟨.ref p,hs,p,o,rfl,aU,hn,c⟩
  ·obtain⟨v,q,x,u,e1,q1,n1,c1⟩:=I.own j w2 z m
   subst e1
   have:=I.sep i j w w2 p x n he z hm m hs q
   exact⟨.ref x,q,x,u,rfl,by rw[aJ (Ne.symm this)];exact q1,n1,c1⟩
 ·obtain⟨w3,z⟩:=get' h
  exact I.fresh j w3 x z m q
 ·obtain⟨w3,z3⟩:=get' h1
  obtain⟨w4,z4⟩:=get' h2
  exact I.sep j k w3 w4 x y hjk z3 z4 m1 m2 q1 q2
theorem R1.cell{H0 Hv0:Hp}{e:Mi.Env}{σ : L2.St}{H Hv:Hp}(I:R1 M H0 Hv0 e σ H Hv){i:Nat}{w:W}(hm:M i=true)(he:e[i]? = some (some w)):∃ p o,σ[i]? = some (some (.ref p))∧H p=some o∧Hv p=none∧H0 p=none∧fj Hv w o:=by
 obtain⟨v,q,p,o,rfl,q1,n,c⟩:=I.own i w he hm
 exact⟨p,o,q,q1,n,I.fresh i w p he hm q,c⟩
theorem yK{e:Mi.Env}{i:Nat}{k:List D→Prop}(h:Fin (Mi.getL e i) k):∃ ds,e[i]? = some (some (.d (.lst ds)))∧k ds:=by
 unfold Mi.getL at h
 split at h
 ·exact⟨_,‹_›,h⟩
 ·exact h.elim
theorem R1.list{H0 Hv0:Hp}{e:Mi.Env}{σ : L2.St}{H Hv:Hp}(I:R1 M H0 Hv0 e σ H Hv){i:Nat}{ds:List D}(hm:M i=true)(he:e[i]? = some (some (.d (.lst ds)))):∃ p xs,σ[i]? = some (some (.ref p))∧H p=some (.lst xs)∧Hv p=none∧P2 (Rep Hv) ds xs:=by
 obtain⟨p,o,q,q1,n,_,c⟩:=I.cell hm he
 cases o with
 | lst xs=>exact⟨p,xs,q,q1,n,c⟩
 | _=>exact c.elim
theorem R1.name{H0 Hv0:Hp}{e:Mi.Env}{σ : L2.St}{H Hv H1 Hv1:Hp}(I:R1 M H0 Hv0 e σ H Hv)(g:b8 H Hv H1 Hv1){i:Nat}{w:W}{v:V}(hm:M i=true)(k:qN H H1 Hv1 w v):R1 M H0 Hv0 (e.set i (some w)) (σ.set i (some v)) H1 Hv1:=by
 obtain⟨p,o,rfl,hf,hp,hn,c⟩:=k
 have I1:=I.grow g
 have other:∀ {j:Nat} {w2:W} {x:Addr},e[j]? = some (some w2)→M j=true→σ[j]? = some (some (.ref x))→x≠p:=fun {j w2 x} h m q=>by
  obtain⟨p',o',q',q1,_⟩:=I.cell m h
  rw[q] at q';cases q'
  exact aX q1 hf
 refine⟨⟨I1.vw,by rw[List.length_set,List.length_set];exact I.len,fun j w2 h m=>?_,fun j w2 h m=>?_⟩,I1.gw,fun j w2 x h m q=>?_,fun j k w1 w2 x y hjk h1 h2 m1 m2 q1 q2=>?_⟩
 ·rcases jC h with ⟨rfl,_⟩|⟨n,z⟩
  ·rw[hm] at m;cases m
  ·obtain⟨u,q,r⟩:=I1.nob j w2 z m
   exact⟨u,by rw[List.getElem?_set_ne n];exact q,r⟩
 ·rcases jC h with ⟨rfl,h,l⟩|⟨n,z⟩
  ·cases h
   exact⟨.ref p,by rw[List.getElem?_set_self (by rw[I.len];exact l)],p,o,rfl,hp,hn,c⟩
  ·obtain⟨u,q,r⟩:=I1.own j w2 z m
   exact⟨u,by rw[List.getElem?_set_ne n];exact q,r⟩
 ·rcases jC h with ⟨rfl,h,l⟩|⟨n,z⟩
  ·rw[List.getElem?_set_self (by rw[I.len];exact l)] at q
   cases q
   exact I.gw.old.free hf
  ·rw[List.getElem?_set_ne n] at q
   exact I.fresh j w2 x z m q
 ·rcases jC h1 with ⟨rfl,_,l⟩|⟨n,z⟩
  ·rw[List.getElem?_set_self (by rw[I.len];exact l)] at q1
   cases q1
   rcases jC h2 with ⟨rfl,_,_⟩|⟨n2,z2⟩
   ·exact absurd rfl hjk
   ·rw[List.getElem?_set_ne n2] at q2
    exact Ne.symm (other z2 m2 q2)
  ·rw[List.getElem?_set_ne n] at q1
   rcases jC h2 with ⟨rfl,_,l⟩|⟨n2,z2⟩
   ·rw[List.getElem?_set_self (by rw[I.len];exact l)] at q2
    cases q2
    exact other z m1 q1
   ·rw[List.getElem?_set_ne n2] at q2
    exact I.sep j k w1 w2 x y hjk z z2 m1 m2 q1 q2
theorem mX(i:Nat)(hm:M i=true)(ha:AE M qN te a):AS M κ (Hf te (qH i)) (Mi.bW i a):=fun H0 Hv0 e σ H Hv D I h =>
 ha e σ H Hv _ I.toR0 ((aq.mp h).mono fun d hd v H1 Hv1 g1 r=>hd _ H1 Hv1 (I.name g1 hm r) g1.vis)
theorem Ny(i:Nat)(hm:M i=true)(ha:AW M qN te w):AS M κ (Hf te (qH i)) (Mi.Ri i w):=fun H0 Hv0 e σ H Hv D I h =>
 ha e σ H Hv _ I.toR0 ((aq.mp h).mono fun d hd v H1 Hv1 g1 r=>hd _ H1 Hv1 (I.name g1 hm r) g1.vis)
theorem U9:AW M qN Q6 (fun _=>.ok (.dk [])):=fun e σ H Hv Q I h p hp =>
 h _ _ Hv (.Ko I.vw trivial hp) ⟨p,.dK [],rfl,hp,aU,oM I.vw hp,.nil⟩
theorem U8:AW M qN Q5 (fun _=>.ok (.dt [])):=fun e σ H Hv Q I h p hp =>
 h _ _ Hv (.Ko I.vw trivial hp) ⟨p,.dT [],rfl,hp,aU,oM I.vw hp,.nil⟩
theorem fP(i:Nat)(hm:M i=true)(ha:AE M qV te a):AS M κ (Hb (tBM K "list" Eg (uD i) (iW te rA))) (Mi.bV i a):=fun H0 Hv0 e σ H Hv D I h=>by
 obtain⟨d,hd,h⟩:=lJ (aq.mp h)
 obtain⟨ds,he,h⟩:=yK (aq.mp h)
 obtain⟨hz,h⟩:=Mi.aV h
 obtain⟨p,xs,q,q1,n,c⟩:=I.list hm he
 refine⟨.ref p,q,.inl ⟨rfl,xs,.inl (.inl q1)⟩,ha e σ H Hv _ I.toR0 (by
  rw[hd]
  intro v H1 Hv1 g1 r
  have I1:=I.grow g1
  refine⟨p,xs,v,rfl,rfl,g1.old.at q1,by rw[← c.len,sizeLine_eq];exact hz,?_⟩
  exact h σ _ Hv1 (I1.write hm he q (show fj Hv1 (.d (.lst (ds++[d]))) (.lst (xs++[v])) from (cJ g1.vis c).append (.cons r .nil))) g1.vis)⟩
theorem jn{α : Type}{o:Option α}{k:α→Prop}(h:Fin (Mi.tM o) k):∃ x,o=some x∧k x:=by
 cases o with
 | some x=>exact⟨x,rfl,h⟩
 | none=>exact h.elim
theorem aaX{n:Nat}{i:Int}{k:Nat}(h:Mi.Bv n i=some k):seqIndex? i n=some k:=by
 unfold Mi.Bv at h
 split at h
 ·split at h
  ·rw[seqIndex_of (by omega) (by omega)];exact h
  ·cases h
 ·split at h
  ·rw[seqIndex_neg (by omega) (by omega)];exact h
  ·cases h
theorem RJ{ds:List D}{i:Int}{k:D×List D→Prop}(h:Fin (Mi.Ma ds i) k):-(2 ^ 63)≤i∧i < 2 ^ 63∧∃ j d,Mi.Bv ds.length i=some j∧ds[j]? = some d∧k (d,ds.eraseIdx j):=by
 obtain⟨⟨h1,h2⟩,h⟩:=Mi.aV h
 obtain⟨j,hj,h⟩:=jn (aq.mp h)
 obtain⟨d,hd,h⟩:=jn (aq.mp h)
 exact⟨h1,h2,j,d,hj,hd,h⟩
theorem Gs(x y:Nat)(hxy:x≠y)(hx:M x=true)(hy:M y=true)(ha:AE M qP te a):AS M κ (Hb (tBM K "list" Eg (uD x) (iW (tBM K "list" Ru (uD y) (iW te rA)) rA))) (Mi.pX x y a):=fun H0 Hv0 e σ H Hv D I h=>by
 obtain⟨z,hz,h⟩:=lJ (aq.mp h)
 obtain⟨i,rfl,h⟩:=Gu (aq.mp h)
 obtain⟨ds,he,h⟩:=yK (aq.mp h)
 obtain⟨h1,h2,j,d,hj,hd,h⟩:=RJ (aq.mp h)
 obtain⟨es,he2,h⟩:=yK (aq.mp h)
 obtain⟨hsz,h⟩:=Mi.aV h
 have abV:e[x]? = some (some (.d (.lst es))):=by
  have he2:(e.set y (some (.d (.lst (ds.eraseIdx j)))))[x]? = _:=he2
  rwa [List.getElem?_set_ne (Ne.symm hxy)] at he2
 obtain⟨p,xs,q,q1,n,c⟩:=I.list hy he
 obtain⟨p',xs',q',q1',n',c'⟩:=I.list hx abV
 have hpp:p'≠p:=I.sep x y _ _ p' p hxy abV he hx hy q' q
 refine⟨.ref p',q',.inl ⟨rfl,xs',.inl (.inl q1')⟩,.ref p,q,.inl ⟨rfl,xs,.inl (.inl q1)⟩,ha e σ H Hv _ I.toR0 (by
  rw[hz]
  intro v H1 Hv1 g1 r
  have I1:=I.grow g1
  cases RD.int r
  obtain⟨u,hu,ru⟩:=c.getL hd
  rw[c.len] at hj
  refine⟨p,xs,i,j,u,rfl,rfl,g1.old.at q1,h1,h2,aaX hj,hu,?_⟩
  have I2:=I1.write hy he q (show fj Hv1 (.d (.lst (ds.eraseIdx j))) (.lst (xs.eraseIdx j)) from (cJ g1.vis c).erase j)
  refine⟨p',xs',u,rfl,rfl,by rw[aJ hpp];exact g1.old.at q1',by rw[← c'.len,sizeLine_eq];exact hsz,?_⟩
  exact h σ _ Hv1 (I2.write hx he2 q' (show fj Hv1 (.d (.lst (es++[d]))) (.lst (xs'++[u])) from (cJ g1.vis c').append (.cons (jD g1.vis ru) .nil))) g1.vis)⟩
theorem Jo{tk:TE}{k:Mi.E}(x:Nat)(hx:M x=true)(ha:AE M qV te a)(hk:AE M qP tk k):AS M κ (Hf te (ab0 (uD x) tk XD)) (Mi.pW x k a):=fun H0 Hv0 e σ H Hv D I h=>by
 obtain⟨d,hd,h⟩:=lJ (aq.mp h)
 obtain⟨z,hz,h⟩:=lJ (aq.mp h)
 obtain⟨i,rfl,h⟩:=Gu (aq.mp h)
 obtain⟨ds,he,h⟩:=yK (aq.mp h)
 obtain⟨j,hj,h⟩:=jn (aq.mp h)
 obtain⟨p,xs,q,q1,n,c⟩:=I.list hx he
 refine ha e σ H Hv _ I.toR0 (by
  rw[hd]
  intro v H1 Hv1 g1 r
  refine⟨.ref p,q,hk e σ H1 Hv1 _ (I.toR0.grow g1) (by
   rw[hz]
   intro v2 H2 Hv2 g2 r2
   cases RD.int r2
   have I2:=(I.grow g1).grow g2
   rw[c.len] at hj
   refine⟨p,xs,i,j,rfl,rfl,g2.old.at (g1.old.at q1),hj,?_⟩
   exact h σ _ Hv2 (I2.write hx he q (show fj Hv2 (.d (.lst (ds.set j d))) (.lst (xs.set j v)) from P2.set (jD g2.vis r) j (cJ (g1.trans g2).vis c))) (g1.trans g2).vis)⟩)
theorem mD(i:Nat)(hm:M i=true):AS M qN (VB (uD i)) (Mi.dF (Mi.wV i)):=fun H0 Hv0 e σ H Hv D I h=>by
 obtain⟨w,he,h⟩:=Ls (aq.mp h)
 obtain⟨p,o,q,q1,n,h0,c⟩:=I.cell hm he
 exact⟨.ref p,q,h _ H Hv I.gw ⟨p,o,rfl,h0,q1,n,c⟩⟩
theorem MK{κ':Type}[DecidableEq κ']{H:Hp}{k:κ'}{kvs:List (κ'×D)}{kv:List (κ'×V)}(h:JD H kvs kv):match Mi.Bm kvs k with
 | some d=>∃ v,uB kv k=some v∧Rep H d v
 | none=>uB kv k=none:=by
 unfold Mi.Bm uB
 induction h with
 | nil=>rfl
 | @cons p q l m hpq t ih =>
  rw[List.find?_cons,List.find?_cons,hpq.1]
  by_cases hk:q.1=k
  ·rw[decide_eq_true hk]
   exact⟨q.2,rfl,hpq.2⟩
  ·rw[decide_eq_false hk]
   exact ih
theorem MN{κ':Type}[DecidableEq κ']{H:Hp}{k:κ'}{d:D}{v:V}(r:Rep H d v){kvs:List (κ'×D)}{kv:List (κ'×V)}(h:JD H kvs kv):JD H (Mi.putK k d kvs) (L2.putK kv k v):=by
 have e:(kvs.any fun x=>decide (x.1=k))=(kv.any fun x=>decide (x.1=k)):=by
  induction h with
  | nil=>rfl
  | @cons p q l m hpq t ih=>rw[List.any_cons,List.any_cons,ih,hpq.1]
 unfold Mi.putK L2.putK
 rw[e]
 split
 ·rename_i hh
  clear hh e
  induction h with
  | nil=>exact .nil
  | @cons p q l m hpq t ih =>
   rw[List.map_cons,List.map_cons]
   refine .cons ?_ ih
   ·by_cases hk:q.1=k
    ·rw[if_pos hk,if_pos (hpq.1.trans hk)];exact⟨hpq.1,r⟩
    ·rw[if_neg hk,if_neg (fun z=>hk (hpq.1.symm.trans z))];exact hpq
 ·exact P2.append h (.cons ⟨rfl,r⟩ .nil)
end
end A
namespace A
open PySem L2 PyProof.Rows
open Mi (D W Rs Fin aq Out Tg)
variable[Tb:fQ]
section
variable{X:Cx}{K:PySem.W.Frag}
def V0:R2:=fun x y H Q=>∃ i j,x=.str i∧y=.str j∧i.length+j.length≤sizeLine∧Q (.str (i++j)) H
theorem Th{pins:List (Addr×Obj)}{σ : L2.St}{H:Hp}{s:Shared}{a:Addr}{xs:List V}(I:Inv X pins σ H s)(h:Lst H a xs):∃ (its:List Value) (n:Nat),Vals xs its∧xs.length≤sizeLine∧s.heap.get? a=some { cls:=.type "list", data:=.seq its.toArray n }:=by
 rcases h with h|⟨o,h⟩
 ·obtain⟨z,its,n,r,e⟩:=I.hok a _ h
  exact⟨its,n,r,z,e⟩
 ·obtain⟨_,z,its,n,r,e⟩:=I.hok a _ h
  exact⟨its,n,r,z,e⟩
def XR:R2:=fun x y H Q=>∃ l b xs zs,x=.ref l∧y=.ref b∧Lst H l xs∧Lst H b zs∧xs.length+zs.length≤sizeLine∧∀ p,H p=none→Q (.ref p) (upd H p (.lst (xs++zs)))
theorem Wf:pM X (binaryOp .Add) XR:=by
 intro pins s σ H x y v u Q I rx ry h
 obtain⟨l,b,xs,zs,rfl,rfl,hH,hB,hz,q⟩:=h
 cases rx
 cases ry
 obtain⟨its,n,r,z,e⟩:=Th I hH
 obtain⟨its2,n2,r2,z2,e2⟩:=Th I hB
 have hl:=r.length
 have hl2:=r2.length
 refine PySem.P.add_list e e2 ?_ (by rw[List.size_toArray,List.size_toArray];omega)
 have ea:its.toArray++its2.toArray=(its++its2).toArray:=by simp
 rw[ea]
 exact⟨.ref _,_,I.ac3 (t':=s.toks) (r.append r2) (by rw[List.length_append];omega),rfl,q _ I.fresh⟩
def XS:R2:=fun x y H Q=>Qu (fun i j=>.int (i+j)) x y H Q∨V0 x y H Q∨XR x y H Q
theorem cu:pM X (binaryOp .Add) XS:=Zi.or (pM.or J9 Wf)
theorem Ey{H Hv:Hp}(vw:Vw H Hv){ds:List D}{xs:List V}(r:P2 (Rep Hv) ds xs){p:Addr}(hp:H p=none):b8 H Hv (upd H p (.lst xs)) Hv∧qN H (upd H p (.lst xs)) Hv (.d (.lst ds)) (.ref p) :=
 ⟨.Ko vw trivial hp,p,.lst xs,rfl,hp,aU,oM vw hp,r⟩
theorem SJ{H Hv:Hp}(vw:Vw H Hv){ds:List D}{xs:List V}(r:P2 (Rep Hv) ds xs){p:Addr}(hp:H p=none):b8 H Hv (upd H p (.lst xs)) (upd Hv p (.lst xs))∧qV H (upd H p (.lst xs)) (upd Hv p (.lst xs)) (.d (.lst ds)) (.ref p):=by
 have g:b8 H Hv (upd H p (.lst xs)) (upd Hv p (.lst xs)):=.new vw hp
 exact⟨g,nq.mpr ⟨p,xs,rfl,.inl aU,cJ g.vis r⟩⟩
theorem Ex{H Hv:Hp}(vw:Vw H Hv){ds:List D}{xs:List V}(r:P2 (Rep Hv) ds xs){p:Addr}(hp:H p=none):b8 H Hv (upd H p (.tup xs)) (upd Hv p (.tup xs))∧qV H (upd H p (.tup xs)) (upd Hv p (.tup xs)) (.d (.tup ds)) (.ref p):=by
 have g:b8 H Hv (upd H p (.tup xs)) (upd Hv p (.tup xs)):=.new vw hp
 exact⟨g,jd.mpr ⟨p,xs,rfl,aU,cJ g.vis r⟩⟩
theorem gG:B2 qV XS Mi.di:=fun x y v u H Hv Q vw rx ry h=>by
 cases x with
 | int i=>cases y with
  | int j=>cases RD.int rx;cases RD.int ry;exact .inl ⟨i,j,rfl,rfl,h _ H Hv (.refl vw) iK⟩
  | _=>exact h.elim
 | str i=>cases y with
  | str j =>
   cases RD.str rx;cases RD.str ry
   obtain⟨hz,h⟩:=Mi.aV h
   exact .inr (.inl ⟨i,j,rfl,rfl,by rw[sizeLine_eq];exact hz,h _ H Hv (.refl vw) wL⟩)
  | _=>exact h.elim
 | lst a=>cases y with
  | lst b =>
   obtain⟨hz,h⟩:=Mi.aV h
   obtain⟨p,xs,rfl,l1,r1⟩:=RD.lst vw rx
   obtain⟨q,ys,rfl,l2,r2⟩:=RD.lst vw ry
   refine .inr (.inr ⟨p,q,xs,ys,rfl,rfl,l1,l2,by rw[← r1.len,← r2.len,sizeLine_eq];exact hz,fun a ha=>?_⟩)
   obtain⟨g,k⟩:=SJ vw (r1.append r2) ha
   exact h _ _ _ g k
  | _=>exact h.elim
 | _=>cases y<;>exact h.elim
theorem UL:B2 qV (Qu fun i j=>.int (i - j)) Mi.yx:=fun x y v u H Hv Q vw rx ry h=>by
 cases x with
 | int i=>cases y with
  | int j=>cases RD.int rx;cases RD.int ry;exact⟨i,j,rfl,rfl,h _ H Hv (.refl vw) iK⟩
  | _=>exact h.elim
 | _=>cases y<;>exact h.elim
theorem nG:B2 qV (rI Xq fun i j=>.int (i * j)) Mi.cQ:=fun x y v u H Hv Q vw rx ry h=>by
 cases x with
 | int i=>cases y with
  | int j=>cases RD.int rx;cases RD.int ry;obtain⟨hz,h⟩:=Mi.aV h;exact⟨i,j,rfl,rfl,hz,h _ H Hv (.refl vw) iK⟩
  | _=>exact h.elim
 | _=>cases y<;>exact h.elim
theorem jx:B2 qV (rI Yt fun i j=>.int (i / j)) Mi.dD:=fun x y v u H Hv Q vw rx ry h=>by
 cases x with
 | int i=>cases y with
  | int j=>cases RD.int rx;cases RD.int ry;obtain⟨hz,h⟩:=Mi.aV h;exact⟨i,j,rfl,rfl,hz,h _ H Hv (.refl vw) iK⟩
  | _=>exact h.elim
 | _=>cases y<;>exact h.elim
theorem dZ:B2 qV (rI (fun _ j=>0 < j) fun i j=>.int (i % j)) Mi.bT:=fun x y v u H Hv Q vw rx ry h=>by
 cases x with
 | int i=>cases y with
  | int j=>cases RD.int rx;cases RD.int ry;obtain⟨hz,h⟩:=Mi.aV h;exact⟨i,j,rfl,rfl,hz,h _ H Hv (.refl vw) iK⟩
  | _=>exact h.elim
 | _=>cases y<;>exact h.elim
theorem acd:B1 qV (rU fun i=>.int (-i)) Mi.Z9:=fun x v H Hv Q vw rx h=>by
 cases x with
 | int i=>cases RD.int rx;exact⟨i,rfl,h _ H Hv (.refl vw) iK⟩
 | _=>exact h.elim
def aa6:R2:=fun x y H Q=>Qu (fun i j=>.bl (decide (i < j))) x y H Q∨∃ i j,x=.str i∧y=.str j∧Q (.bl (decide (i.cps.toList < j.cps.toList))) H
theorem zQ:pM X (compareOp .Lt) aa6:=abn.or Ox
def abi:R2:=fun x y H Q=>Qu (fun i j=>.bl (decide (j < i))) x y H Q∨∃ i j,x=.str i∧y=.str j∧Q (.bl (decide (j.cps.toList < i.cps.toList))) H
theorem R3:pM X (compareOp .Gt) abi:=abo.or OD
theorem UT:B2 qV aa6 Mi.Bx:=fun x y v u H Hv Q vw rx ry h=>by
 cases x with
 | int i=>cases y with
  | int j=>cases RD.int rx;cases RD.int ry;exact .inl ⟨i,j,rfl,rfl,h _ H Hv (.refl vw) gO⟩
  | _=>exact h.elim
 | str i=>cases y with
  | str j=>cases RD.str rx;cases RD.str ry;exact .inr ⟨i,j,rfl,rfl,h _ H Hv (.refl vw) gO⟩
  | _=>exact h.elim
 | _=>cases y<;>exact h.elim
theorem ace:B2 qV abi Mi.dGt:=fun x y v u H Hv Q vw rx ry h=>by
 cases x with
 | int i=>cases y with
  | int j=>cases RD.int rx;cases RD.int ry;exact .inl ⟨i,j,rfl,rfl,h _ H Hv (.refl vw) gO⟩
  | _=>exact h.elim
 | str i=>cases y with
  | str j=>cases RD.str rx;cases RD.str ry;exact .inr ⟨i,j,rfl,rfl,h _ H Hv (.refl vw) gO⟩
  | _=>exact h.elim
 | _=>cases y<;>exact h.elim
theorem W6:B2 qV (Qu fun i j=>.bl (decide (i≤j))) Mi.WX:=fun x y v u H Hv Q vw rx ry h=>by
 cases x with
 | int i=>cases y with
  | int j=>cases RD.int rx;cases RD.int ry;exact⟨i,j,rfl,rfl,h _ H Hv (.refl vw) gO⟩
  | _=>exact h.elim
 | _=>cases y<;>exact h.elim
def V2(K:PySem.W.Frag)(neg:Bool):R2:=fun x y H Q=>∃ d e,L2.Rep K H d x∧L2.Rep K H e y∧d.dep≤16∧Q (.bl (if neg then !Mi.cL d e else Mi.cL d e)) H
theorem xm:B2 qV (V2 K false) Mi.tX:=fun x y v u H Hv Q vw rx ry h=>by
 obtain⟨hz,h⟩:=Mi.aV h
 exact⟨x,y,pY K (RD.full vw rx),pY K (RD.full vw ry),hz,h _ H Hv (.refl vw) gO⟩
theorem La:B2 qV (V2 K true) Mi.GR:=fun x y v u H Hv Q vw rx ry h=>by
 obtain⟨hz,h⟩:=Mi.aV h
 exact⟨x,y,pY K (RD.full vw rx),pY K (RD.full vw ry),hz,h _ H Hv (.refl vw) gO⟩
def abe(neg:Bool):R2:=fun x y H Q=>y=.non∧Q (.bl (if neg then !decide (x=.non) else decide (x=.non))) H
theorem RZ:pM X (compareOp .IsNot) (abe true):=We
theorem Y4{H Hv:Hp}{d:D}{v:V}(r:RD H Hv d v):decide (v=.non)=Mi.Ii d:=by
 cases d with
 | non=>cases RD.non r;rfl
 | bl b=>cases RD.bl r;rfl
 | int b=>cases RD.int r;rfl
 | str b=>cases RD.str r;rfl
 | lst ds =>
  rcases r with r|⟨a,o,e,_⟩
  ·obtain⟨a,xs,e,_⟩:=nq.mp r
   subst e;rfl
  ·subst e;rfl
 | tup ds =>
  obtain⟨a,xs,e,_⟩:=jd.mp (r.Om fun _ z=>by cases z)
  subst e;rfl
theorem W7:B2 qV (abe true) Mi.Aw:=fun x y v u H Hv Q vw rx ry h=>by
 cases y with
 | non =>
  cases RD.non ry
  refine⟨rfl,?_⟩
  show Q (.bl (!decide (v=.non))) H
  rw[Y4 rx]
  exact h _ H Hv (.refl vw) gO
 | _=>exact h.elim
def abg(K:PySem.W.Frag):R2:=fun x y H Q=>V1 K false x y H Q∨abh false x y H Q
theorem J8(hu:X.A.units+64 < cLine):pM X (compareOp .In) (abg X.K):=(Zg hu).or Zh
theorem Mh{H:Hp}{ds:List D}{xs:List V}(h:P2 (Rep H) ds xs):L2.bU K H ds xs:=yD K (mK.mpr h)
theorem aag:B2 qV (abg K) Mi.Qw:=fun x y v u H Hv Q vw rx ry h=>by
 cases y with
 | lst ds =>
  obtain⟨hz,h⟩:=Mi.aV h
  obtain⟨p,xs,rfl,l1,r1⟩:=RD.lst vw ry
  exact .inl ⟨p,xs,x,ds,rfl,.inl l1.sq,pY K (RD.full vw rx),Mh (cJ vw.sub r1),hz,h _ H Hv (.refl vw) gO⟩
 | tup ds =>
  obtain⟨hz,h⟩:=Mi.aV h
  obtain⟨p,xs,rfl,l1,_,r1⟩:=RD.tup vw ry
  exact .inl ⟨p,xs,x,ds,rfl,.inr (.inl (.inl l1)),pY K (RD.full vw rx),Mh (cJ vw.sub r1),hz,h _ H Hv (.refl vw) gO⟩
 | str z=>cases x with
  | str c =>
   obtain⟨hz,h⟩:=Mi.aV h
   cases RD.str rx;cases RD.str ry
   obtain⟨⟨l⟩⟩:=c
   match l,hz with
   | [c],_=>exact .inr ⟨c,z,rfl,rfl,h _ H Hv (.refl vw) gO⟩
  | _=>exact h.elim
 | _=>exact h.elim
theorem jL:B2 qV (V1 K true) Mi.dC:=fun x y v u H Hv Q vw rx ry h=>by
 cases y with
 | lst ds =>
  obtain⟨hz,h⟩:=Mi.aV h
  obtain⟨p,xs,rfl,l1,r1⟩:=RD.lst vw ry
  exact⟨p,xs,x,ds,rfl,.inl l1.sq,pY K (RD.full vw rx),Mh (cJ vw.sub r1),hz,h _ H Hv (.refl vw) gO⟩
 | tup ds =>
  obtain⟨hz,h⟩:=Mi.aV h
  obtain⟨p,xs,rfl,l1,_,r1⟩:=RD.tup vw ry
  exact⟨p,xs,x,ds,rfl,.inr (.inl (.inl l1)),pY K (RD.full vw rx),Mh (cJ vw.sub r1),hz,h _ H Hv (.refl vw) gO⟩
 | _=>exact h.elim
theorem aal{α : Type}(xs:List α)(i:Int):Mi.v7 xs i=L2.v7 xs i:=rfl
theorem Ym{α β : Type}{F:α→β→Prop}{l:List α}{m:List β}(h:P2 F l m){i:Int}{a:α}(e:Mi.v7 l i=some a):∃ b,L2.v7 m i=some b∧F a b:=by
 unfold Mi.v7 at e
 cases hj:Mi.Bv l.length i with
 | none=>rw[hj] at e;cases e
 | some j =>
  rw[hj] at e
  have e:l[j]? = some a:=e
  obtain⟨b,hb,r⟩:=h.getL e
  refine⟨b,?_,r⟩
  rw[← aal]
  unfold Mi.v7
  rw[← h.len,hj];exact hb
theorem gB:B2 qV (rIx K) Mi.dU:=fun x y v u H Hv Q vw rx ry h=>by
 cases y with
 | int i =>
  cases RD.int ry
  cases x with
  | lst ds =>
   obtain⟨d,e,h⟩:=jn h
   obtain⟨p,xs,rfl,l1,r1⟩:=RD.lst vw rx
   obtain⟨z,ez,rz⟩:=Ym r1 e
   exact .inl ⟨p,xs,i,z,rfl,rfl,l1.sq,ez,h z H Hv (.refl vw) rz⟩
  | tup ds =>
   obtain⟨d,e,h⟩:=jn h
   obtain⟨p,xs,rfl,l1,_,r1⟩:=RD.tup vw rx
   obtain⟨z,ez,rz⟩:=Ym r1 e
   exact .inr (.inl ⟨p,xs,i,z,rfl,rfl,.inl (.inl l1),ez,h z H Hv (.refl vw) rz⟩)
  | str z =>
   cases RD.str rx
   obtain⟨hz,h⟩:=Mi.aV h
   obtain⟨c,e,h⟩:=jn (aq.mp h)
   exact .inr (.inr ⟨z,i,c,rfl,rfl,by rw[sizeLine_eq];exact hz,e,h _ H Hv (.refl vw) wL⟩)
  | _=>exact h.elim
 | _=>cases x<;>exact h.elim
theorem aaa{F:D→V→Prop}{l:List D}{m:List V}(h:P2 F l m)(lo hi:Option Int):P2 F (Mi.uU l lo hi) (L2.PQ m lo hi):=by
 unfold Mi.uU L2.PQ
 rw[h.len]
 exact(h.drop _).take _
def aa1(K:PySem.W.Frag):V→Option Int→Option Int→Hp→VK→Prop:=fun x lo hi H Q=>aa3 K x lo hi H Q∨aa2 x lo hi H Q
theorem JT:Ys X (aa1 X.K):=VJ.or YT
theorem W0(z:Str)(lo hi:Option Int):PX z lo hi=Mi.j7 z lo hi:=by
 unfold PX Mi.j7 Mi.uU
 have:z.cps.toList.length=z.length:=by simp[Str.length]
 rw[this];rfl
theorem Ba:BS qV (aa1 K) Mi.JC:=fun x lo hi v H Hv Q vw rx h=>by
 cases x with
 | lst ds =>
  obtain⟨p,xs,rfl,l1,r1⟩:=RD.lst vw rx
  refine .inl ⟨p,xs,rfl,l1.sq,fun a ha=>?_⟩
  obtain⟨g,k⟩:=SJ vw (aaa r1 lo hi) ha
  exact h _ _ _ g k
 | str z =>
  cases RD.str rx
  obtain⟨hz,h⟩:=Mi.aV h
  exact .inr ⟨z,rfl,by rw[sizeLine_eq];exact hz,h _ H Hv (.refl vw) (by rw[W0];exact wL)⟩
 | _=>exact h.elim
theorem mQ{F:D→V→Prop}{d:D}{vs:List V}(h:P2 F [d] vs):∃ v,vs=[v]∧F d v:=by
 cases h with
 | cons r t=>cases t;exact⟨_,rfl,r⟩
theorem RW{F:D→V→Prop}{d e:D}{vs:List V}(h:P2 F [d,e] vs):∃ v u,vs=[v,u]∧F d v∧F e u:=by
 cases h with
 | cons r t=>cases t with
  | cons r' t=>cases t;exact⟨_,_,rfl,r,r'⟩
def aa7(K:PySem.W.Frag):List V→Hp→VK→Prop:=fun xs H Q=>∃ x n,xs=[x]∧acs K x H n∧Q (.int n) H
theorem dN:ik X (.builtin "len") (aa7 X.K):=Ux
theorem fO:BN qV (aa7 K) Mi.iR:=fun ds vs H Hv Q vw r h=>by
 match ds,r,h with
 | [.lst ds],r,h =>
  obtain⟨v,ev,rr⟩:=mQ r
  subst ev
  replace r:=rr
  obtain⟨p,xs,rfl,l1,r1⟩:=RD.lst vw r
  refine⟨_,xs.length,rfl,.inl ⟨xs,l1.sq,rfl⟩,?_⟩
  rw[← r1.len]
  exact h _ H Hv (.refl vw) iK
 | [.tup ds],r,h =>
  obtain⟨v,ev,rr⟩:=mQ r
  subst ev
  replace r:=rr
  obtain⟨p,xs,rfl,l1,_,r1⟩:=RD.tup vw r
  refine⟨_,xs.length,rfl,.inr ⟨xs,.inl (.inl l1),rfl⟩,?_⟩
  rw[← r1.len]
  exact h _ H Hv (.refl vw) iK
 | [.str z],r,h =>
  obtain⟨v,ev,rr⟩:=mQ r
  subst ev
  replace r:=rr
  cases RD.str r
  obtain⟨hz,h⟩:=Mi.aV h
  exact⟨_,z.length,rfl,⟨by rw[sizeLine_eq];exact hz,rfl⟩,h _ H Hv (.refl vw) iK⟩
def aa5:List V→Hp→VK→Prop:=fun xs H Q=>∃ i j z,xs=[.int i,.int j]∧max i j=z∧Q (.int z) H
def aa4:List V→Hp→VK→Prop:=fun xs H Q=>∃ i j z,xs=[.int i,.int j]∧min i j=z∧Q (.int z) H
theorem CP(hc:X.calm=true):ik X (.builtin "max") aa5:=K9 hc
theorem CN(hc:X.calm=true):ik X (.builtin "min") aa4:=K8 hc
theorem Jd:BN qV aa5 Mi.xn:=fun ds vs H Hv Q vw r h=>by
 match ds,r,h with
 | [.int i,.int j],r,h =>
  obtain⟨v,u,ev,rr,r'⟩:=RW r
  subst ev
  replace r:=rr
  cases RD.int r;cases RD.int r'
  exact⟨i,j,_,rfl,rfl,h _ H Hv (.refl vw) iK⟩
theorem Jc:BN qV aa4 Mi.BJ:=fun ds vs H Hv Q vw r h=>by
 match ds,r,h with
 | [.int i,.int j],r,h =>
  obtain⟨v,u,ev,rr,r'⟩:=RW r
  subst ev
  replace r:=rr
  cases RD.int r;cases RD.int r'
  exact⟨i,j,_,rfl,rfl,h _ H Hv (.refl vw) iK⟩
theorem NB{Hv:Hp}:∀ {ds:List D} {xs:List V} {bs:List Bool},Mi.Gv ds=some bs→P2 (Rep Hv) ds xs→xs=bs.map V.bl
 | [],_,bs,e,r=>by cases e;cases r;rfl
 | .bl b::ds,_,bs,e,r=>by
  cases r with
  | cons x t =>
   cases hb:Mi.Gv ds with
   | none=>rw[Mi.Gv,hb] at e;cases e
   | some cs =>
    rw[Mi.Gv,hb] at e
    cases e
    rw[NB hb t,zJ.mp x];rfl
 | .non::_,_,_,e,_=>by cases e
 | .int _::_,_,_,e,_=>by cases e
 | .str _::_,_,_,e,_=>by cases e
 | .lst _::_,_,_,e,_=>by cases e
 | .tup _::_,_,_,e,_=>by cases e
theorem Jj:BN qV (abj K (·.all id)) Mi.Qm:=fun ds vs H Hv Q vw r h=>by
 match ds,r,h with
 | [.lst ds],r,h =>
  obtain⟨v,ev,rr⟩:=mQ r
  subst ev
  replace r:=rr
  obtain⟨bs,e,h⟩:=jn (aq.mp h)
  obtain⟨p,xs,rfl,l1,r1⟩:=RD.lst vw r
  have:=NB e r1
  subst this
  exact⟨p,bs,rfl,l1.sq,h _ H Hv (.refl vw) gO⟩
def XH(K:PySem.W.Frag):List V→Hp→VK→Prop:=fun xs H Q=>∃ p ys,xs=[.ref p]∧(uW K H p ys∨yO K H p ys)∧∀ l,H l=none→Q (.ref l) (upd H l (.lst ys))
theorem qu:ik X (.type "list") (XH X.K):=Gk
theorem lK:BN qN (XH K) Mi.Be:=fun ds vs H Hv Q vw r h=>by
 match ds,r,h with
 | [.lst ds],r,h =>
  obtain⟨v,ev,rr⟩:=mQ r
  subst ev
  replace r:=rr
  obtain⟨p,xs,rfl,l1,r1⟩:=RD.lst vw r
  refine⟨p,xs,rfl,.inl l1.sq,fun a ha=>?_⟩
  obtain⟨g,k⟩:=Ey vw r1 ha
  exact h _ _ _ g k
 | [.tup ds],r,h =>
  obtain⟨v,ev,rr⟩:=mQ r
  subst ev
  replace r:=rr
  obtain⟨p,xs,rfl,l1,_,r1⟩:=RD.tup vw r
  refine⟨p,xs,rfl,.inr (.inl (.inl l1)),fun a ha=>?_⟩
  obtain⟨g,k⟩:=Ey vw r1 ha
  exact h _ _ _ g k
def Rq(K:PySem.W.Frag):List V→Hp→VK→Prop:=fun xs H Q=>∃ p ys,xs=[.ref p]∧((uW K H p ys∧∀ l,H l=none→Q (.ref l) (upd H l (.tup ys)))∨(yO K H p ys∧Q (.ref p) H))
theorem gY:ik X (.type "tuple") (Rq X.K):=By
theorem fG:BN qV (Rq K) Mi.qw:=fun ds vs H Hv Q vw r h=>by
 match ds,r,h with
 | [.lst ds],r,h =>
  obtain⟨v,ev,rr⟩:=mQ r
  subst ev
  replace r:=rr
  obtain⟨p,xs,rfl,l1,r1⟩:=RD.lst vw r
  refine⟨p,xs,rfl,.inl ⟨l1.sq,fun a ha=>?_⟩⟩
  obtain⟨g,k⟩:=Ex vw r1 ha
  exact h _ _ _ g k
 | [.tup ds],r,h =>
  obtain⟨v,ev,rr⟩:=mQ r
  subst ev
  replace r:=rr
  obtain⟨p,xs,rfl,l1,l2,r1⟩:=RD.tup vw r
  exact⟨p,xs,rfl,.inr ⟨.inl (.inl l1),h _ H Hv (.refl vw) (jd.mpr ⟨p,xs,rfl,l2,r1⟩)⟩⟩
def abf:List V→Hp→VK→Prop:=fun xs H Q=>(∃ i,xs=[.int i]∧Q (.int i) H)∨∃ k,xs=[.bl k]∧Q (.int (if k then 1 else 0)) H
theorem Qe:ik X (.type "int") abf:=Qf
theorem Jh:BN qV abf Mi.aaj:=fun ds vs H Hv Q vw r h=>by
 match ds,r,h with
 | [.int i],r,h =>
  obtain⟨v,ev,rr⟩:=mQ r
  subst ev
  replace r:=rr
  cases RD.int r
  exact .inl ⟨i,rfl,h _ H Hv (.refl vw) iK⟩
 | [.bl k],r,h =>
  obtain⟨v,ev,rr⟩:=mQ r
  subst ev
  replace r:=rr
  cases RD.bl r
  exact .inr ⟨k,rfl,h _ H Hv (.refl vw) iK⟩
end
end A
namespace A
open PySem L2 PyProof.Rows
open Mi (D W Rs Fin aq Out Tg)
variable[Tb:fQ]
section
variable{X:Cx}{pins:List (Addr×Obj)}{σ : L2.St}{H:Hp}{s:Shared}
open SeqAt in
theorem VV:∀ {d e:D} {A:Around} {x y:V} {u u':Value},d.flat=true→e.flat=true→L2.Rep X.K H d x→L2.Rep X.K H e y→RelV x u→RelV y u'→RcAt A s u u' (Mi.cL d e)∧RcNeAt A s u u' (!Mi.cL d e):=by
 intro d e A x y u u' h1 h2 r1 r2 q1 q2
 cases d with
 | non =>
  rw[L2.Rep] at r1;subst r1;cases q1
  cases e with
  | non=>rw[L2.Rep] at r2;subst r2;cases q2;exact⟨RcAt.none_none,RcNeAt.none_none⟩
  | bl b=>rw[L2.Rep] at r2;subst r2;cases q2;exact⟨RcAt.none_bool b,RcNeAt.none_bool b⟩
  | int b=>rw[L2.Rep] at r2;subst r2;obtain⟨t,rfl⟩:=q2;exact⟨RcAt.none_int b t,RcNeAt.none_int b t⟩
  | str b=>rw[L2.Rep] at r2;subst r2;obtain⟨t,rfl⟩:=q2;exact⟨RcAt.none_str b t,RcNeAt.none_str b t⟩
  | _=>cases h2
 | bl a =>
  rw[L2.Rep] at r1;subst r1;cases q1
  cases e with
  | non=>rw[L2.Rep] at r2;subst r2;cases q2;exact⟨RcAt.bool_none a,RcNeAt.bool_none a⟩
  | bl b=>rw[L2.Rep] at r2;subst r2;cases q2;rw[Mi.cL];exact⟨RcAt.bool_bool a b,RcNeAt.bool_bool a b⟩
  | int b=>rw[L2.Rep] at r2;subst r2;obtain⟨t,rfl⟩:=q2;rw[Mi.cL];exact⟨RcAt.bool_int a b t,RcNeAt.bool_int a b t⟩
  | str b=>rw[L2.Rep] at r2;subst r2;obtain⟨t,rfl⟩:=q2;exact⟨RcAt.bool_str a b t,RcNeAt.bool_str a b t⟩
  | _=>cases h2
 | int a =>
  rw[L2.Rep] at r1;subst r1;obtain⟨t1,rfl⟩:=q1
  cases e with
  | non=>rw[L2.Rep] at r2;subst r2;cases q2;exact⟨RcAt.int_none a t1,RcNeAt.int_none a t1⟩
  | bl b=>rw[L2.Rep] at r2;subst r2;cases q2;rw[Mi.cL];exact⟨RcAt.int_bool a t1 b,RcNeAt.int_bool a t1 b⟩
  | int b=>rw[L2.Rep] at r2;subst r2;obtain⟨t,rfl⟩:=q2;rw[Mi.cL];exact⟨RcAt.int_int a t1 b t,RcNeAt.int_int a t1 b t⟩
  | str b=>rw[L2.Rep] at r2;subst r2;obtain⟨t,rfl⟩:=q2;exact⟨RcAt.int_str a t1 b t,RcNeAt.int_str a t1 b t⟩
  | _=>cases h2
 | str a =>
  rw[L2.Rep] at r1;subst r1;obtain⟨t1,rfl⟩:=q1
  cases e with
  | non=>rw[L2.Rep] at r2;subst r2;cases q2;exact⟨RcAt.str_none a t1,RcNeAt.str_none a t1⟩
  | bl b=>rw[L2.Rep] at r2;subst r2;cases q2;exact⟨RcAt.str_bool a t1 b,RcNeAt.str_bool a t1 b⟩
  | int b=>rw[L2.Rep] at r2;subst r2;obtain⟨t,rfl⟩:=q2;exact⟨RcAt.str_int a t1 b t,RcNeAt.str_int a t1 b t⟩
  | str b=>rw[L2.Rep] at r2;subst r2;obtain⟨t,rfl⟩:=q2;rw[Mi.cL];exact⟨RcAt.str_str a t1 b t,RcNeAt.str_str a t1 b t⟩
  | _=>cases h2
 | _=>cases h1
open SeqAt in
theorem aa0(I:Inv X pins σ H s):∀ (d e:D) (A:Around) {x y:V} {u u':Value},d.dep≤16→A.units+17 < cLine→L2.Rep X.K H d x→L2.Rep X.K H e y→RelV x u→RelV y u'→RcAt A s u u' (Mi.cL d e)∧RcNeAt A s u u' (!Mi.cL d e):=by
 intro d e A x y u u' hd hu h h' r r'
 have hu0:A.units < cLine:=by omega
 have item:∀ {ds es:List D} {xs ys:List V} {its its':List Value},Mi.cH ds≤16→L2.bU X.K H ds xs→L2.bU X.K H es ys→Vals xs its→Vals ys its' →
  ∀ j (h1:j < its.toArray.size) (h2:j < its'.toArray.size),EqAt A.in1 s its.toArray[j] its'.toArray[j] (Mi.cL (ds.getD j .non) (es.getD j .non)):=by
  intro ds es xs ys its its' hn q q' v v' j h1 h2
  have h1':j < its.length:=by simpa using h1
  have h2':j < its'.length:=by simpa using h2
  have e1:j < xs.length:=by rw[v.length];exact h1'
  have e2:j < ys.length:=by rw[v'.length];exact h2'
  have g1:xs[j]? = some xs[j]:=by simp[e1]
  have g2:ys[j]? = some ys[j]:=by simp[e2]
  obtain⟨w1,k1,r1⟩:=v.get g1
  obtain⟨w2,k2,r2⟩:=v'.get g2
  have t1:its.toArray[j]=w1:=by obtain⟨_,k1⟩:=List.getElem?_eq_some_iff.mp k1;simpa using k1
  have t2:its'.toArray[j]=w2:=by obtain⟨_,k2⟩:=List.getElem?_eq_some_iff.mp k2;simpa using k2
  rw[t1,t2]
  have:=xj (ds:=ds) (j:=j)
  refine Ub I 16 _ _ A.in1 (by omega) ?_ (q.get g1) (q'.get g2) r1 r2
  show A.units+1+16 < cLine
  omega
 by_cases hdf:d.flat=true
 ·by_cases hef:e.flat=true
  ·exact VV hdf hef h h' r r'
  ·cases e with
   | lst es =>
    rw[L2.Rep] at h'
    obtain⟨a,xs,rfl,q,_⟩:=h'
    cases r'
    obtain⟨its,_,p,_⟩:=I.list q
    cases d with
    | non=>rw[L2.Rep] at h;subst h;cases r;exact⟨RcAt.none_list p.isList hu0,RcNeAt.none_list p.isList hu0⟩
    | bl b=>rw[L2.Rep] at h;subst h;cases r;exact⟨RcAt.bool_list b p.isList hu0,RcNeAt.bool_list b p.isList hu0⟩
    | int b=>rw[L2.Rep] at h;subst h;obtain⟨t,rfl⟩:=r;exact⟨RcAt.int_list b t p.isList hu0,RcNeAt.int_list b t p.isList hu0⟩
    | str b=>rw[L2.Rep] at h;subst h;obtain⟨t,rfl⟩:=r;exact⟨RcAt.str_list b t p.isList hu0,RcNeAt.str_list b t p.isList hu0⟩
    | _=>cases hdf
   | tup es =>
    rw[L2.Rep] at h'
    obtain⟨a,xs,rfl,q,_⟩:=h'
    cases r'
    obtain⟨its,_,p,_⟩:=I.tuple q
    cases d with
    | non=>rw[L2.Rep] at h;subst h;cases r;exact⟨RcAt.none_tuple p hu0,RcNeAt.none_tuple p hu0⟩
    | bl b=>rw[L2.Rep] at h;subst h;cases r;exact⟨RcAt.bool_tuple b p hu0,RcNeAt.bool_tuple b p hu0⟩
    | int b=>rw[L2.Rep] at h;subst h;obtain⟨t,rfl⟩:=r;exact⟨RcAt.int_tuple b t p hu0,RcNeAt.int_tuple b t p hu0⟩
    | str b=>rw[L2.Rep] at h;subst h;obtain⟨t,rfl⟩:=r;exact⟨RcAt.str_tuple b t p hu0,RcNeAt.str_tuple b t p hu0⟩
    | _=>cases hdf
   | _=>exact absurd rfl hef
 ·cases d with
  | lst ds =>
   rw[L2.Rep] at h
   obtain⟨a,xs,rfl,q,rr⟩:=h
   cases r
   obtain⟨its,v,p,_⟩:=I.list q
   have hn:Mi.cH ds≤16:=by rw[Mi.D.dep] at hd;omega
   cases e with
   | non=>rw[L2.Rep] at h';subst h';cases r';exact⟨RcAt.list_none p.isList hu0,RcNeAt.list_none p.isList hu0⟩
   | bl b=>rw[L2.Rep] at h';subst h';cases r';exact⟨RcAt.list_bool b p.isList hu0,RcNeAt.list_bool b p.isList hu0⟩
   | int b=>rw[L2.Rep] at h';subst h';obtain⟨t,rfl⟩:=r';exact⟨RcAt.list_int b t p.isList hu0,RcNeAt.list_int b t p.isList hu0⟩
   | str b=>rw[L2.Rep] at h';subst h';obtain⟨t,rfl⟩:=r';exact⟨RcAt.list_str b t p.isList hu0,RcNeAt.list_str b t p.isList hu0⟩
   | lst es =>
    rw[L2.Rep] at h'
    obtain⟨b,ys,rfl,q',rr'⟩:=h'
    cases r'
    obtain⟨its',v',p',_⟩:=I.list q'
    have l1:=rr.length
    have l2:=rr'.length
    have l3:=v.length
    have l4:=v'.length
    by_cases hl:ds.length=es.length
    ·rw[Mi.cL,o6 hl]
     have e1:its.toArray.size=ds.length:=by simp;omega
     have k1:=RcAt.lists p.isList p'.isList (by simp;omega) hu0 (item hn rr rr' v v')
     have k2:=RcNeAt.lists p.isList p'.isList (by simp;omega) hu0 (item hn rr rr' v v')
     rw[e1] at k1 k2
     exact⟨k1,k2⟩
    ·rw[Mi.cL,oZ hl]
     exact⟨RcAt.lists_lengths p.isList p'.isList (by simp;omega) hu0,RcNeAt.lists_lengths p.isList p'.isList (by simp;omega) hu0⟩
   | tup es =>
    rw[L2.Rep] at h'
    obtain⟨b,ys,rfl,q',_⟩:=h'
    cases r'
    obtain⟨its',_,p',_⟩:=I.tuple q'
    exact⟨RcAt.list_tuple p.isList p' hu0,RcNeAt.list_tuple p.isList p' hu0⟩
  | tup ds =>
   rw[L2.Rep] at h
   obtain⟨a,xs,rfl,q,rr⟩:=h
   cases r
   obtain⟨its,v,p,_⟩:=I.tuple q
   have hn:Mi.cH ds≤16:=by rw[Mi.D.dep] at hd;omega
   cases e with
   | non=>rw[L2.Rep] at h';subst h';cases r';exact⟨RcAt.tuple_none p hu0,RcNeAt.tuple_none p hu0⟩
   | bl b=>rw[L2.Rep] at h';subst h';cases r';exact⟨RcAt.tuple_bool b p hu0,RcNeAt.tuple_bool b p hu0⟩
   | int b=>rw[L2.Rep] at h';subst h';obtain⟨t,rfl⟩:=r';exact⟨RcAt.tuple_int b t p hu0,RcNeAt.tuple_int b t p hu0⟩
   | str b=>rw[L2.Rep] at h';subst h';obtain⟨t,rfl⟩:=r';exact⟨RcAt.tuple_str b t p hu0,RcNeAt.tuple_str b t p hu0⟩
   | tup es =>
    rw[L2.Rep] at h'
    obtain⟨b,ys,rfl,q',rr'⟩:=h'
    cases r'
    obtain⟨its',v',p',_⟩:=I.tuple q'
    have l1:=rr.length
    have l2:=rr'.length
    have l3:=v.length
    have l4:=v'.length
    have k1:=RcAt.tuples p p' hu0 (item hn rr rr' v v')
    have k2:=RcNeAt.tuples p p' hu0 (item hn rr rr' v v')
    have e1:its.toArray.size=ds.length:=by simp;omega
    have e2:its'.toArray.size=es.length:=by simp;omega
    rw[e1,e2] at k1 k2
    by_cases hl:ds.length=es.length
    ·rw[Mi.cL,o6 hl]
     rw[hl,Nat.min_self,beq_self_eq_true,Bool.and_true,← hl] at k1 k2
     exact⟨k1,k2⟩
    ·rw[Mi.cL,oZ hl]
     have:(ds.length == es.length)=false:=by simpa using hl
     rw[this,Bool.and_false] at k1 k2
     exact⟨k1,k2⟩
   | lst es =>
    rw[L2.Rep] at h'
    obtain⟨b,ys,rfl,q',_⟩:=h'
    cases r'
    obtain⟨its',_,p',_⟩:=I.list q'
    exact⟨RcAt.tuple_list p p'.isList hu0,RcNeAt.tuple_list p p'.isList hu0⟩
  | _=>exact absurd rfl hdf
theorem jX(hu:X.A.units+64 < cLine):pM X (compareOp .Eq) (V2 X.K false):=by
 intro pins s σ H x y v u Q I rx ry h
 obtain⟨d,e,r1,r2,hz,q⟩:=h
 exact(aa0 I d e X.A hz (by omega) r1 r2 rx ry).1 _ _ _ _ ⟨.bl _,H,I,rfl,q⟩
theorem uK(hu:X.A.units+64 < cLine):pM X (compareOp .NotEq) (V2 X.K true):=by
 intro pins s σ H x y v u Q I rx ry h
 obtain⟨d,e,r1,r2,hz,q⟩:=h
 exact(aa0 I d e X.A hz (by omega) r1 r2 rx ry).2 _ _ _ _ ⟨.bl _,H,I,rfl,q⟩
end
section
variable{X:Cx}{K:PySem.W.Frag}{M:Nat→Bool}{κ : Kd}{ta tb te:TE}{a b:Mi.E}
theorem Xu{H Hv:Hp}(vw:Vw H Hv){d:D}{v:V}(r:RD H Hv d v):ug K H v (.type (Mi.JP d)):=by
 cases d with
 | non=>cases RD.non r;exact .non
 | bl b=>cases RD.bl r;exact .bl b
 | int b=>cases RD.int r;exact .int b
 | str b=>cases RD.str r;exact .str b
 | lst ds =>
  obtain⟨p,xs,rfl,l,_⟩:=RD.lst vw r
  rcases l with l|⟨o,l⟩
  ·exact .lst l
  ·exact .frz l
 | tup ds =>
  obtain⟨p,xs,rfl,l,_⟩:=RD.tup vw r
  exact .tup l
def Bg(K:PySem.W.Frag)(T:String):Prop:=∀ d:D,PySem.W.kitOne K (.type (Mi.JP d)) (.type T)=some (Mi.Pq T d)
theorem Ju{T:String}(hT:Bg K T)(ha:AE M qP ta a):AE M qV (VD (abd K) (iW ta (iW (tC (.ty T)) rA))) (Mi.m1 (Mi.yN [T]) a):=fun e σ H Hv Q I h =>
 ha e σ H Hv _ I ((aq.mp h).mono fun x hx v H1 Hv1 g1 rx=>⟨v,_,T,_,rfl,Xu g1.vw rx,hT x,(Mi.gF hx) _ H1 Hv1 g1 (by
  have:([T].any fun t=>Mi.Pq t x)=Mi.Pq T x:=by simp
  rw[this];exact gO)⟩)
theorem ty_bool(K:PySem.W.Frag):Bg K "bool" := fun d=>by cases d<;>rfl
theorem ty_int(K:PySem.W.Frag):Bg K "int" := fun d=>by cases d<;>rfl
theorem ty_str(K:PySem.W.Frag):Bg K "str" := fun d=>by cases d<;>rfl
theorem ty_list(K:PySem.W.Frag):Bg K "list" := fun d=>by cases d<;>rfl
theorem ty_tuple(K:PySem.W.Frag):Bg K "tuple" := fun d=>by cases d<;>rfl
end
end A
namespace A
open PySem L2 PyProof.Rows
open Mi (D W Rs Fin aq Out Tg)
variable[Tb:fQ]
def Mo(l:List Nat):Nat→Bool:=fun i=>l.contains i
theorem zp{M:Nat→Bool}{N:List Str}{k:Nat}{ws:List W}{vs:List V}{H Hv:Hp}(vw:Vw H Hv)(p:P2 (uh Hv) ws vs)(hk:ws.length=k)(hM:∀ i,i < k→M i=false) :
 R1 M H Hv (ws.map some++List.replicate (N.length - ws.length) none) (start N vs) H Hv:=by
 have get:∀ {i:Nat} {w:W},(ws.map some++List.replicate (N.length - ws.length) none)[i]? = some (some w)→ws[i]? = some w∧i < k:=fun {i w} h=>by
  by_cases hi:i < ws.length
  ·rw[List.getElem?_append_left (by simpa using hi),List.getElem?_map] at h
   cases e:ws[i]? with
   | none=>rw[e] at h;cases h
   | some a=>rw[e] at h;cases h;exact⟨rfl,by omega⟩
  ·rw[List.getElem?_append_right (by simpa using hi),List.getElem?_replicate] at h
   split at h<;>cases h
 have no:∀ {i:Nat} {w:W},(ws.map some++List.replicate (N.length - ws.length) none)[i]? = some (some w)→M i=true→False:=fun {i w} h m=>by
  rw[hM i (get h).2] at m;cases m
 refine⟨⟨vw,?_,fun i w h m=>?_,fun i w h m=>(no h m).elim⟩,.refl vw,fun i w a h m=>(no h m).elim,fun i j w w' a b _ h _ m=>(no h m).elim⟩
 ·unfold L2.start
  rw[List.length_append,List.length_append,List.length_map,List.length_map,List.length_replicate,List.length_replicate,p.len]
 ·obtain⟨hw,hi⟩:=get h
  obtain⟨v,hv,r⟩:=p.getL hw
  refine⟨v,?_,r⟩
  unfold L2.start
  rw[List.getElem?_append_left (by rw[List.length_map,← p.len];omega),List.getElem?_map,hv];rfl
theorem qR{f:Mi.S}{k n:Nat}{vs:List V}{H:Hp}{Q:VK}{E:XK}(h:lE (Mi.vP k n f) vs H Q E):vs.length=k:=by
 obtain⟨Hv,ws,_,p,q⟩:=h
 rw[← p.len];exact(Mi.aV q).1
theorem Bu{f:Mi.S}{k n:Nat}{vs:List V}{H:Hp}{Q:VK}{E:XK}(h:yC (Mi.Nh k n f) vs H Q E):vs.length=k:=by
 obtain⟨Hv,ws,_,p,q⟩:=h
 rw[← p.len];exact(Mi.aV q).1
theorem qL{N:List Str}{M:Nat→Bool}{k:Nat}{t:TS}{m:Mi.S}(hA:AS M qV t m)(hM:∀ i,i < k→M i=false){vs:List V}{H:Hp}{Q:VK}{E:XK}(h:lE (Mi.vP k N.length m) vs H Q E) :
 t { nx:=fun _ H'=>Q .non H',rt:=Q } (start N vs) H:=by
 obtain⟨Hv,ws,vw,p,q⟩:=h
 obtain⟨hk,q⟩:=Mi.aV q
 refine hA H Hv _ _ H Hv _ (zp vw p hk hM) ((aq.mp q).mono fun o ho=>?_)
 cases o with
 | nx e=>exact fun σ H' Hv' I s=>ho _ H' Hv' I.gw J2
 | rt w=>exact fun v H' Hv' g r=>ho v H' Hv' g r
 | bk e=>exact ho.elim
 | ct e=>exact ho.elim
theorem runN{N:List Str}{M:Nat→Bool}{k:Nat}{t:TS}{m:Mi.S}(hA:AS M qN t m)(hM:∀ i,i < k→M i=false){vs:List V}{H:Hp}{Q:VK}{E:XK}(h:yC (Mi.Nh k N.length m) vs H Q E) :
 t { nx:=fun _ H'=>Q .non H',rt:=Q } (start N vs) H:=by
 obtain⟨Hv,ws,vw,p,q⟩:=h
 obtain⟨hk,q⟩:=Mi.aV q
 refine hA H Hv _ _ H Hv _ (zp vw p hk hM) ((aq.mp q).mono fun o ho=>?_)
 cases o with
 | rt w=>exact fun v H' Hv' g r=>ho v H' Hv' g r
 | nx e=>exact ho.elim
 | bk e=>exact ho.elim
 | ct e=>exact ho.elim
theorem Py{P:Program}{w:World}{K:PySem.W.Frag}{mg:Str→Option Value}{base:Heap}{CX:GQ}{k:Nat}{f:Addr}{fd:FuncData}{ps:List Str}:cY P w K mg base CX k f fd ps (lE Mi.fnZ) :=
 ⟨fun vs H Q E h=>by obtain⟨_,_,_,_,q⟩:=h;exact q.elim,fun A outer s H args us vs Q E _ _ _ _ h=>by obtain⟨_,_,_,_,q⟩:=h;exact q.elim⟩
def Hj:Sp:=fun vs H Q _=>∃ (a:Addr) (ns:List Int),vs=[.ref a]∧Lst H a (ns.map V.int)∧ns.length≤63∧jr H∧∀ H',Q (.bl true) H'
theorem ints_rep(H:Hp):∀ ns:List Int,P2 (Rep H) (ns.map D.int) (ns.map V.int)
 | []=>.nil
 | n::r=>.cons (pZ.mpr rfl) (ints_rep H r)
theorem Zy{P:Program}{w:World}{K:PySem.W.Frag}{mg:Str→Option Value}{base:Heap}{CX:GQ}{k:Nat}{f:Addr}{fd:FuncData}{ps:List Str}{m:Mi.Fn}(F:cY P w K mg base CX k f fd ps (lE m))
 (h:∀ ns:List Int,ns.length≤63→m [.d (.lst (ns.map D.int))]=.ok (.d (.bl true))):cY P w K mg base CX k f fd ps Hj :=
 F.imp fun vs H Q E ⟨a,ns,e,l,hl,k,q⟩=>by
  subst e
  have l':Lst (Qv H) a (ns.map V.int):=by
   rcases l with l|⟨o,l⟩
   ·exact .inl (jJ l trivial)
   ·exact .inr ⟨o,jJ l trivial⟩
  refine⟨Qv H,[.d (.lst (ns.map D.int))],.all k,.cons (nq.mpr ⟨a,_,rfl,l',ints_rep _ ns⟩) .nil,?_⟩
  rw[h ns hl]
  intro v H' Hv' g r
  cases (zJ (H:=Hv')).mp r
  exact q H'
def Ite(K:PySem.W.Frag)(a:Addr):It :=
 ⟨fun i H=>∃ xs x,uW K H a xs∧xs[i]? = some x,fun i H v H'=>∃ p x,(∀ xs,uW K H a xs→xs[i]? = some x)∧H p=none∧v=.ref p∧H'=upd H p (.tup [.int i,x]),fun i H=>∃ xs,uW K H a xs∧xs.length=i⟩
theorem zf{X:Cx}{pins:List (Addr×Obj)}{σ : L2.St}{H:Hp}{s:Shared}{fp:List Addr}{T:Addr}{o:HO}{h':Heap}{t':Nat}(I:Inv X pins σ H s)(hf:∀ b∈fp,pN X pins H b)
 (k:∀ b u,b∉fp→s.heap.get? b=some u→h'.get? b=some u) (hT:s.heap.objs.size≤T) (new:bZ X.prog X.w (upd H T o) h' T o):Inv X pins σ (upd H T o) { s with heap:=h',toks:=t' }:=by
 have hn:H T=none:=I.hok.fresh hT
 have nfp:∀ b u,H b=some u→b∉fp:=fun b u e z=>by rw[(hf b z).1] at e;cases e
 refine I.call' (s':={ s with heap:=h',toks:=t' }) (ch:=fp) rfl ⟨fun b u e _ _ hb=>k b u hb e,fun b u e _ _ hb=>⟨u.slots,k b u hb e⟩,fun b u e hb _=>?_,fun b u e hb=>⟨u,k b u hb e⟩,fun b xs e=>?_,fun b q u e=>?_,fun b w ps e=>⟨#[],?_⟩⟩ ?_ I.bare
  fun b hb=>⟨(hf b hb).2.2.2.1,(hf b hb).2.1,(hf b hb).2.2.2.2.1,(hf b hb).2.2.2.2.2⟩
 ·have:b≠T:=Nat.ne_of_lt (Nat.lt_of_lt_of_le (Heap.lt_size e) hT)
  rw[aJ this];exact hb
 ·rw[aJ (aX e hn)];exact e
 ·rw[aJ (aX e hn)];exact e
 ·rw[aJ (aX e hn),e];simp
 ·intro b u e
  by_cases hb:b=T
  ·subst hb;rw[aU] at e;cases e;exact new
  ·rw[aJ hb] at e
   refine(I.hok b u e).stay (fun c v hc q=>k c v ?_ q) (fun c q=>by rw[aJ (aX q hn)];exact q) fun c xs q=>by rw[aJ (aX q hn)];exact q
   rcases hc with z|z
   ·rw[z];exact nfp b u e
   ·exact nfp c _ z
theorem uC{X:Cx}{pins:List (Addr×Obj)}{σ : L2.St}{H:Hp}{s:Shared}{fp:List Addr}{h':Heap}{t':Nat}(I:Inv X pins σ H s)(hf:∀ b∈fp,pN X pins H b)
 (k:∀ b u,b∉fp→s.heap.get? b=some u→h'.get? b=some u):Inv X pins σ H { s with heap:=h',toks:=t' }:=by
 have nfp:∀ b u,H b=some u→b∉fp:=fun b u e z=>by rw[(hf b z).1] at e;cases e
 refine I.call' (s':={ s with heap:=h',toks:=t' }) (ch:=fp) rfl ⟨fun b u e _ _ hb=>k b u hb e,fun b u e _ _ hb=>⟨u.slots,k b u hb e⟩,fun b u e hb _=>hb,fun b u e hb=>⟨u,k b u hb e⟩,fun b xs e=>e,fun b q u e=>e,fun b w ps e=>⟨#[],by rw[e];simp⟩⟩ ?_ I.bare
  fun b hb=>⟨(hf b hb).2.2.2.1,(hf b hb).2.1,(hf b hb).2.2.2.2.1,(hf b hb).2.2.2.2.2⟩
 intro b u e
 refine(I.hok b u e).stay (fun c v hc q=>k c v ?_ q) (fun c q=>q) fun c xs q=>q
 rcases hc with z|z
 ·rw[z];exact nfp b u e
 ·exact nfp c _ z
theorem Oa{P:Program}{w:World}{K:PySem.W.Frag}{elts:List Expr}{k1:Nat}{pos:Pos}(a e it:Addr)(hne:e≠it):Turn P w K (.Tuple elts k1 pos) (Ite K a) [e,it] e (fun i h=>(∃ old,IsEnum h e it i old)∧h.IsListIter it a i) where
 mem:=by simp
 obj:=fun i h st b hb=>by
  obtain⟨⟨old,he⟩,o,ho,c,d⟩:=st
  rcases List.mem_cons.mp hb with rfl|hb
  ·exact⟨_,he,fun v z=>by cases z⟩
  ·have e1:b=it:=by simpa using hb
   subst e1
   exact⟨o,ho,fun v z=>by rw[d] at z;cases z⟩
 keep:=fun i h h' st kk=>⟨let ⟨old,he⟩:=st.1;⟨old,kk e (by simp) _ he⟩,st.2.at fun o q=>kk it (by simp) o q⟩
 item:=by
  intro X hP hw hK hc i pins s σ H E I hf st hg
  subst hP hw hK
  obtain⟨xs,x,hq,hx⟩:=hg
  obtain⟨its,rv,p,hz⟩:=I.list hq
  obtain⟨u,hu,ru⟩:=rv.get hx
  obtain⟨⟨old,he⟩,hli⟩:=st
  have hlt:i < its.toArray.size:=by rw[List.size_toArray];exact(List.getElem?_eq_some_iff.mp hu).1
  have hai:a≠it:=by
   rintro rfl
   obtain⟨o,ho,c,_⟩:=hli
   obtain⟨o',n,ho',c',_⟩:=p
   rw[ho] at ho';cases ho'
   rw[c] at c';exact absurd (Value.type.inj c') (by decide)
  have hea:e≠a:=by
   rintro rfl
   obtain⟨o',n,ho',c',_⟩:=p
   rw[he] at ho';cases ho'
   exact absurd (Value.type.inj c') (by decide)
  refine wpAny_pyNext_enum_itemD (Draws.list (by first|exact I.ok.hd hc|(simp;exact I.ok.hd hc)) it a hai its.toArray) he ⟨hli,p.isList⟩ hlt hne (by simp[hne,hea]) fun y h' tk hy ho hs' hT hsz hk=>?_
  have hy:y=u:=by
   have hu':its.toArray[i]? = some u:=by simpa using hu
   rw[hu'] at hy;exact(Option.some.inj hy).symm
  subst hy
  refine⟨_,rfl,wpAny_letOwnedTupleGo_enum ho fun h2 he2 hs2=>?_⟩
  have kk:∀ b o,b∉[e,it]→s.heap.get? b=some o→h2.get? b=some o:=fun b o hb q=>by
   simp at hb
   exact(hs2.2 b hb.1).trans (hk b o hb.1 hb.2 q)
  have hTn:s.heap.objs.size≠e:=fun z=>absurd (Heap.lt_size he) (by rw[z];exact Nat.lt_irrefl _)
  refine⟨.ref s.heap.objs.size,upd H s.heap.objs.size (.tup [.int i,x]),zf (s:=s) (t':=tk+1) I hf kk (Nat.le_refl _) ?_,rfl,⟨_,x,fun ys hy=>by rw[I.vK hy hq];exact hx,I.hok.fresh (Nat.le_refl _),rfl,rfl⟩,⟨⟨_,he2⟩,?_⟩,fun b hb=>?_⟩
  ·exact⟨by simp only[List.length_cons,List.length_nil];rw[sizeLine_eq];decide,[.int i tk,y],.cons ⟨_,rfl⟩ (.cons ru .nil),⟨_,(hs2.2 _ hTn).trans hT,rfl,rfl,_,rfl⟩⟩
  ·exact hs'.1.at fun o q=>(hs2.2 it (Ne.symm hne)).trans q
  ·have:b≠s.heap.objs.size:=fun z=>by
    subst z
    rcases List.mem_cons.mp hb with z|z
    ·exact hTn z
    ·have z:s.heap.objs.size=it:=by simpa using z
     obtain⟨o,ho,_⟩:=hli
     exact absurd (Heap.lt_size ho) (by rw[← z];exact Nat.lt_irrefl _)
   rw[aJ this];exact(hf b hb).1
 done:=by
  intro X hP hw hK hc i pins s σ H E I hf st hg
  subst hP hw hK
  obtain⟨xs,hq,hx⟩:=hg
  obtain⟨its,rv,p,hz⟩:=I.list hq
  obtain⟨⟨old,he⟩,hli⟩:=st
  have hl:=rv.length
  have hai:a≠it:=by
   rintro rfl
   obtain⟨o,ho,c,_⟩:=hli
   obtain⟨o',n,ho',c',_⟩:=p
   rw[ho] at ho';cases ho'
   rw[c] at c';exact absurd (Value.type.inj c') (by decide)
  subst hx
  have D:=Draws.list (prog:=X.prog) (w:=X.w) (A:=X.A.in1) (by first|exact I.ok.hd hc|(simp;exact I.ok.hd hc)) it a hai its.toArray
  have hn:its.toArray.size=xs.length:=by simp;omega
  rw[hn] at D
  exact wpAny_pyNext_enum_endD D he ⟨hli,p.isList⟩ fun h' hx=>⟨rfl,uC (s:=s) (t':=s.toks) I hf fun b o hb q=>hx b o (fun z=>hb (by simp[z])) q⟩
 self:=fun _ i s Q E st h=>let ⟨⟨old,he⟩,_⟩:=st;wpAny_pyIter_enum he h
section
variable{X:Cx}{elts:List Expr}{k1:Nat}{tpos:Pos}
def TV(K:PySem.W.Frag)(tl:TE):TI:=fun σ H R=>tl σ H fun x H1=>∃ a,[x]=[V.ref a]∧(∃ xs,uW K H1 a xs)∧R (Ite K a) H1
theorem V6{a:Expr}{ta:TE}{p pos:Pos}(hg:Gl X "enumerate")(hm:X.mg "enumerate" = none)(ha:PE X a ta)(hs:starEach [a] X.env=[(false,eval a X.env)]:=by rfl)(hs0:starEach [a] X.env=(false,eval a X.env)::starEach [] X.env:=by rfl) :
 PI X (.Tuple elts k1 tpos) (.Call (.Name "enumerate" p) [a] [] pos) (TV X.K ta):=by
 intro pins s σ H R I h
 refine Call_ (uM I hg hm boot_enumerate (PyProof.Rows.callWith_type1 (dY (aj ha au hs0 pos pins s σ H (fun vs H1=>∃ l,vs=[.ref l]∧(∃ xs,uW X.K H1 l xs)∧R (Ite X.K l) H1) I ?_) fun us s1 ⟨vs,H1,I1,r1,q1⟩=>?_) hs rfl))
 ·exact h
 ·obtain⟨l,e,⟨xs,hq⟩,q⟩:=q1
  subst e
  obtain⟨u,rfl,ru⟩:=vals1 r1
  cases ru
  obtain⟨its,rv,pl,hz⟩:=I1.list hq
  refine call_enumerate_list pl.isList fun h' hE hI hsz hk=>?_
  refine wpAny_pyIter_enum hE ?_
  have I2:Inv X pins σ H1 { s1 with heap:=h' }:=I1.kept (t':=s1.toks) fun b o e=>hk b o e
  refine⟨_,[s1.heap.objs.size+1,s1.heap.objs.size],_,_,H1,rfl,I2,Oa l (s1.heap.objs.size+1) s1.heap.objs.size (Nat.ne_of_gt (Nat.lt_succ_self _)),⟨⟨_,hE⟩,hI⟩,fun b hb=>?_,q⟩
  have hb:s1.heap.objs.size≤b:=by
   rcases List.mem_cons.mp hb with z|z
   ·rw[z];exact Nat.le_succ _
   ·have z:b=s1.heap.objs.size:=by simpa using z
    rw[z];exact Nat.le_refl _
  exact I1.uO hb (I1.hok.fresh hb)
theorem Iv:∀ {ds:List D} {k i:Nat} {d:D},ds[i]? = some d→(Mi.pK k ds)[i]? = some (.tup [.int ((k+i:Nat):Int),d])
 | [],_,_,_,h=>by simp at h
 | d::r,k,0,e,h=>by simp at h;subst h;rfl
 | d::r,k,i+1,e,h=>by
  have:=Iv (ds:=r) (k:=k+1) (i:=i) (d:=e) (by simpa using h)
  rw[Mi.pK,List.getElem?_cons_succ,this]
  rw[show k+1+i=k+(i+1) by omega]
theorem vQ:∀ (ds:List D) (k:Nat),(Mi.pK k ds).length=ds.length
 | [],_=>rfl
 | d::r,k=>by rw[Mi.pK,List.length_cons,List.length_cons,vQ r]
theorem WW{x:D}{k:List D→Prop}(h:Fin (Mi.tW x) k):∃ ds,x=.lst ds∧k ds:=by
 cases x with
 | lst b=>exact⟨b,rfl,h⟩
 | _=>exact h.elim
theorem TJ{K:PySem.W.Frag}{a:Addr}{ds:List D}{P:Hp→Hp→Prop}(ok:∀ H Hv,P H Hv→Vw H Hv→∃ xs,uW K H a xs∧P2 (Rep Hv) ds xs):ItD (Ite K a) P (Mi.pK 0 ds):=by
 refine⟨fun i H Hv p v hi=>?_,fun i H Hv x H' p v hi y=>?_,fun H Hv p v=>?_⟩
 ·obtain⟨xs,l,r⟩:=ok H Hv p v
  rw[vQ] at hi
  obtain⟨x,hx,_⟩:=r.getL (i:=i) (a:=ds[i]) (by simp[hi])
  exact⟨xs,x,l,hx⟩
 ·obtain⟨xs,l,r⟩:=ok H Hv p v
  rw[vQ] at hi
  obtain⟨q,z,hz,hq,rfl,rfl⟩:=y
  obtain⟨x,hx,rx⟩:=r.getL (i:=i) (a:=ds[i]) (by simp[hi])
  rw[hz xs l] at hx
  cases hx
  obtain⟨g,k⟩:=Ex v (ds:=[.int i,ds[i]]) (xs:=[.int i,z]) (.cons (pZ.mpr rfl) (.cons rx .nil)) hq
  refine⟨_,.tup [.int i,ds[i]],g,?_,k⟩
  rw[Iv (i:=i) (d:=ds[i]) (by simp[hi])]
  simp
 ·obtain⟨xs,l,r⟩:=ok H Hv p v
  exact⟨xs,l,by rw[vQ,r.len]⟩
theorem Xi{M:Nat→Bool}{K:PySem.W.Frag}{ta:TE}{a:Mi.E}(ha:AE M qV ta a):NZ M (TV K ta) (Mi.TX a):=fun e σ H Hv R I h =>
 ha e σ H Hv _ I ((aq.mp h).mono fun x hx v H1 Hv1 g1 rx=>by
  obtain⟨ds,rfl,hk⟩:=WW (aq.mp hx)
  obtain⟨p,xs,rfl,l,r⟩:=(nq (H:=Hv1)).mp rx
  exact⟨p,rfl,⟨xs,(l.same g1.vw.sub).sq⟩,hk (Ite K p) H1 Hv1 (fun H Hv=>Lst Hv p xs∧P2 (Rep Hv) ds xs) g1 (TJ fun H Hv z v=>⟨xs,(z.1.same v.sub).sq,z.2⟩) ⟨l,r⟩ fun H1 Hv1 H2 Hv2 z s v=>⟨z.1.same s,cJ s z.2⟩⟩)
end
end A
namespace A
open PySem L2 PyProof.Rows
open Mi (D W Rs Fin aq Out Tg)
variable[Tb:fQ]
section
variable{X:Cx}{K:PySem.W.Frag}{M:Nat→Bool}{κ : Kd}{ta tb te tk:TE}{a b k:Mi.E}
theorem t7{Hv:Hp}:∀ {ds:List D} {xs:List V} {bs:List Str},Mi.mY ds=some bs→P2 (Rep Hv) ds xs→xs=bs.map V.str
 | [],_,bs,e,r=>by cases e;cases r;rfl
 | .str b::ds,_,bs,e,r=>by
  cases r with
  | cons x t =>
   cases hb:Mi.mY ds with
   | none=>rw[Mi.mY,hb] at e;cases e
   | some cs =>
    rw[Mi.mY,hb] at e
    cases e
    rw[t7 hb t,lR.mp x];rfl
 | .non::_,_,_,e,_=>by cases e
 | .int _::_,_,_,e,_=>by cases e
 | .bl _::_,_,_,e,_=>by cases e
 | .lst _::_,_,_,e,_=>by cases e
 | .tup _::_,_,_,e,_=>by cases e
theorem Vj(ha:AE M qP ta a)(hb:AE M qP tb b):AE M qV (tBM K "str" (rJoin K) ta (iW tb rA)) (Mi.m2 Mi.Nq a b):=fun e σ H Hv Q I h=>by
 obtain⟨x,hx,h⟩:=lJ (aq.mp h)
 obtain⟨y,hy,h⟩:=lJ (aq.mp h)
 cases x with
 | str sep=>cases y with
  | lst ds =>
   obtain⟨ys,hs,h⟩:=jn (aq.mp h)
   obtain⟨hz,h⟩:=Mi.aV h
   refine ha e σ H Hv _ I (by
    rw[hx]
    intro v H1 Hv1 g1 r1
    cases RD.str r1
    refine⟨rfl,hb e σ H1 Hv1 _ (I.grow g1) (by
     rw[hy]
     intro v2 H2 Hv2 g2 r2
     obtain⟨p,xs,rfl,l,r⟩:=RD.lst g2.vw r2
     have:=t7 hs r
     subst this
     exact⟨sep,p,ys,rfl,rfl,l.sq,hz,(Mi.gF h) _ H2 Hv2 (g1.trans g2) wL⟩)⟩)
  | _=>exact h.elim
 | _=>cases y<;>exact h.elim
theorem Fv{H:Hp}{d:D}{v:V}{y:Mi.Ky}(h:Mi.PL d=some y)(r:Rep H d v):v=kV y:=by
 cases d with
 | int i=>cases h;exact pZ.mp r
 | str i=>cases h;exact lR.mp r
 | _=>cases h
theorem z8{H:Hp}:∀ {ds:List D} {vs:List V} {ys:List Mi.Ky},Mi.Cz ds=some ys→P2 (Rep H) ds vs→vs=ys.map kV
 | [],_,_,h,r=>by cases h;cases r;rfl
 | d::ds,_,ys,h,r=>by
  cases r with
  | cons x t =>
   unfold Mi.Cz at h
   cases h1:Mi.PL d with
   | none=>rw[h1] at h;cases h
   | some y =>
    cases h2:Mi.Cz ds with
    | none=>rw[h1,h2] at h;cases h
    | some zs =>
     rw[h1,h2] at h
     cases h
     rw[Fv h1 x,z8 h2 t];rfl
theorem WN{H Hv:Hp}(vw:Vw H Hv){w:W}{x:V}{d:D}{v:V}{q:Option D→Prop}(hw:RB H Hv w x)(r:Rep Hv d v)(h:Fin (Mi.ab8 w d) q):∃ a o o',x=.ref a∧GK H a v o∧q o'∧match o' with
 | some d'=>∃ v',o=some v'∧Rep Hv d' v'
 | none=>o=none:=by
 cases w with
 | d x=>exact h.elim
 | ex z=>exact h.elim
 | dk kvs =>
  obtain⟨y,hy,h⟩:=jn (aq.mp h)
  have h:q (Mi.Bm kvs y):=h
  have:∃ a kv,x=.ref a∧H a=some (.dK kv)∧JD Hv kvs kv:=by
   rcases hw with ⟨a,kv,e,z,c⟩|⟨a,o,e,z,c⟩
   ·exact⟨a,kv,e,vw.sub _ _ z,c⟩
   ·cases o with
    | dK kv=>exact⟨a,kv,e,z,c⟩
    | _=>exact c.elim
  obtain⟨a,kv,e,z,c⟩:=this
  have hv:=Fv hy r
  subst hv
  exact⟨a,_,_,e,GK.k z,h,MK c⟩
 | dt kvs =>
  cases d with
  | tup ds =>
   obtain⟨y,hy,h⟩:=jn (aq.mp h)
   have h:q (Mi.Bm kvs y):=h
   have:∃ a kv,x=.ref a∧H a=some (.dT kv)∧JD Hv kvs kv:=by
    rcases hw with ⟨a,kv,e,z,c⟩|⟨a,o,e,z,c⟩
    ·exact⟨a,kv,e,vw.sub _ _ z,c⟩
    ·cases o with
     | dT kv=>exact⟨a,kv,e,z,c⟩
     | _=>exact c.elim
   obtain⟨a,kv,e,z,c⟩:=this
   obtain⟨b,xs,rfl,l,r⟩:=jd.mp r
   have hv:=z8 hy r
   subst hv
   exact⟨a,_,_,e,GK.t z (vw.sub _ _ l),h,MK c⟩
  | _=>exact h.elim
theorem Yq(i:Nat)(hk:AE M qV tk k):AE M qV (aaQ tk (uD i)) (Mi.Fg i k):=fun e σ H Hv Q I h =>
 hk e σ H Hv _ I ((aq.mp h).mono fun d hd v H1 Hv1 g1 r=>by
  obtain⟨w,he,hd⟩:=Ls (aq.mp hd)
  have I1:=I.grow g1
  obtain⟨x,q,z⟩:=I1.any he
  obtain⟨a,o,o',e1,g,h2,m⟩:=WN g1.vw z r (aq.mp hd)
  refine⟨x,q,a,o,e1,g,?_⟩
  have:o.isSome=o'.isSome:=by
   cases o' with
   | none=>have m:o=none:=m;rw[m];rfl
   | some d'=>obtain⟨v',m,_⟩:=m;rw[m];rfl
  rw[this]
  exact h2 _ H1 Hv1 g1 gO)
theorem Gr{tv:TE}{v:Mi.E}(i:Nat)(hm:M i=true)(hk:AE M qV tk k)(hv:AE M qV tv v):AS M κ (L2.ni (uD i) tk tv) (Mi.ni i k v):=fun H0 Hv0 e σ H Hv D I h=>by
 obtain⟨d,hd,h⟩:=lJ (aq.mp h)
 obtain⟨y,hy,h⟩:=lJ (aq.mp h)
 obtain⟨w,he,h⟩:=Ls (aq.mp h)
 refine hv e σ H Hv _ I.toR0 (by
  rw[hd]
  intro x H1 Hv1 g1 rx
  have I1:=I.grow g1
  obtain⟨p,o,q,q1,n,h0,c⟩:=I1.cell hm he
  refine⟨.ref p,q,hk e σ H1 Hv1 _ I1.toR0 (by
   rw[hy]
   intro u H2 Hv2 g2 ru
   have I2:=I1.grow g2
   have c2:=c.same g2.vis
   have q2:=g2.old.at q1 c.nt
   have g12:=g1.trans g2
   have rx2:=jD g2.vis rx
   cases w with
   | d x=>exact(show False from aq.mp h).elim
   | ex z=>exact(show False from aq.mp h).elim
   | dk kvs =>
    obtain⟨hz,h⟩:=Mi.aV (aq.mp h)
    obtain⟨ky,hky,h⟩:=jn (aq.mp h)
    cases o with
    | dK kv =>
     have c2:JD Hv2 kvs kv:=c2
     have hu:=Fv hky ru
     subst hu
     refine⟨p,_,rfl,Jy.k q2 (by rw[← P2.len c2,sizeLine_eq];exact hz),?_⟩
     exact h σ _ Hv2 (I2.write hm he q (show fj Hv2 (.dk (Mi.putK ky d kvs)) (.dK (L2.putK kv ky x)) from MN rx2 c2)) g12.vis
    | _=>exact c2.elim
   | dt kvs =>
    cases y with
    | tup ds =>
     obtain⟨hz,h⟩:=Mi.aV (aq.mp h)
     obtain⟨ky,hky,h⟩:=jn (aq.mp h)
     cases o with
     | dT kv =>
      have c2:JD Hv2 kvs kv:=c2
      obtain⟨b,xs,rfl,l,r⟩:=(jd (H:=Hv2)).mp ru
      have hu:=z8 hky r
      subst hu
      refine⟨p,_,rfl,Jy.t q2 (g2.vw.sub _ _ l) (by rw[← P2.len c2,sizeLine_eq];exact hz),?_⟩
      exact h σ _ Hv2 (I2.write hm he q (show fj Hv2 (.dt (Mi.putK ky d kvs)) (.dT (L2.putK kv ky x)) from MN rx2 c2)) g12.vis
     | _=>exact c2.elim
    | _=>exact(show False from aq.mp h).elim)⟩)
end
end A
namespace Zp
open PySem PySem.Spec PyProof.Rows L2
variable[Tb:A.fQ]
section
variable{P:Program}{w:World}{B:Around}{F:Value→Shared→Prop}{z:Shared}
theorem Zo{c t:Addr}{i:Nat}{us:Array Value}{u:Value}{R:Value→Shared→Prop}(hc:z.heap.IsTupleIter c t i)(ht:z.heap.IsTuple t us)(hu:us[i]? = some u)
 (hR:∀ h',h'.IsTupleIter c t (i+1)→Heap.SameBut c z.heap h'→R u { z with heap:=h' }):wpAny (model P w) B (Builtin.SmallTypes.nextOf (.ref c)) R F z:=by
 obtain⟨ob,gb,cb,db⟩:=id hc
 obtain⟨ol,gl,_,nl,dl⟩:=ht
 unfold Builtin.SmallTypes.nextOf
 refine wpAny_bind (wpAny_callSpecial?_slot (name:=Str.ofString "__next__") hc.typeIs PySem.F.slot_tuple_iterator_next (wpAny_call_entry PySem.F.slot_tuple_iterator_next hc.typeIs PySem.F.entry_tuple_iterator_next ?_ (PySem.F.args_tuple_iterator_next_1 _)))
 show wpAny _ _ (field (.ref c) 0 >>= _) _ _ z
 refine wpAny_bind (wpAny_field gb db (x:=.ref t) rfl ?_)
 show wpAny _ _ (if (Value.ref t == Value.none)=true then _ else _) _ _ z
 rw[if_neg (fun q:(Value.ref t == Value.none)=true=>nomatch q)]
 show wpAny _ _ (field (.ref c) 1 >>= _) _ _ z
 refine wpAny_bind (wpAny_field gb db (x:=.int i 0) rfl ?_)
 show wpAny _ _ (seqItems? (.ref t) >>= _) _ _ z
 refine wpAny_bind (wpAny_seqItems gl dl ?_)
 simp only[Int.toNat_natCast,hu]
 refine wpAny_bind (wpAny_setField gb db (by simp) (wpAny_pure ⟨u,rfl,wpAny_pure (hR _ ?_ (Heap.SameBut.update ..))⟩))
 refine⟨_,Heap.get?_update_self _ gb (Obj.isFreed_of_fields (Obj.data_mapFields db _)),(Obj.cls_mapFields ..).trans cb,?_⟩
 rw[Obj.data_mapFields db];simp[rawInt]
theorem Kh{c t:Addr}{i:Nat}{us:Array Value}{R:Value→Shared→Prop}(hn:B.handled=none)(hc:z.heap.IsTupleIter c t i)(ht:z.heap.IsTuple t us)(hu:us[i]? = none)
 (hF:∀ h' e,Heap.ExtBut c z.heap h'→(∃ o,h'.get? e=some o∧o.cls=.type "StopIteration")→F (.ref e) { z with heap:=h' }):wpAny (model P w) B (Builtin.SmallTypes.nextOf (.ref c)) R F z:=by
 obtain⟨ob,gb,cb,db⟩:=id hc
 obtain⟨ol,gl,_,nl,dl⟩:=ht
 unfold Builtin.SmallTypes.nextOf
 refine wpAny_bind (wpAny_callSpecial?_slot (name:=Str.ofString "__next__") hc.typeIs PySem.F.slot_tuple_iterator_next (wpAny_call_entry PySem.F.slot_tuple_iterator_next hc.typeIs PySem.F.entry_tuple_iterator_next ?_ (PySem.F.args_tuple_iterator_next_1 _)))
 show wpAny _ _ (field (.ref c) 0 >>= _) _ _ z
 refine wpAny_bind (wpAny_field gb db (x:=.ref t) rfl ?_)
 show wpAny _ _ (if (Value.ref t == Value.none)=true then _ else _) _ _ z
 rw[if_neg (fun q:(Value.ref t == Value.none)=true=>nomatch q)]
 show wpAny _ _ (field (.ref c) 1 >>= _) _ _ z
 refine wpAny_bind (wpAny_field gb db (x:=.int i 0) rfl ?_)
 show wpAny _ _ (seqItems? (.ref t) >>= _) _ _ z
 refine wpAny_bind (wpAny_seqItems gl dl ?_)
 simp only[Int.toNat_natCast,hu]
 refine wpAny_bind (wpAny_rule (wpAny_bind (wpAny_setField gb db (by simp) ?_)))
 show wpAny _ _ (newExc (.type "StopIteration") [] >>= _) _ _ _
 refine wpAny_bind ?_
 simp only[newExc,newTuple]
 refine wpAny_bind (wpAny_newObj_type ?_ (by size_fits))
 refine wpAny_bind (m:=firstArgMember _ _) (wpAny_of_eq (a:=Value.none) (by simp only[firstArgMember];rfl) (wpAny_newObj_type ?_ (by size_fits)))
 simp only[raiseNew]
 refine wpAny_bind (wpAny_handled ?_)
 first|rw[show B.in1.handled=none from hn]|rw[hn]
 exact wpAny_bind (wpAny_pure (wpAny_throw (hF _ _ (((Heap.SameBut.update ..).extBut.push _).push _) ⟨_,Heap.get?_push_size _ rfl,rfl⟩)))
end
def nm:Bool→String|true => "list" | false => "tuple"
def nmI:Bool→String|true => "list_iterator" | false => "tuple_iterator"
def Lq(k:Bool)(h:Heap)(l:Addr)(us:Array Value):Prop:=∃ o,h.get? l=some o∧o.cls=.type (nm k)∧∃ n,o.data=.seq us n
def Vq(k:Bool)(h:Heap)(c l:Addr)(i:Nat):Prop:=∃ o,h.get? c=some o∧o.cls=.type (nmI k)∧o.data=.fields #[.ref l,.int i 0]
theorem Lq.at{k:Bool}{h h':Heap}{l:Addr}{us:Array Value}(x:Lq k h l us)(f:∀ o,h.get? l=some o→h'.get? l=some o):Lq k h' l us:=let ⟨o,e,r⟩:=x;⟨o,f o e,r⟩
theorem Vq.at{k:Bool}{h h':Heap}{c l:Addr}{i:Nat}(x:Vq k h c l i)(f:∀ o,h.get? c=some o→h'.get? c=some o):Vq k h' c l i:=let ⟨o,e,r⟩:=x;⟨o,f o e,r⟩
theorem Vq.cell{k:Bool}{h:Heap}{c l:Addr}{i:Nat}(x:Vq k h c l i):∃ o,h.get? c=some o∧∀ v,o.data≠.cell v:=let ⟨o,e,_,d⟩:=x;⟨o,e,fun v q=>by rw[d] at q;cases q⟩
section
variable{P:Program}{w:World}{B:Around}{F:Value→Shared→Prop}{z:Shared}
theorem nx{k:Bool}{c t:Addr}{i:Nat}{us:Array Value}{u:Value}{R:Value→Shared→Prop}(hc:Vq k z.heap c t i)(ht:Lq k z.heap t us)(hu:us[i]? = some u)
 (hR:∀ h',Vq k h' c t (i+1)→Heap.SameBut c z.heap h'→R u { z with heap:=h' }):wpAny (model P w) B (Builtin.SmallTypes.nextOf (.ref c)) R F z:=by
 cases k
 ·exact Zo hc ht hu hR
 ·exact wpAny_nextOf_list_item hc ht hu hR
theorem Zq{k:Bool}{c t:Addr}{i:Nat}{us:Array Value}{R:Value→Shared→Prop}(hn:B.handled=none)(hc:Vq k z.heap c t i)(ht:Lq k z.heap t us)(hu:us[i]? = none)
 (hF:∀ h' e,Heap.ExtBut c z.heap h'→(∃ o,h'.get? e=some o∧o.cls=.type "StopIteration")→F (.ref e) { z with heap:=h' }):wpAny (model P w) B (Builtin.SmallTypes.nextOf (.ref c)) R F z:=by
 cases k
 ·exact Kh hn hc ht hu hF
 ·exact wpAny_nextOf_list_end hn hc ht hu hF
abbrev itO(k:Bool)(l:Addr):Obj:={ cls:=.type (nmI k),data:=.fields #[.ref l,.int 0 0] }
theorem X7{k:Bool}{l:Addr}{us:Array Value}{R:Value→Shared→Prop}(h:Lq k z.heap l us)(hR:R (.ref z.heap.objs.size) { z with heap:=z.heap.push (itO k l) }):wpAny (model P w) B (pyIter (.ref l)) R F z:=by
 cases k
 ·exact wpAny_pyIter_tuple h hR
 ·exact wpAny_pyIter_list h hR
end
end Zp
namespace Zp
open PySem PySem.Spec PyProof.Rows L2
variable[Tb:A.fQ]
structure Sr where
 k:Bool
 c:Addr
 l:Addr
 us:Array Value
def On(h:Heap)(i:Nat)(q:Sr):Prop:=Vq q.k h q.c q.l i∧Lq q.k h q.l q.us
theorem On.at{h h':Heap}{i:Nat}{q:Sr}(x:On h i q)(f:∀ b o,b=q.c∨b=q.l→h.get? b=some o→h'.get? b=some o):On h' i q :=
 ⟨x.1.at fun o e=>f _ o (.inl rfl) e,x.2.at fun o e=>f _ o (.inr rfl) e⟩
abbrev TupAt(h:Heap)(T:Addr)(vs:List Value):Prop:=h.get? T=some { cls:=.type "tuple", data:=.seq vs.toArray }
structure Ap(z TI TO:Addr)(L:List Sr):Prop where
 TIz:TI≠z
 TOz:TO≠z
 TITO:TI≠TO
 nd:(L.map (·.c)).Nodup
 c:∀ q∈L,q.c≠z∧q.c≠TI∧q.c≠TO
 l:∀ q∈L,q.l≠z∧q.l≠TO∧∀ r∈L,q.l≠r.c
theorem Cq{M:Model}{B:Around}{α β : Type}{b:β}{f:α→β→Sem (ForInStep β)}{E:Value→Shared→Prop}(I:Nat→Shared→Prop):∀ (xs:List α) (n:Nat) (s:Shared),
 (∀ j x,xs[j]? = some x→∀ s,I (n+j) s→wpAny M B (f x b) (fun r s'=>r=.yield b∧I (n+j+1) s') E s)→I n s→wpAny M B (forIn xs b f) (fun r s'=>r=b∧I (n+xs.length) s') E s
 | [],n,s,_,h=>by
  rw[List.forIn_nil];exact wpAny_pure ⟨rfl,h⟩
 | x::r,n,s,hs,h=>by
  rw[List.forIn_cons]
  refine wpAny_bind (wpAny_mono (hs 0 x rfl s h) (fun y s' hy=>?_) fun _ _ e=>e)
  obtain⟨rfl,hy⟩:=hy
  refine wpAny_mono (Cq I r (n+1) s' (fun j x' e s2 h2=>?_) hy) (fun y s2 h2=>⟨h2.1,?_⟩) fun _ _ e=>e
  ·rw[show n+1+j=n+(j+1) by omega] at h2 ⊢
   exact hs (j+1) x' (by simpa using e) s2 h2
  ·rw[List.length_cons,show n+(r.length+1)=n+1+r.length by omega];exact h2.2
section
variable{P:Program}{w:World}{B:Around}{F:Value→Shared→Prop}{s:Shared}
def Kp(z TO:Addr)(L:List Sr)(h h':Heap):Prop:=∀ b o,b≠z→b≠TO→b∉L.map (·.c)→h.get? b=some o→h'.get? b=some o
structure Mid(s:Shared)(z TI TO:Addr)(L:List Sr)(i n:Nat)(s':Shared):Prop where
 zz:IsZip s'.heap z TI TO .ellipsis
 vs:∃ vs:List Value,vs.length=L.length∧TupAt s'.heap TO vs∧∀ (j:Nat) (q:Sr),j < n→L[j]? = some q→vs[j]? = q.us[i]?∧i < q.us.size
 on:∀ (j:Nat) (q:Sr),L[j]? = some q→On s'.heap (if j < n then i+1 else i) q
 sz:s'.heap.objs.size=s.heap.objs.size
 kp:Kp z TO L s.heap s'.heap
 eq:s'={ s with heap:=s'.heap }
theorem abD{L:List Sr}(h:(L.map (·.c)).Nodup){i j:Nat}{p q:Sr}(hp:L[i]? = some p)(hq:L[j]? = some q)(hij:i≠j):p.c≠q.c:=by
 intro e
 have h1:(L.map (·.c))[i]? = some p.c:=by rw[List.getElem?_map,hp];rfl
 have h2:(L.map (·.c))[j]? = some q.c:=by rw[List.getElem?_map,hq];rfl
 obtain⟨l1,g1⟩:=List.getElem?_eq_some_iff.mp h1
 obtain⟨l2,g2⟩:=List.getElem?_eq_some_iff.mp h2
 exact hij ((List.getElem_inj h).mp (by rw[g1,g2,e]))
theorem G4{z TI TO:Addr}{L:List Sr}{i:Nat}{vs:List Value}{R:Value→Shared→Prop}(hh:B.handled=none)(D:Ap z TI TO L)(h0:L≠[])
 (hz:IsZip s.heap z TI TO .none) (hI:TupAt s.heap TI (L.map fun q=>.ref q.c)) (hO:TupAt s.heap TO vs) (hl:vs.length=L.length) (hL:L.length≤8) (hon:∀ q∈L,On s.heap i q)
 (hR:∀ (h':Heap) (ws:List Value),IsZip h' z TI TO (rawInt s.heap.objs.size)→ws.length=L.length→(∀ (j:Nat) (q:Sr),L[j]? = some q→ws[j]? = q.us[i]?∧i < q.us.size)→TupAt h' TO ws→TupAt h' s.heap.objs.size ws→(∀ q∈L,On h' (i+1) q) →
  Kp z TO L s.heap h'→R (.ref s.heap.objs.size) { s with heap:=h' })
 (hF:∀ (h':Heap) (e:Addr),Kp z TO L s.heap h'→(∃ o,h'.get? e=some o∧o.cls=.type "StopIteration")→(∃ q∈L,q.us.size≤i)→F (.ref e) { s with heap:=h' }) :
 wpAny (model P w) B (Builtin.«zip.__next__» ⟨[.ref z],[]⟩) (fun fin s'=>∃ v,fin=.done (.ret v)∧R v s') F s:=by
 show wpAny _ _ (field (.ref z) 2 >>= _) _ _ _
 refine wpAny_bind (wpAny_field hz rfl (x:=.bool false) rfl ?_)
 show wpAny _ _ (field (.ref z) 3 >>= _) _ _ _
 refine wpAny_bind (wpAny_field hz rfl (x:=.ref TI) rfl ?_)
 refine wpAny_bind (wpAny_seqItems hI rfl ?_)
 have hne:((L.map fun q=>Value.ref q.c).toArray.isEmpty)=false:=by cases L with|nil=>exact absurd rfl h0|cons q r=>rfl
 simp only[hne,Bool.false_eq_true,if_false]
 show wpAny _ _ (Builtin.SmallTypes.ownedTupleIsFree (.ref z) >>= _) _ _ _
 refine wpAny_bind ?_
 unfold Builtin.SmallTypes.ownedTupleIsFree
 refine wpAny_bind (wpAny_field hz rfl (x:=.none) rfl (wpAny_pure ?_))
 simp only[if_true]
 refine wpAny_bind (wpAny_rule (wpAny_bind (wpAny_field hz rfl (x:=.ref TO) rfl (wpAny_bind (wpAny_setField_rec hz (by simp) fun h1 hz1 hs1=>?_)))))
 replace hz1:IsZip h1 z TI TO .ellipsis:=hz1
 have M0:Mid s z TI TO L i 0 { s with heap:=h1 }:=⟨hz1,⟨vs,hl,hs1.extBut _ _ D.TOz hO,fun j q h _=>absurd h (Nat.not_lt_zero _)⟩,fun j q e=>(hon q (List.mem_of_getElem? e)).at fun b o hb x=>by
  have hq:=List.mem_of_getElem? e
  rcases hb with rfl|rfl
  ·exact hs1.extBut _ _ (D.c q hq).1 x
  ·exact hs1.extBut _ _ (D.l q hq).1 x,hs1.1,fun b o b1 _ _ x=>hs1.extBut _ _ b1 x,rfl⟩
 refine wpAny_bind (wpAny_mono (Cq (Mid s z TI TO L i) _ 0 _ ?_ M0) ?_ fun _ _ e=>e)
 ·intro j x e s2 M
  rw[Nat.zero_add] at M ⊢
  obtain⟨q,hq,rfl⟩ : ∃ q,L[j]? = some q∧x=(Value.ref q.c,j):=by
   simp only[List.getElem?_zipIdx,List.getElem?_map,Option.map_map] at e
   obtain⟨q,hq,e⟩:=Option.map_eq_some_iff.mp e
   exact⟨q,hq,by rw[← e];simp⟩
  have hqm:=List.mem_of_getElem? hq
  have jlt:j < L.length:=(List.getElem?_eq_some_iff.mp hq).1
  have onq:=M.on j q hq
  rw[if_neg (Nat.lt_irrefl j)] at onq
  obtain⟨ws,wl,wO,wv⟩:=M.vs
  refine wpAny_bind (wpAny_onRaise ?_)
  show wpAny _ _ (Builtin.SmallTypes.nextOf (.ref q.c) >>= _) _ _ _
  cases hu:q.us[i]? with
  | none =>
   refine wpAny_bind (Zq hh onq.1 onq.2 hu fun h3 e2 x3 he=>?_)
   obtain⟨oe,goe,coe⟩:=he
   have hz3:IsZip h3 z TI TO .ellipsis:=x3 _ _ (D.c q hqm).1.symm M.zz
   have hez:e2≠z:=fun y=>by subst y;rw[hz3] at goe;cases goe;simp at coe
   refine wpAny_setField_rec hz3 (by simp) fun h4 _ x4=>?_
   rw[M.eq]
   exact hF h4 e2 (fun b o b1 b2 b3 y=>x4.extBut _ _ b1 (x3 _ _ (fun q'=>b3 (by rw[q'];exact List.mem_map_of_mem hqm)) (M.kp b o b1 b2 b3 y))) ⟨oe,x4.extBut _ _ hez goe,coe⟩ ⟨q,hqm,by simpa using hu⟩
  | some u =>
   refine wpAny_bind (nx onq.1 onq.2 hu fun h3 a3 x3=>wpAny_pure ?_)
   have hO3:TupAt h3 TO ws:=x3.extBut _ _ (D.c q hqm).2.2.symm wO
   refine wpAny_bind (wpAny_seqItems hO3 rfl (wpAny_bind (wpAny_updateSeq hO3 rfl ?_ (by rw[List.size_toArray,wl,sizeLine_eq];omega) (by simp only[Array.size_setIfInBounds,List.size_toArray];rw[wl,sizeLine_eq];omega))))
   refine wpAny_bind (wpAny_letGo (wpAny_pure ⟨rfl,?_⟩))
   have x4:Heap.SameBut TO h3 (h3.update TO (Obj.mapSeq (·.setIfInBounds j u))):=Heap.SameBut.update ..
   have hu':i < q.us.size:=(Array.getElem?_eq_some_iff.mp hu).1
   have up:∀ b o,b≠q.c→b≠TO→s2.heap.get? b=some o→(h3.update TO (Obj.mapSeq (·.setIfInBounds j u))).get? b=some o:=fun b o b1 b2 y=>x4.extBut _ _ b2 (x3.extBut _ _ b1 y)
   refine⟨up _ _ (D.c q hqm).1.symm D.TOz.symm M.zz,⟨ws.set j u,by rw[List.length_set];exact wl,?_,fun k r hk hr=>?_⟩,fun k r hr=>?_,?_,fun b o b1 b2 b3 y=>up b o (fun q'=>b3 (by rw[q'];exact List.mem_map_of_mem hqm)) b2 (M.kp b o b1 b2 b3 y),?_⟩
   ·show (h3.update TO _).get? TO=_
    rw[Heap.get?_update_self _ hO3 rfl]
    simp[Obj.mapSeq]
   ·by_cases hkj:k=j
    ·subst hkj
     rw[hq] at hr;cases hr
     rw[List.getElem?_set,if_pos rfl,if_pos (by omega),hu]
     exact⟨rfl,hu'⟩
    ·rw[List.getElem?_set,if_neg (fun q=>hkj q.symm)]
     exact wv k r (by omega) hr
   ·have hrm:=List.mem_of_getElem? hr
    by_cases hkj:k=j
    ·subst hkj
     rw[hq] at hr;cases hr
     rw[if_pos (Nat.lt_succ_self _)]
     exact⟨a3.at fun o y=>x4.extBut _ _ (D.c q hqm).2.2 y,onq.2.at fun o y=>up _ o ((D.l q hqm).2.2 q hqm) (D.l q hqm).2.1 y⟩
    ·have:=M.on k r hr
     rw[show (if k < j then i+1 else i)=(if k < j+1 then i+1 else i) from by
      by_cases h:k < j
      ·rw[if_pos h,if_pos (by omega)]
      ·rw[if_neg h,if_neg (by omega)]] at this
     exact this.at fun b o hb y=>by
      rcases hb with rfl|rfl
      ·exact up _ _ (abD D.nd hr hq hkj) (D.c r hrm).2.2 y
      ·exact up _ _ ((D.l r hrm).2.2 q hqm) (D.l r hrm).2.1 y
   ·show (h3.update TO _).objs.size=_
    rw[x4.1,x3.1,M.sz]
   ·rw[M.eq]
 ·rintro r s2 ⟨rfl,M⟩
  have hL2:0+((L.map fun q=>Value.ref q.c).toArray.toList.zipIdx).length=L.length:=by simp
  rw[hL2] at M
  obtain⟨ws,wl,wO,wv⟩:=M.vs
  refine wpAny_bind (wpAny_seqItems wO rfl (wpAny_bind (wpAny_newTuple ?_ (by show ws.length≤_;rw[wl,sizeLine_eq];omega))))
  show wpAny _ _ (Builtin.SmallTypes.ownedTupleHandOut (.ref z) (.ref s2.heap.objs.size) >>= _) _ _ _
  refine wpAny_bind ?_
  unfold Builtin.SmallTypes.ownedTupleHandOut
  have hz6:IsZip (s2.heap.push { cls:=.type "tuple", data:=.seq ws.toArray }) z TI TO .ellipsis:=Heap.get?_push_of_some _ M.zz
  refine wpAny_bind (wpAny_setField_rec hz6 (by simp) fun h7 hz7 x7=>?_)
  replace hz7:IsZip h7 z TI TO (rawInt s2.heap.objs.size):=hz7
  refine wpAny_setField_rec hz7 (by simp) fun h8 hz8 x8=>?_
  replace hz8:IsZip h8 z TI TO (rawInt s2.heap.objs.size):=hz8
  have up:∀ b o,b≠z→s2.heap.get? b=some o→h8.get? b=some o:=fun b o b1 y=>x8.extBut _ _ b1 (x7.extBut _ _ b1 (Heap.get?_push_of_some _ y))
  have hzl:z < s2.heap.objs.size:=Heap.lt_size M.zz
  have hT8:TupAt h8 s2.heap.objs.size ws:=x8.extBut _ _ (Nat.ne_of_gt hzl) (x7.extBut _ _ (Nat.ne_of_gt hzl) (Heap.get?_push_size _ rfl))
  refine wpAny_pure ⟨_,rfl,?_⟩
  show R (.ref s2.heap.objs.size) _
  rw[M.sz] at hz8 hT8 ⊢
  have e:=M.eq
  rw[e]
  exact hR h8 ws hz8 wl (fun j q hq=>wv j q (List.getElem?_eq_some_iff.mp hq).1 hq) (up _ _ D.TOz wO) hT8 (fun q hq=>by
   obtain⟨j,hj⟩:=List.getElem?_of_mem hq
   have:=M.on j q hj
   rw[if_pos (List.getElem?_eq_some_iff.mp hj).1] at this
   exact this.at fun b o hb y=>by
    rcases hb with rfl|rfl
    ·exact up _ _ (D.c q hq).1 y
    ·exact up _ _ (D.l q hq).1 y) fun b o b1 b2 b3 y=>up b o b1 (M.kp b o b1 b2 b3 y)
end
end Zp
namespace Zp
open PySem PySem.Spec PyProof.Rows L2
variable[Tb:A.fQ]
section
variable{P:Program}{w:World}{B:Around}{F':Value→Shared→Prop}{s:Shared}
abbrev zO(TI TO:Addr):Obj:={ cls:=.type "zip", data:=.fields #[.none,.bool false,.bool false,.ref TI,.ref TO] }
abbrev tO(vs:List Value):Obj:={ cls:=.type "tuple", data:=.seq vs.toArray }
theorem mk2(k1 k2:Bool)(l1 l2:Addr)(xs ys:Array Value) :
 Meets (Builtin.«zip.__new__» ⟨[.type "zip", .ref l1,.ref l2],[]⟩) (fun _ R s=>Lq k1 s.heap l1 xs∧Lq k2 s.heap l2 ys ∧
  ∀ h1 h2 h3 h4:Heap,h1=s.heap.push (itO k1 l1)→h2=h1.push (itO k2 l2)→h3=h2.push (tO [.ref s.heap.objs.size,.ref h1.objs.size])→h4=h3.push (tO [.none,.none]) →
  R (.ok (.ret (.ref h4.objs.size))) { s with heap:=h4.push (zO h2.objs.size h3.objs.size) }) :=
 .of_wp fun prog w A R s h=>by
  obtain⟨hp,g,d,tk,os⟩:=s;obtain⟨a1,a2,h⟩:=h
  have hsub:=sub_zip
  have b1:Lq k1 (Shared.heap ⟨hp,g,d,tk,os⟩) l1 xs:=a1
  have b2:Lq k2 (Shared.heap ⟨hp.push (itO k1 l1),g,d,tk,os⟩) l2 ys:=a2.at fun o e=>Heap.get?_push_of_some _ e
  wp_walk using X7 b1,X7 b2
  exact⟨_,rfl,h _ _ _ _ rfl rfl rfl rfl⟩
abbrev Tr:=Bool×Addr×Addr
structure Zs(h:Heap)(z TI TO:Addr)(T:List Tr)(i:Nat):Prop where
 zz:IsZip h z TI TO .none
 ti:TupAt h TI (T.map fun q=>.ref q.2.1)
 to:∃ vs:List Value,vs.length=T.length∧TupAt h TO vs
 it:∀ q∈T,Vq q.1 h q.2.1 q.2.2 i
theorem call2{k1 k2:Bool}{l1 l2:Addr}{xs ys:Array Value}{R:Value→Shared→Prop}(a1:Lq k1 s.heap l1 xs)(a2:Lq k2 s.heap l2 ys)
 (h:∀ h',Zs h' (s.heap.objs.size+4) (s.heap.objs.size+2) (s.heap.objs.size+3) [(k1,s.heap.objs.size,l1),(k2,s.heap.objs.size+1,l2)] 0→(∀ c o,s.heap.get? c=some o→h'.get? c=some o) →
  R (.ref (s.heap.objs.size+4)) { s with heap:=h' }):wpAny (model P w) B (call (.type "zip") [.ref l1,.ref l2]) R F' s:=by
 refine callType_new F.called_zip (by decide) (F.typeCall_zip_2 _ _) (F.newCall_zip_2 _ _) (fun obj=>F.args_object_init_3 obj _ _) F.entry_zip_new (mk2 k1 k2 l1 l2 xs ys) ⟨a1,a2,?_⟩
 intro h1 h2 h3 h4 e1 e2 e3 e4
 have z1:h1.objs.size=s.heap.objs.size+1:=by rw[e1];exact Heap.size_push ..
 have z2:h2.objs.size=s.heap.objs.size+2:=by rw[e2,Heap.size_push,z1]
 have z3:h3.objs.size=s.heap.objs.size+3:=by rw[e3,Heap.size_push,z2]
 have z4:h4.objs.size=s.heap.objs.size+4:=by rw[e4,Heap.size_push,z3]
 have p1:∀ c o,s.heap.get? c=some o→h1.get? c=some o:=fun c o x=>by rw[e1];exact Heap.get?_push_of_some _ x
 have p2:∀ c o,h1.get? c=some o→h2.get? c=some o:=fun c o x=>by rw[e2];exact Heap.get?_push_of_some _ x
 have p3:∀ c o,h2.get? c=some o→h3.get? c=some o:=fun c o x=>by rw[e3];exact Heap.get?_push_of_some _ x
 have p4:∀ c o,h3.get? c=some o→h4.get? c=some o:=fun c o x=>by rw[e4];exact Heap.get?_push_of_some _ x
 have p5:∀ c o,h4.get? c=some o→(h4.push (zO h2.objs.size h3.objs.size)).get? c=some o:=fun c o x=>Heap.get?_push_of_some _ x
 have g1:h1.get? s.heap.objs.size=some (itO k1 l1):=by rw[e1];exact Heap.get?_push_size _ rfl
 have g2:h2.get? h1.objs.size=some (itO k2 l2):=by rw[e2];exact Heap.get?_push_size _ rfl
 have g3:h3.get? h2.objs.size=some (tO [.ref s.heap.objs.size,.ref h1.objs.size]):=by rw[e3];exact Heap.get?_push_size _ rfl
 have g4:h4.get? h3.objs.size=some (tO [.none,.none]):=by rw[e4];exact Heap.get?_push_size _ rfl
 have g5:(h4.push (zO h2.objs.size h3.objs.size)).get? h4.objs.size=some (zO h2.objs.size h3.objs.size):=Heap.get?_push_size _ rfl
 show _∧_
 refine⟨⟨_,g5,rfl⟩,?_⟩
 rw[z1] at g2 g3
 rw[z2] at g3
 rw[z3] at g4
 rw[z4] at g5 ⊢
 rw[z2,z3] at g5 p5 ⊢
 exact h _ ⟨g5,p5 _ _ (p4 _ _ g3),⟨_,rfl,p5 _ _ g4⟩,fun q hq=>by
  rcases List.mem_cons.mp hq with rfl|hq
  ·exact⟨_,p5 _ _ (p4 _ _ (p3 _ _ (p2 _ _ g1))),rfl,rfl⟩
  ·obtain rfl:=List.mem_singleton.mp hq
   exact⟨_,p5 _ _ (p4 _ _ (p3 _ _ g2)),rfl,rfl⟩⟩ fun c o x=>p5 _ _ (p4 _ _ (p3 _ _ (p2 _ _ (p1 _ _ x))))
end
end Zp
namespace Zp
open PySem PySem.Spec PyProof.Rows L2 A
variable[Tb:A.fQ]
def Qy(H:Hp)(s:Bool×Addr)(xs:List V):Prop:=match s.1 with
 | true=>Lst H s.2 xs
 | false=>H s.2=some (.tup xs)
theorem Qy.nn{H:Hp}{s:Bool×Addr}{xs:List V}(h:Qy H s xs):H s.2≠none:=by
 obtain⟨k,a⟩:=s
 cases k
 ·have h:H a=_:=h
  show H a≠none
  rw[h];simp
 ·rcases (show Lst H a xs from h) with h|⟨o,h⟩
  ·show H a≠none
   rw[h];simp
  ·show H a≠none
   rw[h];simp
theorem Qy.inj{H:Hp}{s:Bool×Addr}{xs ys:List V}(h:Qy H s xs)(h':Qy H s ys):xs=ys:=by
 obtain⟨k,a⟩:=s
 cases k
 ·have h:H a=some (.tup xs):=h
  have h':H a=some (.tup ys):=h'
  rw[h] at h';cases h';rfl
 ·rcases (show Lst H a xs from h) with h|⟨o,h⟩<;>rcases (show Lst H a ys from h') with h'|⟨o',h'⟩<;>rw[h] at h'<;>cases h'<;>rfl
theorem Qy.at{X:Cx}{pins:List (Addr×Obj)}{σ : L2.St}{H:Hp}{s:Shared}{k:Bool}{a:Addr}{xs:List V}(I:Inv X pins σ H s)(h:Qy H (k,a) xs):∃ its:List Value,Vals xs its∧Lq k s.heap a its.toArray:=by
 cases k
 ·have h:H a=some (.tup xs):=h
  obtain⟨_,its,rv,o,e,c,_,d⟩:=I.hok a _ h
  exact⟨its,rv,o,e,c,d⟩
 ·have h:Lst H a xs:=h
  obtain⟨its,rv,⟨o,n,e,c,_,d⟩,_⟩:=I.list h.sq
  exact⟨its,rv,o,e,c,n,d⟩
abbrev yz(H:Hp)(S:List (Bool×Addr))(xss:List (List V)):Prop:=P2 (fun s xs=>Qy H s xs) S xss
def Itz(S:List (Bool×Addr)):It :=
 ⟨fun i H => ∃ xss, yz H S xss ∧ ∀ xs ∈ xss, i < xs.length,
  fun i H v H'=>∃ p ws,(∀ xss,yz H S xss→P2 (fun (xs:List V) x=>xs[i]? = some x) xss ws)∧H p=none∧v=.ref p∧H'=upd H p (.tup ws),
  fun i H=>∃ xss,yz H S xss∧∃ xs∈xss,xs.length≤i⟩
theorem Hi{H:Hp}:∀ {S:List (Bool×Addr)} {xss yss:List (List V)},yz H S xss→yz H S yss→xss=yss
 | _,_,_,.nil,.nil=>rfl
 | _,_,_,.cons a r,.cons b t=>by rw[a.inj b,Hi r t]
theorem lie{X:Cx}{pins:List (Addr×Obj)}{σ : L2.St}{H:Hp}{s:Shared}(I:Inv X pins σ H s):∀ {T:List Tr} {xss:List (List V)},yz H (T.map fun q=>(q.1,q.2.2)) xss →
 ∃ L:List Sr,L.map (fun q=>(q.k,q.c,q.l))=T∧(∀ q∈L,Lq q.k s.heap q.l q.us∧H q.l≠none)∧P2 (fun (q:Sr) xs=>Vals xs q.us.toList) L xss
 | [],_,.nil=>⟨[],rfl,fun q h=>absurd h (by simp),.nil⟩
 | (k,c,l)::T,_,.cons a r=>by
  obtain⟨L,e,h,p⟩:=lie I r
  obtain⟨its,rv,q⟩:=a.at I
  refine⟨⟨k,c,l,its.toArray⟩::L,by rw[List.map_cons,e],fun y hy=>?_,.cons rv p⟩
  rcases List.mem_cons.mp hy with rfl|hy
  ·exact⟨q,a.nn⟩
  ·exact h y hy
theorem pick{i:Nat}:∀ {L:List Sr} {xss:List (List V)} {ws:List Value},P2 (fun (q:Sr) xs=>Vals xs q.us.toList) L xss→ws.length=L.length→(∀ (j:Nat) (q:Sr),L[j]? = some q→ws[j]? = q.us[i]?∧i < q.us.size) →
 ∃ vws:List V,Vals vws ws∧P2 (fun (xs:List V) x=>xs[i]? = some x) xss vws
 | _,_,[],.nil,_,_=>⟨[],.nil,.nil⟩
 | _,_,w::ws,.cons (a:=q) (b:=xs) rv t,hl,h=>by
  obtain⟨vws,r,p⟩:=pick t (by simpa using hl) fun j r hr=>by simpa using h (j+1) r (by simpa using hr)
  obtain⟨e,hi⟩:=h 0 q rfl
  have hlen:=rv.length
  have hix:i < xs.length:=by simp at hlen;omega
  obtain⟨u,hu,ru⟩:=rv.get (i:=i) (x:=xs[i]) (by simp[hix])
  have:some w=some u:=by
   have e':some w=q.us[i]?:=e
   rw[e',← hu];simp
  cases this
  exact⟨xs[i]::vws,.cons ru r,.cons (by simp[hix]) p⟩
 | _,_,[],.cons _ _,hl,_=>by simp at hl
 | _,_,w::ws,.nil,hl,_=>by simp at hl
structure Ap0(z TI TO:Addr)(T:List Tr):Prop where
 TIz:TI≠z
 TOz:TO≠z
 TITO:TI≠TO
 nd:(T.map (·.2.1)).Nodup
 c:∀ q∈T,q.2.1≠z∧q.2.1≠TI∧q.2.1≠TO
theorem QR{P:Program}{w:World}{K:PySem.W.Frag}{elts:List Expr}{k1:Nat}{pos:Pos}{z TI TO:Addr}{T:List Tr}(D0:Ap0 z TI TO T)(hT0:T≠[])(hT8:T.length≤8) :
 Turn P w K (.Tuple elts k1 pos) (Itz (T.map fun q=>(q.1,q.2.2))) (z::TI::TO::T.map (·.2.1)) z (fun i h=>Zs h z TI TO T i) where
 mem:=by simp
 obj:=fun i h st b hb=>by
  rcases List.mem_cons.mp hb with rfl|hb
  ·exact⟨_,st.zz,fun v q=>by cases q⟩
  rcases List.mem_cons.mp hb with rfl|hb
  ·exact⟨_,st.ti,fun v q=>by cases q⟩
  rcases List.mem_cons.mp hb with rfl|hb
  ·obtain⟨vs,_,h⟩:=st.to
   exact⟨_,h,fun v q=>by cases q⟩
  ·obtain⟨q,hq,rfl⟩:=List.mem_map.mp hb
   exact(st.it q hq).cell
 keep:=fun i h h' st kk=>⟨kk z (by simp) _ st.zz,kk TI (by simp) _ st.ti,let ⟨vs,l,e⟩:=st.to;⟨vs,l,kk TO (by simp) _ e⟩,fun q hq=>(st.it q hq).at fun o e=>kk _ (by simp only[List.mem_cons];exact .inr (.inr (.inr (List.mem_map_of_mem (f:=fun q:Tr=>q.2.1) hq)))) o e⟩
 item:=by
  intro X hP hw hK hc i pins s σ H E I hf st hg
  subst hP hw hK
  obtain⟨xss,hq,hx⟩:=hg
  obtain⟨L,eL,at_,rL⟩:=lie I hq
  have eT:T.map (fun q=>(Value.ref q.2.1))=L.map fun q=>.ref q.c:=by rw[← eL,List.map_map];rfl
  have eC:T.map (fun q=>q.2.1)=L.map fun q=>q.c:=by rw[← eL,List.map_map];rfl
  have lT:T.length=L.length:=by rw[← eL,List.length_map]
  have inT:∀ q∈L,(q.k,q.c,q.l)∈T:=fun q h=>by rw[← eL];exact List.mem_map_of_mem (f:=fun q:Sr=>(q.k,q.c,q.l)) h
  have lne:∀ q∈L,∀ b∈z::TI::TO::T.map (·.2.1),q.l≠b:=fun q h b hb e=>(at_ q h).2 (by rw[e];exact(hf b hb).1)
  have D:Ap z TI TO L:=⟨D0.TIz,D0.TOz,D0.TITO,by rw[← eC];exact D0.nd,fun q h=>D0.c _ (inT q h),fun q h=>⟨lne q h z (by simp),lne q h TO (by simp),fun r hr=>lne q h r.c (by rw[eC];simp only[List.mem_cons];exact .inr (.inr (.inr (List.mem_map_of_mem (f:=fun q:Sr=>q.c) hr))))⟩⟩
  have hO:=st.to
  obtain⟨vs,vl,hO⟩:=hO
  have hTI:=st.ti
  rw[eT] at hTI
  have hty:s.TypeIs (.ref z) "zip" := ⟨_,st.zz,rfl⟩
  unfold pyNext
  refine wpAny_bind (wpAny_attempt (wpAny_callSpecial?_slot (name:=Str.ofString "__next__") hty F.slot_zip_next (wpAny_call_entry F.slot_zip_next hty F.entry_zip_next
   (G4 (by first|exact I.ok.hd hc|(simp;exact I.ok.hd hc)) D (fun e=>hT0 (by rw[e] at lT;exact List.eq_nil_of_length_eq_zero lT)) st.zz hTI hO (by rw[vl,lT]) (by omega) (fun q h=>⟨st.it _ (inT q h),(at_ q h).1⟩) (fun h' ws hz' wl wv hO' hN on' kp=>wpAny_pure ?_) (fun h' e kp he hend=>?_)) (F.args_zip_next_1 _))))
  ·refine⟨_,rfl,wpAny_letOwnedTupleGo_zip hz' fun h2 hz2 hs2=>?_⟩
   have kk:∀ b o,b∉z::TI::TO::T.map (·.2.1)→s.heap.get? b=some o→h2.get? b=some o:=fun b o hb q=>by
    simp only[List.mem_cons,not_or] at hb
    exact(hs2.2 b hb.1).trans (kp b o hb.1 hb.2.2.1 (by rw[← eC];exact hb.2.2.2) q)
   have hne:∀ b∈z::TI::TO::T.map (·.2.1),b≠s.heap.objs.size:=fun b hb e=>by
    obtain⟨o,ho,_⟩ : ∃ o,s.heap.get? b=some o∧True:=by
     rcases List.mem_cons.mp hb with rfl|hb
     ·exact⟨_,st.zz,trivial⟩
     rcases List.mem_cons.mp hb with rfl|hb
     ·exact⟨_,st.ti,trivial⟩
     rcases List.mem_cons.mp hb with rfl|hb
     ·exact⟨_,hO,trivial⟩
     ·obtain⟨q,hq,rfl⟩:=List.mem_map.mp hb
      obtain⟨o,ho,_⟩:=st.it q hq
      exact⟨o,ho,trivial⟩
    exact absurd (Heap.lt_size ho) (by rw[e];exact Nat.lt_irrefl _)
   obtain⟨vws,hv,hy⟩ : ∃ vws:List V,Vals vws ws∧P2 (fun (xs:List V) x=>xs[i]? = some x) xss vws:=by
    exact pick rL wl wv
   have hN2:TupAt h2 s.heap.objs.size ws:=(hs2.2 _ (fun e=>hne z (by simp) e.symm)).trans hN
   refine⟨.ref s.heap.objs.size,upd H s.heap.objs.size (.tup vws),zf (s:=s) (t':=s.toks) I hf kk (Nat.le_refl _) ⟨?_,ws,hv,⟨_,hN2,rfl,rfl,_,rfl⟩⟩,rfl,⟨_,vws,fun yss h=>by rw[Hi h hq];exact hy,I.hok.fresh (Nat.le_refl _),rfl,rfl⟩,?_,fun b hb=>?_⟩
   ·rw[hv.length,wl,sizeLine_eq];omega
   ·refine⟨hz2,(hs2.2 _ D0.TIz).trans ?_,⟨ws,by rw[wl,lT],(hs2.2 _ D0.TOz).trans hO'⟩,fun q hq2=>?_⟩
    ·exact kp _ _ D0.TIz D0.TITO (fun h=>by
      rw[← eC] at h
      obtain⟨q,hq2,e⟩:=List.mem_map.mp h
      exact(D0.c q hq2).2.1 e) st.ti
    ·rw[← eL] at hq2
     obtain⟨r,hr,rfl⟩:=List.mem_map.mp hq2
     exact(on' r hr).1.at fun o q=>(hs2.2 _ (D.c r hr).1).trans q
   ·rw[aJ (hne b hb)];exact(hf b hb).1
  ·exfalso
   obtain⟨q,hqm,hle⟩:=hend
   obtain⟨j,hj⟩:=List.getElem?_of_mem hqm
   obtain⟨xs,hxs,rv⟩:=rL.getL hj
   have:=hx xs (List.mem_of_getElem? hxs)
   have:=rv.length
   simp at this
   omega
 done:=by
  intro X hP hw hK hc i pins s σ H E I hf st hg
  subst hP hw hK
  obtain⟨xss,hq,xs0,hx0,hxl⟩:=hg
  obtain⟨L,eL,at_,rL⟩:=lie I hq
  have eT:T.map (fun q=>(Value.ref q.2.1))=L.map fun q=>.ref q.c:=by rw[← eL,List.map_map];rfl
  have eC:T.map (fun q=>q.2.1)=L.map fun q=>q.c:=by rw[← eL,List.map_map];rfl
  have lT:T.length=L.length:=by rw[← eL,List.length_map]
  have inT:∀ q∈L,(q.k,q.c,q.l)∈T:=fun q h=>by rw[← eL];exact List.mem_map_of_mem (f:=fun q:Sr=>(q.k,q.c,q.l)) h
  have lne:∀ q∈L,∀ b∈z::TI::TO::T.map (·.2.1),q.l≠b:=fun q h b hb e=>(at_ q h).2 (by rw[e];exact(hf b hb).1)
  have D:Ap z TI TO L:=⟨D0.TIz,D0.TOz,D0.TITO,by rw[← eC];exact D0.nd,fun q h=>D0.c _ (inT q h),fun q h=>⟨lne q h z (by simp),lne q h TO (by simp),fun r hr=>lne q h r.c (by rw[eC];simp only[List.mem_cons];exact .inr (.inr (.inr (List.mem_map_of_mem (f:=fun q:Sr=>q.c) hr))))⟩⟩
  have hO:=st.to
  obtain⟨vs,vl,hO⟩:=hO
  have hTI:=st.ti
  rw[eT] at hTI
  have hty:s.TypeIs (.ref z) "zip" := ⟨_,st.zz,rfl⟩
  unfold pyNext
  refine wpAny_bind (wpAny_attempt (wpAny_callSpecial?_slot (name:=Str.ofString "__next__") hty F.slot_zip_next (wpAny_call_entry F.slot_zip_next hty F.entry_zip_next
   (G4 (by first|exact I.ok.hd hc|(simp;exact I.ok.hd hc)) D (fun e=>hT0 (by rw[e] at lT;exact List.eq_nil_of_length_eq_zero lT)) st.zz hTI hO (by rw[vl,lT]) (by omega) (fun q h=>⟨st.it _ (inT q h),(at_ q h).1⟩) (fun h' ws hz' wl wv hO' hN on' kp=>?_) (fun h' e kp he hend=>?_)) (F.args_zip_next_1 _))))
  ·exfalso
   obtain⟨j,hj⟩:=List.getElem?_of_mem hx0
   obtain⟨q,hqj,rv⟩:=rL.abY hj
   have:=(wv j q hqj).2
   have:=rv.length
   simp at this
   omega
  ·obtain⟨o,ho,hcl⟩:=he
   refine wpAny_bind (wpAny_isInstance (T := "StopIteration") (b:=true) ⟨o,ho,hcl⟩ isSubtype_stop (wpAny_pure ⟨rfl,?_⟩))
   exact uC (s:=s) (t':=s.toks) I hf fun b o hb q=>by
    simp only[List.mem_cons,not_or] at hb
    exact kp b o hb.1 hb.2.2.1 (by rw[← eC];exact hb.2.2.2) q
 self:=fun _ i s Q E st h=>wpAny_pyIter_zip st.zz h
end Zp
namespace Mi
def Gb:D→Rs (List D)
 | .lst ds=>.ok ds
 | .tup ds=>.ok ds
 | _=>.no
def KH(a b:E):I:=fun e=>(a e).bind fun x=>(b e).bind fun y=>(Gb x).bind fun ds=>(Gb y).bind fun es=>.ok (pJ ds es)
end Mi
namespace Zp
open PySem PySem.Spec PyProof.Rows L2 A
open Mi (D W Rs Fin aq)
variable[Tb:A.fQ]
theorem Qy.same{H H':Hp}{s:Bool×Addr}{xs:List V}(h:gH H H')(q:Qy H s xs):Qy H' s xs:=by
 obtain⟨k,a⟩:=s
 cases k
 ·exact h _ _ q
 ·exact Lst.same (a:=a) h q
theorem oV{H H':Hp}{S:List (Bool×Addr)}{xss:List (List V)}(h:gH H H')(q:yz H S xss):yz H' S xss:=q.imp fun _ _ x=>x.same h
def acj(dss:List (List D))(dz:List D):Prop:=(∀ i,i < dz.length→∃ us,dz[i]? = some (.tup us)∧P2 (fun (ds:List D) u=>ds[i]? = some u) dss us)∧∃ ds∈dss,ds.length=dz.length
theorem picks{Hv:Hp}{i:Nat}:∀ {dss:List (List D)} {xss:List (List V)} {us:List D} {ws:List V},P2 (P2 (Rep Hv)) dss xss→P2 (fun (ds:List D) u=>ds[i]? = some u) dss us→P2 (fun (xs:List V) x=>xs[i]? = some x) xss ws→P2 (Rep Hv) us ws
 | _,_,_,_,.nil,.nil,.nil=>.nil
 | _,_,_,_,.cons a r,.cons b s,.cons c t=>.cons (a.get b c) (picks r s t)
theorem RX{α β : Type}{F:α→β→Prop}:∀ {l:List α} {m:List β} {b:β},P2 F l m→b∈m→∃ a∈l,F a b
 | _,_,_,.cons x t,h=>by
  rcases List.mem_cons.mp h with rfl|h
  ·exact⟨_,List.mem_cons_self ..,x⟩
  ·obtain⟨a,ha,q⟩:=RX t h
   exact⟨a,List.mem_cons_of_mem _ ha,q⟩
theorem Eo{α β : Type}{F:α→β→Prop}:∀ {l:List α} {m:List β} {a:α},P2 F l m→a∈l→∃ b∈m,F a b
 | _,_,_,.cons x t,h=>by
  rcases List.mem_cons.mp h with rfl|h
  ·exact⟨_,List.mem_cons_self ..,x⟩
  ·obtain⟨a,ha,q⟩:=Eo t h
   exact⟨a,List.mem_cons_of_mem _ ha,q⟩
def ZP(S:List (Bool×Addr))(dss:List (List D))(xss:List (List V))(_ Hv:Hp):Prop:=yz Hv S xss∧P2 (P2 (Rep Hv)) dss xss
theorem Ww{S:List (Bool×Addr)}{dss:List (List D)}{xss:List (List V)}{dz:List D}(hz:acj dss dz):ItD (Itz S) (ZP S dss xss) dz:=by
 refine⟨fun i H Hv p v hi=>?_,fun i H Hv x H' p v hi y=>?_,fun H Hv p v=>?_⟩
 ·obtain⟨us,_,hu⟩:=hz.1 i hi
  refine⟨xss,oV v.sub p.1,fun xs hx=>?_⟩
  obtain⟨ds,hd,r⟩:=RX p.2 hx
  obtain⟨u,_,e⟩:=Eo hu hd
  have:=(List.getElem?_eq_some_iff.mp e).1
  rw[← r.len];exact this
 ·obtain⟨us,hd,hu⟩:=hz.1 i hi
  obtain⟨q,ws,hw,hq,rfl,rfl⟩:=y
  have r:=picks p.2 hu (hw xss (oV v.sub p.1))
  obtain⟨g,k⟩:=Ex v r hq
  exact⟨_,.tup us,g,hd,k⟩
 ·obtain⟨ds,hd,e⟩:=hz.2
  obtain⟨xs,hx,r⟩:=Eo p.2 hd
  exact⟨xss,oV v.sub p.1,xs,hx,by rw[← r.len];omega⟩
theorem Xr:∀ ds es:List D,acj [ds,es] (Mi.pJ ds es)
 | [],es=>⟨fun i h=>absurd h (by simp[Mi.pJ]),[],by simp,by simp[Mi.pJ]⟩
 | d::r,[]=>⟨fun i h=>absurd h (by simp[Mi.pJ]),[],by simp,by simp[Mi.pJ]⟩
 | d::r,e::s=>by
  obtain⟨h1,ds,hd,hl⟩:=Xr r s
  refine⟨fun i hi=>?_,?_⟩
  ·cases i with
   | zero=>exact⟨[d,e],rfl,.cons rfl (.cons rfl .nil)⟩
   | succ i =>
    obtain⟨us,a,b⟩:=h1 i (by simpa [Mi.pJ] using hi)
    refine⟨us,by simpa [Mi.pJ] using a,?_⟩
    cases b with
    | cons x t =>
     cases t with
     | cons y t=>cases t;exact .cons (by simpa using x) (.cons (by simpa using y) .nil)
  ·rcases List.mem_cons.mp hd with rfl|hd
   ·exact⟨d::ds,by simp,by simp[Mi.pJ,hl]⟩
   ·obtain rfl:=List.mem_singleton.mp hd
    exact⟨e::ds,by simp,by simp[Mi.pJ,hl]⟩
theorem Yi{x:D}{k:List D→Prop}(h:Fin (Mi.Gb x) k):∃ ds,(x=.lst ds∨x=.tup ds)∧k ds:=by
 cases x with
 | lst b=>exact⟨b,.inl rfl,h⟩
 | tup b=>exact⟨b,.inr rfl,h⟩
 | _=>exact h.elim
theorem Ui{H:Hp}{x:D}{ds:List D}{v:V}(h:x=.lst ds∨x=.tup ds)(r:Rep H x v):∃ k a xs,v=.ref a∧Qy H (k,a) xs∧P2 (Rep H) ds xs:=by
 rcases h with rfl|rfl
 ·obtain⟨a,xs,e,l,r⟩:=nq.mp r
  exact⟨true,a,xs,e,l,r⟩
 ·obtain⟨a,xs,e,l,r⟩:=jd.mp r
  exact⟨false,a,xs,e,l,r⟩
section
variable{X:Cx}{elts:List Expr}{k1:Nat}{tpos:Pos}{M:Nat→Bool}
theorem Wj{a b:Nat}(h:a≠b):@Ne Addr a b:=h
theorem abZ{n:Nat}:∀ {b:Nat},b∈([n+4,n+2,n+3,n,n+1]:List Nat)→n≤b:=fun {b} h=>by simp at h;omega
theorem ap2(n:Nat)(k k':Bool)(l l':Addr):Ap0 (n+4) (n+2) (n+3) [(k,n,l),(k',n+1,l')] :=
 ⟨Wj (by omega),Wj (by omega),Wj (by omega),by show ([n,n+1]:List Nat).Nodup;simp,fun q hq=>by
  rcases List.mem_cons.mp hq with rfl|hq
  ·exact⟨Wj (show n≠n+4 by omega),Wj (show n≠n+2 by omega),Wj (show n≠n+3 by omega)⟩
  ·obtain rfl:=List.mem_singleton.mp hq
   exact⟨Wj (show n+1≠n+4 by omega),Wj (show n+1≠n+2 by omega),Wj (show n+1≠n+3 by omega)⟩⟩
def abP(ta tb:TE):TI:=fun σ H R=>ta σ H fun x H1=>tb σ H1 fun y H2=>∃ S xss,[x,y]=S.map (fun s:Bool×Addr=>V.ref s.2)∧S.length=2∧yz H2 S xss∧R (Itz S) H2
theorem V4{a b:Expr}{ta tb:TE}{p pos:Pos}(hg:Gl X "zip")(hm:X.mg "zip" = none)(ha:PE X a ta)(hb:PE X b tb)(hs:starEach [a,b] X.env=[(false,eval a X.env),(false,eval b X.env)]:=by rfl)(hs0:starEach [a,b] X.env=(false,eval a X.env)::starEach [b] X.env:=by rfl)(hs1:starEach [b] X.env=(false,eval b X.env)::starEach [] X.env:=by rfl)(hpl:(backTo pos (starEach [b] X.env)).any (·.1)=false:=by rfl) :
 PI X (.Tuple elts k1 tpos) (.Call (.Name "zip" p) [a,b] [] pos) (abP ta tb):=by
 intro pins s σ H R I h
 refine Call_ (uM I hg hm boot_zip (PyProof.Rows.callWith_type1 (dY (aj ha (aj hb au hs1) hs0 pos pins s σ H (fun vs H1=>∃ S xss,vs=S.map (fun s:Bool×Addr=>V.ref s.2)∧S.length=2∧yz H1 S xss∧R (Itz S) H1) I ?_) fun us s1 ⟨vs,H1,I1,r1,q1⟩=>?_) hs0 hpl))
 ·exact h
 ·obtain⟨S,xss,e,hl,hS,q⟩:=q1
  obtain⟨⟨k,l⟩,⟨k',l'⟩,rfl⟩ : ∃ x y,S=[x,y]:=by
   match S,hl with
   | [x,y],_=>exact⟨x,y,rfl⟩
  subst e
  have hS0:=hS
  cases hS with
  | cons s1' t =>
  cases t with
  | cons s2' t =>
  cases t
  cases r1 with
  | cons u1 r1 =>
  cases r1 with
  | cons u2 r1 =>
  cases r1
  cases u1;cases u2
  obtain⟨i1,_,a1⟩:=s1'.at I1
  obtain⟨i2,_,a2⟩:=s2'.at I1
  refine call2 a1 a2 fun h' hZ hk=>wpAny_pyIter_zip hZ.zz ?_
  have I2:Inv X pins σ H1 { s1 with heap:=h' }:=I1.kept (t':=s1.toks) fun b o e=>hk b o e
  refine⟨_,_,_,_,H1,rfl,I2,QR (z:=s1.heap.objs.size+4) (TI:=s1.heap.objs.size+2) (TO:=s1.heap.objs.size+3) (ap2 _ k k' l l') (by simp) (by simp),hZ,fun b hb=>?_,q⟩
  have hb:s1.heap.objs.size≤b:=abZ hb
  exact I1.uO hb (I1.hok.fresh hb)
theorem Xh{ta tb:TE}{a b:Mi.E}(ha:AE M qV ta a)(hb:AE M qV tb b):NZ M (abP ta tb) (Mi.KH a b):=fun e σ H Hv R I h =>
 ha e σ H Hv _ I ((aq.mp h).mono fun x hx v H1 Hv1 g1 rx=>hb e σ H1 Hv1 _ (I.grow g1) ((aq.mp hx).mono fun y hy u H2 Hv2 g2 ry=>by
  obtain⟨ds,hd,hk⟩:=Yi (aq.mp hy)
  obtain⟨es,he,hk⟩:=Yi (aq.mp hk)
  obtain⟨k,a,xs,rfl,s1,r1⟩:=Ui hd (jD g2.vis (show Rep Hv1 x v from rx))
  obtain⟨k',a',ys,rfl,s2,r2⟩:=Ui he (show Rep Hv2 y u from ry)
  have S2:yz Hv2 [(k,a),(k',a')] [xs,ys]:=.cons s1 (.cons s2 .nil)
  exact⟨[(k,a),(k',a')],[xs,ys],rfl,rfl,oV g2.vw.sub S2,hk (Itz [(k,a),(k',a')]) H2 Hv2 (ZP [(k,a),(k',a')] [ds,es] [xs,ys]) (g1.trans g2) (Ww (Xr ds es)) ⟨S2,.cons r1 (.cons r2 .nil)⟩ fun _ _ _ _ z s _=>⟨oV s z.1,z.2.imp fun _ _ q=>cJ s q⟩⟩))
end
end Zp
namespace Zp
open PySem PySem.Spec PyProof.Rows L2 A
open Mi (D W Rs Fin aq)
variable[Tb:A.fQ]
section
variable{X:Cx}{pins:List (Addr×Obj)}{σ : L2.St}{H:Hp}{s:Shared}{B:Around}{E:Value→Shared→Prop}{Q:Value→Shared→Prop}{b:Bool}
theorem kit_at{x:V}{u t:Value}(I:Inv X pins σ H s)(rx:RelV x u)(ty:ug X.K H x t):∃ P:Heap→Prop,PySem.W.KitX X.K u t P∧P s.heap∧u≠.builtin "__main__.__loader__#opaque" := by
 cases ty with
 | non=>cases (show u=Value.none from rx);exact⟨_,PySem.W.kitx_none,True.intro,fun z=>nomatch z⟩
 | bl y=>cases (show u=Value.bool y from rx);exact⟨_,PySem.W.kitx_bool,True.intro,fun z=>nomatch z⟩
 | int i=>obtain⟨t,q⟩:=(show ∃ t,u=Value.int i t from rx);cases q;exact⟨_,PySem.W.kitx_int,True.intro,fun z=>nomatch z⟩
 | str y=>obtain⟨t,q⟩:=(show ∃ t,u=Value.str y t from rx);cases q;exact⟨_,PySem.W.kitx_str,True.intro,fun z=>nomatch z⟩
 | flt y=>obtain⟨t,q⟩:=(show ∃ t,u=Value.float y t from rx);cases q;exact⟨_,PySem.W.kitx_float,True.intro,fun z=>nomatch z⟩
 | @lst a xs ea =>
  cases (show u=Value.ref a from rx)
  obtain⟨_,_,n,_,h1⟩:=(show bZ X.prog X.w H s.heap a (.lst xs) from I.hok a _ ea)
  exact⟨_,PySem.W.kitx_list,⟨_,h1,rfl⟩,fun z=>nomatch z⟩
 | @frz a ob xs ea =>
  cases (show u=Value.ref a from rx)
  obtain⟨_,_,_,n,_,h1⟩:=(show bZ X.prog X.w H s.heap a (.frz ob (.lst xs)) from I.hok a _ ea)
  exact⟨_,PySem.W.kitx_list,⟨_,h1,rfl⟩,fun z=>nomatch z⟩
 | @tup a xs ea =>
  cases (show u=Value.ref a from rx)
  obtain⟨_,_,_,o,h1,h2,_⟩:=(show bZ X.prog X.w H s.heap a (.tup xs) from I.hok a _ ea)
  exact⟨_,PySem.W.kitx_tuple,⟨o,h1,h2⟩,fun z=>nomatch z⟩
 | @dK a kvs ea =>
  cases (show u=Value.ref a from rx)
  obtain⟨_,_,vs,_,o,es,ep,h1,h2,_⟩:=(show bZ X.prog X.w H s.heap a (.dK kvs) from I.hok a _ ea)
  exact⟨_,PySem.W.kitx_dict,⟨o,h1,h2.1⟩,fun z=>nomatch z⟩
 | @dT a kvs ea =>
  cases (show u=Value.ref a from rx)
  obtain⟨_,_,xs,_,o,es,ep,h1,h2,_⟩:=(show bZ X.prog X.w H s.heap a (.dT kvs) from I.hok a _ ea)
  exact⟨_,PySem.W.kitx_dict,⟨o,h1,h2.1⟩,fun z=>nomatch z⟩
 | @ins a C dx fs ea cl ha hn htk hm =>
  cases (show u=Value.ref a from rx)
  obtain⟨mA,O,_⟩:=M8 I.hok ea
  obtain⟨od,J,_⟩:=O.look
  exact⟨_,PySem.W.kitx_own (cl.get _) cl.hd ha hn htk hm,J,fun z=>nomatch z⟩
theorem Lw:∀ {Ts:List String} {us:List Value},Vals (Ts.map V.ty) us→us=Ts.map .type
 | [],_,.nil=>rfl
 | T::r,_,.cons a t=>by
  have a:_=Value.type T:=a
  rw[a,Lw t];rfl
def XM(K:PySem.W.Frag):List V→Hp→VK→Prop:=fun xs H Q=>∃ (x:V) (t:Value) (tp:Addr) (Ts:List String) (b:Bool),xs=[x,.ref tp]∧H tp=some (.tup (Ts.map V.ty))∧ug K H x t∧PySem.W.kitAny K t (Ts.map .type)=some b∧Q (.bl b) H
theorem CT:ik X (.builtin "isinstance") (XM X.K):=by
 intro pins s σ H xs us Q I r h
 obtain⟨x,t,tp,Ts,b,rfl,ht,ty,e,q⟩:=h
 obtain⟨u,w',rfl,rx,rt⟩:=vals2 r
 cases (show w'=Value.ref tp from rt)
 obtain⟨_,its,rv,o,h1,h2,_,n,h3⟩:=(show bZ X.prog X.w H s.heap tp (.tup (Ts.map V.ty)) from I.hok tp _ ht)
 obtain rfl:=Lw rv
 obtain⟨c,d,dt,sl⟩:=o
 simp only at h2 h3
 subst h2 h3
 obtain⟨P,kx,p,hn⟩:=kit_at I rx ty
 exact PySem.W.kia_tup kx I.yu p h1 e hn fun tk=>⟨.bl b,H,I.tok tk,rfl,q⟩
end
theorem Vi{K:PySem.W.Frag}{d:D}:∀ {Ts:List String},(∀ T∈Ts,Bg K T)→PySem.W.kitAny K (.type (Mi.JP d)) (Ts.map .type)=some (Ts.any fun t=>Mi.Pq t d)
 | [],_=>rfl
 | T::r,h=>by
  have h1:=h T (List.mem_cons_self ..) d
  have h2:=Vi (d:=d) fun T' hT=>h T' (List.mem_cons_of_mem _ hT)
  rw[List.map_cons,PySem.W.kitAny,h1]
  cases e:Mi.Pq T d
  ·simp only[List.any_cons,e,Bool.false_or]
   exact h2
  ·simp only[List.any_cons,e,Bool.true_or]
theorem aaK{K:PySem.W.Frag}{S T:String}(h:Bg K S)(g:Bg K T):∀ U∈[S,T],Bg K U:=fun U hU=>by
 rcases List.mem_cons.mp hU with rfl|hU
 ·exact h
 ·obtain rfl:=List.mem_singleton.mp hU
  exact g
def YG:List String→TA
 | []=>rA
 | T::r=>iW (tC (.ty T)) (YG r)
theorem Ly:∀ (Ts:List String) (σ : L2.St) (H:Hp) (Q:List V→Hp→Prop),Q (Ts.map V.ty) H→YG Ts σ H Q
 | [],_,_,_,h=>h
 | T::r,σ,H,Q,h=>Ly r σ H _ h
section
variable{M:Nat→Bool}{K:PySem.W.Frag}{ta:TE}{a:Mi.E}
theorem Yp{Ts:List String}(hT:∀ T∈Ts,Bg K T)(hl:Ts.length≤8)(ha:AE M qP ta a):AE M qV (VD (XM K) (iW ta (iW (Vz (YG Ts)) rA))) (Mi.m1 (Mi.yN Ts) a):=fun e σ H Hv Q I h =>
 ha e σ H Hv _ I ((aq.mp h).mono fun x hx v H1 Hv1 g1 rx=>Ly Ts σ H1 _ ⟨by rw[List.length_map,sizeLine_eq];omega,fun p hp=>by
  have g2:b8 H1 Hv1 (upd H1 p (.tup (Ts.map V.ty))) (upd Hv1 p (.tup (Ts.map V.ty))):=.new g1.vw hp
  have g:=g1.trans g2
  exact⟨v,_,p,Ts,_,rfl,aU,Xu g.vw (RB.grow g2 rx),Vi hT,(Mi.gF hx) _ _ _ g gO⟩⟩)
end
end Zp
namespace Mi
end Mi
namespace Zp
open PySem PySem.Spec PyProof.Rows L2 A
open Mi (D W Rs Fin aq)
open AutoSeq1 (wpAny_loadPart')
variable[Tb:A.fQ]
end Zp
namespace Mi
end Mi
namespace Zp
open PySem PySem.Spec PyProof.Rows L2 A
open Mi (D W Rs Fin aq)
variable[Tb:A.fQ]
end Zp
namespace Mi
abbrev SN:=List D→List D→Env→Rs Out
end Mi
namespace Zp
open PySem PySem.Spec PyProof.Rows L2 A
open Mi (D W Rs Fin aq Out)
variable[Tb:A.fQ]
end Zp
namespace A
open PySem L2 PyProof.Rows
open Mi (D W Rs Fin aq Out Tg)
variable[Tb:fQ]
open Mi (met)
theorem Mu(val:Nat→Str):∀ i,(met val i).length≤i
 | 0=>Nat.le_refl _
 | i+1=>by
  have ih:=Mu val i
  unfold met
  split
  ·omega
  ·rw[List.length_append,List.length_singleton];omega
theorem Mt(val:Nat→Str)(i:Nat)(x:Str):decide (x∈met val (i+1))=(decide (x∈met val i) || decide (x=val i)):=by
 rw[met]
 split
 ·rename_i h
  by_cases e:x=val i
  ·subst e;simp[h]
  ·simp[e]
 ·rw[show decide (x∈met val i++[val i])=(decide (x∈met val i) || decide (x=val i)) from by simp]
section
variable{prog:Program}{w:World}{Ar:Around}{R:Result→Shared→Prop}{I S:Addr}{fp wr:List Addr}{n:Nat}{P:Nat→Value→Prop}{St:Nat→Heap→Prop}
theorem set_same{h:Heap}{a:Addr}{F G:Str→Bool}{n m:Nat}(hS:h.SetOf (PySem.strKind prog w) a F n)(e:∀ k,F k=G k)(en:n=m):h.SetOf (PySem.strKind prog w) a G m:=by
 rw[← funext e,← en];exact hS
theorem zq{h h':Heap}{a:Addr}{F:Str→Bool}{n:Nat}(hS:h.SetOf (PySem.strKind prog w) a F n)(k:∀ o,h.get? a=some o→h'.get? a=some o):h'.SetOf (PySem.strKind prog w) a F n :=
 let ⟨o,es,ep,t,ho,r⟩:=hS;⟨o,es,ep,t,k o ho,r⟩
theorem Rc(W:Walks prog w Ar.in1 I fp wr n P St)(hSf:S∉fp)(val:Nat→Str)(hv:∀ i v,P i v→∃ t,v=.str (val i) t)(hb:n+1 < scanBound) :
 ∀ (k i:Nat) (s:Shared),n=i+k→St i s.heap→s.heap.SetOf (PySem.strKind prog w) S (fun x=>decide (x∈met val i)) (met val i).length →
  (∀ h' tk,(∀ b o,b≠S→b∉wr→s.heap.get? b=some o→h'.get? b=some o)→h'.SetOf (PySem.strKind prog w) S (fun x=>decide (x∈met val n)) (met val n).length→R (.ok (.ret .none)) { s with heap:=h',toks:=tk }) →
  codeAny (model prog w) Ar (.builtin "set.update.loop" ⟨[.ref S,.ref I],[]⟩) R s:=by
 have hSw:S∉wr:=fun z=>hSf (W.sub _ z)
 intro k
 induction k with
 | zero =>
  intro i s hk st hS hR
  obtain rfl:n=i:=hk
  refine codeAny_builtin PyProof.Rows.F.entry_set_update_loop (by
   rw[Around.under_plainId PyProof.Rows.F.plain_set_update_loop _]
   show wpAny _ Ar.in1 (pyNext (.ref I) >>= _) _ _ s
   refine wpAny_bind (W.done s _ _ st fun h' tk hm=>?_)
   exact wpAny_pure (hR h' tk (fun b o _ hw e=>hm b o hw e) (zq hS fun o e=>hm S o hSw e)))
 | succ k ih =>
  intro i s hk st hS hR
  have hlt:i < n:=by omega
  refine codeAny_builtin PyProof.Rows.F.entry_set_update_loop (by
   rw[Around.under_plainId PyProof.Rows.F.plain_set_update_loop _]
   show wpAny _ Ar.in1 (pyNext (.ref I) >>= _) _ _ s
   refine wpAny_bind (W.item i s _ _ hlt st fun v h1 tk hP st1 hm=>?_)
   obtain⟨t,rfl⟩:=hv i v hP
   have hS1:=zq hS fun o e=>hm S o hSw e
   show wpAny _ Ar.in1 (holding [Value.str (val i) t] (setAdd S (.str (val i) t)) >>= _) _ _ _
   refine wpAny_bind (wpAny_holding ?_)
   unfold setAdd
   refine wpAny_holding (wpAny_bind ((PySem.strKind prog w).pyHash (k:=val i) (strKind_is _ _ _ _) ?_))
   have room:(met val i).length+1 < scanBound:=by have:=Mu val i;omega
   refine wpAny_setAddHashed_of (knd:=PySem.strKind prog w) (strKind_is _ _ _ _) rfl hS1 room fun h2 sb hS2=>?_
   have hS3:h2.SetOf (PySem.strKind prog w) S (fun x=>decide (x∈met val (i+1))) (met val (i+1)).length:=by
    refine set_same hS2 (fun x=>(Mt val i x).symm) ?_
    rw[met]
    by_cases hm:val i∈met val i
    ·simp[hm]
    ·simp[hm]
   refine wpAny_pure ⟨plainId_quiet PyProof.Rows.F.plain_set_update_loop _,ih (i+1) _ (by omega) (W.frame _ _ _ st1 fun b hb o e=>(sb.2 b fun z=>hSf (z ▸ hb)).trans e) hS3 fun h3 tk3 hm3 hS4=>?_⟩
   exact hR h3 tk3 (fun b o hbS hw e=>hm3 b o hbS hw ((sb.2 b hbS).trans (hm b o hw e))) hS4)
abbrev Ed(led:Bool):Obj:={ cls:=.type "set", dict:=none,data:=.set #[] 0 (.fresh 0 0 led) }
end
section
variable{X:Cx}{M:Nat→Bool}{te:TE}{a:Mi.E}
theorem LK:∀ {ys:List Str} {us:List Value} (i:Nat) (v:Value),Vals (ys.map V.str) us→us[i]? = some v→∃ t,v=Value.str (ys.getD i Str.empty) t
 | [],_,i,v,.nil,h=>by simp at h
 | y::ys,_,0,v,.cons r _,h=>by
  simp at h
  subst h
  exact r
 | y::ys,_,i+1,v,.cons _ t,h=>by
  have:=LK (ys:=ys) i v t (by simpa using h)
  simpa using this
end
end A
namespace A
open PySem L2 PyProof.Rows
open Mi (D W Rs Fin aq Out Tg)
variable[Tb:fQ]
section
variable{prog:Program}{w:World}{Ar:Around}
theorem Ga:entryFor table "set.__eq__" = some Builtin.«frozenset.__eq__» :=
 entryFor_alias (id' := "frozenset.__eq__") (by kernel_rfl) rfl (by decide +kernel) (by kernel_rfl)
theorem Ec{E:Value→Shared→Prop}{s:Shared}{x:Addr}{o:Obj}{es:Array (Int×Value)}{ep:Nat}{t:SetTable}{Q:Nat→Shared→Prop}(ho:s.heap.get? x=some o)(hd:o.data=.set es ep t)(hf:t.fits es.size=true)(h:Q es.size s):wpAny (model prog w) Ar (Builtin.Frozenset.sizeOf x) Q E s:=by
 unfold Builtin.Frozenset.sizeOf setEntries
 refine wpAny_bind (wpAny_bind (wpAny_setState_of ho hd hf (wpAny_pure ?_)))
 exact wpAny_pure h
theorem Yy{E:Value→Shared→Prop}{s:Shared}{x:Addr}{o:Obj}{es:Array (Int×Value)}{ep:Nat}{t:SetTable}{id:String}{Q:Unit→Shared→Prop}(ho:s.heap.get? x=some o)(hd:o.data=.set es ep t)(hf:t.fits es.size=true)(h:Q () s):wpAny (model prog w) Ar (Builtin.Frozenset.unchanged id x ep) Q E s:=by
 unfold Builtin.Frozenset.unchanged
 refine wpAny_bind (wpAny_setEpoch_of ho hd hf ?_)
 rw[if_neg (by simp)]
 exact wpAny_pure h
theorem JZ{x:Value}(h:x.scannable=true):Builtin.Frozenset.quietEq x=pure true:=by
 cases x<;>first|rfl|(simp[Value.scannable] at h)
def allIn(G:Str→Bool)(knd:PySem.KeyKind prog w Str)(es:List (Int×Value)):Prop:=∀ e∈es,∀ k,knd.is k e.2=true→G k=true
theorem Yw{E:Value→Shared→Prop}{s:Shared}{x y:Addr}{ox oy:Obj}{es fs:Array (Int×Value)}{ep ep2:Nat}{t t2:SetTable}{Q:List (Int×Value)→Shared→Prop}(ho:s.heap.get? x=some ox)(hd:ox.data=.set es ep t)(hf:t.fits es.size=true)(ho2:s.heap.get? y=some oy)(hd2:oy.data=.set fs ep2 t2)(hf2:t2.fits fs.size=true)
 (he:ElemsOf (PySem.strKind prog w) es.toList) (he2:ElemsOf (PySem.strKind prog w) fs.toList) (h:Q es.toList s):wpAny (model prog w) Ar (Builtin.Frozenset.walkUnseen x y) Q E s:=by
 unfold Builtin.Frozenset.walkUnseen setEntries
 refine wpAny_bind (wpAny_bind (wpAny_setState_of ho hd hf (wpAny_pure ?_)))
 refine wpAny_bind (wpAny_bind (wpAny_setState_of ho2 hd2 hf2 (wpAny_pure ?_)))
 dsimp only
 have hs:∀ e∈es.toList++fs.toList,e.2.scannable=true:=fun e he'=>by
  rcases List.mem_append.mp he' with z|z
  ·exact(he e z).2
  ·exact(he2 e z).2
 revert hs
 generalize es.toList++fs.toList=l
 intro hs
 induction l with
 | nil=>exact wpAny_bind (wpAny_pure (wpAny_pure h))
 | cons e r ih =>
  rw[List.forIn_cons,JZ (hs e (.head _))]
  simp only[pure_bind,Bool.not_true,Bool.false_eq_true,if_false]
  exact ih fun e he=>hs e (.tail _ he)
theorem Q8{E:Value→Shared→Prop}{s:Shared}{x y:Addr}{ox oy:Obj}{es fs:Array (Int×Value)}{ep ep2:Nat}{t t2:SetTable}{G:Str→Bool}{m:Nat}{id:String}{Q:Bool→Shared→Prop}(ho:s.heap.get? x=some ox)(hd:ox.data=.set es ep t)(hf:t.fits es.size=true)(ho2:s.heap.get? y=some oy)(hd2:oy.data=.set fs ep2 t2)(hf2:t2.fits fs.size=true)
 (he:ElemsOf (PySem.strKind prog w) es.toList) (he2:ElemsOf (PySem.strKind prog w) fs.toList) (hy:s.heap.SetOf (PySem.strKind prog w) y G m) (hs:es.size=fs.size)
 (h:∀ b:Bool,(b=true↔allIn G (PySem.strKind prog w) es.toList)→Q b s):wpAny (model prog w) Ar (Builtin.Frozenset.subsetOf id x y) Q E s:=by
 unfold Builtin.Frozenset.subsetOf
 refine wpAny_bind (Ec ho hd hf ?_)
 refine wpAny_bind (Ec ho2 hd2 hf2 ?_)
 rw[if_neg (by omega)]
 refine wpAny_bind (wpAny_setEpoch_of ho hd hf ?_)
 refine wpAny_bind (Yw ho hd hf ho2 hd2 hf2 he he2 ?_)
 revert he h
 generalize es.toList=l
 intro he h
 induction l generalizing Q with
 | nil=>exact wpAny_bind (wpAny_pure (wpAny_pure (h true ⟨fun _ e z=>(List.not_mem_nil z).elim,fun _=>rfl⟩)))
 | cons e r ih =>
  rw[List.forIn_cons]
  obtain⟨⟨k,hk,hh⟩,hsc⟩:=he.head
  obtain⟨hh0,xe⟩:=e
  dsimp only at hk hh hsc
  subst hh
  dsimp only
  simp only[bind_assoc]
  refine wpAny_bind (wpAny_holding (wpAny_setFind_of hk hsc hy fun r hr=>?_))
  have key:∀ r',allIn G (PySem.strKind prog w) (((PySem.strKind prog w).hash k,xe)::r')↔G k=true∧allIn G (PySem.strKind prog w) r':=fun r'=>by
   constructor
   ·intro z
    exact⟨z _ (.head _) k hk,fun e he=>z e (.tail _ he)⟩
   ·rintro ⟨z1,z2⟩ e he k' hk'
    rcases List.mem_cons.mp he with rfl|he
    ·have:=PySem.KeyKind.is_eq_decide hk k'
     rw[hk'] at this
     have e:k'=k:=by simpa using this.symm
     rw[e];exact z1
    ·exact z2 e he k' hk'
  cases hg:G k with
  | false =>
   rw[hg] at hr
   have:r.isNone=true:=by cases r<;>simp_all
   rw[if_pos this]
   simp only[pure_bind]
   refine wpAny_pure (h false ⟨fun z=>(Bool.noConfusion z),fun z=>?_⟩)
   rw[((key _).mp z).1] at hg
   exact hg.symm ▸ rfl
  | true =>
   rw[hg] at hr
   have:¬ r.isNone=true:=by cases r<;>simp_all
   rw[if_neg this]
   simp only[bind_assoc]
   refine wpAny_bind (Yy ho hd hf ?_)
   simp only[pure_bind]
   exact ih he.tail fun b hb=>h b (hb.trans ⟨fun z=>(key _).mpr ⟨hg,z⟩,fun z=>((key _).mp z).2⟩)
theorem VL{E:Value→Shared→Prop}{s:Shared}{x y:Addr}{F G:Str→Bool}{n m:Nat}{Q:Value→Shared→Prop}(hx:s.heap.SetOf (PySem.strKind prog w) x F n)(hy:s.heap.SetOf (PySem.strKind prog w) y G m)(hu:Ar.units < cLine)
 (h:∀ b:Bool,(b=true↔n=m∧∀ k,F k=true→G k=true)→Q (.bool b) s):wpAny (model prog w) Ar (compareOp .Eq (.ref x) (.ref y)) Q E s:=by
 obtain⟨ox,es,ep,t,hox,hex,hdx,hel,hmem,hb,hf,hn⟩:=id hx
 obtain⟨oy,fs,ep2,t2,hoy,hey,hdy,hel2,hmem2,hb2,hf2,hm⟩:=id hy
 have tx:s.TypeIs (.ref x) "set" := ⟨_,hox,hex.1⟩
 have ty:s.TypeIs (.ref y) "set" := ⟨_,hoy,hey.1⟩
 show wpAny _ _ (richCompare .Eq (.ref x) (.ref y)) Q E s
 refine wpAny_richCompare_same_room (op:=.Eq) tx ty PySem.F.slot_set_eq (wpAny_call_entry PySem.F.slot_set_eq tx Ga ?_ (PySem.F.args_set_eq_2 _ _)) hu
 have g1:isSubtype (.type "set") (.type "set")=pure true:=by rw[isSubtype_type];kernel_rfl
 have g2:isSubtype (.type "set") (.type "frozenset")=pure false:=by rw[isSubtype_type];kernel_rfl
 unfold Builtin.«frozenset.__eq__»
 show wpAny _ _ (Builtin.Frozenset.slot1 "__eq__" _ >>= _) _ _ _
 refine wpAny_bind (m:=Builtin.Frozenset.slot1 "__eq__" _) (wpAny_pure ?_)
 dsimp only
 have any:∀ {Q':Bool→Shared→Prop} {A':Around},Q' true s→wpAny (model prog w) A' (Builtin.Frozenset.isAnySet (.ref y)) Q' E s:=fun h'=>by
  unfold Builtin.Frozenset.isAnySet
  exact wpAny_bind (wpAny_isInstance ty g1 (wpAny_pure h'))
 refine wpAny_bind (any ?_)
 rw[if_neg (by simp)]
 refine wpAny_bind (m:=Builtin.Frozenset.addrOf (.ref x)) (wpAny_pure ?_)
 refine wpAny_bind (m:=Builtin.Frozenset.addrOf (.ref y)) (wpAny_pure ?_)
 refine wpAny_bind (Ec hox hdx hf ?_)
 refine wpAny_bind (Ec hoy hdy hf2 ?_)
 by_cases hs:es.size=fs.size
 ·rw[if_neg (by simpa using hs)]
  refine wpAny_bind (wpAny_bind (wpAny_bind (m:=isInstance (.ref x) (.type "frozenset")) (wpAny_isInstance tx g2 (wpAny_pure ?_))))
  rw[if_neg (by simp)]
  refine Q8 hox hdx hf hoy hdy hf2 hel hel2 hy hs fun b hb=>?_
  refine wpAny_pure ⟨_,rfl,(fun z=>nomatch z),h b (hb.trans ?_)⟩
  constructor
  ·intro z
   refine⟨by omega,fun k hk=>?_⟩
   obtain⟨e,he,hk'⟩:=(hmem k).mp hk
   exact z e he k hk'
  ·rintro ⟨_,z⟩ e he k hk
   exact z k ((hmem k).mpr ⟨e,he,hk⟩)
 ·rw[if_pos (by simpa using hs)]
  refine wpAny_bind (wpAny_pure (wpAny_pure ⟨_,rfl,(fun z=>nomatch z),h false ⟨fun z=>Bool.noConfusion z,fun z=>?_⟩⟩))
  exact absurd (hn.trans (z.1.trans hm.symm)) hs
end
end A
namespace Mi
open PySem
def Um:D→D→Rs D
 | .tup i,.tup j=>aN (i.length+j.length≤16777216) (.ok (.tup (i++j)))
 | _,_=>.no
def dI(xs ys:List Str):Bool:=xs.all (fun x=>decide (x∈ys)) && ys.all (fun y=>decide (y∈xs))
def acf:D→Option (List Str)
 | .tup ds=>mY ds
 | _=>none
def Gf(x y:D):Rs D:=(tM (acf x)).bind fun xs=>(tM (acf y)).bind fun ys=>aN (xs.length+1 < 4096∧ys.length+1 < 4096) (.ok (.bl (dI xs ys)))
end Mi
namespace A
open PySem L2 PyProof.Rows
open Mi (D W Rs Fin aq Out Tg)
open Mi (met)
variable[Tb:fQ]
section
variable{prog:Program}{w:World}{Ar:Around}{R:Result→Shared→Prop}{I S:Addr}{fp wr:List Addr}{n:Nat}{P:Nat→Value→Prop}{St:Nat→Heap→Prop}
theorem Yv{B:Around}(hh:B.handled=none)(c l:Addr)(hne:l≠c)(us:Array Value) :
 Walks prog w B c [c,l] [c] us.size (fun i v=>us[i]? = some v) (fun i h=>h.IsTupleIter c l i∧h.IsTuple l us) where
 sub:=fun b hb=>by simp at hb;simp[hb]
 frame:=fun _ _ _ st f=>⟨let ⟨o,e,r⟩:=st.1;⟨o,f c (by simp) o e,r⟩,let ⟨o,e,r⟩:=st.2;⟨o,f l (by simp) o e,r⟩⟩
 item:=fun i s Q E hi st hQ=>wpAny_pyNext_tuple_item st.1 st.2 (x:=us[i]) (by simp[hi]) fun h' a b =>
  hQ _ h' s.toks (by simp[hi]) ⟨a,let ⟨o,e,r⟩:=st.2;⟨o,b.extBut _ _ hne e,r⟩⟩ fun z o hz e=>b.extBut z o (fun q=>hz (by simp[q])) e
 done:=fun s Q E st hQ=>wpAny_pyNext_tuple_end hh st.1 st.2 (by simp) fun h' a=>hQ h' s.toks fun z o hz e=>a z o (fun q=>hz (by simp[q])) e
 self:=fun _ _ _ _ st hQ=>wpAny_pyIter_tupleiter st.1 hQ
theorem GD{h:Heap}{l:Addr}{us:Array Value}(x:h.IsTuple l us)(o:Obj):(h.push o).IsTuple l us:=let ⟨q,e,r⟩:=x;⟨q,Heap.get?_push_of_some _ e,r⟩
set_option maxHeartbeats 8000000 in
theorem Gj{E:Value→Shared→Prop}{s:Shared}{l:Addr}{items:Array Value}{xs:List Str}{Q:Value→Shared→Prop}(hh:Ar.handled=none)(hl:s.heap.IsTuple l items)(hx:∀ i v,items[i]? = some v→∃ t,v=Value.str (xs.getD i Str.empty) t)(hb:items.size+1 < scanBound)
 (h:∀ h' tk,h'.SetOf (PySem.strKind prog w) s.heap.objs.size (fun x=>decide (x∈met (fun i=>xs.getD i Str.empty) items.size)) (met (fun i=>xs.getD i Str.empty) items.size).length →
  (∀ b o,b < s.heap.objs.size→s.heap.get? b=some o→h'.get? b=some o)→Q (.ref s.heap.objs.size) { s with heap:=h',toks:=tk }):wpAny (model prog w) Ar (call (.type "set") [.ref l]) Q E s:=by
 obtain⟨c0,tl0,hmro⟩:=PySem.F.called_set.mro
 have mk1:=PySem.F.called_set.made
 have mk2:=PySem.F.called_set.sub
 refine wpAny_call (codeAny_of_tree (by
  show wpAny _ _ (callAny (.type "set") _) _ _ _
  refine wpAny_pure ⟨Code.quiet_builtin _ (by decide +kernel),codeAny_builtin PySem.F.entry_type_call (by
   rw[Around.under_plain (weight_type_call_type "set" [.ref l] []) rfl]
   have mk3:=PySem.F.called_set.notType
   have mk4:=PySem.F.called_set.canCreate
   have mk5:=PySem.F.typeCall_set_1 (.ref l)
   repeat (any_goals (first|assumption|wp_step))
   refine codeAny_mono (code_set_new_1 (.ref l) (E:=E) (Q₁:=fun obj s1=>∃ led:Bool,obj=.ref s.heap.objs.size∧s1={ s with heap:=s.heap.push { cls:=.type "set", dict:=none,data:=.set #[] 0 (.fresh 0 0 led) } }) fun led=>⟨led,rfl,rfl⟩) fun r s1 hr=>?_
   cases r with
   | error e=>exact hr
   | ok fl =>
    cases fl with
    | ret obj =>
     obtain⟨led,rfl,rfl⟩:=hr
     have gS:(s.heap.push (Ed led)).get? s.heap.objs.size=some (Ed led):=Heap.get?_push_size _ rfl
     have tS:Shared.TypeIs { s with heap:=s.heap.push (Ed led) } (.ref s.heap.objs.size) "set" := ⟨_,gS,rfl⟩
     have mk6:=PySem.F.called_set.init.lookup
     have mk7:=PySem.F.called_set.init.bind (.ref s.heap.objs.size)
     repeat (any_goals (first|assumption|wp_step))
     refine codeAny_mono (codeAny_call_builtin (R:=wants (fun v s2=>v=.none∧∃ h' tk,s2={ s with heap:=h',toks:=tk }∧h'.SetOf (PySem.strKind prog w) s.heap.objs.size (fun x=>decide (x∈met (fun i=>xs.getD i Str.empty) items.size)) (met (fun i=>xs.getD i Str.empty) items.size).length ∧
      ∀ b o,b < s.heap.objs.size→s.heap.get? b=some o→h'.get? b=some o) E) PySem.F.called_set.init.plain PySem.F.entry_set_init (check_set_init_1 tS (by
      obtain⟨⟨oc,od,oda,osl⟩,hol,hcl,nl,hdl⟩:=hl
      obtain rfl:oc=.type "tuple" := hcl
      obtain rfl:oda=.seq items nl:=hdl
      have lS:l < s.heap.objs.size:=Heap.lt_size hol
      have gl:(s.heap.push (Ed led)).get? l=some ⟨.type "tuple", od,.seq items nl,osl⟩:=Heap.get?_push_of_some _ hol
      have n1:=PySem.F.sub_tuple_set
      have n2:=PySem.F.sub_tuple_frozenset
      have n3:(Value.type "tuple" == Value.type "dict")=false:=by decide
      have li:(s.heap.push (Ed led)).IsTuple l items:=⟨_,gl,rfl,nl,rfl⟩
      unfold Builtin.«set.__init__» noKeywords Builtin.Frozenset.updateFrom
      generalize gp:pyIter=PI
      wp_walk
      subst gp
      refine wpAny_pyIter_tuple li (wpAny_bind (wpAny_runValue ?_))
      have sz:(s.heap.push (Ed led)).objs.size=s.heap.objs.size+1:=Heap.size_push ..
      have nI:l≠(s.heap.push (Ed led)).objs.size:=by rw[sz];exact Nat.ne_of_lt (Nat.lt_succ_of_lt lS)
      have nS:s.heap.objs.size∉[(s.heap.push (Ed led)).objs.size,l]:=by
       rw[sz]
       intro z
       rcases List.mem_cons.mp z with z|z
       ·exact Nat.ne_of_lt (Nat.lt_succ_self _) z
       ·exact Nat.ne_of_gt lS (by simpa using z)
      refine Rc (Yv (by simp[hh]) _ l nI items) nS (fun i=>xs.getD i Str.empty) hx hb items.size 0 _ (by omega) ⟨⟨_,Heap.get?_push_size _ rfl,rfl,rfl⟩,GD li _⟩ ?_ ?_
      ·exact set_same ((setObjOf_fresh (knd:=PySem.strKind prog w) led).setOf (Heap.get?_push_of_some _ gS) (by unfold scanBound;omega)) (fun _=>rfl) rfl
      ·intro h' tk hk hS
       show wpAny _ _ _ _ _ _
       refine wpAny_pure ?_
       show wpAny _ _ (ret Value.none) _ _ _
       refine wpAny_pure ⟨rfl,h',tk,rfl,hS,fun b o hb e=>?_⟩
       refine hk b o (Nat.ne_of_lt hb) (fun z=>?_) (Heap.get?_push_of_some _ (Heap.get?_push_of_some _ e))
       have z:b=(s.heap.push (Ed led)).objs.size:=by simpa using z
       rw[sz] at z
       exact absurd hb (by rw[z];exact Nat.not_lt.mpr (Nat.le_succ _))))) fun r2 s2 h2=>?_
     cases r2 with
     | error e=>exact h2
     | ok fl2 =>
      cases fl2 with
      | ret v =>
       obtain⟨rfl,h',tk,rfl,hS,hk⟩:=h2
       repeat (any_goals (first|assumption|wp_step))
       exact h _ _ hS hk
      | _=>exact h2.elim
    | _=>exact hr.elim)⟩))
end
end A
namespace A
open PySem L2 PyProof.Rows
open Mi (D W Rs Fin aq Out Tg met)
variable[Tb:fQ]
theorem Mv(val:Nat→Str):∀ (i:Nat) (x:Str),x∈met val i↔∃ j,j < i∧val j=x
 | 0,x=>by simp[met]
 | i+1,x=>by
  have ih:=Mv val i x
  have h:=Mt val i x
  have:x∈met val (i+1)↔x∈met val i∨x=val i:=by
   constructor
   ·intro z
    have:=h.symm.trans (decide_eq_true z)
    simpa using this
   ·intro z
    have:=h.trans (by simpa using z:(decide (x∈met val i) || decide (x=val i))=true)
    simpa using this
  rw[this,ih]
  constructor
  ·rintro (⟨j,hj,e⟩|e)
   ·exact⟨j,by omega,e⟩
   ·exact⟨i,by omega,e.symm⟩
  ·rintro ⟨j,hj,e⟩
   by_cases q:j=i
   ·subst q;exact .inr e.symm
   ·exact .inl ⟨j,by omega,e⟩
theorem Kr(val:Nat→Str):∀ i,(met val i).Nodup
 | 0=>by simp[met]
 | i+1=>by
  have ih:=Kr val i
  unfold met
  split
  ·exact ih
  ·rename_i h
   rw[List.nodup_append]
   exact⟨ih,by simp,fun a ha b hb e=>h (by simp at hb;rw[← hb,← e];exact ha)⟩
theorem EY(ys:List Str)(x:Str):x∈met (fun i=>ys.getD i Str.empty) ys.length↔x∈ys:=by
 rw[Mv]
 constructor
 ·rintro ⟨j,hj,e⟩
  rw[← e]
  simp only[List.getD_eq_getElem?_getD,List.getElem?_eq_getElem hj,Option.getD_some]
  exact List.getElem_mem hj
 ·intro h
  obtain⟨j,hj,e⟩:=List.getElem_of_mem h
  exact⟨j,hj,by simp[List.getElem?_eq_getElem hj,e]⟩
theorem sub_len{α : Type}[DecidableEq α]:∀ {l m:List α},l.Nodup→(∀ x∈l,x∈m)→l.length≤m.length
 | [],m,_,_=>Nat.zero_le _
 | a::l,m,nd,h=>by
  have nd:=List.nodup_cons.mp nd
  have h1:∀ x∈l,x∈m.erase a:=fun x hx=>(List.mem_erase_of_ne (fun e:x=a=>nd.1 (by rw[← e];exact hx))).mpr (h x (.tail _ hx))
  have:=sub_len nd.2 h1
  rw[List.length_erase_of_mem (h a (.head _))] at this
  have:0 < m.length:=List.length_pos_of_mem (h a (.head _))
  simp only[List.length_cons];omega
theorem VF{α : Type}[DecidableEq α]{l m:List α}(nd:l.Nodup)(h:∀ x∈l,x∈m)(e:m.length≤l.length):∀ x∈m,x∈l:=fun x hx=>by
 by_cases q:x∈l
 ·exact q
 ·have:∀ y∈x::l,y∈m:=fun y hy=>by
   rcases List.mem_cons.mp hy with rfl|hy
   ·exact hx
   ·exact h y hy
  have:=sub_len (List.nodup_cons.mpr ⟨q,nd⟩) this
  simp only[List.length_cons] at this;omega
theorem same_iff(xs ys:List Str):Mi.dI xs ys=true↔Mi.Fp xs=Mi.Fp ys∧∀ k,k∈xs→k∈ys:=by
 have e:Mi.dI xs ys=true↔(∀ k∈xs,k∈ys)∧(∀ k∈ys,k∈xs):=by
  simp[Mi.dI,List.all_eq_true]
 rw[e]
 unfold Mi.Fp
 have ax:=EY xs
 have ay:=EY ys
 have nx:=Kr (fun i=>xs.getD i Str.empty) xs.length
 have ny:=Kr (fun i=>ys.getD i Str.empty) ys.length
 constructor
 ·rintro ⟨h1,h2⟩
  exact⟨Nat.le_antisymm (sub_len nx fun k hk=>(ay k).mpr (h1 k ((ax k).mp hk))) (sub_len ny fun k hk=>(ax k).mpr (h2 k ((ay k).mp hk))),h1⟩
 ·rintro ⟨h1,h2⟩
  exact⟨h2,fun k hk=>(ax k).mp (VF nx (fun z hz=>(ay z).mpr (h2 z ((ax z).mp hz))) (Nat.le_of_eq h1.symm) k ((ay k).mpr hk))⟩
section
variable{X:Cx}{K:PySem.W.Frag}{M:Nat→Bool}{te ta tb:TE}{a b:Mi.E}
def Oi(X:Cx)(a:Addr)(ys:List Str):HO:=.ext fun h=>∃ F,h.SetOf (PySem.strKind X.prog X.w) a F (Mi.Fp ys)∧∀ k,F k=true↔k∈ys
def Rt(X:Cx):List V→Hp→VK→Prop:=fun xs H Q=>∃ p ys,xs=[.ref p]∧yO X.K H p (ys.map V.str)∧ys.length+1 < 4096∧∀ l,H l=none→Q (.ref l) (upd H l (Oi X l ys))
theorem CK(hc:X.calm=true):ik X (.type "set") (Rt X):=by
 intro pins s σ H xs us Q I r h
 obtain⟨p,ys,rfl,hq,hz,q⟩:=h
 obtain⟨u,rfl,ru⟩:=vals1 r
 cases ru
 obtain⟨its,rv,pl,_⟩:=I.tuple hq
 have hl:=rv.length
 have e:its.toArray.size=ys.length:=by rw[List.size_toArray,← hl,List.length_map]
 refine Gj (xs:=ys) (I.ok.hd hc) pl (fun i v hv=>LK i v rv (by simpa using hv)) (by rw[e];exact hz) fun h' tk hS hk=>?_
 rw[e] at hS
 refine⟨.ref s.heap.objs.size,upd H s.heap.objs.size (Oi X s.heap.objs.size ys),I.laid (fun b o q=>hk b o (Heap.lt_size q) q) (Nat.le_refl _) ⟨⟨_,hS,fun k=>?_⟩,?_,fun h1 h2 ⟨F,z,y⟩ k=>⟨F,zq z k,y⟩⟩,rfl,q _ (I.hok.fresh (Nat.le_refl _))⟩
 ·have:=EY ys k
  simpa using this
 ·obtain⟨o,_,_,_,ho,_⟩:=hS
  exact⟨o,ho⟩
def Rv(X:Cx):R2:=fun x y H Q=>∃ a b xs ys,x=.ref a∧y=.ref b∧H a=some (Oi X a xs)∧H b=some (Oi X b ys)∧Q (.bl (Mi.dI xs ys)) H
theorem R4(hu:X.A.units+64 < cLine):pM X (compareOp .Eq) (Rv X):=by
 intro pins s σ H x y v u Q I rx ry h
 obtain⟨a,b,xs,ys,rfl,rfl,ha,hb,q⟩:=h
 cases rx
 cases ry
 obtain⟨⟨F,hF,eF⟩,_⟩:=I.hok a _ ha
 obtain⟨⟨G,hG,eG⟩,_⟩:=I.hok b _ hb
 refine VL hF hG (by omega) fun k hk=>?_
 have:k=Mi.dI xs ys:=by
  have e:k=true↔Mi.dI xs ys=true:=hk.trans ((same_iff xs ys).trans ⟨fun z=>⟨z.1,fun x hx=>(eG x).mpr (z.2 x ((eF x).mp hx))⟩,fun z=>⟨z.1,fun x hx=>(eG x).mp (z.2 x ((eF x).mpr hx))⟩⟩).symm
  cases k<;>cases hs:Mi.dI xs ys<;>simp_all
 subst this
 exact⟨.bl _,H,I,rfl,q⟩
theorem Z3{α : Type}{r:Rs α}{k:α→Prop}(h:Fin r k):∃ a,r=.ok a∧k a:=by
 cases r with
 | ok a=>exact⟨a,rfl,h⟩
 | ex x=>exact h.elim
 | no=>exact h.elim
theorem Ua{x y:D}{k:D→Prop}(h:Fin (Mi.Gf x y) k):∃ ds es xs ys,x=.tup ds∧y=.tup es∧Mi.mY ds=some xs∧Mi.mY es=some ys∧xs.length+1 < 4096∧ys.length+1 < 4096∧k (.bl (Mi.dI xs ys)):=by
 obtain⟨xs,ex,q1⟩:=jn (aq.mp h)
 obtain⟨ys,ey,q2⟩:=jn (aq.mp q1)
 obtain⟨⟨h1,h2⟩,q3⟩:=Mi.aV q2
 cases x with
 | tup ds=>cases y with
  | tup es=>exact⟨ds,es,xs,ys,rfl,rfl,ex,ey,h1,h2,Mi.gF q3⟩
  | _=>cases ey
 | _=>cases ex
theorem Xl(ha:AE M qP ta a)(hb:AE M qP tb b):AE M qV (tOp (Rv X) (VD (Rt X) (iW ta rA)) (VD (Rt X) (iW tb rA))) (Mi.m2 Mi.Gf a b):=fun e σ H Hv Q I h =>
 ha e σ H Hv _ I ((aq.mp h).mono fun x hx v H1 Hv1 g1 rx=>by
  obtain⟨y,hy,hk⟩:=Z3 (aq.mp hx)
  obtain⟨ds,es,xs,ys,rfl,rfl,ex,ey,h1,h2,hk⟩:=Ua hk
  obtain⟨p,us,rfl,l,_,r⟩:=RD.tup g1.vw rx
  have:=t7 ex r
  subst this
  refine⟨p,xs,rfl,.inl (.inl l),h1,fun c hc=>?_⟩
  have g2:b8 H1 Hv1 (upd H1 c (Oi X c xs)) Hv1:=.Ko g1.vw trivial hc
  refine hb e σ _ Hv1 _ ((I.grow g1).grow g2) ?_
  rw[hy]
  intro v2 H2 Hv2 g3 ry
  obtain⟨p2,us2,rfl,l2,_,r2⟩:=RD.tup g3.vw ry
  have:=t7 ey r2
  subst this
  refine⟨p2,ys,rfl,.inl (.inl l2),h2,fun c2 hc2=>?_⟩
  have g4:b8 H2 Hv2 (upd H2 c2 (Oi X c2 ys)) Hv2:=.Ko g3.vw trivial hc2
  refine⟨c,c2,xs,ys,rfl,rfl,?_,aU,hk _ _ _ (g1.trans (g2.trans (g3.trans g4))) gO⟩
  exact(g3.trans g4).old.at aU)
def XX(K:PySem.W.Frag):R2:=fun x y H Q=>∃ l b xs zs,x=.ref l∧y=.ref b∧yO K H l xs∧yO K H b zs∧xs.length+zs.length≤sizeLine ∧
 (xs=[]→Q (.ref b) H)∧(xs≠[]→zs=[]→Q (.ref l) H)∧∀ p,H p=none→Q (.ref p) (upd H p (.tup (xs++zs)))
theorem Wg:pM X (binaryOp .Add) (XX X.K):=by
 intro pins s σ H x y v u Q I rx ry h
 obtain⟨l,b,xs,zs,rfl,rfl,hx,hy,hz,q1,q2,q3⟩:=h
 cases rx
 cases ry
 obtain⟨its,r,t1,_⟩:=I.tuple hx
 obtain⟨its2,r2,t2,_⟩:=I.tuple hy
 have hl:=r.length
 have hl2:=r2.length
 have ty1:=t1.typeIs (s:=s)
 have ty2:=t2.typeIs (s:=s)
 obtain⟨⟨cls,dd,data,sl⟩,ho,hc,n,hd⟩:=id t1
 obtain⟨⟨cls2,dd2,data2,sl2⟩,ho2,hc2,n2,hd2⟩:=id t2
 simp only at hc hd hc2 hd2
 subst hc hd hc2 hd2
 by_cases e1:xs=[]
 ·subst e1
  have:its=[]:=by cases its<;>simp_all
  subst this
  exact concat_meets ty1 ty2 noFill_tuple_add seq_tuple_add PySem.F.slot_tuple_add PySem.F.entry_tuple_add (PySem.F.args_tuple_add_2 _ _) (tuple_addW0 l b _ _ n n2 dd dd2 sl sl2 rfl) ⟨ho,ho2,⟨.ref b,H,I,rfl,q1 rfl⟩⟩
 ·have i1:¬ its.toArray.isEmpty=true:=by
   intro z
   have:its=[]:=by simpa using z
   subst this
   cases xs with
   | nil=>exact e1 rfl
   | cons _ _=>simp at hl
  by_cases e2:zs=[]
  ·subst e2
   have:its2=[]:=by cases its2<;>simp_all
   subst this
   exact concat_meets ty1 ty2 noFill_tuple_add seq_tuple_add PySem.F.slot_tuple_add PySem.F.entry_tuple_add (PySem.F.args_tuple_add_2 _ _) (tuple_addW1 l b _ _ n n2 dd dd2 sl sl2 i1 rfl) ⟨ho,ho2,⟨.ref l,H,I,rfl,q2 e1 rfl⟩⟩
  ·have i2:¬ its2.toArray.isEmpty=true:=by
    intro z
    have:its2=[]:=by simpa using z
    subst this
    cases zs with
    | nil=>exact e2 rfl
    | cons _ _=>simp at hl2
   have q:=q3 _ (I.hok.fresh (Nat.le_refl _))
   refine concat_meets ty1 ty2 noFill_tuple_add seq_tuple_add PySem.F.slot_tuple_add PySem.F.entry_tuple_add (PySem.F.args_tuple_add_2 _ _) (tuple_addW2 l b _ _ n n2 dd dd2 sl sl2 i1 i2 (by rw[List.size_toArray,List.size_toArray];omega)) ⟨ho,ho2,?_⟩
   rw[show its.toArray++its2.toArray=(its++its2).toArray by simp]
   exact⟨.ref s.heap.objs.size,_,I.laid (t':=s.toks) (o:=.tup (xs++zs)) (fun b ob q=>Heap.get?_push_of_some _ q) (Nat.le_refl _) ⟨by rw[List.length_append];omega,_,r.append r2,⟨_,Heap.get?_push_size _ rfl,rfl,rfl,0,rfl⟩⟩,rfl,q⟩
theorem aah:B2 qV (XX K) Mi.Um:=fun x y v u H Hv Q vw rx ry h=>by
 cases x with
 | tup i=>cases y with
  | tup j =>
   obtain⟨hz,h⟩:=Mi.aV h
   have h:=Mi.gF h
   obtain⟨p,xs,rfl,l1,_,r1⟩:=RD.tup vw rx
   obtain⟨p2,ys,rfl,l2,v2,r2⟩:=RD.tup vw ry
   refine⟨p,p2,xs,ys,rfl,rfl,.inl (.inl l1),.inl (.inl l2),by rw[← r1.len,← r2.len,sizeLine_eq];exact hz,fun e=>?_,fun e e2=>?_,fun q hq=>?_⟩
   ·subst e
    cases r1
    refine h _ H Hv (.refl vw) ?_
    exact jd.mpr ⟨p2,ys,rfl,v2,r2⟩
   ·subst e2
    cases r2
    rw[List.append_nil] at h
    obtain⟨p,xs,z,l1,v1,r1⟩:=RD.tup vw rx
    cases z
    exact h _ H Hv (.refl vw) (jd.mpr ⟨_,xs,rfl,v1,r1⟩)
   ·obtain⟨g,k⟩:=Ex vw (r1.append r2) hq
    exact h _ _ _ g k
  | _=>exact h.elim
 | _=>exact h.elim
end
end A
namespace So
open PySem PySem.W PyProof.Rows
def JL{α : Type}(n:Nat)(lt:Nat→Nat→Bool):KasT α→(α→Prop)→Prop
 | .ret a,Q=>Q a
 | .ask i j k,Q=>i < n∧j < n∧JL n lt (k (lt i j)) Q
theorem oJ{α β : Type}{n:Nat}{lt:Nat→Nat→Bool}{f:α→KasT β}{Q:β→Prop}:∀ {t:KasT α},JL n lt t (fun a=>JL n lt (f a) Q)→JL n lt (t.bind f) Q
 | .ret _,h=>h
 | .ask _ _ k,h=>⟨h.1,h.2.1,oJ (t:=k _) h.2.2⟩
theorem iV{α : Type}{n:Nat}{lt:Nat→Nat→Bool}{Q Q':α→Prop}(m:∀ a,Q a→Q' a):∀ {t:KasT α},JL n lt t Q→JL n lt t Q'
 | .ret _,h=>m _ h
 | .ask _ _ k,h=>⟨h.1,h.2.1,iV m (t:=k _) h.2.2⟩
theorem QK{α : Type}{n:Nat}{lt:Nat→Nat→Bool}{cmp:Nat→Nat→(Bool→Shared→Prop)→Shared→Prop}{s:Shared}(hc:∀ i j C,i < n→j < n→C (lt i j) s→cmp i j C s){Q:α→Prop}:∀ {t:KasT α},JL n lt t Q→t.kasWp cmp (fun a s'=>s'=s∧Q a) s
 | .ret _,h=>⟨rfl,h⟩
 | .ask i j k,h=>hc i j _ h.1 h.2.1 (QK hc (t:=k _) h.2.2)
section
variable{n:Nat}{lt:Nat→Nat→Bool}
structure Ord(n:Nat)(lt:Nat→Nat→Bool):Prop where
 tot:∀ i j,i < n→j < n→i≠j→lt i j=true∨lt j i=true
 asy:∀ i j,i < n→j < n→lt i j=true→lt j i=false
 tr:∀ i j k,i < n→j < n→k < n→lt i j=true→lt j k=true→lt i k=true
abbrev at'(p:Array Nat)(i:Nat):Nat:=p.getD i 0
structure Pm(n:Nat)(p:Array Nat):Prop where
 pm:p.Perm (List.toArray (List.range n))
theorem Pm.size{p:Array Nat}(h:Pm n p):p.size=n:=by have:=h.pm.size_eq;simpa using this
theorem Jm{p:Array Nat}{i:Nat}(h:i < p.size):at' p i=p[i]:=by simp[at',Array.getD,h]
theorem Pm.bd{p:Array Nat}(h:Pm n p){i:Nat}(hi:i < n):at' p i < n:=by
 have hs:i < p.size:=by rw[h.size];exact hi
 rw[Jm hs]
 have:p[i]∈(List.toArray (List.range n)).toList:=(Array.perm_iff_toList_perm.mp h.pm).mem_iff.mp (by simp)
 simpa using this
theorem Pm.inj{p:Array Nat}(h:Pm n p){i j:Nat}(hi:i < n)(hj:j < n)(e:at' p i=at' p j):i=j:=by
 have si:i < p.size:=by rw[h.size];exact hi
 have sj:j < p.size:=by rw[h.size];exact hj
 rw[Jm si,Jm sj] at e
 have nd:p.toList.Nodup:=(Array.perm_iff_toList_perm.mp h.pm).nodup_iff.mpr (by simpa using List.nodup_range)
 have e2:p.toList[i]'(by simpa using si)=p.toList[j]'(by simpa using sj):=by simpa using e
 exact(List.getElem_inj nd).mp e2
def Sd(lt:Nat→Nat→Bool)(p:Array Nat)(k:Nat):Prop:=∀ i j,i < j→j < k→lt (at' p i) (at' p j)=true
def Dd(lt:Nat→Nat→Bool)(p:Array Nat)(k:Nat):Prop:=∀ i j,i < j→j < k→lt (at' p j) (at' p i)=true
variable(O:Ord n lt)
include O
theorem not_lt{p:Array Nat}(h:Pm n p){i j:Nat}(hi:i < n)(hj:j < n)(ne:i≠j)(e:lt (at' p i) (at' p j)=false):lt (at' p j) (at' p i)=true:=by
 rcases O.tot _ _ (h.bd hi) (h.bd hj) (fun z=>ne (h.inj hi hj z)) with z|z
 ·rw[e] at z;cases z
 ·exact z
theorem Sd.more{p:Array Nat}(h:Pm n p){k:Nat}(s:Sd lt p k)(hk:1≤k)(hkn:k < n)(e:lt (at' p (k - 1)) (at' p k)=true):Sd lt p (k+1):=fun i j hij hj=>by
 by_cases hjk:j < k
 ·exact s i j hij hjk
 ·obtain rfl:j=k:=by omega
  by_cases hi:i=j - 1
  ·subst hi;exact e
  ·exact O.tr _ _ _ (h.bd (by omega)) (h.bd (by omega)) (h.bd hkn) (s i (j - 1) (by omega) (by omega)) e
theorem Dd.more{p:Array Nat}(h:Pm n p){k:Nat}(s:Dd lt p k)(hk:1≤k)(hkn:k < n)(e:lt (at' p k) (at' p (k - 1))=true):Dd lt p (k+1):=fun i j hij hj=>by
 by_cases hjk:j < k
 ·exact s i j hij hjk
 ·obtain rfl:j=k:=by omega
  by_cases hi:i=j - 1
  ·subst hi;exact e
  ·exact O.tr _ _ _ (h.bd hkn) (h.bd (by omega)) (h.bd (by omega)) e (s i (j - 1) (by omega) (by omega))
theorem Ld{p:Array Nat}(h:Pm n p):∀ (f k:Nat),1≤k→k+f≤n→Sd lt p k→JL n lt (kas_asc p f k) fun m=>k≤m∧m≤k+f∧Sd lt p m∧(m=k+f∨lt (at' p m) (at' p (m - 1))=true)
 | 0,k,_,_,s=>⟨Nat.le_refl _,Nat.le_refl _,s,.inl rfl⟩
 | f+1,k,h1,h2,s=>by
  refine⟨h.bd (by omega),h.bd (by omega),?_⟩
  cases e:lt (p.getD k 0) (p.getD (k - 1) 0) with
  | true=>exact⟨Nat.le_refl _,by omega,s,.inr e⟩
  | false =>
   dsimp only
   rw[if_neg Bool.false_ne_true]
   refine iV (fun m hm=>?_) (Ld h f (k+1) (by omega) (by omega) (Sd.more O h s h1 (by omega) (not_lt O h (by omega) (by omega) (by omega) e)))
   refine⟨by omega,by omega,hm.2.2.1,?_⟩
   rcases hm.2.2.2 with z|z
   ·exact .inl (by omega)
   ·exact .inr z
theorem Nk{p:Array Nat}(h:Pm n p):∀ (f k:Nat),1≤k→k+f≤n→Dd lt p k→JL n lt (kas_desc f p k 0) fun r=>r.1=p∧k≤r.2.1∧r.2.1≤k+f∧r.2.2=0∧Dd lt p r.2.1
 | 0,k,_,_,s=>⟨rfl,Nat.le_refl _,Nat.le_refl _,rfl,s⟩
 | f+1,k,h1,h2,s=>by
  refine⟨h.bd (by omega),h.bd (by omega),?_⟩
  cases e:lt (p.getD k 0) (p.getD (k - 1) 0) with
  | true =>
   dsimp only
   rw[if_pos rfl,if_neg (by omega)]
   refine iV (fun r hr=>⟨hr.1,by omega,by omega,hr.2.2.2⟩) (Nk h f (k+1) (by omega) (by omega) (Dd.more O h s h1 (by omega) e))
  | false =>
   dsimp only
   rw[if_neg Bool.false_ne_true]
   refine⟨h.bd (by omega),h.bd (by omega),?_⟩
   dsimp only
   rw[show lt (p.getD (k - 1) 0) (p.getD k 0)=true from not_lt O h (by omega) (by omega) (by omega) e,if_pos rfl]
   exact⟨rfl,Nat.le_refl _,by show k≤_;omega,rfl,s⟩
theorem Vc{p:Array Nat}{k:Nat}(hk:k≤p.size)(i:Nat):at' (kas_rev p 0 k) i=if i < k then at' p (k - 1 - i) else at' p i:=by
 have e:=getElem?_mirror_all (xs:=p) (i:=0) (j:=k) hk i
 show (kas_rev p 0 k).getD i 0=_
 have g:∀ (q:Array Nat) (j:Nat),q.getD j 0=(q[j]?).getD 0:=fun q j=>by simp
 rw[g]
 unfold kas_rev
 rw[e]
 by_cases hi:i < k
 ·rw[if_pos ⟨Nat.zero_le _,hi⟩,if_pos hi,← g,show 0+k - 1 - i=k - 1 - i by omega]
 ·rw[if_neg (by omega),if_neg hi,← g]
theorem Ro{p:Array Nat}(h:Pm n p)(k:Nat):Pm n (kas_rev p 0 k):=⟨(mirror_perm _ _ _ _).trans h.pm⟩
theorem Vy{p:Array Nat}(h:Pm n p){k:Nat}(h1:1≤k)(h2:k≤n)(s:Dd lt p k):JL n lt (kas_tail3 k n p) fun r=>Pm n r.2∧1≤r.1∧r.1≤n∧Sd lt r.2 r.1:=by
 have sz:k≤p.size:=by rw[h.size];exact h2
 have s':Sd lt (kas_rev p 0 k) k:=fun i j hij hj=>by
  rw[Vc O sz,Vc O sz,if_pos (by omega),if_pos hj]
  exact s _ _ (by omega) (by omega)
 refine oJ (iV (fun m hm=>?_) (Ld O (Ro O h k) (n - k) k h1 (by omega) s'))
 exact⟨Ro O h k,by omega,by omega,hm.2.2.1⟩
theorem Iw{p:Array Nat}(h:Pm n p){k:Nat}(h2:k+1≤n)(s:Dd lt p (k+1)):JL n lt (kas_descPart k n p) fun r=>Pm n r.2∧1≤r.1∧r.1≤n∧Sd lt r.2 r.1:=by
 refine oJ (iV (fun r hr=>?_) (Nk O h (n - (k+1)) (k+1) (by omega) (by omega) s))
 obtain⟨e1,l1,l2,e2,d⟩:=hr
 rw[e2,if_neg (by omega),e1]
 exact Vy O h (by omega) (by omega) d
theorem Ut{p:Array Nat}(h:Pm n p)(h1:1≤n):JL n lt (kas_count n p) fun r=>Pm n r.2∧1≤r.1∧r.1≤n∧Sd lt r.2 r.1:=by
 refine oJ (iV (fun m hm=>?_) (Ld O h (n - 1) 1 (Nat.le_refl _) (by omega) (fun i j hij hj=>by omega)))
 obtain⟨m1,m2,s,e⟩:=hm
 by_cases hn:m=n
 ·rw[if_pos (by simpa using hn)]
  exact⟨h,m1,by omega,s⟩
 ·rw[if_neg (by simpa using hn)]
  have e:=e.resolve_left (by omega)
  by_cases hg:m > 1
  ·rw[if_pos hg]
   refine⟨h.bd (by omega),h.bd (by omega),?_⟩
   dsimp only
   rw[show lt (p.getD 0 0) (p.getD (m - 1) 0)=true from s 0 (m - 1) (by omega) (by omega),if_pos rfl]
   exact⟨h,m1,by omega,s⟩
  ·rw[if_neg hg]
   obtain rfl:m=1:=by omega
   refine Iw O h (by omega) fun i j hij hj=>?_
   obtain rfl:i=0:=by omega
   obtain rfl:j=1:=by omega
   exact e
theorem zN{p:Array Nat}(h:Pm n p){k:Nat}(hk:k < n)(s:Sd lt p k):∀ (f l r:Nat),l≤r→r≤k→r - l≤f→(∀ i,i < l→lt (at' p i) (at' p k)=true)→(∀ i,r≤i→i < k→lt (at' p k) (at' p i)=true) →
 JL n lt (kas_place p k f l r) fun m=>m≤k∧(∀ i,i < m→lt (at' p i) (at' p k)=true)∧(∀ i,m≤i→i < k→lt (at' p k) (at' p i)=true)
 | 0,l,r,h1,h2,h3,a,b=>by
  obtain rfl:l=r:=by omega
  exact⟨h2,a,b⟩
 | f+1,l,r,h1,h2,h3,a,b=>by
  unfold kas_place
  by_cases g:l ≥ r
  ·rw[if_pos g]
   obtain rfl:l=r:=by omega
   exact⟨h2,a,b⟩
  ·rw[if_neg g]
   refine⟨h.bd hk,h.bd (by omega),?_⟩
   cases e:lt (p.getD k 0) (p.getD ((l+r) / 2) 0) with
   | true =>
    dsimp only
    rw[if_pos rfl]
    refine zN h hk s f l ((l+r) / 2) (by omega) (by omega) (by omega) a fun i hi hk'=>?_
    by_cases z:i=(l+r) / 2
    ·subst z;exact e
    ·exact O.tr _ _ _ (h.bd hk) (h.bd (by omega)) (h.bd (by omega)) e (s _ _ (by omega) hk')
   | false =>
    dsimp only
    rw[if_neg Bool.false_ne_true]
    have e':=not_lt O h hk (by omega) (by omega) e
    refine zN h hk s f ((l+r) / 2+1) r (by omega) h2 (by omega) (fun i hi=>?_) b
    by_cases z:i=(l+r) / 2
    ·subst z;exact e'
    ·exact O.tr _ _ _ (h.bd (by omega)) (h.bd (by omega)) (h.bd hk) (s _ _ (by omega) (by omega)) e'
theorem Vd{p:Array Nat}{k d:Nat}(hk:k < p.size)(hd:d≤k)(i:Nat):at' (bubble p k d) i=if i=k - d then at' p k else if k - d < i∧i≤k then at' p (i - 1) else at' p i:=by
 have e:=getElem?_bubble hk d hd i
 have g:∀ (q:Array Nat) (j:Nat),q.getD j 0=(q[j]?).getD 0:=fun q j=>by simp
 show (bubble p k d).getD i 0=_
 rw[g,e]
 by_cases h1:i=k - d
 ·rw[if_pos h1,if_pos h1,← g]
 ·rw[if_neg h1,if_neg h1]
  by_cases h2:k - d < i∧i≤k
  ·rw[if_pos h2,if_pos h2,← g]
  ·rw[if_neg h2,if_neg h2,← g]
theorem UJ:∀ (f:Nat) (p:Array Nat) (k:Nat),Pm n p→k+f≤n→Sd lt p k→JL n lt (kas_bin f p k) fun q=>Pm n q∧Sd lt q (k+f)
 | 0,p,k,h,_,s=>⟨h,s⟩
 | f+1,p,k,h,hk,s=>by
  have sz:k < p.size:=by rw[h.size];omega
  refine oJ (iV (fun l hl=>?_) (zN O h (by omega) s k 0 k (by omega) (Nat.le_refl _) (by omega) (fun i hi=>by omega) (fun i h1 h2=>by omega)))
  obtain⟨l1,lo,hi⟩:=hl
  have s':Sd lt (bubble p k (k - l)) (k+1):=fun i j hij hj=>by
   rw[Vd O sz (d:=k - l) (by omega),Vd O sz (d:=k - l) (by omega),show k - (k - l)=l by omega]
   by_cases c1:i=l
   ·rw[if_pos c1,if_neg (by omega),if_pos (by omega)]
    exact hi _ (by omega) (by omega)
   ·rw[if_neg c1]
    by_cases c2:l < i∧i≤k
    ·rw[if_pos c2,if_neg (by omega),if_pos (by omega)]
     exact s _ _ (by omega) (by omega)
    ·rw[if_neg c2]
     by_cases c3:j=l
     ·rw[if_pos c3]
      exact lo _ (by omega)
     ·rw[if_neg c3]
      by_cases c4:l < j∧j≤k
      ·rw[if_pos c4]
       exact s _ _ (by omega) (by omega)
      ·rw[if_neg c4]
       exact s _ _ (by omega) (by omega)
  refine iV (fun q hq=>⟨hq.1,?_⟩) (UJ f (bubble p k (k - l)) (k+1) ⟨(bubble_perm _ _ _).trans h.pm⟩ (by omega) s')
  rw[show k+(f+1)=k+1+f by omega];exact hq.2
theorem VH(h1:1≤n):JL n lt (kas_sort n) fun q=>Pm n q∧Sd lt q n:=by
 refine oJ (iV (fun r hr=>?_) (Ut O ⟨Array.Perm.refl _⟩ h1))
 obtain⟨pm,r1,r2,s⟩:=hr
 by_cases hl:r.1 < n
 ·rw[if_pos hl]
  refine iV (fun q hq=>⟨hq.1,?_⟩) (UJ O (n - max r.1 1) r.2 (max r.1 1) pm (by omega) (by rw[show max r.1 1=r.1 by omega];exact s))
  rw[show n=max r.1 1+(n - max r.1 1) by omega];exact hq.2
 ·rw[if_neg hl]
  exact⟨pm,by rw[show n=r.1 by omega];exact s⟩
end
end So
namespace So
open PySem PySem.W PyProof.Rows PySem.MeetsSeq3
def iC:List Int→List Int→Bool
 | [],[]=>false
 | [],_::_=>true
 | _::_,[]=>false
 | a::r,b::t=>if a == b then iC r t else decide (a < b)
section
variable{prog:Program}{w:World}{Ar:Around}
theorem M7{vs:List Value}{ns:List Int}(h:IntsAre vs ns):∀ {i:Nat} {n:Int},ns[i]? = some n→∃ t,vs[i]? = some (.int n t):=by
 induction h with
 | nil=>intro i n e;simp at e
 | cons a t h ih =>
  intro i n e
  cases i with
  | zero=>simp at e;subst e;exact⟨t,rfl⟩
  | succ i=>exact ih (by simpa using e)
theorem abH{R:Result→Shared→Prop}{s:Shared}{l b:Addr}{us vs:List Value}{xs ys:List Int}{o o2:Obj}{n n2:Nat}(ho:s.heap.get? l=some o)(hd:o.data=.seq us.toArray n)(ho2:s.heap.get? b=some o2)(hd2:o2.data=.seq vs.toArray n2)(hu:IntsAre us xs)(hv:IntsAre vs ys) :
 ∀ (k i:Nat),xs.length - i≤k→i≤xs.length→i≤ys.length→R (.ok (.ret (.bool (iC (xs.drop i) (ys.drop i))))) s→codeAny (model prog w) Ar (.builtin "list.__eq__.loop" ⟨[.ref l,.ref b,rawInt i,rawInt 0],[]⟩) R s:=by
 have l1:=hu.length
 have l2:=hv.length
 have gx:∀ i,i < xs.length→∃ t,us.toArray[i]? = some (.int (xs.getD i 0) t):=fun i hi=>by
  obtain⟨t,e⟩:=M7 hu (i:=i) (n:=xs.getD i 0) (by simp[hi])
  exact⟨t,by simpa using e⟩
 have gy:∀ i,i < ys.length→∃ t,vs.toArray[i]? = some (.int (ys.getD i 0) t):=fun i hi=>by
  obtain⟨t,e⟩:=M7 hv (i:=i) (n:=ys.getD i 0) (by simp[hi])
  exact⟨t,by simpa using e⟩
 have nx:∀ i,¬ i < xs.length→us.toArray[i]? = none:=fun i hi=>by simp;omega
 have ny:∀ i,¬ i < ys.length→vs.toArray[i]? = none:=fun i hi=>by simp;omega
 have ab3:∀ i,i=xs.length→i≤ys.length→decide (us.toArray.size < vs.toArray.size)=iC (xs.drop i) (ys.drop i):=fun i hi hj=>by
  rw[List.drop_eq_nil_of_le (by omega:xs.length≤i),List.size_toArray,List.size_toArray,l1,l2]
  by_cases h:i < ys.length
  ·rw[List.drop_eq_getElem_cons h]
   simp[iC];omega
  ·rw[List.drop_eq_nil_of_le (by omega:ys.length≤i)]
   simp[iC];omega
 have adl:∀ i,i < xs.length→i=ys.length→decide (us.toArray.size < vs.toArray.size)=iC (xs.drop i) (ys.drop i):=fun i hi hj=>by
  rw[List.drop_eq_nil_of_le (by omega:ys.length≤i),List.drop_eq_getElem_cons hi,List.size_toArray,List.size_toArray,l1,l2]
  simp[iC];omega
 have fin:∀ (i:Nat),(us.toArray[i]? = none∨vs.toArray[i]? = none)→R (.ok (.ret (.bool (decide (us.toArray.size < vs.toArray.size))))) s→codeAny (model prog w) Ar (.builtin "list.__eq__.loop" ⟨[.ref l,.ref b,rawInt i,rawInt 0],[]⟩) R s:=fun i hn h=>by
  refine codeAny_builtin entry_eq_loop (by
   rw[Around.under_plainId plain_eq_loop _]
   unfold Builtin.«list.__eq__.loop»
   show wpAny _ _ (Builtin.List.listItems (.ref l) >>= _) _ _ _
   refine wpAny_bind (listItems_at ho hd (wpAny_bind (listItems_at ho2 hd2 ?_)))
   simp only[Int.toNat_natCast]
   rcases hn with e|e
   ·rw[e]
    dsimp only
    refine wpAny_bind (listItems_at ho hd (wpAny_bind (listItems_at ho2 hd2 ?_)))
    exact wpAny_pure h
   ·rw[e]
    cases us.toArray[i]? <;>
    ·dsimp only
     refine wpAny_bind (listItems_at ho hd (wpAny_bind (listItems_at ho2 hd2 ?_)))
     exact wpAny_pure h)
 intro k
 induction k with
 | zero =>
  intro i hk h1 h2 h
  refine fin i (.inl (nx i (by omega))) ?_
  rw[ab3 i (by omega) h2];exact h
 | succ k ih =>
  intro i hk h1 h2 h
  by_cases hi:i < xs.length
  ·by_cases hj:i < ys.length
   ·obtain⟨t,e1⟩:=gx i hi
    obtain⟨u,e2⟩:=gy i hj
    have dx:xs.drop i=xs.getD i 0::xs.drop (i+1):=by rw[List.drop_eq_getElem_cons hi];simp[hi]
    have dy:ys.drop i=ys.getD i 0::ys.drop (i+1):=by rw[List.drop_eq_getElem_cons hj];simp[hj]
    rw[dx,dy] at h
    refine codeAny_builtin entry_eq_loop (by
     rw[Around.under_plainId plain_eq_loop _]
     unfold Builtin.«list.__eq__.loop»
     show wpAny _ _ (Builtin.List.listItems (.ref l) >>= _) _ _ _
     refine wpAny_bind (listItems_at ho hd (wpAny_bind (listItems_at ho2 hd2 ?_)))
     simp only[Int.toNat_natCast]
     rw[e1,e2]
     dsimp only
     refine wpAny_bind (wpAny_eqBool_int ?_)
     cases hb:(xs.getD i 0 == ys.getD i 0) with
     | true =>
      rw[if_pos rfl]
      rw[iC,hb,if_pos rfl] at h
      refine wpAny_pure ⟨plainId_quiet plain_eq_loop _,?_⟩
      have:=ih (i+1) (by omega) hi hj h
      rw[show rawInt ((i+1:Nat):Int)=rawInt ((i:Int)+1) from by rw[show ((i+1:Nat):Int)=(i:Int)+1 by omega]] at this
      exact this
     | false =>
      rw[if_neg Bool.false_ne_true]
      rw[iC,hb,if_neg Bool.false_ne_true] at h
      refine wpAny_bind (listItems_at ho hd (wpAny_bind (listItems_at ho2 hd2 ?_)))
      rw[e1,e2]
      show wpAny _ _ (richCompare .Lt _ _ >>= _) _ _ _
      exact wpAny_bind (show wpAny _ _ (compareOp .Lt _ _) _ _ _ from wpAny_lt_int (wpAny_pure h)))
   ·refine fin i (.inr (ny i hj)) ?_
    rw[adl i hi (by omega)];exact h
  ·refine fin i (.inl (nx i hi)) ?_
   rw[ab3 i (by omega) h2];exact h
theorem Td{E:Value→Shared→Prop}{s:Shared}{l b:Addr}{us vs:List Value}{xs ys:List Int}{o o2:Obj}{n n2:Nat}{Q:Bool→Shared→Prop}(ho:s.heap.get? l=some o)(hc:o.cls=.type "list")(hd:o.data=.seq us.toArray n)(ho2:s.heap.get? b=some o2)(hc2:o2.cls=.type "list")(hd2:o2.data=.seq vs.toArray n2)(hu:IntsAre us xs)(hv:IntsAre vs ys)
 (hun:Ar.units < cLine) (h:Q (iC xs ys) s):wpAny (model prog w) Ar (keyLt' oneType' (.ref l) (.ref b)) Q E s:=by
 have t1:s.TypeIs (.ref l) "list" := ⟨_,ho,hc⟩
 have t2:s.TypeIs (.ref b) "list" := ⟨_,ho2,hc2⟩
 rw[keyLt'_oneType,oneLt'_eq]
 simp only[if_true]
 refine wpAny_bind (wpAny_cRoomFor hun ?_)
 refine wpAny_bind (wpAny_callSpecialIfBound?_slot t1 PySem.F.slot_list_lt (wpAny_call (codeAny_call_builtin PySem.F.slot_list_lt.plain PySem.F.entry_list_lt (PySem.F.slot_list_lt.check _ _ _ _ _ _ _ _ t1 (PySem.F.args_list_lt_2 _ _) ?_))))
 unfold Builtin.«list.__lt__»
 have sub:isSubtype (.type "list") (.type "list")=pure true:=by rw[isSubtype_type];kernel_rfl
 show wpAny _ _ (isInstance (.ref b) (.type "list") >>= _) _ _ _
 refine wpAny_bind (wpAny_isInstance t2 sub ?_)
 refine wpAny_pure ⟨plainId_quiet plain_eq_loop _,?_⟩
 refine abH ho hd ho2 hd2 hu hv xs.length 0 (by omega) (Nat.zero_le _) (Nat.zero_le _) ?_
 exact wpAny_truthy_bool h
end
end So
namespace So
open PySem PySem.W PyProof.Rows
section
variable{prog:Program}{w:World}{A:Around}{E:Value→Shared→Prop}{s:Shared}
def tm(n:Nat):List Addr:=[n,n+1,n+2,n+3]
def uX(lt:Nat→Nat→Bool)(vs out:List Value):Prop:=∃ p:Array Nat,Pm vs.length p∧Sd lt p vs.length∧out=p.toList.map fun i=>vs.getD i Value.none
theorem uX.len{lt:Nat→Nat→Bool}{vs out:List Value}(h:uX lt vs out):out.length=vs.length:=by
 obtain⟨p,pm,_,rfl⟩:=h
 rw[List.length_map,Array.length_toList,pm.size]
theorem zg{a kS:Addr}{e e1:Nat}{ks out:List Value}{st:SortSt}{P:PySem.Fin→Shared→Prop}(hk:s.heap.get? kS=some (seqObj "list" (List.toArray ks) e))(ha:s.heap.get? a=some (seqObj "list" #[] e1))(ne:a≠kS)
 (hks:ks.length < 64) (ho:out.length < 64) (hout:(arrOf st).map (·.2)=List.toArray out) (hf:failedOf st=none)
 (h:∀ h' c,(∀ b o,b≠a→b≠kS→s.heap.get? b=some o→h'.get? b=some o)→(∃ o,h'.get? kS=some o)→h'.get? a=some (seqObj "list" (List.toArray out) c)→P (.done (.ret .none)) { s with heap:=h' }) :
 wpAny (model prog w) A (ksk_tail a false e1 (.ref kS) st) P E s:=by
 have s1:=Heap.SameBut.update s.heap kS (Obj.mapSeq fun _=>(#[]:Array Value))
 have ha1:=(s1.2 a ne).trans ha
 have s2:=Heap.SameBut.update (s.heap.update kS (Obj.mapSeq fun _=>(#[]:Array Value))) a (Obj.mapSeq fun _=>List.toArray out)
 obtain⟨c,hc⟩ : ∃ c,((s.heap.update kS (Obj.mapSeq fun _=>(#[]:Array Value))).update a (Obj.mapSeq fun _=>List.toArray out)).get? a=some (seqObj "list" (List.toArray out) c):=⟨_,get?_update_seq ha1 fun _=>List.toArray out⟩
 unfold ksk_tail
 dsimp only
 rw[hout]
 refine wpAny_bind (listUpdate_at hk rfl ?_ (by rw[List.size_toArray,sizeLine_eq];omega) (Nat.zero_le _))
 refine wpAny_bind (wpAny_letGo (wpAny_bind (seqEpoch_at ha1 rfl ?_)))
 refine wpAny_bind (listUpdate_at ha1 rfl ?_ (Nat.zero_le _) (by show (List.toArray out).size≤_;rw[List.size_toArray,sizeLine_eq];omega))
 rw[hf]
 simp only[bne_self_eq_false,Bool.false_eq_true,if_false]
 exact wpAny_pure (h _ c (fun b o n1 n2 q=>(s2.2 b n1).trans ((s1.2 b n2).trans q)) ⟨_,(s2.2 kS (Ne.symm ne)).trans (get?_update_seq hk fun _=>#[])⟩ hc)
theorem Kw{a kS f:Addr}{e1:Nat}{P:PySem.Fin→Shared→Prop}(J:List Value→Shared→Prop){vs:List Value}(h64:vs.length < 64)
 (jk:∀ ks s1 h',J ks s1→(∀ b o,b≠kS→s1.heap.get? b=some o→h'.get? b=some o)→(∃ o,h'.get? kS=some o)→J ks { s1 with heap:=h' })
 (jc:∀ i x ks s1,vs[i]? = some x→ks.length=i→J ks s1→wpAny (model prog w) A (call (.ref f) [x]) (fun k s2=>J (ks++[k]) s2∧∀ b o,(b=a∨b=kS)→s1.heap.get? b=some o→s2.heap.get? b=some o) (fun _ _=>False) s1)
 (ne:a≠kS) (hk:s.heap.get? kS=some (seqObj "list" #[] 0)) (ha:s.heap.get? a=some (seqObj "list" #[] e1)) (j0:J [] s)
 (fin:∀ ks e s1,ks.length=vs.length→J ks s1→s1.heap.get? kS=some (seqObj "list" (List.toArray ks) e)→s1.heap.get? a=some (seqObj "list" #[] e1)→wpAny (model prog w) A (ksk_end a false vs.toArray e1 (.ref kS) (List.toArray ks)) P E s1) :
 wpAny (model prog w) A (ksk_rest a (.ref f) false vs.toArray e1 (.ref kS)) P E s:=by
 unfold ksk_rest
 refine wpAny_bind (wpAny_rule ?_)
 rw[List.forIn_toArray]
 refine wpAny_bind (ksk_fold (I:=fun i s1=>∃ ks e,ks.length=i∧J ks s1∧s1.heap.get? kS=some (seqObj "list" (List.toArray ks) e)∧s1.heap.get? a=some (seqObj "list" #[] e1)) vs 0 s ⟨[],0,rfl,j0,hk,ha⟩ (fun j x s1 hx hI=>?_) fun s1 hI=>?_)
 ·obtain⟨ks,e,hl,hJ,hk1,ha1⟩:=hI
  rw[Nat.zero_add] at hl ⊢
  have hlt:j < vs.length:=(List.getElem?_eq_some_iff.mp hx).1
  refine wpAny_bind (wpAny_attempt (wpAny_mono (jc j x ks s1 hx hl hJ) (fun k s2 h2=>?_) fun _ _ z=>z.elim))
  obtain⟨hJ2,kp⟩:=h2
  have hk2:=kp kS _ (.inr rfl) hk1
  have ha2:=kp a _ (.inl rfl) ha1
  have su:=Heap.SameBut.update s2.heap kS (Obj.mapSeq (·.push k))
  have ea:(List.toArray ks).push k=List.toArray (ks++[k]):=by simp
  obtain⟨c2,hc2⟩ : ∃ c2,(s2.heap.update kS (Obj.mapSeq (·.push k))).get? kS=some (seqObj "list" (List.toArray (ks++[k])) c2):=⟨_,by rw[← ea];exact get?_update_seq hk2 (·.push k)⟩
  dsimp only
  refine wpAny_bind (listUpdate_at hk2 rfl ?_ (by rw[List.size_toArray,sizeLine_eq];omega) (Nat.le_trans (Nat.le_of_eq (Array.size_push ..)) (by rw[List.size_toArray,sizeLine_eq];omega)))
  exact wpAny_pure ⟨rfl,ks++[k],c2,by rw[List.length_append,hl];rfl,jk _ _ _ hJ2 (fun b o n q=>(su.2 b n).trans q) ⟨_,hc2⟩,hc2,(su.2 a ne).trans ha2⟩
 ·obtain⟨ks,e,hl,hJ,hk1,ha1⟩:=hI
  refine wpAny_bind (listItems_at hk1 rfl ?_)
  exact fin ks e s1 (by simpa using hl) hJ hk1 ha1
theorem PB{a kS:Addr}{e e1:Nat}{ks vs:List Value}{lt:Nat→Nat→Bool}{P:PySem.Fin→Shared→Prop}(hl:ks.length=vs.length)(h64:vs.length < 64)(O:Ord vs.length lt)
 (hkk:2≤vs.length→∀ (Q:SortKind→Shared→Prop),Q oneType' s→wpAny (model prog w) A (keyKind' (List.toArray ks)) Q (fun _ _=>False) s)
 (hcmp:∀ i j C,i < vs.length→j < vs.length→C (lt i j) s→kas_ask prog w A oneType' ks i j C s)
 (hk:s.heap.get? kS=some (seqObj "list" (List.toArray ks) e)) (ha:s.heap.get? a=some (seqObj "list" #[] e1)) (ne:a≠kS)
 (h:∀ out h' c,uX lt vs out→(∀ b o,b≠a→b≠kS→s.heap.get? b=some o→h'.get? b=some o)→(∃ o,h'.get? kS=some o)→h'.get? a=some (seqObj "list" (List.toArray out) c)→P (.done (.ret .none)) { s with heap:=h' }) :
 wpAny (model prog w) A (ksk_end a false vs.toArray e1 (.ref kS) (List.toArray ks)) P E s:=by
 have WD:∀ {n:Nat},Pm n (List.toArray (List.range n)):=⟨Array.Perm.refl _⟩
 unfold ksk_end
 dsimp only
 rw[if_neg Bool.false_ne_true,if_neg Bool.false_ne_true]
 by_cases h2:vs.toArray.size < 2
 ·rw[if_pos h2,if_pos h2]
  rw[List.size_toArray] at h2
  refine wpAny_bind (wpAny_pure ?_)
  rw[StateT.run_pure]
  refine wpAny_bind (wpAny_pure ?_)
  dsimp only
  have hout:uX lt vs vs:=⟨List.toArray (List.range vs.length),WD,fun i j hij hj=>by omega,by
   apply List.ext_getElem (by simp)
   intro i h1 h2
   simp[h1]⟩
  refine zg (out:=vs) hk ha ne (by omega) h64 ?_ rfl fun h' c kp ex hc=>h vs h' c hout kp ex hc
  show ((List.toArray ks).zip vs.toArray).map (·.2)=vs.toArray
  apply Array.toList_inj.mp
  rw[Array.toList_map,Array.toList_zip]
  simp only[]
  rw[List.map_snd_zip (by omega)]
 ·rw[if_neg h2,if_neg h2]
  rw[List.size_toArray] at h2
  refine wpAny_bind (wpAny_mono (hkk (by omega) (fun κ s'=>κ = oneType'∧s'=s) ⟨rfl,rfl⟩) (fun κ s' hh=>?_) fun _ _ z=>z.elim)
  obtain⟨rfl,rfl⟩:=hh
  have wp:=QK (cmp:=kas_ask prog w A oneType' ks) (s:=s') hcmp (VH O (by omega))
  refine wpAny_bind (wpAny_mono (kat_run (E:=E) (Q:=fun st' s2=>s2=s'∧∃ p:Array Nat,Pm vs.length p∧Sd lt p vs.length∧arrOf st'=p.map (kas_item (ks.toArray.zip vs.toArray))∧failedOf st'=none) hl (by omega) h64 (fun p st' s2 _ a2 a3 a4=>⟨a4.1,p,a4.2.1,a4.2.2,a2,a3⟩) wp) ?_ fun _ _ z=>z)
  rintro ⟨⟨⟩,st'⟩ s2 ⟨rfl,p,pm,sd,har,hf⟩
  dsimp only
  have hout:uX lt vs (p.toList.map fun i=>vs.getD i Value.none):=⟨p,pm,sd,rfl⟩
  exact zg hk ha ne (by omega) (by rw[hout.len];exact h64) (kat_snds hl har) hf fun h' c kp ex hc=>h _ h' c hout kp ex hc
theorem Ea{f l:Addr}{vs:List Value}{Q:Value→Shared→Prop}(J:List Value→Shared→Prop)(hl:s.heap.IsList l vs.toArray)(h64:vs.length < 64)
 (j0:∀ h':Heap,(∀ b o,s.heap.get? b=some o→h'.get? b=some o)→(∀ b∈tm s.heap.objs.size,∃ o,h'.get? b=some o)→J [] { s with heap:=h' })
 (jk:∀ ks s1 h',J ks s1→(∀ b o,b∉tm s.heap.objs.size→s1.heap.get? b=some o→h'.get? b=some o)→(∀ b o,s1.heap.get? b=some o→∃ o',h'.get? b=some o')→J ks { s1 with heap:=h' })
 (jc:∀ i x ks s1,vs[i]? = some x→ks.length=i→J ks s1→wpAny (model prog w) A.in1.in1 (call (.ref f) [x]) (fun k s2=>J (ks++[k]) s2∧∀ b o,b∈tm s.heap.objs.size→s1.heap.get? b=some o→s2.heap.get? b=some o) (fun _ _=>False) s1)
 (je:∀ ks s1,ks.length=vs.length→J ks s1→∃ lt,Ord vs.length lt∧(2≤vs.length→∀ (Q:SortKind→Shared→Prop),Q oneType' s1→wpAny (model prog w) A.in1.in1 (keyKind' (List.toArray ks)) Q (fun _ _=>False) s1) ∧
  (∀ i j C,i < vs.length→j < vs.length→C (lt i j) s1→kas_ask prog w A.in1.in1 oneType' ks i j C s1) ∧
  ∀ out h' c,uX lt vs out→(∀ b o,b∉tm s.heap.objs.size→s1.heap.get? b=some o→h'.get? b=some o)→(∀ b o,s1.heap.get? b=some o→∃ o',h'.get? b=some o')→h'.get? (s.heap.objs.size+1)=some (seqObj "list" (List.toArray out) c)→Q (.ref (s.heap.objs.size+1)) { s1 with heap:=h' }) :
 wpAny (model prog w) A (call (.builtin "sorted") [.ref l] [(Str.ofString "key", .ref f)]) Q E s:=by
 refine call_function_entry_kw kind_sorted plain_sorted entry_sorted (ksk_s1 _ _) ?_
 unfold Builtin.«sorted»
 refine wpAny_bind (m:=checkCount "sorted" 1 1 _) (wpAny_pure ?_)
 refine wpAny_bind (collect_list hl ?_ (by rw[sizeLine_eq];omega))
 refine wpAny_bind (wpAny_newList ?_ (by rw[sizeLine_eq];omega))
 generalize hn:s.heap.objs.size=n at *
 generalize hh1:((s.heap.push (seqObj "list" #[] 0)).update n (Obj.mapSeq (· ++ vs.toArray)))=h1
 have hsz:h1.objs.size=n+1:=by rw[← hh1,Heap.size_update,size_push',hn]
 have k1:∀ b o,s.heap.get? b=some o→h1.get? b=some o:=fun b o q=>by
  have hlt:b < n:=by rw[← hn];exact Heap.lt_size q
  rw[← hh1,Heap.get?_update_ne _ _ _ _ (Nat.ne_of_lt hlt),Heap.get?_push_ne _ _ _ (by rw[hn];exact Nat.ne_of_lt hlt)]
  exact q
 have hoL:(h1.push (seqObj "list" vs.toArray 0)).get? (n+1)=some (seqObj "list" vs.toArray 0):=by rw[← hsz];exact Heap.get?_push_size _ rfl
 show wpAny _ _ _ _ _ { s with heap:=h1.push (seqObj "list" vs.toArray 0) }
 rw[hsz]
 refine wpAny_bind (wpAny_holding (wpAny_call_entry_kw slot_list_sort ⟨_,hoL,rfl⟩ entry_list_sort ?_ (ksk_l1 _ _)))
 show wpAny (model prog w) A.in1.in1 (Builtin.«list.sort» ⟨[.ref (n+1)],[(Str.ofString "key", .ref f)]⟩) _ _ _
 rw[ksk_t1]
 generalize hh2:h1.push (seqObj "list" vs.toArray 0)=h2 at hoL ⊢
 have k2:∀ b o,s.heap.get? b=some o→h2.get? b=some o:=fun b o q=>by rw[← hh2];exact Heap.get?_push_of_some _ (k1 b o q)
 have z2:h2.objs.size=n+2:=by rw[← hh2,Heap.size_push,hsz]
 obtain⟨e1,ho1⟩ : ∃ e1,(h2.update (n+1) (Obj.mapSeq fun _=>(#[]:Array Value))).get? (n+1)=some (seqObj "list" #[] e1):=⟨_,get?_update_seq hoL fun _=>#[]⟩
 have su:=Heap.SameBut.update h2 (n+1) (Obj.mapSeq fun _=>(#[]:Array Value))
 unfold ksk_tree
 refine wpAny_bind (listItems_at (s:={ s with heap:=h2 }) hoL rfl ?_)
 refine wpAny_bind (listUpdate_at (s:={ s with heap:=h2 }) hoL rfl ?_ (by rw[List.size_toArray,sizeLine_eq];omega) (Nat.zero_le _))
 refine wpAny_bind (seqEpoch_at (s:={ s with heap:=h2.update (n+1) (Obj.mapSeq fun _=>(#[]:Array Value)) }) ho1 rfl ?_)
 refine wpAny_bind (wpAny_newTuple ?_ (by show vs.length≤_;rw[sizeLine_eq];omega))
 refine wpAny_bind (wpAny_newList ?_ (Nat.zero_le _))
 refine wpAny_holding ?_
 generalize hh3:h2.update (n+1) (Obj.mapSeq fun _=>(#[]:Array Value))=h3 at ho1 su ⊢
 have z3:h3.objs.size=n+2:=by rw[← hh3,Heap.size_update,z2]
 have z4:(h3.push (seqObj "tuple" vs.toArray 0)).objs.size=n+3:=by rw[Heap.size_push,z3]
 show wpAny (model prog w) A.in1.in1 (ksk_rest (n+1) (.ref f) false vs.toArray e1 (.ref (h3.push (seqObj "tuple" vs.toArray 0)).objs.size)) _ _ { s with heap:=(h3.push (seqObj "tuple" vs.toArray 0)).push (seqObj "list" #[] 0) }
 rw[z4]
 have ac7:∀ b o,s.heap.get? b=some o→((h3.push (seqObj "tuple" vs.toArray 0)).push (seqObj "list" #[] 0)).get? b=some o:=fun b o q=>by
  have hlt:b < n:=by rw[← hn];exact Heap.lt_size q
  exact Heap.get?_push_of_some _ (Heap.get?_push_of_some _ ((su.2 b (Nat.ne_of_lt (Nat.lt_succ_of_lt hlt))).trans (k2 b o q)))
 refine Kw (kS:=n+3) (a:=n+1) J h64 (fun ks s1 h' hJ kp ex=>jk ks s1 h' hJ (fun b o hb q=>kp b o (fun z=>hb (by simp[tm,z])) q) fun b o q=>by
  by_cases z:b=n+3
  ·rw[z];exact ex
  ·exact⟨o,kp b o z q⟩)
  (fun i x ks s1 hx hl' hJ=>wpAny_mono (jc i x ks s1 hx hl' hJ) (fun k s2 h2=>⟨h2.1,fun b o hb q=>h2.2 b o (by rcases hb with z|z<;>simp[tm,z]) q⟩) fun _ _ z=>z) (show (n+1:Nat)≠n+3 by omega)
  (by rw[← z4];exact Heap.get?_push_size _ rfl) (Heap.get?_push_of_some _ (Heap.get?_push_of_some _ ho1)) (j0 _ ac7 fun b hb=>?ex) fun ks e s1 hlk hJ hk1 ha1=>?_
 case ex =>
  have e0:∃ o,h3.get? n=some o:=by
   have q0:(s.heap.push (seqObj "list" #[] 0)).get? n=some (seqObj "list" #[] 0):=by rw[← hn];exact Heap.get?_push_size _ rfl
   obtain⟨o1,q1⟩ : ∃ o1,h1.get? n=some o1:=by rw[← hh1];exact⟨_,get?_update_seq q0 (· ++ vs.toArray)⟩
   exact⟨_,(su.2 n (show (n:Nat)≠n+1 by omega)).trans (by rw[← hh2];exact Heap.get?_push_of_some _ q1)⟩
  simp only[tm,List.mem_cons,List.not_mem_nil,or_false] at hb
  rcases hb with rfl|rfl|rfl|rfl
  ·obtain⟨o,q⟩:=e0
   exact⟨o,Heap.get?_push_of_some _ (Heap.get?_push_of_some _ q)⟩
  ·exact⟨_,Heap.get?_push_of_some _ (Heap.get?_push_of_some _ ho1)⟩
  ·exact⟨_,Heap.get?_push_of_some _ (by rw[← z3];exact Heap.get?_push_size _ rfl)⟩
  ·exact⟨_,by rw[← z4];exact Heap.get?_push_size _ rfl⟩
 obtain⟨lt,O,hkk,hcmp,fin⟩:=je ks s1 hlk hJ
 refine PB hlk h64 O hkk hcmp hk1 ha1 (show (n+1:Nat)≠n+3 by omega) fun out h' c so kp ex hc=>?_
 exact⟨_,rfl,wpAny_pure ⟨_,rfl,fin out h' c so (fun b o hb q=>kp b o (fun z=>hb (by simp[tm,z])) (fun z=>hb (by simp[tm,z])) q) (fun b o q=>by
  by_cases y1:b=n+1
  ·rw[y1];exact⟨_,hc⟩
  ·by_cases y2:b=n+3
   ·rw[y2];exact ex
   ·exact⟨o,kp b o y1 y2 q⟩) hc⟩⟩
end
end So
namespace L2
open PySem PySem.Spec PyProof.Rows
def cxL(X:Cx)(A:Around)(N':List Str)(env:Env)(s:Shared)(H:Hp):Cx :=
 { X with A:=A.deeper env,N:=N',s₀:=s,H₀:=H,env:=env,outer:=X.stack,stack:=env::X.stack,ex:=[],fn:=fun _=>false,calm:=true,pn:=[],xe:=fun _ _=>False }
abbrev Fq(qual:Str)(scope:Scope)(s:Shared)(f c':Addr)(cl:List (Str×Addr)):Env:=PySem.W.envX qual scope s.heap.objs.size f (.ref c') cl
structure Dn(X:Cx)(x:Str)(ρ : List Nat)(N':List Str)(sc:Scope)(cl:List (Str×Addr)):Prop where
 kind:sc.kind=.function
 co:sc.isCoroutine=false
 gen:sc.isGenerator=false
 z6:∀ y∈sc.names,y.2≠.cell
 par:sc.names.lookup x=some .local
 clo:∀ y c,cl.lookup y=some c→X.env.cells.lookup y=some c
 has:∀ y,sc.names.lookup y=some .free→∃ c,cl.lookup y=some c
 N:∃ ys,N'=x::ys∧ys.length = ρ.length∧∀ (i j:Nat) y,ρ[i]? = some j→ys[i]? = some y→X.N[j]? = some y∧sc.names.lookup y=some .free∧(X.env.kindOf y=some .cell∨X.env.kindOf y=some .free)
section
variable{X:Cx}{pins:List (Addr×Obj)}{σ : St}{H:Hp}{s:Shared}{A:Around}{k:Nat}{qual x:Str}{ps:Arguments}{body:Expr}{sc:Scope}{cl:List (Str×Addr)}{pm ctv:Value}{f c':Addr}{ρ : List Nat}{N':List Str}
def nF(ρ : List Nat)(σ : St)(v:V):St:=some v :: ρ.map fun j=>(σ[j]?).join
theorem Ws{h1:Heap}{tk:Nat}{v:V}{u:Value}(I:Inv X pins σ H s)(hA:A.frames=some X.stack)(hd:A.handled=none)(S:Dn X x ρ N' sc cl)(rv:RelV v u)
 (hns:h1.Ns s.heap.objs.size fun y=>[(x,u)].reverse.lookup y) (hk:∀ b o,s.heap.get? b=some o→h1.get? b=some o) :
 Inv (cxL X A N' (Fq qual sc s f c' cl) s H) [] (nF ρ σ v) H { s with heap:=h1,toks:=tk }:=by
 obtain⟨ys,eN,el,ix⟩:=S.N
 have noA:∀ b:Addr,b∉([]:List Addr):=fun b z=>absurd z (by simp)
 refine⟨⟨I.mod,S.kind,rfl,rfl,Nat.le_refl _,fun y z c h1 h2=>I.ok.inj y z c (S.clo y c h1) (S.clo z c h2),fun y hy=>?_,fun y c z=>(nomatch z),fun _=>hd,Around.frames_deeper hA,.inr ⟨rfl,rfl⟩,fun b z=>absurd z (noA b),I.bs,Nat.le_trans I.ok.bsz I.sz,fun b _ _=>noA b,fun b z=>absurd z (noA b),I.stack,I.vo⟩,
  rfl,I.bare,Un.kept hk,⟨_,hns,fun i y w h2 h3 h4=>?_⟩,fun y c e=>?_,I.hok.fresh (Nat.le_refl _),fun y c e=>I.lO y c (S.clo y c e),fun p hp=>absurd (show p∈([]:List (Addr×Obj)) from hp) (by simp),I.hok.kept hk,?_⟩
 ·have hy:sc.names.lookup y=some .cell∨sc.names.lookup y=some .free:=hy
  rcases hy with hy|hy
  ·exact absurd rfl (S.z6 _ (PySem.mem_of_lookup hy))
  ·exact S.has y hy
 ·have h2:N'[i]? = some y:=h2
  subst eN
  cases i with
  | zero =>
   have e:x=y:=by simpa using h2
   subst e
   have e2:v=w:=by simpa [nF] using h3
   subst e2
   exact⟨u,rv,.inl ⟨S.par,by simp⟩⟩
  | succ i =>
   have hy:ys[i]? = some y:=by simpa using h2
   have h3:(ρ.map fun j=>(σ[j]?).join)[i]? = some (some w):=by simpa [nF] using h3
   rw[List.getElem?_map] at h3
   obtain⟨j,hj,e⟩:=Option.map_eq_some_iff.mp h3
   have e2:σ[j]? = some (some w):=by
    cases q:σ[j]? with
    | none=>rw[q] at e;cases e
    | some z=>rw[q] at e;exact congrArg some e
   obtain⟨n1,n2,n3⟩:=ix i j y hj hy
   obtain⟨m,hm,hl⟩:=I.loc
   have vis:Vis X.env.scope y:=by
    rcases n3 with z|z
    ·exact .inr (.inl z)
    ·exact .inr (.inr z)
   obtain⟨u2,r2,lk⟩:=hl j y w n1 e2 vis
   refine⟨u2,r2,.inr ⟨.inr n2,?_⟩⟩
   obtain⟨c,hc⟩:=S.has y n2
   refine⟨c,hc,?_⟩
   have hX:=S.clo y c hc
   rcases lk with ⟨z,_⟩|⟨_,c2,e3,ic⟩
   ·rcases n3 with y1|y1
    ·rw[z] at y1;cases y1
    ·rw[z] at y1;cases y1
   ·rw[hX] at e3;cases e3
    obtain⟨o,ho,hd⟩:=ic
    exact⟨o,hk _ _ ho,hd⟩
 ·obtain⟨v2,o,ho,hd⟩:=I.cell y c (S.clo y c e)
  exact⟨v2,o,hk _ _ ho,hd⟩
 ·subst eN
  show (nF ρ σ v).length=(x::ys).length
  simp[nF,el]
theorem Wr{u:Value}{v:V}{tb:TE}{Q:VK}(I:Inv X pins σ H s)(hA:A.frames=some X.stack)(hr:jq (k+1) A)(S:Dn X x ρ N' sc cl)
 (ho:s.heap.get? f=some (PySem.W.kla_obj "<lambda>" qual ps body sc cl pm c' ctv)) (hcd:s.heap.CodeRec (.ref c') qual)
 (hbind:bindArgs (PySem.W.kla_fn "<lambda>" qual ps body sc cl pm (.ref c') ctv) ⟨[u],[]⟩=pure [(x,u)]) (rv:RelV v u)
 (hb:∀ env:Env,jq k (A.deeper env)→env=Fq qual sc s f c' cl→PE (cxL X A N' env s H) body tb) (h:tb (nF ρ σ v) H Q) :
 wpAny (model X.prog X.w) A (call (.ref f) [u]) (CE X.stack X.prog X.w H s Q) (fun _ _=>False) s:=by
 refine wpAny_call (PySem.W.kla_callFunE hr.depth ho rfl S.co S.gen rfl hcd ?_)
 rw[hbind]
 refine wpAny_pure (wpAny_newFunctionEnv S.z6 (fun y hy=>by
  have e:y=(x,u):=by simpa using hy
  rw[e];exact S.par) (fun h1 hns hsb=>⟨(I.nolimit).fresh _ hsb,?_⟩) S.kind)
 show codeAny _ _ (.expr body (Fq qual sc s f c' cl)) _ _
 have hk:∀ b o,s.heap.get? b=some o→h1.get? b=some o:=fun b o e=>hsb.extBut b o (Nat.ne_of_lt (Heap.lt_size e)) (Heap.get?_push_of_some _ e)
 have J:=Ws (tk:=s.toks+[(x,u)].length) (qual:=qual) (f:=f) (c':=c') I hA hr.hd S rv hns hk
 refine PySem.W.kla_codeExpr (wpAny_mono (hb _ (hr.deeper _) rfl [] _ (nF ρ σ v) H Q J h) (fun k' s' hq=>?_) fun _ _ z=>z.elim)
 obtain⟨v2,H2,I2,r2,q⟩:=hq
 exact⟨v2,H2,I2.os,I2.bare,I2.base,I2.hok,r2,q⟩
end
end L2
namespace So
theorem Mz:∀ {a b:List Int},a≠b→iC a b=true∨iC b a=true
 | [],[],h=>absurd rfl h
 | [],_::_,_=>.inl rfl
 | _::_,[],_=>.inr rfl
 | a::r,b::t,h=>by
  rw[iC,iC]
  by_cases e:a=b
  ·subst e
   simp only[beq_self_eq_true,if_true]
   exact Mz fun z=>h (by rw[z])
  ·have e':¬ b=a:=fun z=>e z.symm
   simp only[beq_iff_eq,e,e',if_false,decide_eq_true_eq]
   omega
theorem MF:∀ {a b:List Int},iC a b=true→iC b a=false
 | [],[],h=>by simp[iC] at h
 | [],_::_,_=>rfl
 | _::_,[],h=>by simp[iC] at h
 | a::r,b::t,h=>by
  rw[iC] at h ⊢
  by_cases e:a=b
  ·subst e
   simp only[beq_self_eq_true,if_true] at h ⊢
   exact MF h
  ·have e':¬ b=a:=fun z=>e z.symm
   simp only[beq_iff_eq,e,e',if_false,decide_eq_true_eq,decide_eq_false_iff_not] at h ⊢
   omega
theorem Tj:∀ {a b c:List Int},iC a b=true→iC b c=true→iC a c=true
 | [],[],_,h,_=>by simp[iC] at h
 | [],_::_,[],_,h=>by simp[iC] at h
 | [],_::_,_::_,_,_=>rfl
 | _::_,[],_,h,_=>by simp[iC] at h
 | _::_,_::_,[],_,h=>by simp[iC] at h
 | a::r,b::t,c::u,h,k=>by
  rw[iC] at h k ⊢
  by_cases e:a=b
  ·subst e
   simp only[beq_self_eq_true,if_true] at h
   by_cases f:a=c
   ·subst f
    simp only[beq_self_eq_true,if_true] at k ⊢
    exact Tj h k
   ·simp only[beq_iff_eq,f,if_false] at k ⊢
    exact k
  ·simp only[beq_iff_eq,e,if_false,decide_eq_true_eq] at h
   by_cases f:b=c
   ·subst f
    simp only[beq_iff_eq,e,if_false,decide_eq_true_eq]
    exact h
   ·simp only[beq_iff_eq,f,if_false,decide_eq_true_eq] at k
    have:¬ a=c:=by omega
    simp only[beq_iff_eq,this,if_false,decide_eq_true_eq]
    omega
def Wm(kz:List (List Int))(i j:Nat):Bool:=iC (kz.getD i []) (kz.getD j [])
theorem Fi{kz:List (List Int)}(nd:kz.Nodup):Ord kz.length (Wm kz):=by
 have inj:∀ i j,i < kz.length→j < kz.length→i≠j→kz.getD i []≠kz.getD j []:=fun i j hi hj ne e=>by
  rw[List.getD_eq_getElem?_getD,List.getElem?_eq_getElem hi,List.getD_eq_getElem?_getD,List.getElem?_eq_getElem hj] at e
  exact ne ((List.getElem_inj nd).mp e)
 exact⟨fun i j hi hj ne=>Mz (inj i j hi hj ne),fun i j _ _ h=>MF h,fun i j k _ _ _ h g=>Tj h g⟩
def Ln{α : Type}(d:α)(kz:List (List Int))(xs ys:List α):Prop:=∃ p:Array Nat,Pm xs.length p∧Sd (Wm kz) p xs.length∧ys=p.toList.map fun i=>xs.getD i d
end So
namespace L2
open PySem PySem.Spec PyProof.Rows A So
variable[Tb:fQ]
def Tab(T:Addr)(q:Str)(H H':Hp):Prop:=H'=H∨∃ ps ps' c,H T=some (.tbl q ps)∧H c=none∧c≠T∧H'=upd (upd H T (.tbl q ps')) c (.ext (mU c q))∧jr H'
theorem DR{c:Value}{p:Pos}:∀ {l:List Value},TriplesOk l→TriplesOk (l++[rawInt p.line,rawInt p.col,c]):=fun {l} h=>by
 fun_induction TriplesOk l with
 | case1=>exact trivial
 | case2 a b c' d e rest ih=>exact ih h
 | case3 _ _=>exact h.elim
theorem Lg{c v:Value}{p p2:Pos}:∀ {l:List Value},TriplesOk l→codeAmong p2 (l++[rawInt p.line,rawInt p.col,c])=some v→codeAmong p2 l=some v∨v=c:=fun {l} h e=>by
 fun_induction TriplesOk l with
 | case1 =>
  simp only[List.nil_append,codeAmong,rawInt] at e
  split at e
  ·exact .inr (by cases e;rfl)
  ·cases e
 | case2 a b c' d e' rest ih =>
  simp only[List.cons_append,codeAmong] at e ⊢
  split at e
  ·rename_i q
   rw[if_pos q];exact .inl e
  ·rename_i q
   rw[if_neg q];exact ih h e
 | case3 _ _=>exact h.elim
def BM(mg:Str→Option Value)(base:Heap):Prop:=∃ bm o,mg "__builtins__" = some (.ref bm)∧bm≠builtinsNs∧bm≠mainGlobals∧base.get? bm=some o∧o.cls=.type "module" ∧ o.dict=some builtinsNs∧o.data=.plain
section
variable{X:Cx}{pins:List (Addr×Obj)}{σ : St}{H:Hp}{s:Shared}{qual x:Str}{ps:Arguments}{body:Expr}{sc:Scope}{cl:List (Str×Addr)}{c T:Addr}{pos:Pos}
theorem K7(c:Addr)(q:Str):∀ h1 h2:Heap,mU c q h1→(∀ o,h1.get? c=some o→h2.get? c=some o)→mU c q h2:=fun h1 h2 ⟨o,vs,t,e,d,r⟩ k=>⟨o,vs,t,k o e,d,r⟩
theorem Tu{Q:Value→Shared→Prop}{E:Value→Shared→Prop}(I:Inv X pins σ H s)(hc:X.env.code=.ref c)(C:PySem.W.CodeHd X.base c T)(k:jr H){tps:Array Value}(hT:H T=some (.tbl qual tps))(hB:BM X.mg X.base)
 (hdef:defaultsOf ps X.env=([],[])) (hq:X.env.qual ++ "<lambda>" = qual) (hcl:closureFor sc X.env=pure cl)
 (h:∀ f c' ctv pm s' H',Tab T qual H H'→H' c'=some (.ext (mU c' qual))→s'.heap.get? f=some (PySem.W.kla_obj "<lambda>" qual ps body sc cl pm c' ctv)→Inv X pins σ H' s'→pN X pins H' f→Q (.ref f) s') :
 wpAny (model X.prog X.w) X.A (eval (.Lambda ps body sc pos) X.env) Q E s:=by
 obtain⟨ok1,ok2⟩:=k.cd T qual tps hT
 have hP:s.heap.get? T=some (PySem.W.tabObj tps):=I.hok T _ hT
 have hg:s.heap.Ns mainGlobals X.mg:=I.mod.glob.keeps I.bk
 have C':PySem.W.CodeHd s.heap c T:=C.keeps I.bk
 obtain⟨bm,bo,b1,b2,b3,b4,b5,b6,b7⟩:=hB
 have nT:∀ b o,X.base.get? b=some o→b≠T:=fun b o e z=>by
  have:=(I.bs b o e).2
  rw[z,hT] at this;cases this
 have hb:s.heap.BuiltinsAt X.mg T:=⟨bm,bo,b1,b2,b3,nT _ _ b4,I.bk _ _ b4,b5,b6,b7⟩
 have hgT:mainGlobals≠T:=by
  obtain⟨o,es,ep,e,_⟩:=I.mod.glob
  exact nT _ _ e
 refine PySem.W.kla_eval hdef ?_
 rw[hq]
 cases hf:codeAmong pos tps.toList with
 | some v =>
  obtain⟨c',rfl,hc'⟩:=ok2 pos v hf
  refine PySem.W.kla_makeFunctionHit hcl I.ok.glob hg hc C' hP ok1 hf hb fun ctv h' tk kp sz=>?_
  have I':Inv X pins σ H { s with heap:=h'.push _,toks:=tk }:=I.kept (h':=h'.push (PySem.W.kla_obj "<lambda>" qual ps body sc cl ((X.mg "__name__").getD .none) c' ctv)) fun b o e=>Heap.get?_push_of_some _ (kp b o e)
  exact h _ c' ctv _ _ H (.inl rfl) hc' (Heap.get?_push_size _ rfl) I' (I.uO sz (I.hok.fresh sz))
 | none =>
  refine PySem.W.kla_makeFunction hcl I.ok.glob hg hc C' hP ok1 hf hgT hb fun c' ctv h' tk kp h1 h2 hrec htb=>?_
  have nc:H c'=none:=I.hok.fresh h1
  have cT:c'≠T:=fun z=>by rw[z,hT] at nc;cases nc
  have hx:mU c' qual h':=by
   obtain⟨c2,o,vs,t,e,r⟩:=hrec
   cases e
   exact⟨o,vs,t,r⟩
  obtain⟨oc,hoc⟩ : ∃ o,h'.get? c'=some o:=let ⟨o,_,_,e,_⟩:=hx;⟨o,e⟩
  have u1:Un X.fs [] H (upd H T (.tbl qual (tps ++ #[rawInt pos.line,rawInt pos.col,.ref c']))) s.heap h':=by
   have nn:∀ b,H b=none→b≠T:=fun b n z=>by rw[z,hT] at n;cases n
   refine⟨fun b o e n _ _=>kp b o (nn b n) e,fun b o e n _ _=>⟨o.slots,kp b o (nn b n) e⟩,fun b o e n _=>by rw[aJ (nn b n)];exact n,fun b o e _=>?_,fun b xs e=>?_,fun b o u e=>?_,fun b w ps e=>?_⟩
   ·by_cases z:b=T
    ·rw[z];exact⟨_,htb⟩
    ·exact⟨o,kp b o z e⟩
   ·rw[aJ (fun z=>by rw[z,hT] at e;cases e)];exact e
   ·rw[aJ (fun z=>by rw[z,hT] at e;cases e)];exact e
   ·by_cases z:b=T
    ·subst z
     rw[hT] at e;cases e
     exact⟨_,aU⟩
    ·exact⟨#[],by rw[aJ z,e];simp⟩
  have ade:pO X.prog X.w (upd H T (.tbl qual (tps ++ #[rawInt pos.line,rawInt pos.col,.ref c']))) h':=fun b u e=>by
   by_cases z:b=T
   ·subst z;rw[aU] at e;cases e;exact htb
   ·rw[aJ z] at e
    refine(I.hok b u e).stay (fun y v hy q=>kp y v ?_ q) (fun y q=>by rw[aJ (fun w=>by rw[w,hT] at q;cases q)];exact q) fun y xs q=>by rw[aJ (fun w=>by rw[w,hT] at q;cases q)];exact q
    rcases hy with w|w
    ·rw[w];exact z
    ·exact fun w2=>by rw[w2,hT] at w;cases w
  have I1:Inv X pins σ (upd H T (.tbl qual (tps ++ #[rawInt pos.line,rawInt pos.col,.ref c']))) { s with heap:=h',toks:=tk }:=I.un u1 ade
  have nc1:upd H T (.tbl qual (tps ++ #[rawInt pos.line,rawInt pos.col,.ref c'])) c'=none:=by rw[aJ cT];exact nc
  have I2:Inv X pins σ (upd (upd H T (.tbl qual (tps ++ #[rawInt pos.line,rawInt pos.col,.ref c']))) c' (.ext (mU c' qual))) { s with heap:=h',toks:=tk }:=by
   have F:pN X pins (upd H T (.tbl qual (tps ++ #[rawInt pos.line,rawInt pos.col,.ref c']))) c':=⟨nc1,(I.uO (H':=H) h1 nc).2⟩
   have R5:∀ b u,(upd H T (.tbl qual (tps ++ #[rawInt pos.line,rawInt pos.col,.ref c']))) b=some u→b≠c':=fun b u e=>aX e nc1
   refine I1.call' (s':={ s with heap:=h',toks:=tk }) (ch:=[c']) rfl ⟨fun b u e _ _ _=>e,fun b u e _ _ _=>⟨u.slots,e⟩,fun b u e n hb=>?_,fun b u e hb=>⟨u,e⟩,fun b xs e=>by rw[aJ (R5 _ _ e)];exact e,fun b q u e=>by rw[aJ (R5 _ _ e)];exact e,fun b w ps e=>⟨#[],by rw[aJ (R5 _ _ e),e];simp⟩⟩ ?_ I.bare
    fun b hb=>by
     obtain rfl:b=c':=by simpa using hb
     exact⟨F.2.2.2.1,F.2.1,F.2.2.2.2.1,F.2.2.2.2.2⟩
   ·rw[aJ (fun z=>hb (by simp[z]))];exact n
   ·intro b u e
    by_cases z:b=c'
    ·subst z;rw[aU] at e;cases e
     exact⟨hx,⟨oc,hoc⟩,K7 b qual⟩
    ·rw[aJ z] at e
     exact(I1.hok b u e).stay (fun y v hy q=>q) (fun y q=>by rw[aJ (R5 _ _ q)];exact q) fun y xs q=>by rw[aJ (R5 _ _ q)];exact q
  have abT:∀ b o,h'.get? b=some o→(h'.push (PySem.W.kla_obj "<lambda>" qual ps body sc cl ((X.mg "__name__").getD .none) c' ctv)).get? b=some o:=fun b o e=>Heap.get?_push_of_some _ e
  have I3:=I2.kept (t':=tk) abT
  have szs:s.heap.objs.size≤h'.objs.size:=Nat.le_trans h1 (Nat.le_of_lt h2)
  have ck:jr (upd (upd H T (.tbl qual (tps ++ #[rawInt pos.line,rawInt pos.col,.ref c']))) c' (.ext (mU c' qual))):=by
   have nT':∀ {b:Addr} {o:HO},H b=some o→NT o→upd (upd H T (.tbl qual (tps ++ #[rawInt pos.line,rawInt pos.col,.ref c']))) c' (.ext (mU c' qual)) b=some o:=fun {b o} e n=>by
    rw[aJ (aX e nc),aJ (fun z=>by rw[z,hT] at e;cases e;exact n)];exact e
   refine⟨fun r hr=>?_,fun T2 q2 ps2 e=>?_⟩
   ·obtain⟨p0,e0⟩:=k.has r hr
    by_cases z:r.1=T
    ·rw[z,hT] at e0
     have:qual=r.2:=by injection e0 with e0;injection e0
     exact⟨_,by rw[aJ (by rw[z];exact Ne.symm cT),z,aU,this]⟩
    ·exact⟨p0,by rw[aJ (aX e0 nc),aJ z];exact e0⟩
   ·by_cases z:T2=c'
    ·subst z;rw[aU] at e;cases e
    ·rw[aJ z] at e
     by_cases z2:T2=T
     ·subst z2
      rw[aU] at e
      have e1:qual=q2:=by injection e with e;injection e
      have e2:tps ++ #[rawInt pos.line,rawInt pos.col,.ref c']=ps2:=by injection e with e;injection e
      subst e1 e2
      refine⟨by rw[Array.toList_append];exact DR ok1,fun p2 v hv=>?_⟩
      rw[Array.toList_append] at hv
      rcases Lg ok1 hv with q|q
      ·obtain⟨y,y1,y2⟩:=ok2 p2 v q
       exact⟨y,y1,nT' y2 trivial⟩
      ·exact⟨c',q,aU⟩
     ·rw[aJ z2] at e
      obtain⟨t1,t2⟩:=k.cd T2 q2 ps2 e
      refine⟨t1,fun p2 v hv=>?_⟩
      obtain⟨y,y1,y2⟩:=t2 p2 v hv
      exact⟨y,y1,nT' y2 trivial⟩
  refine h h'.objs.size c' ctv _ _ _ (.inr ⟨tps,_,c',hT,nc,cT,rfl,ck⟩) aU (Heap.get?_push_size _ rfl) I3 ?_
  refine I.uO szs ?_
  rw[aJ (Nat.ne_of_gt h2),aJ (fun z=>?_)]
  ·exact I.hok.fresh szs
  ·have:=I.hok.fresh szs
   rw[z,hT] at this;cases this
end
end L2
namespace L2
open PySem PySem.Spec PyProof.Rows A So
variable[Tb:fQ]
section
variable{X:Cx}{pins:List (Addr×Obj)}{σ : St}{H:Hp}{s:Shared}
theorem adopt{fp:List Addr}{D:Addr}{o:HO}{h':Heap}{t':Nat}(I:Inv X pins σ H s)(hf:∀ b∈fp,pN X pins H b)(hD:D∈fp)(k:∀ b u,b∉fp→s.heap.get? b=some u→h'.get? b=some u)
 (new:bZ X.prog X.w (upd H D o) h' D o):Inv X pins σ (upd H D o) { s with heap:=h',toks:=t' }:=by
 have hn:H D=none:=(hf D hD).1
 have nfp:∀ b u,H b=some u→b∉fp:=fun b u e z=>by rw[(hf b z).1] at e;cases e
 refine I.call' (s':={ s with heap:=h',toks:=t' }) (ch:=fp) rfl ⟨fun b u e _ _ hb=>k b u hb e,fun b u e _ _ hb=>⟨u.slots,k b u hb e⟩,fun b u e hb hx=>?_,fun b u e hb=>⟨u,k b u hb e⟩,fun b xs e=>?_,fun b q u e=>?_,fun b w ps e=>⟨#[],?_⟩⟩ ?_ I.bare
  fun b hb=>⟨(hf b hb).2.2.2.1,(hf b hb).2.1,(hf b hb).2.2.2.2.1,(hf b hb).2.2.2.2.2⟩
 ·rw[aJ (fun z=>hx (by rw[z];exact hD))];exact hb
 ·rw[aJ (aX e hn)];exact e
 ·rw[aJ (aX e hn)];exact e
 ·rw[aJ (aX e hn),e];simp
 ·intro b u e
  by_cases hb:b=D
  ·subst hb;rw[aU] at e;cases e;exact new
  ·rw[aJ hb] at e
   refine(I.hok b u e).stay (fun c v hc q=>k c v ?_ q) (fun c q=>by rw[aJ (aX q hn)];exact q) fun c xs q=>by rw[aJ (aX q hn)];exact q
   rcases hc with z|z
   ·rw[z];exact nfp b u e
   ·exact nfp c _ z
theorem za:∀ {ns:List Int} {its:List Value},Vals (ns.map V.int) its→IntsAre its ns
 | [],_,.nil=>.nil
 | n::r,_,.cons h t=>by
  obtain⟨t1,rfl⟩:=h
  exact .cons n t1 (za t)
end
def GC(c':Addr)(q:Str)(tk:V→Hp→VK→Prop):List V→Hp→(List V→Hp→Prop)→Prop
 | [],H,R=>R [] H
 | x::xs,H,R=>tk x H fun k H1=>H1 c'=some (.ext (mU c' q))∧GC c' q tk xs H1 fun ks H2=>R (k::ks) H2
def KeysAre(H:Hp)(kz:List (List Int))(ks:List V):Prop:=P2 (fun z k=>∃ p,k=V.ref p∧H p=some (.lst (z.map V.int))) kz ks
def aaV(T:Addr)(q:Str)(ρ : List Nat)(σ : St)(tb:TE)(Q:VK):VK:=fun x H1=>∃ a xs tps,x=.ref a∧xs.length < 64∧H1 T=some (.tbl q tps)∧jr H1 ∧
 ∀ H2 c',Tab T q H1 H2→H2 c'=some (.ext (mU c' q))→Lst H2 a xs∧GC c' q (fun v H K=>tb (nF ρ σ v) H K) xs H2 fun ks H3=>∃ kz:List (List Int),kz.length=xs.length∧kz.Nodup∧KeysAre H3 kz ks ∧
  ∀ p ys,H3 p=none→Ln .non kz xs ys→Q (.ref p) (upd H3 p (.lst ys))
def Q0(T:Addr)(q:Str)(ρ : List Nat)(te tb:TE):TE:=fun σ H Q=>te σ H (aaV T q ρ σ tb Q)
theorem Oe{kz:List (List Int)}{xs:List V}{its out:List Value}(r:Vals xs its)(hz:kz.length=xs.length)(h:uX (Wm kz) its out):∃ ys,Ln .non kz xs ys∧Vals ys out:=by
 obtain⟨p,pm,sd,rfl⟩:=h
 have hl:=r.length
 rw[← hl] at pm sd
 refine⟨p.toList.map fun i=>xs.getD i .non,⟨p,pm,sd,rfl⟩,?_⟩
 have key:∀ l:List Nat,(∀ i∈l,i < xs.length)→Vals (l.map fun i=>xs.getD i .non) (l.map fun i=>its.getD i Value.none):=fun l hl'=>by
  induction l with
  | nil=>exact .nil
  | cons i t ih =>
   have hi:=hl' i List.mem_cons_self
   refine .cons ?_ (ih fun j hj=>hl' j (List.mem_cons_of_mem _ hj))
   have e1:xs[i]? = some (xs.getD i .non):=by simp[hi]
   obtain⟨u,e2,r2⟩:=r.get e1
   have:its.getD i Value.none=u:=by simp[e2]
   show RelV (xs.getD i .non) (its.getD i Value.none)
   rw[this];exact r2
 refine key _ fun i hi=>?_
 have:=(Array.perm_iff_toList_perm.mp pm.pm).mem_iff.mp hi
 simpa using this
section
variable{X:Cx}{x qual:Str}{e:Expr}{ps:Arguments}{body:Expr}{sc:Scope}{cl:List (Str×Addr)}{c T:Addr}{p pos abK ac5:Pos}{k:Nat}{ρ : List Nat}{N':List Str}{te tb:TE}
theorem RM(hg:Gl X "sorted")(hm:X.mg "sorted" = none)(he:PE X e te)(hr:jq (k+3) X.A)(hc:X.env.code=.ref c)(C:PySem.W.CodeHd X.base c T)(hB:BM X.mg X.base)(hdef:defaultsOf ps X.env=([],[]))(hq:X.env.qual ++ "<lambda>" = qual)(hcl:closureFor sc X.env=pure cl)
 (S:Dn X x ρ N' sc cl) (hbind:∀ (pm:Value) (c':Addr) (ctv u:Value),bindArgs (PySem.W.kla_fn "<lambda>" qual ps body sc cl pm (.ref c') ctv) ⟨[u],[]⟩=pure [(x,u)])
 (hb:∀ (A:Around) (f c':Addr) (s:Shared) (H:Hp) (env:Env),jq k (A.deeper env)→env=Fq qual sc s f c' cl→PE (cxL X A N' env s H) body tb)
 (hs:starEach [e] X.env=(false,eval e X.env)::starEach [] X.env:=by rfl) (hpl:(backTo pos (starEach [e] X.env)).any (·.1)=false:=by rfl) :
 PE X (.Call (.Name "sorted" p) [e] [⟨some "key", .Lambda ps body sc abK,ac5⟩] pos) (Q0 T qual ρ te tb):=by
 intro pins s σ H Q I h
 have hboot:bootBuiltins "sorted" = some (.builtin "sorted"):=by kernel_rfl
 refine wpAny_Call_Name_kw (uM I hg hm hboot ?_)
 refine callWith_kw ?_ (by rw[hs];rfl) hpl rfl rfl
 rw[hs]
 show wpAny _ _ (spliced ((false,eval e X.env)::backTo pos (starEach [] X.env))) _ _ s
 refine Calls.spliced_cons (dY (he pins s σ H _ I h) fun u s1 ⟨x1,H1,I1,r1,q1⟩=>Calls.spliced_nil ?_)
 obtain⟨a,xs,tps,rfl,h64,hT,ck,q2⟩:=q1
 cases r1
 show wpAny _ _ (evalAll ((do let v ← eval (.Lambda ps body sc abK) X.env;standAt pos;pure v)::((backToKw pos (keywordEach [] X.env)).map (·.2)))) _ _ s1
 refine wpAny_evalAll_cons (wpAny_bind (Tu I1 hc C ck hT hB hdef hq hcl fun f c' ctv pm s2 H2 tab hc' hf I2 fpf=>wpAny_bind (wpAny_standAt (wpAny_pure (wpAny_evalAll_nil ?_)))))
 obtain⟨hl2,kr⟩:=q2 H2 c' tab hc'
 show wpAny (model X.prog X.w) X.A (call (.builtin "sorted") [.ref a] [(Str.ofString "key", .ref f)]) (EP X pins σ Q) X.xe s2
 obtain⟨its,n0,rv,hz,ho⟩:=Th I2 hl2
 have hli:=rv.length
 let Fn:List V→Hp→Prop:=fun ks H3=>∃ kz:List (List Int),kz.length=xs.length∧kz.Nodup∧KeysAre H3 kz ks∧∀ p ys,H3 p=none→Ln .non kz xs ys→Q (.ref p) (upd H3 p (.lst ys))
 have flt:f < s2.heap.objs.size:=Heap.lt_size hf
 have fnt:f∉tm s2.heap.objs.size:=fun z=>by
  simp only[tm,List.mem_cons,List.not_mem_nil,or_false] at z
  have:(f:Nat) < s2.heap.objs.size:=flt
  rcases z with z|z|z|z
  ·exact absurd this (by rw[z];exact Nat.lt_irrefl _)
  ·exact absurd this (by rw[z];exact Nat.not_lt.mpr (Nat.le_add_right _ _))
  ·exact absurd this (by rw[z];exact Nat.not_lt.mpr (Nat.le_add_right _ _))
  ·exact absurd this (by rw[z];exact Nat.not_lt.mpr (Nat.le_add_right _ _))
 refine Ea (vs:=its) (J:=fun ks s3=>∃ Hc kv,Inv X pins σ Hc s3∧Vals kv ks∧s3.heap.get? f=some (PySem.W.kla_obj "<lambda>" qual ps body sc cl pm c' ctv)∧pN X pins Hc f∧(∀ b∈tm s2.heap.objs.size,pN X pins Hc b∧∃ o,s3.heap.get? b=some o) ∧
  Hc c'=some (.ext (mU c' qual))∧GC c' qual (fun v H K=>tb (nF ρ σ v) H K) (xs.drop ks.length) Hc fun ks' H3=>Fn (kv++ks') H3) ⟨_,ho,rfl,_,rfl⟩ (by omega) ?j0 ?jk ?jc ?je
 case j0 =>
  intro h' kp ex
  refine⟨H2,[],I2.kept kp,.nil,kp _ _ hf,fpf,fun b hb=>⟨I2.uO ?_ (I2.hok.fresh ?_),ex b hb⟩,hc',kr⟩
  all_goals (simp only[tm,List.mem_cons,List.not_mem_nil,or_false] at hb;rcases hb with z|z|z|z<;>rw[z]<;>first|exact Nat.le_refl _|exact Nat.le_add_right _ _)
 case jk =>
  rintro ks s3 h' ⟨Hc,kv,I3,rk,hf3,fp3,tm3,hc3,kr3⟩ kp ex
  refine⟨Hc,kv,uC (t':=s3.toks) I3 (fp:=tm s2.heap.objs.size) (fun b hb=>(tm3 b hb).1) (fun b u hb q=>kp b u hb q),rk,kp _ _ fnt hf3,fp3,fun b hb=>⟨(tm3 b hb).1,?_⟩,hc3,kr3⟩
  obtain⟨o,q⟩:=(tm3 b hb).2
  exact ex b o q
 case jc =>
  rintro i u ks s3 hu hks ⟨Hc,kv,I3,rk,hf3,fp3,tm3,hc3,kr3⟩
  obtain⟨v,hv,ruv⟩ : ∃ v,xs[i]? = some v∧RelV v u:=by
   have hi:i < xs.length:=by rw[hli];exact(List.getElem?_eq_some_iff.mp hu).1
   have e1:xs[i]? = some xs[i]:=by simp[hi]
   obtain⟨u2,e2,r2⟩:=rv.get e1
   rw[hu] at e2;cases e2
   exact⟨_,e1,r2⟩
  have hd:xs.drop ks.length=v::xs.drop (ks.length+1):=by
   obtain⟨hi,e⟩:=List.getElem?_eq_some_iff.mp hv
   rw[hks,List.drop_eq_getElem_cons hi,e]
  rw[hd] at kr3
  have hrec:s3.heap.CodeRec (.ref c') qual:=by
   obtain⟨⟨o,vs,t,e1,e2,e3⟩,_⟩:=I3.hok c' _ hc3
   exact⟨c',o,vs,t,rfl,e1,e2,e3⟩
  have hA:X.A.in1.in1.frames=some X.stack:=I3.ok.frames
  refine wpAny_mono (Wr (k:=k) I3 hA hr.in1.in1 S hf3 hrec (hbind pm c' ctv u) ruv (fun env h1 h2=>hb _ f c' s3 Hc env h1 h2) kr3) (fun kk s4 hce=>?_) fun _ _ z=>z
  have adX:=hce
  obtain⟨kvv,H4,os4,aca,un4,adb,rk4,hc4,kr4⟩:=hce
  have noF:∀ b,pN X pins Hc b→b∉frs X.stack:=fun b hb z=>by
   rcases List.mem_cons.mp (I3.DX b z) with y|y
   ·exact hb.2.1 y
   ·exact hb.2.2.1 y
  have I4:Inv X pins σ H4 s4:=I3.call' os4 (ch:=[]) un4 adb aca (fun b z=>absurd z (by simp))
  have fpk:∀ b,pN X pins Hc b→(∃ o,s3.heap.get? b=some o)→pN X pins H4 b:=fun b hb ⟨o,q⟩=>⟨un4.free b o q hb.1 (by simp),hb.2⟩
  refine⟨⟨H4,kv++[kvv],I4,rk.append (.cons rk4 .nil),un4.keep _ _ hf3 fp3.1 (noF _ fp3) (by simp),fpk f fp3 ⟨_,hf3⟩,fun b hb=>⟨fpk b (tm3 b hb).1 (tm3 b hb).2,?_⟩,hc4,?_⟩,fun b o hb q=>un4.keep b o q (tm3 b hb).1.1 (noF _ (tm3 b hb).1) (by simp)⟩
  ·obtain⟨o,q⟩:=(tm3 b hb).2
   exact un4.there b o q (by simp)
  ·rw[List.length_append]
   simp only[List.append_assoc,List.singleton_append]
   exact kr4
 case je =>
  rintro ks s3 hks ⟨Hc,kv,I3,rk,hf3,fp3,tm3,hc3,kr3⟩
  rw[List.drop_eq_nil_of_le (by omega)] at kr3
  obtain⟨kz,hz1,nd,ka,fin⟩:=kr3
  rw[List.append_nil] at ka
  have lk:=rk.length
  have at_:∀ i,i < its.length→∃ pp o us nn,ks.getD i Value.none=.ref pp∧s3.heap.get? pp=some o∧o.cls=.type "list" ∧ o.data=.seq (List.toArray us) nn∧IntsAre us (kz.getD i []):=fun i hi=>by
   have hzi:i < kz.length:=by omega
   have e1:kz[i]? = some (kz.getD i []):=by simp[hzi]
   obtain⟨kvi,e2,pp,rfl,hp⟩:=P2.getL ka e1
   obtain⟨u,e3,r3⟩:=rk.get e2
   cases r3
   obtain⟨_,us,nn,vu,ho⟩:=I3.hok pp _ hp
   exact⟨pp,_,us,nn,by simp[e3],ho,rfl,rfl,za vu⟩
  have hord:=Fi nd
  rw[hz1,hli] at hord
  refine⟨Wm kz,hord,fun h2 Q' hq'=>?_,fun i j C hi hj hC=>?_,fun out h' cc so kp ex hD=>?_⟩
  ·refine PySem.W.kas_kind (T:=Value.type "list") (by omega) (fun v hv=>?_) (by decide) (by decide) hq'
   obtain⟨i,hi⟩:=List.getElem?_of_mem hv
   have hil:=(List.getElem?_eq_some_iff.mp hi).1
   obtain⟨pp,o,us,nn,e1,e2,e3,_⟩:=at_ i (by omega)
   have:v=.ref pp:=by
    rw[← e1];simp[hi]
   rw[this,← e3]
   exact(PySem.W.Looks.ld e2).andThen .now
  ·obtain⟨p1,o1,us1,n1,a1,a2,a3,a4,a5⟩:=at_ i hi
   obtain⟨p2,o2,us2,n2,b1,b2,b3,b4,b5⟩:=at_ j hj
   unfold PySem.W.kas_ask
   rw[a1,b1]
   exact Td a2 a3 a4 b2 b3 b4 a5 b5 (by have:=hr.un;show X.A.units+1+1 < cLine;omega) hC
  ·obtain⟨ys,sy,vy⟩:=Oe rv hz1 so
   have hD':s2.heap.objs.size+1∈tm s2.heap.objs.size:=by simp[tm]
   have ly:ys.length=xs.length:=by rw[vy.length,so.len,hli]
   have nD:Hc (s2.heap.objs.size+1)=none:=(tm3 _ hD').1.1
   refine⟨.ref (s2.heap.objs.size+1),_,adopt (t':=s3.toks) (o:=.lst ys) I3 (fun b hb=>(tm3 b hb).1) hD' (fun b u hb q=>kp b u hb q) ⟨by rw[ly];exact hz,out,cc,vy,hD⟩,rfl,fin _ ys nD sy⟩
end
end L2
namespace Mi
open PySem
def aan:D→Option (List Str)
 | .tup ds=>mY ds
 | .lst ds=>mY ds
 | _=>none
def Uk(x y:D):Rs D:=match y with
 | .str z=>(tM (aan x)).bind fun ys=>aN (z∈ys∧ys.length≤1000) (.ok (.int (ys.idxOf z:Nat)))
 | _=>.no
def qQ:List Int→List Int→Bool
 | [],[]=>false
 | [],_::_=>true
 | _::_,[]=>false
 | a::r,b::t=>if a == b then qQ r t else decide (a < b)
def Bf:List D→Option (List Int)
 | []=>some []
 | .int i::r=>(Bf r).map (i :: ·)
 | _=>none
def Jp:D→Rs (List Int)
 | .lst ds=>tM (Bf ds)
 | _=>.no
def insI(lt:Nat→Nat→Bool)(i:Nat):List Nat→List Nat
 | []=>[i]
 | j::r=>if lt i j=true then i::j::r else j::insI lt i r
def sortI(lt:Nat→Nat→Bool):List Nat→List Nat
 | []=>[]
 | i::r=>insI lt i (sortI lt r)
def yt(kz:List (List Int))(n:Nat):List Nat:=sortI (fun i j=>qQ (kz.getD i []) (kz.getD j [])) (List.range n)
def sortBy(kz:List (List Int))(ds:List D):List D:=(yt kz ds.length).map fun i=>ds.getD i .non
def Ft(ρ : List Nat)(e:Env)(d:D):Env:=some (.d d) :: ρ.map fun j=>(e[j]?).join
def pH(ρ : List Nat)(kf:E)(e:Env):List D→Rs (List (List Int))
 | []=>.ok []
 | d::r=>(kf (Ft ρ e d)).bind fun k=>(Jp k).bind fun z=>(pH ρ kf e r).bind fun zs=>.ok (z::zs)
def Ff(ρ : List Nat)(a kf:E):E:=fun e=>(a e).bind fun x=>(tW x).bind fun ds=>aN (ds.length < 64) ((pH ρ kf e ds).bind fun kz=>aN kz.Nodup (.ok (.lst (sortBy kz ds))))
end Mi
namespace A
open PySem L2 PyProof.Rows
open Mi (D W Rs Fin aq Out Tg)
variable[Tb:fQ]
section
variable{prog:Program}{w:World}{Ar:Around}
theorem sZ(x y:Str)(t u:Tok):PySem.MeetsSeq.EqGives (.str x t) (.str y u) (x.cps.toList == y.cps.toList):=PySem.SeqRoads2.EqGives.str x y t u
theorem vg{ys:List Str}{us:List Value}(r:Vals (ys.map V.str) us){i:Nat}(h:i < ys.length):∃ t,us[i]? = some (.str (ys.getD i Str.empty) t):=by
 have e:(ys.map V.str)[i]? = some (.str (ys.getD i Str.empty)):=by simp[h]
 obtain⟨u,e2,r2⟩:=r.get e
 obtain⟨t,rfl⟩:=r2
 exact⟨t,e2⟩
theorem Ij{ys:List Str}{z:Str}(h:z∈ys):ys.idxOf z < ys.length∧ys.getD (ys.idxOf z) Str.empty=z∧∀ m,m < ys.idxOf z→ys.getD m Str.empty≠z:=by
 have hl:=List.idxOf_lt_length_of_mem h
 refine⟨hl,by simp[hl],fun m hm e=>?_⟩
 have:m < ys.length:=Nat.lt_trans hm hl
 have e2:ys[m]=z:=by simpa [this] using e
 have:=List.not_of_lt_findIdx (p:=(· == z)) (xs:=ys) (i:=m) hm
 simp[e2] at this
theorem Wy{E:Value→Shared→Prop}{s:Shared}{t:Addr}{us:List Value}{ys:List Str}{z:Str}{tz:Tok}{Q:Value→Shared→Prop}(ht:IsTup s.heap t us.toArray)(r:Vals (ys.map V.str) us)(hz:z∈ys)
 (h:Q (.int (ys.idxOf z:Nat) s.toks) { s with toks:=s.toks+1 }):wpAny (model prog w) Ar (call (.builtin "tuple.index") [.ref t,.str z tz]) Q E s:=by
 obtain⟨h1,h2,h3⟩:=Ij hz
 have hl:=r.length
 rw[List.length_map] at hl
 refine wpAny_call_entry PySem.F.slot_tuple_index ht.typeIs PySem.F.entry_tuple_index ?_ (PySem.F.args_tuple_index_2 _ _)
 show wpAny _ _ (Builtin.Tuple.tupleItemsOf (.ref t) >>= _) _ _ s
 refine wpAny_bind (tupleItemsOf_ ht ?_)
 refine wpAny_bind (wpAny_pure (wpAny_bind (wpAny_pure ?_)))
 dsimp only
 rw[Std.Legacy.Range.forIn_eq_forIn_range']
 have hsz:([0:min us.toArray.size us.toArray.size]:Std.Legacy.Range).size=us.length:=by simp[Std.Legacy.Range.size]
 rw[hsz]
 show wpAny _ _ (forIn (List.range' 0 us.length 1) _ _ >>= _) _ _ _
 have go:∀ (k i:Nat),ys.idxOf z=i+k→∀ (G:Option PySem.Fin×Unit→Shared→Prop),G (some (.done (.ret (.int (ys.idxOf z:Nat) s.toks))),()) { s with toks:=s.toks+1 } →
  wpAny (model prog w) Ar.in1 (forIn (List.range' i (us.length - i) 1) ((none, ()) : Option PySem.Fin × Unit) fun (i : Nat) (__s : Option PySem.Fin × Unit) => (match us.toArray[i]? with
          | some y=>do
           let b ← eqBool y (Value.str z tz)
           if b=true then do
            let r ← retInt (i:Int)
            pure (ForInStep.done (some r,()))
            else pure (ForInStep.yield (none,()))
          | x=>pure (ForInStep.yield (none,())):Sem (ForInStep (Option PySem.Fin×Unit)))) G E s:=by
  intro k
  induction k with
  | zero =>
   intro i hi G hG
   have hlt:i < us.length:=by omega
   obtain⟨t1,e1⟩:=vg r (i:=i) (by omega)
   rw[show us.length - i=(us.length - i - 1)+1 by omega,List.range'_succ,List.forIn_cons]
   have e2:us.toArray[i]? = some (.str (ys.getD i Str.empty) t1):=by simpa using e1
   rw[e2]
   have hz2:ys.getD i Str.empty=z:=by rw[← h2,hi];rfl
   rw[hz2]
   refine wpAny_bind (wpAny_bind (sZ z z t1 tz prog w _ _ _ _ ?_))
   simp only[beq_self_eq_true,if_true]
   refine wpAny_bind (wpAny_bind (wpAny_mkInt (wpAny_pure (wpAny_pure ?_))))
   rw[show (i:Nat)=ys.idxOf z from hi.symm]
   exact wpAny_pure hG
  | succ k ih =>
   intro i hi G hG
   have hlt:i < us.length:=by omega
   obtain⟨t1,e1⟩:=vg r (i:=i) (by omega)
   rw[show us.length - i=(us.length - (i+1))+1 by omega,List.range'_succ,List.forIn_cons]
   have e2:us.toArray[i]? = some (.str (ys.getD i Str.empty) t1):=by simpa using e1
   rw[e2]
   have hz2:=h3 i (by omega)
   refine wpAny_bind (wpAny_bind (sZ _ z t1 tz prog w _ _ _ _ ?_))
   have:((ys.getD i Str.empty).cps.toList == z.cps.toList)=false:=by
    rw[beq_eq_false_iff_ne]
    intro e
    apply hz2
    cases hq:ys.getD i Str.empty with
    | mk c=>cases z with
     | mk d =>
      rw[hq] at e
      have:c=d:=Array.toList_inj.mp e
      rw[this]
   rw[this]
   simp only[Bool.false_eq_true,if_false]
   exact wpAny_pure (ih (i+1) (by omega) G hG)
 refine wpAny_bind (go (ys.idxOf z) 0 (by omega) _ ?_)
 exact wpAny_pure ⟨_,rfl,h⟩
theorem Wz{E:Value→Shared→Prop}{s:Shared}{t:Addr}{us:List Value}{ys:List Str}{z:Str}{tz:Tok}{n:Nat}{Q:Value→Shared→Prop}(ht:s.heap.get? t=some { cls:=.type "list", data:=.seq us.toArray n })(r:Vals (ys.map V.str) us)(hz:z∈ys)(hl:ys.length≤1000)
 (h:Q (.int (ys.idxOf z:Nat) s.toks) { s with toks:=s.toks+1 }):wpAny (model prog w) Ar (call (.builtin "list.index") [.ref t,.str z tz]) Q E s:=by
 obtain⟨h1,h2,h3⟩:=Ij hz
 have hlu:=r.length
 rw[List.length_map] at hlu
 let e:Value→Bool:=fun y=>match y with
  | .str a _=>a.cps.toList == z.cps.toList
  | _=>false
 have he:∀ y,y∈us.toArray→PySem.MeetsSeq.EqGives y (.str z tz) (e y):=fun y hy=>by
  obtain⟨i,hi⟩:=List.getElem?_of_mem (by simpa using hy:y∈us)
  have hil:=(List.getElem?_eq_some_iff.mp hi).1
  obtain⟨t1,e1⟩:=vg r (i:=i) (by omega)
  rw[e1] at hi;cases hi
  exact sZ _ z t1 tz
 have ei:∀ i (hi:i < us.toArray.size),e us.toArray[i]=decide (ys.getD i Str.empty=z):=fun i hi=>by
  have hi':i < us.length:=by simpa using hi
  obtain⟨t1,e1⟩:=vg r (i:=i) (by omega)
  have:us.toArray[i]=.str (ys.getD i Str.empty) t1:=by
   have:=(List.getElem?_eq_some_iff.mp e1).2
   simpa using this
  rw[this]
  show ((ys.getD i Str.empty).cps.toList == z.cps.toList)=_
  by_cases q:ys.getD i Str.empty=z
  ·rw[q];simp
  ·rw[decide_eq_false q,beq_eq_false_iff_ne]
   intro y
   apply q
   cases hq:ys.getD i Str.empty with
   | mk c=>cases z with
    | mk d =>
     rw[hq] at y
     have:c=d:=Array.toList_inj.mp y
     rw[this]
 refine call_meets PySem.F.slot_list_index ⟨_,ht,rfl⟩ PySem.F.entry_list_index (PySem.F.args_list_index_2 _ _) (PySem.MeetsSeq.list_index t us.toArray n (.str z tz) e he (ys.idxOf z) (by simp;omega) (by omega) (by rw[ei];simp only[h2];simp) (fun m hm hj=>by rw[ei];simp only[h3 m hj];simp)) ⟨ht,h⟩
end
section
variable{X:Cx}{K:PySem.W.Frag}{M:Nat→Bool}{to ta tb:TE}{t:TA}{o e:Expr}{es:List Expr}{apos cpos:Pos}{a b:Mi.E}
theorem Wk:Vp X "tuple.index" (fun x xs H Q=>∃ (p:Addr) (ys:List Str) (z:Str),x=.ref p∧xs=[.str z]∧z∈ys∧H p=some (.tup (ys.map V.str))∧Q (.int (ys.idxOf z:Nat)) H):=by
 intro pins s σ H x xs v us Q I rx rv h
 obtain⟨p,ys,z,rfl,rfl,hz,hp,q⟩:=h
 cases rx
 obtain⟨u,rfl,ru⟩:=vals1 rv
 obtain⟨tz,rfl⟩:=ru
 obtain⟨its,r,pt,_⟩:=I.tuple (.inl (.inl hp))
 exact Wy pt r hz ⟨.int _,H,I.tok _,⟨_,rfl⟩,q⟩
theorem Wl:Vp X "list.index" (fun x xs H Q=>∃ (p:Addr) (ys:List Str) (z:Str),x=.ref p∧xs=[.str z]∧z∈ys∧ys.length≤1000∧Lst H p (ys.map V.str)∧Q (.int (ys.idxOf z:Nat)) H):=by
 intro pins s σ H x xs v us Q I rx rv h
 obtain⟨p,ys,z,rfl,rfl,hz,hl,hp,q⟩:=h
 cases rx
 obtain⟨u,rfl,ru⟩:=vals1 rv
 obtain⟨tz,rfl⟩:=ru
 obtain⟨its,n,r,_,ho⟩:=Th I hp
 exact Wz ho r hz hl ⟨.int _,H,I.tok _,⟨_,rfl⟩,q⟩
def aaR(K:PySem.W.Frag)(T2:String)(r1 r2:V→List V→Hp→VK→Prop)(to:TE)(t:TA):TE:=fun σ H Q=>to σ H fun x H1=>((∃ p xs,x=V.ref p∧H1 p=some (.tup xs))∧t σ H1 fun xs H2=>r1 x xs H2 Q)∨(tyV K T2 x H1∧t σ H1 fun xs H2=>r2 x xs H2 Q)
theorem Za{T2 id1 id2:String}{r1 r2:V→List V→Hp→VK→Prop}{name:Str}(pa1:PlainAttrs "tuple")(slot1:Slot "tuple" name id1)(ac9:typeOf (.builtin id1)=pure (.type "method_descriptor"))(hm1:Vp X id1 r1)
 (pa2:PlainAttrs T2) (aaW:Slot T2 name id2) (ac8:typeOf (.builtin id2)=pure (.type "method_descriptor")) (hm2:Vp X id2 r2) (ho:PE X o to) (ha:PA X (e::es) t)
 (hbase:attributeBase o name X.env (eval o X.env)=eval o X.env:=by rfl)
 (hfew:((backTo cpos (starEach (e::es) X.env)).all (fun x=>!x.1) && (backToKw cpos (keywordEach [] X.env)).all (fun x=>x.1.isSome)
  && decide ((e::es).length+([]:List Keyword).length+(if ([]:List Keyword).isEmpty then 0 else 1) < 30))=true:=by rfl)
 (hline:(apos.endLine == cpos.line)=true:=by rfl) (hs:starEach (e::es) X.env=(false,eval e X.env)::starEach es X.env:=by rfl) (hplain:(backTo cpos (starEach es X.env)).any (·.1)=false:=by rfl) :
 PE X (.Call (.Attribute o name apos) (e::es) [] cpos) (aaR X.K T2 r1 r2 to t):=by
 intro pins s σ H Q I h
 refine wpAny_Call_method_late hbase hfew hline rfl (dY (ho pins s σ H _ I h) fun v s1 ⟨x,H1,I1,rx,q⟩=>?_)
 rcases q with ⟨ty,q1⟩|⟨ty,q1⟩
 ·obtain⟨p,xs,rfl,hp⟩:=ty
  cases rx
  have h12:s1.TypeIs (.ref p) "tuple" ∧ ∀ a,Value.ref p=.ref a→∃ ob,s1.heap.get? a=some ob∧ob.dict=none:=by
   obtain⟨_,its,_,ob,e1,e2,e3,_⟩:=(show bZ X.prog X.w H1 s1.heap p (.tup xs) from I1.hok p _ hp)
   exact⟨⟨ob,e1,e2⟩,fun a z=>by cases z;exact⟨ob,e1,e3⟩⟩
  obtain⟨h1,h2⟩:=h12
  have rx:RelV (.ref p) (Value.ref p):=rfl
  refine⟨"tuple", id1,pa1,slot1,ac9,h1,h2,?_⟩
  have hA:=ha cpos pins s1 σ H1 _ I1 q1
  rw[hs] at hA ⊢
  refine Calls.callWith_builtin (by show (false || (backTo cpos (starEach es X.env)).any (·.1))=false;rw[hplain]<;>rfl) (Calls.evalArgs_plain ?_)
  exact dY hA fun us s2 ⟨vs,H2,I2,r2',q2⟩=>hm1 pins s2 σ H2 _ vs _ us Q I2 rx r2' q2
 ·obtain⟨h1,h2⟩:=JN I1 rx ty
  refine⟨T2,id2,pa2,aaW,ac8,h1,h2,?_⟩
  have hA:=ha cpos pins s1 σ H1 _ I1 q1
  rw[hs] at hA ⊢
  refine Calls.callWith_builtin (by show (false || (backTo cpos (starEach es X.env)).any (·.1))=false;rw[hplain]<;>rfl) (Calls.evalArgs_plain ?_)
  exact dY hA fun us s2 ⟨vs,H2,I2,r2',q2⟩=>hm2 pins s2 σ H2 x vs v us Q I2 rx r2' q2
end
end A
namespace So
open PySem
theorem Fl:∀ a b:List Int,iC a b=Mi.qQ a b
 | [],[]=>rfl
 | [],_::_=>rfl
 | _::_,[]=>rfl
 | a::r,b::t=>by rw[iC,Mi.qQ,Fl r t]
theorem Ad(lt:Nat→Nat→Bool)(i:Nat):∀ l:List Nat,(Mi.insI lt i l).Perm (i::l)
 | []=>List.Perm.refl _
 | j::r=>by
  unfold Mi.insI
  split
  ·exact List.Perm.refl _
  ·exact((Ad lt i r).cons j).trans (List.Perm.swap i j r)
theorem oW(lt:Nat→Nat→Bool):∀ l:List Nat,(Mi.sortI lt l).Perm l
 | []=>List.Perm.refl _
 | i::r=>(Ad lt i _).trans ((oW lt r).cons i)
section
variable{n:Nat}{lt:Nat→Nat→Bool}(O:Ord n lt)
include O
theorem Ac{i:Nat}(hi:i < n):∀ {l:List Nat},(∀ x∈l,x < n)→i∉l→l.Pairwise (fun a b=>lt a b=true)→(Mi.insI lt i l).Pairwise (fun a b=>lt a b=true)
 | [],_,_,_=>List.pairwise_singleton _ _
 | j::r,hl,hn,hp=>by
  have hp':=List.pairwise_cons.mp hp
  have hj:=hl j List.mem_cons_self
  unfold Mi.insI
  split
  ·rename_i h
   refine List.pairwise_cons.mpr ⟨fun x hx=>?_,hp⟩
   rcases List.mem_cons.mp hx with rfl|hx
   ·exact h
   ·exact O.tr _ _ _ hi hj (hl x (List.mem_cons_of_mem _ hx)) h (hp'.1 x hx)
  ·rename_i h
   have hji:lt j i=true:=(O.tot i j hi hj fun z=>hn (by rw[z];exact List.mem_cons_self)).resolve_left h
   refine List.pairwise_cons.mpr ⟨fun x hx=>?_,Ac hi (fun x hx=>hl x (List.mem_cons_of_mem _ hx)) (fun z=>hn (List.mem_cons_of_mem _ z)) hp'.2⟩
   rcases List.mem_cons.mp ((Ad lt i r).mem_iff.mp hx) with rfl|hx
   ·exact hji
   ·exact hp'.1 x hx
theorem rC:∀ {l:List Nat},(∀ x∈l,x < n)→l.Nodup→(Mi.sortI lt l).Pairwise (fun a b=>lt a b=true)
 | [],_,_=>.nil
 | i::r,hl,nd=>by
  have nd:=List.nodup_cons.mp nd
  have hr:∀ x∈r,x < n:=fun x hx=>hl x (List.mem_cons_of_mem _ hx)
  exact Ac O (hl i List.mem_cons_self) (fun x hx=>hr x ((oW lt r).mem_iff.mp hx)) (fun z=>nd.1 ((oW lt r).mem_iff.mp z)) (rC hr nd.2)
theorem Hx:∀ {a b:List Nat},(∀ x∈a,x < n)→a.Perm b→a.Pairwise (fun x y=>lt x y=true)→b.Pairwise (fun x y=>lt x y=true)→a=b
 | [],b,_,p,_,_=>p.nil_eq
 | x::r,b,hl,p,ha,hb=>by
  cases b with
  | nil=>exact absurd p.length_eq (by simp)
  | cons y t =>
   have hx:x∈y::t:=p.mem_iff.mp List.mem_cons_self
   have hy:y∈x::r:=p.mem_iff.mpr List.mem_cons_self
   have e:x=y:=by
    rcases List.mem_cons.mp hx with h|h
    ·exact h
    ·rcases List.mem_cons.mp hy with h'|h'
     ·exact h'.symm
     ·have a1:=(List.pairwise_cons.mp ha).1 y h'
      have a2:=(List.pairwise_cons.mp hb).1 x h
      rw[O.asy _ _ (hl x List.mem_cons_self) (hl y hy) a1] at a2;cases a2
   subst e
   rw[Hx (fun z hz=>hl z (List.mem_cons_of_mem _ hz)) (List.Perm.cons_inv p) (List.pairwise_cons.mp ha).2 (List.pairwise_cons.mp hb).2]
end
theorem Wd{kz:List (List Int)}(nd:kz.Nodup){p:Array Nat}(pm:Pm kz.length p)(sd:Sd (Wm kz) p kz.length):p.toList=Mi.yt kz kz.length:=by
 have O:=Fi nd
 have e:Mi.yt kz kz.length=Mi.sortI (Wm kz) (List.range kz.length):=by
  unfold Mi.yt Wm
  congr 1
  funext i j
  exact(Fl _ _).symm
 have hp:p.toList.Perm (List.range kz.length):=by have:=Array.perm_iff_toList_perm.mp pm.pm;simpa using this
 have hb:∀ x∈p.toList,x < kz.length:=fun x hx=>by simpa using hp.mem_iff.mp hx
 rw[e]
 refine Hx O hb (hp.trans (oW _ _).symm) ?_ (rC O (fun x hx=>by simpa using hx) List.nodup_range)
 rw[List.pairwise_iff_getElem]
 intro i j hi hj hij
 have hi':i < p.size:=by simpa using hi
 have hj':j < p.size:=by simpa using hj
 have:=sd i j hij (by rw[← pm.size];exact hj')
 rw[Jm hi',Jm hj'] at this
 simpa using this
end So
namespace A
open PySem L2 PyProof.Rows So
open Mi (D W Rs Fin aq Out Tg)
variable[Tb:fQ]
theorem QW{T:Addr}{q:Str}{H H' Hv:Hp}(v:Vw H Hv)(t:Tab T q H H'):b8 H Hv H' Hv:=by
 rcases t with rfl|⟨ps,ps',c,hT,hc,ne,rfl,ck⟩
 ·exact .refl v
 ·have get:∀ {a o},H a=some o→NT o→upd (upd H T (.tbl q ps')) c (.ext (mU c q)) a=some o:=fun {a o} e n=>by
   rw[aJ (aX e hc),aJ (fun z=>by rw[z,hT] at e;cases e;exact n)];exact e
  have back:∀ {a o},upd (upd H T (.tbl q ps')) c (.ext (mU c q)) a=some o→(∀ w ps,o≠.tbl w ps)→(∀ φ,o≠.ext φ)→H a=some o:=fun {a o} e n1 n2=>by
   by_cases z:a=c
   ·subst z;rw[aU] at e;cases e;exact absurd rfl (n2 _)
   ·rw[aJ z] at e
    by_cases z2:a=T
    ·subst z2;rw[aU] at e;cases e;exact absurd rfl (n1 _ _)
    ·rw[aJ z2] at e;exact e
  refine⟨⟨fun a o e n=>get e n,fun a e=>?_,fun a w p0 e=>?_⟩,gH.refl _,⟨fun a o e=>get (v.sub a o e) (v.nv a o e),fun a xs e=>v.tup a xs (back e (fun _ _ z=>by cases z) (fun _ z=>by cases z)),fun a o u e=>v.frz a o u (back e (fun _ _ z=>by cases z) (fun _ z=>by cases z)),ck,v.nv⟩,fun _ _ _ n=>n⟩
  ·by_cases z:a=c
   ·subst z;exact hc
   ·rw[aJ z] at e
    by_cases z2:a=T
    ·subst z2;rw[aU] at e;cases e
    ·rw[aJ z2] at e;exact e
  ·by_cases z2:a=T
   ·subst z2
    rw[hT] at e;cases e
    exact⟨ps',by rw[aJ (Ne.symm ne),aU]⟩
   ·exact⟨p0,by rw[aJ (aX e hc),aJ z2];exact e⟩
theorem Nz{Hv:Hp}:∀ {ds:List D} {xs:List V} {bs:List Int},Mi.Bf ds=some bs→P2 (Rep Hv) ds xs→xs=bs.map V.int
 | [],_,bs,e,r=>by cases e;cases r;rfl
 | .int b::ds,_,bs,e,r=>by
  cases r with
  | cons x t =>
   cases hb:Mi.Bf ds with
   | none=>rw[Mi.Bf,hb] at e;cases e
   | some cs =>
    rw[Mi.Bf,hb] at e
    cases e
    rw[Nz hb t,pZ.mp x];rfl
section
variable{X:Cx}{K:PySem.W.Frag}{M:Nat→Bool}{te tb ta:TE}{a b kf:Mi.E}{T:Addr}{q:Str}{ρ : List Nat}
theorem Zz{e:Mi.Env}{σ : L2.St}{H Hv:Hp}(I:R0 M e σ H Hv)(hM:∀ j∈ρ,M j=false){d:D}{v:V}(r:Rep Hv d v):R0 (fun _=>false) (Mi.Ft ρ e d) (nF ρ σ v) H Hv:=by
 refine⟨I.vw,by simp[Mi.Ft,nF],fun i w h _=>?_,fun i w h m=>by cases m⟩
 cases i with
 | zero =>
  have:W.d d=w:=by simpa [Mi.Ft] using h
  subst this
  exact⟨v,rfl,r⟩
 | succ i =>
  have h:(ρ.map fun j=>(e[j]?).join)[i]? = some (some w):=by simpa [Mi.Ft] using h
  rw[List.getElem?_map] at h
  obtain⟨j,hj,e2⟩:=Option.map_eq_some_iff.mp h
  have e3:e[j]? = some (some w):=by
   cases z:e[j]? with
   | none=>rw[z] at e2;cases e2
   | some y=>rw[z] at e2;exact congrArg some e2
  obtain⟨u,hu,ru⟩:=I.nob j w e3 (hM j (List.mem_of_getElem? hj))
  exact⟨u,by simp[nF,List.getElem?_map,hj,hu],ru⟩
theorem MT{c':Addr}(hk:AE (fun _=>false) qN tb kf)(hM:∀ j∈ρ,M j=false){e:Mi.Env}{σ : L2.St}:∀ {ds:List D} {xs:List V} {kz:List (List Int)} {H Hv:Hp} {R:List V→Hp→Prop},R0 M e σ H Hv→P2 (Rep Hv) ds xs→H c'=some (.ext (mU c' q))→Mi.pH ρ kf e ds=.ok kz →
 (∀ ks H3 Hv3,b8 H Hv H3 Hv3→KeysAre H3 kz ks→R ks H3)→GC c' q (fun v H K=>tb (nF ρ σ v) H K) xs H R
 | [],_,kz,H,Hv,R,I,.nil,_,hz,h=>by
  have:kz=[]:=by rw[Mi.pH] at hz;cases hz;rfl
  subst this
  exact h [] H Hv (.refl I.vw) .nil
 | d::ds,_,kz,H,Hv,R,I,.cons (b:=v) (m:=xs) r t,hc,hz,h=>by
  rw[Mi.pH] at hz
  show tb (nF ρ σ v) H _
  cases hkd:kf (Mi.Ft ρ e d) with
  | no=>rw[hkd] at hz;cases hz
  | ex z=>rw[hkd] at hz;cases hz
  | ok kd =>
   rw[hkd,Mi.az] at hz
   cases kd with
   | lst es =>
    cases hes:Mi.Bf es with
    | none=>rw[show Mi.Jp (.lst es)=.no from by show Mi.tM (Mi.Bf es)=_;rw[hes];rfl] at hz;cases hz
    | some z =>
     rw[show Mi.Jp (.lst es)=.ok z from by show Mi.tM (Mi.Bf es)=_;rw[hes];rfl,Mi.az] at hz
     cases hzs:Mi.pH ρ kf e ds with
     | no=>rw[hzs] at hz;cases hz
     | ex y=>rw[hzs] at hz;cases hz
     | ok zs =>
      rw[hzs] at hz
      have hz:kz=z::zs:=by cases hz;rfl
      subst hz
      refine hk _ _ H Hv _ (Zz I hM r) ?_
      rw[hkd]
      intro kv H1 Hv1 g1 kq
      obtain⟨p,o,rfl,n0,hp,nv,ci⟩:=kq
      cases o with
      | lst vs =>
       have hv:vs=z.map V.int:=Nz hes ci
       subst hv
       refine⟨g1.old.at hc,MT hk hM (I.grow g1) (cJ g1.vis t) (g1.old.at hc) hzs fun ks H3 Hv3 g3 ka=>h _ H3 Hv3 (g1.trans g3) (.cons ⟨p,rfl,g3.old.at hp⟩ ka)⟩
      | _=>exact ci.elim
   | _=>cases hz
theorem Mj{F:D→V→Prop}{ds:List D}{xs:List V}(h:P2 F ds xs):∀ l:List Nat,(∀ i∈l,i < ds.length)→P2 F (l.map fun i=>ds.getD i .non) (l.map fun i=>xs.getD i .non)
 | [],_=>.nil
 | i::r,hl=>by
  have hi:=hl i List.mem_cons_self
  have e1:ds[i]? = some (ds.getD i .non):=by simp[hi]
  obtain⟨y,e2,f⟩:=h.getL e1
  have:xs.getD i .non=y:=by simp[e2]
  refine .cons ?_ (Mj h r fun j hj=>hl j (List.mem_cons_of_mem _ hj))
  show F (ds.getD i .non) (xs.getD i .non)
  rw[this];exact f
theorem Xk(hT:(T,q)∈Tb.l)(hM:∀ j∈ρ,M j=false)(ha:AE M qP te a)(hk:AE (fun _=>false) qN tb kf):AE M qN (Q0 T q ρ te tb) (Mi.Ff ρ a kf):=fun e σ H Hv Q I h =>
 ha e σ H Hv _ I ((aq.mp h).mono fun x hx v H1 Hv1 g1 rx=>by
  cases x with
  | lst ds =>
   obtain⟨h64,hx⟩:=Mi.aV (show Fin (Mi.aN (ds.length < 64) _) _ from hx)
   obtain⟨kz,hkz,hx⟩:=lJ (aq.mp hx)
   obtain⟨nd,hx⟩:=Mi.aV hx
   have hx:=Mi.gF hx
   obtain⟨p,xs,rfl,l,r⟩:=RD.lst g1.vw rx
   have lx:=r.len
   have I1:=I.grow g1
   obtain⟨tps,ht⟩:=g1.vw.cd.has _ hT
   refine⟨p,xs,tps,rfl,by omega,ht,g1.vw.cd,fun H2 c' tab hc'=>?_⟩
   have g2:=QW g1.vw tab
   refine⟨l.old g2.old,MT hk hM (I1.grow g2) r hc' hkz fun ks H3 Hv3 g3 ka=>?_⟩
   have lk:kz.length=ds.length:=by
    have:∀ (ds:List D) (kz:List (List Int)),Mi.pH ρ kf e ds=.ok kz→kz.length=ds.length:=fun ds=>by
     induction ds with
     | nil=>intro kz h;rw[Mi.pH] at h;cases h;rfl
     | cons d ds ih =>
      intro kz h
      rw[Mi.pH] at h
      cases h1:kf (Mi.Ft ρ e d) with
      | no=>rw[h1] at h;cases h
      | ex z=>rw[h1] at h;cases h
      | ok kd =>
       rw[h1,Mi.az] at h
       cases h2:Mi.Jp kd with
       | no=>rw[h2] at h;cases h
       | ex z=>rw[h2] at h;cases h
       | ok z =>
        rw[h2,Mi.az] at h
        cases h3:Mi.pH ρ kf e ds with
        | no=>rw[h3] at h;cases h
        | ex y=>rw[h3] at h;cases h
        | ok zs=>rw[h3] at h;cases h;rw[List.length_cons,List.length_cons,ih zs h3]
    exact this ds kz hkz
   refine⟨kz,by omega,nd,ka,fun p2 ys hp2 so=>?_⟩
   obtain⟨pa,pm,sd,rfl⟩:=so
   have e0:pa.toList=Mi.yt kz ds.length:=by
    rw[← lk]
    exact Wd nd (by rw[lk,lx];exact pm) (by rw[lk,lx];exact sd)
   have rr:P2 (Rep Hv3) (Mi.sortBy kz ds) (pa.toList.map fun i=>xs.getD i .non):=by
    unfold Mi.sortBy
    rw[← e0]
    refine Mj (cJ (g2.vis.trans g3.vis) r) _ fun i hi=>?_
    have:=(Array.perm_iff_toList_perm.mp pm.pm).mem_iff.mp hi
    rw[lx];simpa using this
   obtain⟨g4,kk⟩:=Ey g3.vw rr hp2
   have gg:=g1.trans (g2.trans (g3.trans g4))
   exact hx _ _ _ gg (KM.mono (κ:=qN) (g1.old.trans (g2.old.trans g3.old)) kk)
  | _=>exact hx.elim)
end
end A
namespace L2
open PySem PySem.Spec PyProof.Rows A So
structure Vn(K:PySem.W.Frag)(x qual:Str)(st:Stmt)(c f:Addr)(fd:FuncData):Prop where
 ex:∃ (oc:Value) (od:Option Addr) (kV doc pm:Value) (an:Option Addr) (ct:Value) (osl:Array (Option Value)),
  fd=PySem.W.fnOf x qual (lX st) (iG st) (aQ st) .none kV doc pm an (.ref c) ct∧K.lookup f=some ⟨oc,od,.func fd,osl⟩∧PySem.W.codeIn K (.ref c) qual=true
section
variable{P:Program}{w:World}{K:PySem.W.Frag}{mg:Str→Option Value}{base:Heap}
theorem Vn.ok{x qual:Str}{st:Stmt}{c f:Addr}{fd:FuncData}{N ps:List Str}{k:Nat}{sp:Sp}(F:Vn K x qual st c f fd)(S:bG N ps (aQ st))(len:∀ vs H Q E,sp vs H Q E→vs.length=ps.length)
 (hbody:∀ (A:Around) (outer:List Env) (s:Shared) (H:Hp) (vs:List V) (Q:VK) (E:XK),jq k (A.deeper (envOfC qual (aQ st) s.heap.objs.size f (.ref c)))→sp vs H Q E →
  ∃ t,GZ (lZ dH P w K mg base N qual (aQ st) f (.ref c) A outer s H E).nox (iG st) t∧t { nx:=fun _ H'=>Q .non H',rt:=Q } (start N vs) H):cY P w K mg base dH (k+1) f fd ps sp:=by
 obtain⟨oc,od,kV,doc,pm,an,ct,osl,rfl,lk,hcd⟩:=F.ex
 refine T8 lk hcd S len fun A outer s H vs Q E hr hsp=>?_
 obtain⟨t,h,q⟩:=hbody A outer s H vs Q E hr hsp
 exact⟨t,h.nox,q⟩
end
structure Xo(K:PySem.W.Frag)(mg:Str→Option Value)(x:Str)(st:Stmt)(ps:List Str)(c:Addr):Prop where
 ex:∃ (f:Addr) (fd:FuncData),mg x=some (.ref f)∧PySem.W.keepIn K (.ref f)=true∧Binds K fd ps []∧Vn K x x st c f fd
theorem WL{K:PySem.W.Frag}{h:Heap}{mg:Str→Option Value}{x:Str}{st:Stmt}{ps:List Str}{f c:Addr}{oc:Value}{od an:Option Addr}{osl:Array (Option Value)}{kV doc pm ct:Value}(X:K.In h)(G:h.Ns mainGlobals mg)
 (hb:∀ (kV doc pm:Value) (an:Option Addr) (cdv ct:Value) (us:List Value),us.length=ps.length→bindArgs (PySem.W.fnOf x x (lX st) (iG st) (aQ st) .none kV doc pm an cdv ct) ⟨us,[]⟩=pure (ps.zip us))
 (a:PySem.W.nsIn K mainGlobals x=some (some (.ref f))) (l:K.lookup f=some ⟨oc,od,.func (PySem.W.fnOf x x (lX st) (iG st) (aQ st) .none kV doc pm an (.ref c) ct),osl⟩)
 (cc:PySem.W.codeIn K (.ref c) x=true) (k:PySem.W.keepIn K (.ref f)=true):Xo K mg x st ps c:=by
 have F:=T7 (st:=st) l cc k
 exact⟨f,_,PySem.W.mg_of X G a,k,F.binds hb,⟨oc,od,kV,doc,pm,an,ct,osl,rfl,l,cc⟩⟩
theorem Xo.cal{P:Program}{w:World}{K:PySem.W.Frag}{mg:Str→Option Value}{base:Heap}{CX:GQ}{k:Nat}{x:Str}{st:Stmt}{ps:List Str}{c:Addr}{sp:Sp}(F:Xo K mg x st ps c)(h:∀ f fd,Vn K x x st c f fd→cY P w K mg base CX k f fd ps sp) :
 nM P w K mg base CX k x ps sp:=by
 obtain⟨f,fd,h1,h2,h3,h4⟩:=F.ex
 exact⟨f,fd,h1,h2,h3,h f fd h4⟩
theorem Dn.one{X:Cx}{x y:Str}{j:Nat}{sc:Scope}{c:Addr}(hn:sc.names=[(x,.local),(y,.free)])(hxy:(y == x)=false)(hk:sc.kind=.function)(co:sc.isCoroutine=false)(gen:sc.isGenerator=false)(hc:X.env.cells=[(y,c)])(hN:X.N[j]? = some y)(hy:X.env.kindOf y=some .cell) :
 Dn X x [j] [x,y] sc [(y,c)]:=by
 have hl:sc.names.lookup y=some .free:=by
  rw[hn,List.lookup,hxy]
  show List.lookup y [(y,NameKind.free)]=_
  rw[List.lookup,beq_self_eq_true]
 refine⟨hk,co,gen,fun z hz=>?_,by rw[hn,List.lookup,beq_self_eq_true],fun z d h=>by rw[hc];exact h,fun z h=>?_,[y],rfl,rfl,fun i k z h1 h2=>?_⟩
 ·rw[hn] at hz
  rcases List.mem_cons.mp hz with rfl|hz
  ·exact fun q=>by cases q
  ·rw[List.mem_singleton.mp hz];exact fun q=>by cases q
 ·rw[hn,List.lookup] at h
  split at h
  ·cases h
  ·rw[List.lookup] at h
   split at h
   ·rename_i q
    exact⟨c,by rw[List.lookup,q]⟩
   ·cases h
 ·cases i with
  | zero =>
   have e1:j=k:=by simpa using h1
   have e2:y=z:=by simpa using h2
   subst e1 e2
   exact⟨hN,hl,.inl hy⟩
  | succ i=>simp at h1
section
variable[Tb:fQ]
theorem O8{P:Program}{w:World}{K:PySem.W.Frag}{mg mb:Str→Option Value}{k:Nat}{fa a c T:Addr}{q:Str}{fd:FuncData}{x:Str}{s₁:Shared}{vs:List Value}{ns:List Int}(hTb:Tb.l=[(T,q)])
 (KX:K.In s₁.heap) (hns:s₁.heap.Ns mainGlobals mg) (hb:s₁.heap.Ns builtinsNs mb) (hbb:∀ x:Str,x ≠ "__name__" → mb x=bootBuiltins x) (hlim:s₁.heap.NoLimit) (hg:s₁.gens = #[])
 (ha:s₁.heap.get? a=some { cls:=.type "list", data:=.seq vs.toArray }) (hi:IntsAre vs ns) (hl:ns.length≤63) (hr:jq k callerA)
 (hKa:K.lookup a=none) (hKT:K.lookup T=none) (C:PySem.W.CodeHd s₁.heap c T) (hT:s₁.heap.get? T=some (PySem.W.tabObj #[])) (hB:BM mg s₁.heap)
 (F:∀ base:Heap,K.In base→base.Ns mainGlobals mg→BM mg base→PySem.W.CodeHd base c T→cY P w K mg base dH k fa fd [x] Hj) (hbind:∀ (s:Shared) (u:Value),BindsTo s fd ⟨[u],[]⟩ [(x,u)]) :
 codeAny (model P w) callerA (.call (.ref fa) ⟨[.ref a],[]⟩) (fun r s'=>r=.ok (.ret (.bool true))∧OldK s₁.heap s'.heap∧s'.os=s₁.os∧AllBare s'.gens) s₁:=by
 have rv:=BW hi
 have lenV:=hi.length
 have aT:a≠T:=fun z=>by rw[z,hT] at ha;cases ha
 let H:Hp:=fun b=>if b=a then some (.frz { cls:=.type "list", data:=.seq vs.toArray } (.lst (ns.map V.int))) else if b=T then some (.tbl q #[]) else none
 have Ha:H a=some (.frz { cls:=.type "list", data:=.seq vs.toArray } (.lst (ns.map V.int))):=if_pos rfl
 have HT:H T=some (.tbl q #[]):=by show (if T=a then _ else _)=_;rw[if_neg (Ne.symm aT),if_pos rfl]
 have Hn:∀ b,b≠a→b≠T→H b=none:=fun b h1 h2=>by show (if b=a then _ else _)=_;rw[if_neg h1,if_neg h2]
 have Hd:∀ {b u},H b=some u→(b=a∧u=.frz { cls:=.type "list", data:=.seq vs.toArray } (.lst (ns.map V.int)))∨(b=T∧u=.tbl q #[]):=fun {b u} e=>by
  by_cases h1:b=a
  ·subst h1;rw[Ha] at e;cases e;exact .inl ⟨rfl,rfl⟩
  ·by_cases h2:b=T
   ·subst h2;rw[HT] at e;cases e;exact .inr ⟨rfl,rfl⟩
   ·rw[Hn b h1 h2] at e;cases e
 have hok:pO P w H s₁.heap:=fun b u e=>by
  rcases Hd e with ⟨rfl,rfl⟩|⟨rfl,rfl⟩
  ·exact⟨ha,by rw[List.length_map,sizeLine_eq];omega,vs,_,rv,ha⟩
  ·exact hT
 have free:∀ {b:Addr} {o:Obj},s₁.heap.get? b=some o→o.cls≠.type "list" → o≠PySem.W.tabObj #[]→H b=none:=fun {b o} e h1 h2=>by
  refine Hn b (fun z=>?_) fun z=>?_
  ·rw[z,ha] at e;cases e;exact h1 rfl
  ·rw[z,hT] at e;cases e;exact h2 rfl
 have yM:∀ {b:Addr} {o:Obj},s₁.heap.get? b=some o→H b=none→(Ai s₁.heap H).get? b=some o:=fun e n=>T4 e n
 have nsK:∀ {b:Addr} {m:Str→Option Value},s₁.heap.Ns b m→(Ai s₁.heap H).Ns b m:=fun {b m} ⟨o,es,ep,e,d,r⟩=>⟨o,es,ep,yM e (Hn b (fun z=>by rw[z,ha] at e;cases e;cases d) fun z=>by rw[z,hT] at e;cases e;cases d),d,r⟩
 have hKb:K.In (Ai s₁.heap H):=fun b o e=>yM (KX b o e) (Hn b (fun z=>by rw[z,hKa] at e;cases e) fun z=>by rw[z,hKT] at e;cases e)
 have hM:Mod K mg (Ai s₁.heap H):=⟨hKb,nsK hns,⟨mb,nsK hb,hbb⟩,let ⟨mc,h1,h2⟩:=hlim;⟨mc,nsK h1,h2⟩⟩
 have e0:Qt P w K mg (Ai s₁.heap H) callerA [] s₁ H:=⟨rfl,hM,fun b o e=>Wh e,Nat.le_of_eq (Pu _ _),trivial,fun b hb=>absurd (show b∈([]:List Addr) from hb) (by simp),hok,.of_eq hg⟩
 have hB':BM mg (Ai s₁.heap H):=by
  obtain⟨bm,bo,b1,b2,b3,b4,b5,b6,b7⟩:=hB
  exact⟨bm,bo,b1,b2,b3,yM b4 (free b4 (by rw[b5];decide) (fun z=>by rw[z] at b5;cases b5)),b5,b6,b7⟩
 have C':PySem.W.CodeHd (Ai s₁.heap H) c T:=by
  obtain⟨o,vs2,file,tf,flags,tg,inF,text,tt,e,h1,r⟩:=C
  exact⟨o,vs2,file,tf,flags,tg,inF,text,tt,yM e (free e (by rw[h1];decide) (fun z=>by rw[z] at h1;cases h1)),h1,r⟩
 have ck:jr H:=⟨fun r hr=>by
  rw[hTb] at hr
  obtain rfl:r=(T,q):=by simpa using hr
  exact⟨#[],HT⟩,fun T2 q2 ps e=>by
  rcases Hd e with ⟨_,z⟩|⟨_,z⟩
  ·cases z
  ·cases z;exact⟨trivial,fun pos v hv=>by cases hv⟩⟩
 refine codeAny_mono ((F _ hKb (nsK hns) hB' C').run callerA [] s₁ H ⟨[.ref a],[]⟩ [.ref a] [.ref a] (fun v _=>v=.bl true) (fun _ _ _=>False) hr e0 (hbind s₁ (.ref a)) (.cons rfl .nil) ⟨a,ns,rfl,.inr ⟨_,Ha⟩,hl,ck,fun _=>rfl⟩) fun r s' h=>?_
 cases r with
 | error e=>exact h.elim
 | ok fl =>
  cases fl with
  | next=>exact False.elim h
  | brk=>exact False.elim h
  | cont=>exact False.elim h
  | ret u =>
   obtain⟨v,H',os,bare,un,hok',r',q'⟩:=h
   have q':v=.bl true:=q'
   subst q'
   obtain rfl:u=Value.bool true:=r'
   have old:∀ b o,s₁.heap.get? b=some o→asItWas s₁.heap s'.heap b o:=fun b o e=>by
    by_cases h1:b=a
    ·subst h1
     have z2:=un.wZ b _ _ Ha
     obtain⟨e2,_⟩:=hok' b _ z2
     rw[ha] at e;cases e
     exact .inl e2
    ·by_cases h2:b=T
     ·subst h2
      obtain⟨more,z2⟩:=un.wz b _ _ HT
      have e2:s'.heap.get? b=some (PySem.W.tabObj (#[]++more)):=hok' b _ z2
      rw[hT] at e;cases e
      obtain⟨oc,vs2,_,_,_,_,_,_,_,f1,f2,f3,f4,_⟩:=C
      exact .inr (.inl ⟨⟨c,oc,vs2,f1,f2,f3,f4⟩,rfl,#[],more,rfl,e2⟩)
     ·exact .inl (un.keep b o e (Hn b h1 h2) (by intro z;exact absurd (show b∈([]:List Addr) from z) (by simp)) (by simp))
   exact⟨rfl,⟨old,fun b o e=>un.there b o e (by simp)⟩,os,bare⟩
theorem QM{l:PySem.W.OpenLaw}{k:Nat}{q:Program}{loose:List Str}{XP:(Str→Option Value)→Heap→Prop}{YP:World→Heap→Prop}{d:DefRec}{K:Params→PySem.W.Frag}{x dn:Str}{c T:Addr}{qn:Str}(hTb:Tb.l=[(T,qn)])
 (hn:l.most=some 63) (hdf:d.params.defaults=[]) (hr:jq k callerA)
 (hY:∀ (w:World) (h:Heap),YP w h→(K w.params).In h) (hL:∀ w:World,∀ a o,(K w.params).lookup a=some o→o.cls≠.type "list") (hK:∀ w:World,(K w.params).lookup T=none)
 (hrec:∃ d,(recsOf q).find? (fun e=>e.name == dn)=some d) (htab:∀ w:World,PySem.W.tabIn (K w.params) dn=some (c,T))
 (F:∀ (w:World) (mg:Str→Option Value) (fa:Addr) (h:Heap),(K w.params).In h→h.Ns mainGlobals mg→mg d.name=some (.ref fa) →
  ∃ fd:FuncData,(∀ (s:Shared) (u:Value),BindsTo s fd ⟨[u],[]⟩ [(x,u)]) ∧
   ∀ base:Heap,(K w.params).In base→base.Ns mainGlobals mg→BM mg base→PySem.W.CodeHd base c T→cY l.prog w (K w.params) mg base dH k fa fd [x] Hj) :
 PySem.W.WalkO q loose XP YP l.row.toRowW d [] (fun f vs=>PySem.call f vs):=by
 refine Att.Jl hn hdf fun w s₀ s₁ mg mb fa o pm cd doc a vs ns G Y ho hd hcd hmg hobj hints hlen hg=>?_
 have KX:=hY w _ Y
 obtain⟨fd,hb,hF⟩:=F w mg fa _ KX G.T.g hmg
 obtain⟨dd,hdd⟩:=hrec
 obtain⟨C,hT⟩:=PySem.W.tab_of G.T KX hdd (htab w)
 have hB:BM mg s₁.heap:=by
  obtain⟨bm,ob,b1,b2,b3,b4,b5,b6⟩:=G.T.bmain
  refine⟨bm,ob,b1,b2,fun z=>?_,b3,b4,b5,b6⟩
  obtain⟨o2,es,ep,e,d2,_⟩:=G.T.g
  rw[z,e] at b3;cases b3;rw[d2] at b6;cases b6
 have hKa:(K w.params).lookup a=none:=by
  cases z:(K w.params).lookup a with
  | none=>rfl
  | some o2 =>
   have e:=KX a o2 z
   rw[hobj] at e;cases e
   exact absurd rfl (hL w a _ z)
 exact O8 hTb KX G.T.g G.T.b G.T.builtins G.T.nolimit hg hobj hints hlen hr hKa (hK w) C hT hB hF hb
end
end L2
namespace A
open PySem L2 PyProof.Rows So
open Mi (D W Rs Fin aq Out Tg)
variable[Tb:fQ]
section
variable{K:PySem.W.Frag}{M:Nat→Bool}{ta tb:TE}{a b:Mi.E}
def XN:V→List V→Hp→VK→Prop:=fun x xs H Q=>∃ (p:Addr) (ys:List Str) (z:Str),x=.ref p∧xs=[.str z]∧z∈ys∧H p=some (.tup (ys.map V.str))∧Q (.int (ys.idxOf z:Nat)) H
def XQ:V→List V→Hp→VK→Prop:=fun x xs H Q=>∃ (p:Addr) (ys:List Str) (z:Str),x=.ref p∧xs=[.str z]∧z∈ys∧ys.length≤1000∧Lst H p (ys.map V.str)∧Q (.int (ys.idxOf z:Nat)) H
theorem abE{X:Cx}:Vp X "tuple.index" XN:=Wk
theorem abF{X:Cx}:Vp X "list.index" XQ:=Wl
theorem aci(ha:AE M qP ta a)(hb:AE M qP tb b):AE M qV (aaR K "list" XN XQ ta (iW tb rA)) (Mi.m2 Mi.Uk a b):=fun e σ H Hv Q I h =>
 ha e σ H Hv _ I ((aq.mp h).mono fun x hx v H1 Hv1 g1 rx=>by
  obtain⟨y,hy,hk⟩:=lJ (aq.mp hx)
  cases y with
  | str z =>
   obtain⟨ys,ey,q1⟩:=jn (aq.mp hk)
   obtain⟨⟨hz,hl⟩,q2⟩:=Mi.aV q1
   have q3:=Mi.gF q2
   clear hk q1 q2 hx
   cases x with
   | tup ds =>
    obtain⟨p,us,rfl,l,_,r⟩:=RD.tup g1.vw rx
    have:=t7 ey r
    subst this
    refine .inl ⟨⟨p,_,rfl,l⟩,hb e σ H1 Hv1 _ (I.grow g1) ?_⟩
    rw[hy]
    intro v2 H2 Hv2 g2 ry
    cases RD.str ry
    exact⟨p,ys,z,rfl,rfl,hz,g2.old.at l,q3 _ _ _ (g1.trans g2) iK⟩
   | lst ds =>
    obtain⟨p,us,rfl,l,r⟩:=RD.lst g1.vw rx
    have:=t7 ey r
    subst this
    refine .inr ⟨.inl ⟨rfl,_,l.sq⟩,hb e σ H1 Hv1 _ (I.grow g1) ?_⟩
    rw[hy]
    intro v2 H2 Hv2 g2 ry
    cases RD.str ry
    exact⟨p,ys,z,rfl,rfl,hz,hl,l.old g2.old,q3 _ _ _ (g1.trans g2) iK⟩
   | _=>cases ey
  | _=>exact hk.elim)
end
end A
namespace Mi
end Mi
namespace A
open PySem L2 PyProof.Rows So
open Mi (D W Rs Fin aq Out Tg)
variable[Tb:fQ]
end A
namespace L2
open PySem PySem.Spec PyProof.Rows
def ExcAt(h:Heap)(e T:Addr)(cls fl:Value):Prop :=
 ∃ oe vs oT ts,h.get? e=some oe∧(oe.cls=cls∧oe.dict=none)∧oe.data=.fields vs∧vs[1]? = some (.ref T)∧T≠e∧h.get? T=some oT∧oT.data=.fields ts∧ts[3]? = some fl
def ExcNew(h:Heap)(e:Addr)(cls:Value):Prop:=∃ oe vs,h.get? e=some oe∧(oe.cls=cls∧oe.dict=none)∧oe.data=.fields vs∧vs[1]? = some .none
structure fV(fs no:List Addr)(h h':Heap):Prop where
 keep:∀ b o,h.get? b=some o→b∉fs→b∉no→h'.get? b=some o
 slot:∀ b o,h.get? b=some o→b∉no→∃ sl,h'.get? b=some { o with slots:=sl }
 there:∀ b o,h.get? b=some o→∃ o',h'.get? b=some o'
theorem fV.trans{fs no no':List Addr}{h h1 h2:Heap}(a:fV fs no h h1)(b:fV fs no' h1 h2):fV fs (no++no') h h2:=by
 refine⟨fun x o e f n=>?_,fun x o e n=>?_,fun x o e=>?_⟩
 ·have n1:x∉no:=fun z=>n (List.mem_append_left _ z)
  have n2:x∉no':=fun z=>n (List.mem_append_right _ z)
  exact b.keep x o (a.keep x o e f n1) f n2
 ·have n1:x∉no:=fun z=>n (List.mem_append_left _ z)
  have n2:x∉no':=fun z=>n (List.mem_append_right _ z)
  obtain⟨sl,e1⟩:=a.slot x o e n1
  obtain⟨sl2,e2⟩:=b.slot x _ e1 n2
  exact⟨sl2,e2⟩
 ·obtain⟨o1,e1⟩:=a.there x o e
  exact b.there x o1 e1
theorem fV.of_keeps{fs:List Addr}{h h':Heap}(k:∀ b o,h.get? b=some o→h'.get? b=some o):fV fs [] h h' :=
 ⟨fun b o e _ _=>k b o e,fun b o e _=>⟨o.slots,k b o e⟩,fun b o e=>⟨o,k b o e⟩⟩
theorem fV.more{fs no no':List Addr}{h h':Heap}(a:fV fs no h h')(s:∀ b∈no,b∈no'):fV fs no' h h' :=
 ⟨fun x o e f n=>a.keep x o e f fun z=>n (s x z),fun x o e n=>a.slot x o e fun z=>n (s x z),a.there⟩
theorem fV.sG{fs no:List Addr}{h h' base:Heap}{l:List Env}(a:fV fs no h h')(hl:h.FunFrames base l)(hn:∀ b∈no,∀ o,h.get? b=some o→∃ vs,o.data=.fields vs):h'.FunFrames base l :=
 hl.of_keeps fun b o hb hnf=>by
  obtain⟨sl,e⟩:=a.slot b o hb fun z=>by
   obtain⟨vs,q⟩:=hn b z o hb
   exact hnf vs q
  exact⟨_,e,rfl⟩
theorem Uh(f:Array Value→Array Value)(o:Obj):(Obj.mapFields f o).dict=o.dict:=by
 obtain⟨c,d,dt,sl⟩:=o
 cases dt<;>rfl
section
variable{M:Model}{A:Around}{E:Value→Shared→Prop}{s:Shared}
theorem HF{base:Heap}{env:Env}{outer:List Env}{L e:Addr}{oe:Obj}{vs:Array Value}{head:Value}{hadNext:Bool}{Q:Unit→Shared→Prop}
 (hfr:A.frames=some (env::outer)) (hl:s.heap.FunFrames base (env::outer)) (hf:env.frame=some L) (he:s.heap.get? e=some oe) (hdc:oe.dict=none) (hd:oe.data=.fields vs) (hsz:1 < vs.size)
 (h:∀ h' T,s.heap.objs.size≤T→fV (frs (env::outer)) [e] s.heap h'→ExcAt h' e T oe.cls (rawInt L)→Q () { s with heap:=h' }) :
 wpAny M A (do let a ← frameOf env;let pl ← entryPlaceOf L hadNext;let b ← EntryCells.newEntry head a .none (rawInt L) .none pl;setField (.ref e) 1 b) Q E s:=by
 have hene:e∉(env::outer).filterMap (·.frame):=fun hm=>by
  obtain⟨_,o,ho,hnf⟩:=hl.mem hm
  rw[he] at ho;injection ho with ho;subst ho;exact hnf vs hd
 refine wpAny_bind (wpAny_frameOf_fun hfr hl hf fun h₁ hs₁=>?_)
 refine wpAny_bind (wpAny_entryPlaceOf fun pl hpl=>?_)
 unfold EntryCells.newEntry newFields
 refine wpAny_bind (wpAny_newObj_type ?_ (hpl.sizeOk5 _ _ _ _ _))
 have he₁:h₁.get? e=some oe:=(hs₁.2.1 e hene).trans he
 have he₂:=Heap.get?_push_of_some (h:=h₁) { cls:=.type "traceback", dict:=none,data:=.fields ([head,.ref L,.none,rawInt L,.none]++(if pl.isEmpty then List.replicate 6 Value.none else pl)).toArray } he₁
 refine wpAny_setField he₂ hd hsz (h _ h₁.objs.size (Nat.le_of_eq hs₁.1.symm) ?_ ?_)
 ·have keep:∀ b o,b≠e→h₁.get? b=some o →
   ((h₁.push { cls:=.type "traceback", dict:=none,data:=.fields ([head,.ref L,.none,rawInt L,.none]++(if pl.isEmpty then List.replicate 6 Value.none else pl)).toArray }).update e (Obj.mapFields (·.setIfInBounds 1 (Value.ref h₁.objs.size)))).get? b=some o :=
   fun b o hbe hb=>by
    rw[Heap.get?_update_other _ _ (Ne.symm hbe)]
    exact Heap.get?_push_of_some _ hb
  have hd₃:=Obj.data_mapFields hd (·.setIfInBounds 1 (Value.ref h₁.objs.size))
  refine⟨fun b o hb n1 n2=>keep b o (fun z=>n2 (by rw[z];exact List.mem_singleton.mpr rfl)) ((hs₁.2.1 b n1).trans hb),fun b o hb n2=>?_,fun b o hb=>?_⟩
  ·obtain⟨sl,q⟩:=hs₁.2.2 b o hb
   exact⟨sl,keep b _ (fun z=>n2 (by rw[z];exact List.mem_singleton.mpr rfl)) q⟩
  ·by_cases z:b=e
   ·subst z
    exact⟨_,Heap.get?_update_self (Obj.mapFields (·.setIfInBounds 1 (Value.ref h₁.objs.size))) he₂ (Obj.isFreed_of_fields hd₃)⟩
   ·obtain⟨sl,q⟩:=hs₁.2.2 b o hb
    exact⟨_,keep b _ z q⟩
 ·have hTe:h₁.objs.size≠e:=Nat.ne_of_gt (Heap.lt_size he₁)
  have hd₃:=Obj.data_mapFields hd (·.setIfInBounds 1 (Value.ref h₁.objs.size))
  have he₃:=Heap.get?_update_self (Obj.mapFields (·.setIfInBounds 1 (Value.ref h₁.objs.size))) he₂ (Obj.isFreed_of_fields hd₃)
  have hT₃:=(Heap.get?_update_other (h₁.push { cls:=.type "traceback", dict:=none,data:=.fields ([head,.ref L,.none,rawInt L,.none]++(if pl.isEmpty then List.replicate 6 Value.none else pl)).toArray })
   (Obj.mapFields (·.setIfInBounds 1 (Value.ref h₁.objs.size))) (Ne.symm hTe)).trans (Heap.get?_push_size h₁ rfl)
  exact⟨_,_,_,_,he₃,⟨Obj.cls_mapFields _ _,(Uh _ _).trans hdc⟩,hd₃,by simp[hsz],hTe,hT₃,rfl,by first|(simp;done)|(rcases hpl with rfl|⟨_,_,_,_,_,_,_,rfl⟩<;>simp)⟩
theorem Kl{base:Heap}{env:Env}{outer:List Env}{L e:Addr}{cls:Value}{Q:Unit→Shared→Prop}
 (hfr:A.frames=some (env::outer)) (hl:s.heap.FunFrames base (env::outer)) (hf:env.frame=some L) (hx:ExcNew s.heap e cls)
 (h:∀ h' T,s.heap.objs.size≤T→fV (frs (env::outer)) [e] s.heap h'→ExcAt h' e T cls (rawInt L)→Q () { s with heap:=h' }):wpAny M A (noteFrame (.ref e) env) Q E s:=by
 obtain⟨oe,vs,he,⟨rfl,hdc⟩,hd,h1⟩:=hx
 unfold noteFrame
 simp only[hf]
 refine wpAny_bind (wpAny_field he hd h1 ?_)
 rw[if_neg (by decide)]
 exact HF hfr hl hf he hdc hd (Array.getElem?_eq_some_iff.mp h1).1 h
theorem Mq{base:Heap}{env:Env}{outer:List Env}{L e T:Addr}{cls:Value}{Q:Unit→Shared→Prop}
 (hfr:A.frames=some (env::outer)) (hl:s.heap.FunFrames base (env::outer)) (hf:env.frame=some L) (hx:ExcAt s.heap e T cls .none)
 (h:∀ h' T',s.heap.objs.size≤T'→fV (frs (env::outer)) [e,T] s.heap h'→ExcAt h' e T' cls (rawInt L)→Q () { s with heap:=h' }):wpAny M A (noteFrame (.ref e) env) Q E s:=by
 obtain⟨oe,vs,oT,ts,he,⟨rfl,hdc⟩,hd,h1,hTe,hT,hdT,h3⟩:=hx
 unfold noteFrame
 simp only[hf]
 refine wpAny_bind (wpAny_field he hd h1 ?_)
 rw[if_pos (show (Value.ref T != Value.none)=true from by simp)]
 refine wpAny_bind (wpAny_field hT hdT h3 ?_)
 rw[if_neg (show ¬ ((Value.none == rawInt L)=true) from by simp[rawInt])]
 refine wpAny_bind (wpAny_setField hT hdT (Array.getElem?_eq_some_iff.mp h3).1 ?_)
 have other:∀ b,b≠T→(s.heap.update T (Obj.mapFields (·.setIfInBounds 3 Value.none))).get? b=s.heap.get? b:=fun b hb=>Heap.get?_update_other _ _ (Ne.symm hb)
 have hself:=Heap.get?_update_self (Obj.mapFields (·.setIfInBounds 3 Value.none)) hT (Obj.isFreed_of_fields (Obj.data_mapFields hdT _))
 have n0:fV (frs (env::outer)) [T] s.heap (s.heap.update T (Obj.mapFields (·.setIfInBounds 3 Value.none))):=by
  refine⟨fun b o q _ n=>(other b fun z=>n (by rw[z];exact List.mem_singleton.mpr rfl)).trans q,fun b o q n=>⟨o.slots,(other b fun z=>n (by rw[z];exact List.mem_singleton.mpr rfl)).trans q⟩,fun b o q=>?_⟩
  by_cases z:b=T
  ·subst z;exact⟨_,hself⟩
  ·exact⟨o,(other b z).trans q⟩
 refine HF hfr (n0.sG hl fun b z o q=>?_) hf ((other e (Ne.symm hTe)).trans he) hdc hd (Array.getElem?_eq_some_iff.mp h1).1 fun h' T' hT' n x=>h h' T' (Nat.le_trans (Nat.le_of_eq (by simp[Heap.update])) hT') ((n0.trans n).more fun b hb=>?_) x
 ·rw[List.mem_singleton.mp z,hT] at q;cases q;exact⟨ts,hdT⟩
 ·simp only[List.singleton_append,List.mem_cons,List.not_mem_nil,or_false] at hb ⊢
  exact hb.symm
theorem qm{e T:Addr}{cls fl:Value}{Q:Unit→Shared→Prop}(hx:ExcAt s.heap e T cls fl)(h:∀ h',fV [] [T] s.heap h'→s.heap.objs.size=h'.objs.size→ExcAt h' e T cls .none→Q () { s with heap:=h' }):wpAny M A (setFlight (.ref e) none) Q E s:=by
 obtain⟨oe,vs,oT,ts,he,hc,hd,h1,hTe,hT,hdT,h3⟩:=hx
 have hsz3:3 < ts.size:=(Array.getElem?_eq_some_iff.mp h3).1
 have other:∀ b,b≠T→(s.heap.update T (Obj.mapFields (·.setIfInBounds 3 ((none:Option Addr).elim Value.none fun f=>rawInt f)))).get? b=s.heap.get? b:=fun b hb=>Heap.get?_update_other _ _ (Ne.symm hb)
 have hself:=Heap.get?_update_self (Obj.mapFields (·.setIfInBounds 3 ((none:Option Addr).elim Value.none fun f=>rawInt f))) hT (Obj.isFreed_of_fields (Obj.data_mapFields hdT _))
 unfold setFlight
 refine wpAny_bind (wpAny_field he hd h1 ?_)
 rw[if_pos (show (Value.ref T != Value.none)=true from by simp)]
 refine wpAny_setField hT hdT hsz3 (h _ ?_ (by simp[Heap.update]) ?_)
 ·refine⟨fun b o q _ n=>(other b fun z=>n (by rw[z];exact List.mem_singleton.mpr rfl)).trans q,fun b o q n=>⟨o.slots,(other b fun z=>n (by rw[z];exact List.mem_singleton.mpr rfl)).trans q⟩,fun b o q=>?_⟩
  by_cases z:b=T
  ·subst z;exact⟨_,hself⟩
  ·exact⟨o,(other b z).trans q⟩
 ·exact⟨oe,vs,_,_,(other e (Ne.symm hTe)).trans he,hc,hd,h1,hTe,hself,Obj.data_mapFields hdT _,by simp[hsz3]⟩
theorem Ie{base:Heap}{env:Env}{outer:List Env}{L e:Addr}{cls:Value}{Q:Unit→Shared→Prop}
 (hfr:A.frames=some (env::outer)) (hl:s.heap.FunFrames base (env::outer)) (hf:env.frame=some L) (hx:ExcNew s.heap e cls)
 (h:∀ h' T,s.heap.objs.size≤T→fV (frs (env::outer)) [e,T] s.heap h'→ExcAt h' e T cls .none→Q () { s with heap:=h' }):wpAny M A (leaving env (.ref e)) Q E s:=by
 unfold leaving
 refine wpAny_bind (Kl hfr hl hf hx fun h1 T hT n x=>?_)
 refine qm x fun h2 n2 _ x2=>h h2 T hT ((n.trans (no':=[T]) ⟨fun b o q _=>n2.keep b o q (by simp),n2.slot,n2.there⟩).more fun b hb=>by simpa using hb) x2
theorem Tq{base:Heap}{env:Env}{outer:List Env}{L e T:Addr}{cls:Value}{Q:Unit→Shared→Prop}
 (hfr:A.frames=some (env::outer)) (hl:s.heap.FunFrames base (env::outer)) (hf:env.frame=some L) (hx:ExcAt s.heap e T cls .none)
 (h:∀ h' T',s.heap.objs.size≤T'→fV (frs (env::outer)) [e,T,T'] s.heap h'→ExcAt h' e T' cls .none→Q () { s with heap:=h' }):wpAny M A (leaving env (.ref e)) Q E s:=by
 unfold leaving
 refine wpAny_bind (Mq hfr hl hf hx fun h1 T' hT n x=>?_)
 refine qm x fun h2 n2 _ x2=>h h2 T' hT ((n.trans (no':=[T']) ⟨fun b o q _=>n2.keep b o q (by simp),n2.slot,n2.there⟩).more fun b hb=>by simpa [or_assoc] using hb) x2
end
end L2
namespace L2
open PySem PySem.Spec PyProof.Rows
def BL(P:Program)(w:World):GQ:=fun outer H s E e s' =>
 ∃ ea T C H',e=.ref ea∧s'.os=s.os∧AllBare s'.gens∧Un (frs outer) [] H H' s.heap s'.heap∧pO P w H' s'.heap∧s.heap.get? ea=none∧s.heap.get? T=none∧H' ea=none∧H' T=none∧ExcAt s'.heap ea T (.ref C) .none∧E (.ref C) (some ea) H'
theorem bZ.there{P:Program}{w:World}{H:Hp}{h:Heap}{a:Addr}{o:HO}(x:bZ P w H h a o):∃ ob,h.get? a=some ob:=by
 have hlt:=x.stay (h':=h) (H':=H) (fun _ _ _ q=>q) (fun _ q=>q) fun _ _ q=>q
 cases o with
 | lst xs=>obtain⟨z,its,n,r,e⟩:=x;exact⟨_,e⟩
 | tup xs=>obtain⟨z,its,r,ob,e,c⟩:=x;exact⟨_,e⟩
 | dK kvs=>obtain⟨_,_,_,_,ob,es,ep,e,c⟩:=x;exact⟨_,e⟩
 | dT kvs=>obtain⟨_,_,_,_,ob,es,ep,e,c⟩:=x;exact⟨_,e⟩
 | set S n=>obtain⟨ob,es,ep,t,e,c⟩:=x;exact⟨_,e⟩
 | ins C dx fs=>obtain⟨d,z,ne,e,_⟩:=x;exact⟨_,e⟩
 | own y=>exact x
 | xd fs=>obtain⟨mA,⟨od,es,ep,e,c⟩,r⟩:=x;exact⟨_,e⟩
 | rng lo hi=>obtain⟨t,u,v,e⟩:=x;exact⟨_,e⟩
 | frz ob u=>exact⟨_,x.1⟩
 | tbl w ps=>exact⟨_,x⟩
 | met f y=>exact⟨_,x⟩
 | ext φ=>exact x.2.1
theorem pO.none_of{P:Program}{w:World}{H:Hp}{h:Heap}(k:pO P w H h){a:Addr}(e:h.get? a=none):H a=none:=by
 cases q:H a with
 | none=>rfl
 | some o =>
  obtain⟨ob,z⟩:=(k a o q).there
  rw[e] at z;cases z
section
variable{CX:GQ}{P:Program}{w:World}{K:PySem.W.Frag}{mg:Str→Option Value}{base:Heap}{N:List Str}{qual:Str}{scope:Scope}{f:Addr}{cd:Value}{A:Around}{outer:List Env}{s:Shared}{H:Hp}{E:XK}
theorem Ni{pins:List (Addr×Obj)}{σ : St}{H1:Hp}{s1:Shared}{h2:Heap}{no:List Addr}(I:Inv (lZ CX P w K mg base N qual scope f cd A outer s H E) pins σ H1 s1)
 (n:fV (frs (envOfC qual scope s.heap.objs.size f cd::outer)) no s1.heap h2) (hn:∀ b∈no,s.heap.get? b=none∧H1 b=none):Un (frs outer) [] H H1 s.heap h2∧pO P w H1 h2:=by
 have B:Un (frs outer) [] H H1 s.heap s1.heap:=I.base
 have hL:∀ b o,s.heap.get? b=some o→b∉frs outer→b∉frs (envOfC qual scope s.heap.objs.size f cd::outer):=fun b o e nf z=>by
  have hz:frs (envOfC qual scope s.heap.objs.size f cd::outer)=s.heap.objs.size::frs outer:=rfl
  rw[hz] at z
  rcases List.mem_cons.mp z with q|q
  ·have:=Heap.lt_size e
   rw[q] at this;exact absurd this (Nat.lt_irrefl _)
  ·exact nf q
 have hno:∀ b o,s.heap.get? b=some o→b∉no:=fun b o e z=>by rw[(hn b z).1] at e;cases e
 refine⟨⟨fun b o e z nf nx=>n.keep b o (B.keep b o e z nf nx) (hL b o e nf) (hno b o e),fun b o e z nf nx=>?_,B.free,fun b o e nx=>?_,B.tups,B.wZ,B.wz⟩,fun a o e=>?_⟩
 ·obtain⟨sl,q⟩:=B.slot b o e z nf nx
  obtain⟨sl2,q2⟩:=n.slot b _ q (hno b o e)
  exact⟨sl2,q2⟩
 ·obtain⟨o1,q⟩:=B.there b o e nx
  exact n.there b o1 q
 ·have hok:pO P w H1 s1.heap:=I.hok
  refine(hok a o e).stay (fun b u hb q=>?_) (fun _ q=>q) fun _ _ q=>q
  have tr:∃ ob,H1 b=some ob:=by
   rcases hb with rfl|hb
   ·exact⟨_,e⟩
   ·exact⟨_,hb⟩
  obtain⟨ob,tr⟩:=tr
  refine n.keep b u q (fun z=>?_) fun z=>?_
  ·have:=I.vo b z
   rw[tr] at this;cases this
  ·rw[(hn b z).2] at tr;cases tr
theorem Yu{pins:List (Addr×Obj)}{σ : St}{H1:Hp}{s1:Shared}{h1:Heap}{e C:Addr}{vs:List Value}(I:Inv (lZ (BL P w) P w K mg base N qual scope f cd A outer s H E) pins σ H1 s1)
 (m:Heap.MadeExcOf s1.heap h1 e (.ref C) vs) (q:E (.ref C) (some e) H1):(lZ (BL P w) P w K mg base N qual scope f cd A outer s H E).xe (.ref e) { s1 with heap:=h1 }:=by
 have hfr:=I.ok.frames
 have hl:s1.heap.FunFrames base (envOfC qual scope s.heap.objs.size f cd::outer):=I.stack
 have nk:fV (frs (envOfC qual scope s.heap.objs.size f cd::outer)) [] s1.heap h1:=.of_keeps m.keeps
 have x:ExcNew h1 e (.ref C):=by
  obtain⟨t,he,_⟩:=m.there
  exact⟨_,_,he,⟨rfl,rfl⟩,rfl,rfl⟩
 have B:Un (frs outer) [] H H1 s.heap s1.heap:=I.base
 have new:∀ {b:Addr},s1.heap.get? b=none→s.heap.get? b=none∧H1 b=none:=fun {b} z=>by
  refine⟨?_,I.hok.none_of z⟩
  cases q:s.heap.get? b with
  | none=>rfl
  | some o =>
   obtain⟨o',z2⟩:=B.there b o q (by simp)
   rw[z] at z2;cases z2
 refine Ie (base:=base) (s:={ s1 with heap:=h1 }) hfr (nk.sG hl fun b z=>absurd z (by simp)) rfl x fun h2 T hT n2 x2=>?_
 have hTn:s1.heap.get? T=none:=by
  cases q2:s1.heap.get? T with
  | none=>rfl
  | some o=>exact absurd (Heap.lt_size (m.keeps T o q2)) (Nat.not_lt.mpr hT)
 have nn:∀ b∈[]++[e,T],s.heap.get? b=none∧H1 b=none:=fun b hb=>by
  simp only[List.nil_append,List.mem_cons,List.not_mem_nil,or_false] at hb
  rcases hb with rfl|rfl
  ·exact new m.new
  ·exact new hTn
 obtain⟨u1,u2⟩:=Ni I (nk.trans n2) nn
 exact⟨e,T,C,H1,rfl,I.os,I.bare,u1,u2,(nn e (by simp)).1,(nn T (by simp)).1,(nn e (by simp)).2,(nn T (by simp)).2,x2,q⟩
theorem Wa:Bh (BL P w) (lZ (BL P w) P w K mg base N qual scope f cd A outer s H E) E:=by
 rintro pins σ H1 s1 e s2 I ⟨ea,T,C,H2,rfl,os2,Yk,un2,ok2,n1,n2,n3,n4,x,q⟩
 have acT:Un (frs (envOfC qual scope s.heap.objs.size f cd::outer)) [] H1 H2 s1.heap s2.heap:=un2
 have I2:Inv (lZ (BL P w) P w K mg base N qual scope f cd A outer s H E) pins σ H2 s2:=I.call' os2 (ch:=[]) un2 ok2 Yk (fun b z=>absurd z (by simp))
 have hfr:=I2.ok.frames
 have hl:s2.heap.FunFrames base (envOfC qual scope s.heap.objs.size f cd::outer):=I2.stack
 have B:Un (frs outer) [] H H1 s.heap s1.heap:=I.base
 have old:∀ {b:Addr},s1.heap.get? b=none→s.heap.get? b=none:=fun {b} z=>by
  cases q:s.heap.get? b with
  | none=>rfl
  | some o =>
   obtain⟨o',z2⟩:=B.there b o q (by simp)
   rw[z] at z2;cases z2
 refine Tq (base:=base) (s:=s2) hfr hl rfl x fun h3 T' hT' n x3=>?_
 have hTn:s2.heap.get? T'=none:=by
  cases q2:s2.heap.get? T' with
  | none=>rfl
  | some o=>exact absurd (Heap.lt_size q2) (Nat.not_lt.mpr hT')
 have hTs:s1.heap.get? T'=none:=by
  cases q2:s1.heap.get? T' with
  | none=>rfl
  | some o =>
   obtain⟨o',z2⟩:=acT.there T' o q2 (by simp)
   rw[hTn] at z2;cases z2
 have nn:∀ b∈[ea,T,T'],s.heap.get? b=none∧H2 b=none:=fun b hb=>by
  simp only[List.mem_cons,List.not_mem_nil,or_false] at hb
  rcases hb with rfl|rfl|rfl
  ·exact⟨old n1,n3⟩
  ·exact⟨old n2,n4⟩
  ·exact⟨old hTs,ok2.none_of hTn⟩
 obtain⟨u1,u2⟩:=Ni I2 n nn
 exact⟨ea,T',C,H2,rfl,I2.os,Yk,u1,u2,(nn ea (by simp)).1,(nn T' (by simp)).1,(nn ea (by simp)).2,(nn T' (by simp)).2,x3,q⟩
theorem J6:PassesOwn (model P w) (lZ CX P w K mg base N qual scope f cd A outer s H E).A (lZ CX P w K mg base N qual scope f cd A outer s H E).env (lZ CX P w K mg base N qual scope f cd A outer s H E).xe:=fun e s' h =>
 wpAny_leaving_again (SameStack.refl _) h
end
end L2
namespace L2
open PySem PySem.Spec PyProof.Rows
def FP(X:Cx)(e:Expr)(ok:St→Hp→Prop):Prop:=∀ (pins:List (Addr×Obj)) (s:Shared) (σ : St) (H:Hp),Inv X pins σ H s→ok σ H →
 wpAny (model X.prog X.w) X.A (eval e X.env) (fun v s1=>∃ y t,v=.str y t∧y.length≤100000∧Inv X pins σ H s1) X.xe s
section
variable{X:Cx}
theorem tU{x:Str}{j pos}(h:x.length≤100000):FP X (.Constant (.str x) j pos) fun _ _=>True:=fun pins s σ H I _ =>
 wpAny_mono (jm (X:=X) pins s σ H (fun v H'=>v=.str x∧H'=H) I ⟨rfl,rfl⟩) (fun v s1 ⟨v',H',I',r,e1,e2⟩=>by
  subst e1 e2
  obtain⟨t,rfl⟩:=r
  exact⟨x,t,rfl,h,I'⟩) fun _ _ z=>z
theorem vN{e:Expr}{te:TE}{pos:Pos}(he:PE X e te):FP X (.FormattedValue e 114 none pos) fun σ H=>te σ H fun v H'=>H'=H∧∃ z:Str,v=.str z∧(PySem.reprText z).length≤100000:=fun pins s σ H I h=>by
 refine wpAny_FormattedValue_repr (dY (he pins s σ H _ I h) fun v s1 ⟨v',H',I',r,e2,z,e1,hz⟩=>?_)
 subst e1 e2
 obtain⟨t,rfl⟩:=r
 have hz':(reprText z).length≤sizeLine:=by rw[sizeLine_eq];omega
 refine wpAny_pyReprObj_str ?_ hz'
 exact wpAny_formatField_str ⟨_,_,rfl,hz,I'.tok _⟩ ⟨_,_,rfl,hz,(I'.tok _).tok _⟩ hz'
def FPs(X:Cx):List Expr→List (St→Hp→Prop)→Prop
 | [],[]=>True
 | e::es,p::ps=>FP X e p∧FPs X es ps
 | _,_=>False
theorem Ih{pins:List (Addr×Obj)}{σ : St}{H:Hp}{Q:Str→Shared→Prop}:∀ (es:List Expr) (ps:List (St→Hp→Prop)) (acc:Str) (s:Shared),FPs X es ps→(∀ p∈ps,p σ H)→acc.length+100000 * es.length≤sizeLine→Inv X pins σ H s →
 (∀ z s',z.length≤sizeLine→Inv X pins σ H s'→Q z s')→Joins (model X.prog X.w) X.A X.xe (evalEach es X.env) acc Q s
 | [],[],acc,s,_,_,hl,I,q=>q acc s (by simp at hl;exact hl) I
 | [],_::_,_,_,f,_,_,_,_=>f.elim
 | _::_,[],_,_,f,_,_,_,_=>f.elim
 | e::es,p::ps,acc,s,f,hp,hl,I,q=>by
  refine wpAny_mono (f.1 pins s σ H I (hp p List.mem_cons_self)) (fun v s1 ⟨y,t,ev,hy,I1⟩=>?_) fun _ _ z=>z
  rw[List.length_cons] at hl
  have ha:(acc++y).length≤acc.length+100000:=by rw[strLen_append];omega
  exact⟨y,t,ev,by omega,Ih es ps (acc++y) s1 f.2 (fun p' h'=>hp p' (List.mem_cons_of_mem _ h')) (by omega) I1 q⟩
theorem En{e1 e2:Expr}{es:List Expr}{ps:List (St→Hp→Prop)}{pos:Pos}(f:FPs X (e1::e2::es) ps)(hl:(e1::e2::es).length≤100):PE X (.JoinedStr (e1::e2::es) pos) (fun σ H Q=>(∀ p∈ps,p σ H)∧∀ z:Str,z.length≤sizeLine→Q (.str z) H):=fun pins s σ H Q I h =>
 wpAny_JoinedStr (Ih _ ps Str.empty s f h.1 (by rw[sizeLine_eq];have:Str.empty.length=0:=rfl;omega) I fun z s' hz I'=>⟨hz,.str z,H,I'.tok _,⟨_,rfl⟩,h.2 z hz⟩)
end
section
variable{P:Program}{w:World}{K:PySem.W.Frag}{mg:Str→Option Value}{base:Heap}{N:List Str}{qual:Str}{scope:Scope}{f:Addr}{cd:Value}{A:Around}{outer:List Env}{s:Shared}{H:Hp}{E:XK}
theorem zM{x:Str}{C:Addr}{bm:List Value}{B newId initId:String}{e:Expr}{te:TE}{np cpos pos:Pos}(FB:ExcBaseFacts B newId initId bm)(O:OwnCls x C bm newId mg base)
 (he:PE (lZ (BL P w) P w K mg base N qual scope f cd A outer s H E) e te) (hg:Gl (lZ (BL P w) P w K mg base N qual scope f cd A outer s H E) x) (hd:(x == ("__debug__" : Str))=false:=by decide)
 (hs:starEach [e] (lZ (BL P w) P w K mg base N qual scope f cd A outer s H E).env=(false,eval e (lZ (BL P w) P w K mg base N qual scope f cd A outer s H E).env)::starEach [] (lZ (BL P w) P w K mg base N qual scope f cd A outer s H E).env:=by rfl) :
 PS (lZ (BL P w) P w K mg base N qual scope f cd A outer s H E) (.Raise (some (.Call (.Name x np) [e] [] cpos)) none pos) (fun _ σ H1=>te σ H1 fun _ H2=>∀ ea,H2 ea=none→E (.ref C) (some ea) H2):=by
 intro pins s1 σ H1 D I h
 obtain⟨tl,N',nm,q,bs,hdct,sn,sub,ab,col,dd,k0,k1,k2,k3,k5,mN,hC,hN,hni,T⟩:=O.obj
 refine wpAny_Raise_call_subT (C:=C) (nm:=nm) (q:=q) (N:=N') (bs:=bs) (bm:=tl) (hdct:=hdct) (sn:=sn) (sub:=sub) (ab:=ab) (col:=col) (dd:=dd) (k0:=k0) (k1:=k1) (k2:=k2) (k3:=k3) (k5:=k5)
  FB (mN:=mN) (T.hasType FB.hasBase) (I.ok.hd rfl) (by rw[hs];rfl) hni (tR I hg O.bound ⟨rfl,?_⟩ hd)
 rw[hs]
 refine Calls.evalArgs_plain (Calls.spliced_cons (dY (he pins s1 σ H1 _ I h) fun v s2 ⟨v',H2,I2,r,q2⟩=>Calls.spliced_nil ?_))
 exact⟨rfl,by rw[sizeLine_eq];simp,I2.bk _ _ hC,hN.keeps I2.bk,T.keeps I2.bk,fun h' e' m=>Yu I2 m (q2 e' (I2.hok.none_of m.new))⟩
end
end L2
namespace Mi
open PySem
def kh{α : Type}(r:Rs α)(k:α→Prop)(x:yp→Prop):Prop:=match r with
 | .ok a=>k a
 | .ex z=>x z
 | .no=>False
theorem du{α β : Type}{r:Rs α}{f:α→Rs β}{k:β→Prop}{x:yp→Prop}:kh (r.bind f) k x↔kh r (fun a=>kh (f a) k x) x:=by cases r<;>exact Iff.rfl
theorem kh.mono{α : Type}{r:Rs α}{k k':α→Prop}{x x':yp→Prop}(h:kh r k x)(m:∀ a,k a→k' a)(n:∀ z,x z→x' z):kh r k' x':=by
 cases r with
 | ok a=>exact m a h
 | ex z=>exact n z h
 | no=>exact h
theorem kh.fin{α : Type}{r:Rs α}{k:α→Prop}{x:yp→Prop}(h:kh r k x)(hn:∀ z,r≠.ex z):Fin r k:=by
 cases r with
 | ok a=>exact h
 | ex z=>exact absurd rfl (hn z)
 | no=>exact h
theorem Al{α : Type}{c:Prop}[Decidable c]{r:Rs α}{k:α→Prop}{x:yp→Prop}(h:kh (aN c r) k x):c∧kh r k x:=by
 unfold aN at h
 split at h
 ·exact⟨‹_›,h⟩
 ·exact h.elim
theorem Z1{α : Type}{r s:Rs α}{k:α→Prop}{x:yp→Prop}(h:kh (if true=true then r else s) k x):kh r k x:=by simpa using h
theorem Z2{α : Type}{r s:Rs α}{k:α→Prop}{x:yp→Prop}(h:kh (if false=true then r else s) k x):kh s k x:=by simpa using h
def still{α : Type}:Rs α→Rs α
 | .ex _=>.no
 | r=>r
theorem oU{α : Type}{r:Rs α}{k:α→Prop}{x:yp→Prop}(h:kh (still r) k x):Fin r k:=by cases r<;>exact h
theorem Hg{α : Type}{r:Rs α}{a:α}(h:r=.ok a):still r=.ok a:=by rw[h];rfl
def sP(m:S):S:=fun e=>still (m e)
def cP(c:C):C:=fun e=>still (c e)
def iP(it:I):I:=fun e=>still (it e)
theorem Rw:∀ (tg:Tg) (x:D) (e:Env) (z:yp),tg.put x e≠.ex z:=by
 have key:∀ (is:List Nat) (ds:List D) (e:Env) (z:yp),uE is ds e≠.ex z:=fun is=>by
  induction is with
  | nil=>intro ds e z h;cases ds<;>cases h
  | cons i r ih =>
   intro ds e z h
   cases ds with
   | nil=>cases h
   | cons d t=>exact ih t _ z h
 intro tg x e z h
 cases tg with
 | n i=>cases h
 | t is=>cases x with
  | tup ds=>exact key is ds e z h
  | _=>cases h
def rO(cls:String)(gs:List (Env→Bool)):S:=fun e=>if (gs.all fun g=>g e)=true then .ex ⟨cls,[]⟩ else .no
def gR(i:Nat):Env→Bool:=fun e=>match e[i]? with
 | some (some (.d (.str z)))=>decide ((PySem.reprText z).length≤100000)
 | _=>false
def mJ(f:Fn)(ws:List EW):S:=fun e=>(still (bM ws e)).bind fun vs=>(f vs).bind fun _=>.ok (.nx e)
end Mi
namespace A
open PySem L2 PyProof.Rows So
open Mi (D W Rs Fin kh aq du Out Tg yp)
variable[Tb:fQ]
def wish(cl:String→Addr)(E:XK):yp→Hp→Prop:=fun z H'=>∀ ea,H' ea=none→E (.ref (cl z.cls)) (some ea) H'
def Qz(M:Nat→Bool)(κ : Kd)(x:yp→Hp→Prop)(t:TS)(m:Mi.S):Prop:=∀ H0 Hv0 e σ H Hv D,R1 M H0 Hv0 e σ H Hv→kh (m e) (nJ M κ H0 Hv0 D Hv) (fun z=>∀ H' Hv',b8 H0 Hv0 H' Hv'→x z H')→t D σ H
section
variable{M:Nat→Bool}{κ : Kd}{x:yp→Hp→Prop}{t u:TS}{m n:Mi.S}{cl:String→Addr}{E:XK}
theorem xr(h:AS M κ t m):Qz M κ x t (Mi.sP m):=fun H0 Hv0 e σ H Hv D I f=>h H0 Hv0 e σ H Hv D I (Mi.oU f)
theorem vZ(h1:Qz M κ x t m)(h2:Qz M κ x u n):Qz M κ x (YH t u) (Mi.aY m n):=fun H0 Hv0 e σ H Hv D I h =>
 h1 H0 Hv0 e σ H Hv _ I ((du.mp h).mono (fun o ho=>by
  cases o with
  | nx e'=>exact fun σ' H' Hv' I' s=>h2 H0 Hv0 e' σ' H' Hv' D I' (kh.mono ho (fun o z=>z.up s) fun _ z=>z)
  | rt w=>exact ho
  | bk e'=>exact ho
  | ct e'=>exact ho) fun _ z=>z)
theorem Lb{tt:TT}{c:Mi.C}(hc:AT M tt c)(h1:Qz M κ x t m)(h2:Qz M κ x u n):Qz M κ x (YJ tt t u) (Mi.iy (Mi.cP c) m n):=fun H0 Hv0 e σ H Hv D I h =>
 hc e σ H Hv _ I.toR0 ((Mi.oU (du.mp h)).mono fun b hb H1 Hv1 g1=>by
  cases b with
  | true=>exact Fy (h1 H0 Hv0 e σ H1 Hv1 D (I.grow g1) ((Mi.Z1 hb).mono (fun o z=>z.up g1.vis) fun _ z=>z))
  | false=>exact Fz (h2 H0 Hv0 e σ H1 Hv1 D (I.grow g1) ((Mi.Z2 hb).mono (fun o z=>z.up g1.vis) fun _ z=>z)))
theorem Xf{K:PySem.W.Frag}{wi:TI}{it:Mi.I}{tg:Tg}(hi:NZ M wi it)(hm:∀ i∈wy tg,M i=false)(hb:Qz M κ x t m):Qz M κ x (YK wi (tgG K tg) t) (Mi.m7 (Mi.iP it) tg m):=fun H0 Hv0 e σ H Hv D I h =>
 hi e σ H Hv _ I.toR0 ((Mi.oU (du.mp h)).mono fun ds h1 J H1 Hv1 P g1 O p1 per=>by
  refine⟨fun i k σ' H'=>k=ds.length - i∧i≤ds.length∧∃ e' Hv',R1 M H0 Hv0 e' σ' H' Hv'∧P H' Hv'∧kh (Mi.qj tg m (ds.drop i) e') (nJ M κ H0 Hv0 D Hv') (fun z=>∀ H' Hv',b8 H0 Hv0 H' Hv'→x z H'),
   ⟨ds.length,by simp,Nat.zero_le _,e,Hv1,I.grow g1,p1,by rw[List.drop_zero];exact h1.mono (fun o z=>z.up g1.vis) fun _ z=>z⟩,?_⟩
  rintro i k σ' H' ⟨rfl,hle,e',Hv',I',pp,hf⟩
  by_cases hlt:i < ds.length
  ·refine .inr ⟨O.go i H' Hv' pp I'.vw hlt,fun σ2 H2=>∃ e2 Hv2,R1 M H0 Hv0 e2 σ2 H2 Hv2∧P H2 Hv2∧kh (Mi.qj tg m (ds.drop (i+1)) e2) (nJ M κ H0 Hv0 D Hv2) (fun z=>∀ H' Hv',b8 H0 Hv0 H' Hv'→x z H'),
    fun σ2 H2 z=>⟨ds.length - (i+1),by omega,rfl,hlt,z⟩,fun y H2 q=>?_⟩
   obtain⟨Hv2,d,g2,hd,rx⟩:=O.yld i H' Hv' y H2 pp I'.vw hlt q
   have I2:=I'.grow g2
   have hdr:ds.drop i=d::ds.drop (i+1):=by
    obtain⟨hl,e1⟩:=List.getElem?_eq_some_iff.mp hd
    rw[List.drop_eq_getElem_cons hl,e1]
   rw[hdr] at hf
   refine DW (P:=fun e1 σ1=>R1 M H0 Hv0 e1 σ1 H2 Hv2) g2.vw (fun j hj e1 σ1 d1 v1 r1 z=>r1.set (hm j hj) z) I2 rx (((du.mp hf).fin (Mi.Rw tg d e')).mono fun e1 h1 σ1 I1=>?_)
   refine hb H0 Hv0 e1 σ1 H2 Hv2 _ I1 ((du.mp h1).mono (fun o ho=>?_) fun _ z=>z)
   cases o with
   | nx e2=>exact fun σ2 H3 Hv3 I3 s3=>⟨e2,Hv3,I3,per _ _ _ _ pp (g2.vis.trans s3) I3.vw,kh.mono ho (fun o z=>z.up (g2.vis.trans s3)) fun _ z=>z⟩
   | ct e2=>exact fun σ2 H3 Hv3 I3 s3=>⟨e2,Hv3,I3,per _ _ _ _ pp (g2.vis.trans s3) I3.vw,kh.mono ho (fun o z=>z.up (g2.vis.trans s3)) fun _ z=>z⟩
   | bk e2=>exact fun σ2 H3 Hv3 I3 s3=>ho σ2 H3 Hv3 I3 (g2.vis.trans s3)
   | rt w=>exact ho
  ·have hi:i=ds.length:=by omega
   subst hi
   refine .inl ⟨O.stop H' Hv' pp I'.vw,?_⟩
   rw[List.drop_of_length_le (Nat.le_refl _)] at hf
   exact hf σ' H' Hv' I' (gH.refl _))
def Xy(cl:String→Addr)(f:Mi.Fn):Sp:=fun vs H Q E=>∃ Hv ws,Vw H Hv∧P2 (uh Hv) ws vs∧kh (f ws) (fun w=>∀ v H' Hv',b8 H Hv H' Hv'→qV H H' Hv' w v→Q v H') (fun z=>∀ H' Hv',b8 H Hv H' Hv'→wish cl E z H')
theorem Ve{f:Mi.Fn}{ws:List Mi.EW}{tr:TA}(ha:AAW M qV tr (Mi.bM ws)):Qz M κ (wish cl E) (Hb (vf (Xy cl f) [] E tr)) (Mi.mJ f ws):=fun H0 Hv0 e σ H Hv D I h =>
 ha e σ H Hv _ I.toR0 ((Mi.oU (du.mp h)).mono fun ds hx vs H1 Hv1 g1 rx=>by
  rw[List.append_nil]
  refine⟨Hv1,ds,g1.vw,rx,(du.mp hx).mono (fun w hw v H3 Hv3 g3 r=>?_) fun z hz H3 Hv3 g3=>?_⟩
  ·exact hw σ H3 Hv3 (I.grow (g1.trans g3)) (g1.trans g3).vis
  ·exact hz H3 Hv3 (I.gw.trans (g1.trans g3)))
def PG(M:Nat→Bool)(g:Mi.Env→Bool)(p:L2.St→Hp→Prop):Prop:=∀ e σ H Hv,R0 M e σ H Hv→g e=true→p σ H
theorem tK:PG M (fun _=>true) (fun _ _=>True):=fun _ _ _ _ _ _=>trivial
theorem vD(i:Nat)(hm:M i=false):PG M (Mi.gR i) (fun σ H=>uD i σ H fun v H'=>H'=H∧∃ z:Str,v=.str z∧(PySem.reprText z).length≤100000):=fun e σ H Hv I h=>by
 unfold Mi.gR at h
 split at h
 ·rename_i z hz
  obtain⟨v,hv,r⟩:=I.nob i _ hz hm
  have r:v=.str z:=(lR (H:=Hv)).mp r
  subst r
  exact⟨_,hv,rfl,z,rfl,of_decide_eq_true h⟩
 ·cases h
def Vm(M:Nat→Bool):List (Mi.Env→Bool)→List (L2.St→Hp→Prop)→Prop
 | [],[]=>True
 | g::gs,p::ps=>PG M g p∧Vm M gs ps
 | _,_=>False
theorem Mg:∀ {gs:List (Mi.Env→Bool)} {ps:List (L2.St→Hp→Prop)},Vm M gs ps→∀ {e σ H Hv},R0 M e σ H Hv→(gs.all fun g=>g e)=true→∀ p∈ps,p σ H
 | [],[],_,_,_,_,_,_,_,p,hp=>by cases hp
 | [],_::_,f,_,_,_,_,_,_,_,_=>f.elim
 | _::_,[],f,_,_,_,_,_,_,_,_=>f.elim
 | g::gs,p::ps,f,e,σ,H,Hv,I,h,q,hq=>by
  rw[List.all_cons,Bool.and_eq_true] at h
  rcases List.mem_cons.mp hq with rfl|hq
  ·exact f.1 e σ H Hv I h.1
  ·exact Mg f.2 I h.2 q hq
theorem xq{cls:String}{gs:List (Mi.Env→Bool)}{ps:List (L2.St→Hp→Prop)}(hp:Vm M gs ps):Qz M κ (wish cl E) (fun _ σ H1=>((∀ p∈ps,p σ H1)∧∀ z:Str,z.length≤sizeLine→∀ ea,H1 ea=none→E (.ref (cl cls)) (some ea) H1)) (Mi.rO cls gs):=fun H0 Hv0 e σ H Hv D I h=>by
 unfold Mi.rO at h
 split at h
 ·rename_i hg
  exact⟨Mg hp I.toR0 hg,fun z _ ea hea=>h H Hv I.gw ea hea⟩
 ·exact h.elim
theorem abN{f:Mi.S}{k n:Nat}{vs:List V}{H:Hp}{Q:VK}{E:XK}(h:Xy cl (Mi.vP k n f) vs H Q E):vs.length=k:=by
 obtain⟨Hv,ws,_,p,q⟩:=h
 rw[← p.len];exact(Mi.Al q).1
theorem aaY{N:List Str}{k:Nat}{vs:List V}{H:Hp}{Q:VK}(hA:Qz M qV (wish cl E) t m)(hM:∀ i,i < k→M i=false)(h:Xy cl (Mi.vP k N.length m) vs H Q E):t { nx:=fun _ H'=>Q .non H',rt:=Q } (start N vs) H:=by
 obtain⟨Hv,ws,vw,p,q⟩:=h
 obtain⟨hk,q⟩:=Mi.Al q
 refine hA H Hv _ _ H Hv _ (zp vw p hk hM) ((du.mp q).mono (fun o ho=>?_) fun z hz=>hz)
 cases o with
 | nx e=>exact fun σ H' Hv' I s=>ho _ H' Hv' I.gw J2
 | rt w=>exact fun v H' Hv' g r=>ho v H' Hv' g r
 | bk e=>exact ho.elim
 | ct e=>exact ho.elim
end
theorem _root_.L2.nZ.okX{P:Program}{w:World}{K:PySem.W.Frag}{mg:Str→Option Value}{base:Heap}{x qual:Str}{st:Stmt}{f:Addr}{fd:FuncData}{N ps:List Str}{k:Nat}{sp:Sp}(F:nZ K x qual st f fd)(S:bG N ps (aQ st))(len:∀ vs H Q E,sp vs H Q E→vs.length=ps.length)
 (hbody:∀ (cdv:Value) (A:Around) (outer:List Env) (s:Shared) (H:Hp) (vs:List V) (Q:VK) (E:XK),jq k (A.deeper (envOfC qual (aQ st) s.heap.objs.size f cdv))→sp vs H Q E →
  ∃ t,GZ (lZ (BL P w) P w K mg base N qual (aQ st) f cdv A outer s H E) (iG st) t∧t { nx:=fun _ H'=>Q .non H',rt:=Q } (start N vs) H):cY P w K mg base (BL P w) (k+1) f fd ps sp:=by
 obtain⟨oc,od,kV,doc,pm,an,cdv,ct,osl,rfl,lk,hcd⟩:=F.ex
 exact T8 lk hcd S len fun A outer s H vs Q E hr hsp=>hbody cdv A outer s H vs Q E hr hsp
end A
namespace L2
open PySem PySem.Spec PyProof.Rows
abbrev XF:=Addr→Addr→St→Hp→Prop
abbrev Yr:=Ends→XF→St→Hp→Prop
def XP(X:Cx)(pins:List (Addr×Obj))(F:XF)(e:Value)(s':Shared):Prop :=
 ∃ σ H1 s1,Inv X pins σ H1 s1∧BL X.prog X.w X.stack H1 s1 (fun c oa H2=>∃ C ea,c=.ref C∧oa=some ea∧F C ea σ H2) e s'
def PSX(X:Cx)(st:Stmt)(t:Yr):Prop:=∀ (pins:List (Addr×Obj)) (s:Shared) (σ : St) (H:Hp) (D:Ends) (F:XF),Inv X pins σ H s→t D F σ H→wpAny (model X.prog X.w) X.A (exec st X.env) (SP X pins D) (XP X pins F) s
def aco(X:Cx)(st:List Stmt)(t:Yr):Prop:=∀ (pins:List (Addr×Obj)) (s:Shared) (σ : St) (H:Hp) (D:Ends) (F:XF),Inv X pins σ H s→t D F σ H→wpAny (model X.prog X.w) X.A (execs st X.env) (SP X pins D) (XP X pins F) s
section
variable{X:Cx}{st:Stmt}{t u:Yr}
theorem V3(h:PSX X st t):aco X [st] t:=by
 intro pins s σ H D F I q
 refine wpAny_execs_cons (wpAny_mono (h pins s σ H D F I q) (fun f s1 q=>?_) fun _ _ z=>z)
 cases f with
 | next=>exact wpAny_execs_nil q
 | ret v=>exact q
 | brk=>exact q
 | cont=>exact q
def Q7(sp:Sp)(t:TA):Yr:=fun D F σ H=>t σ H fun vs H1=>sp vs H1 (fun _ H2=>D.nx σ H2) (fun c oa H2=>∃ C ea,c=.ref C∧oa=some ea∧F C ea σ H2)
theorem RC{k:Nat}{x:Str}{ps:List Str}{sp:Sp}{e:Expr}{es:List Expr}{t:TA}{p cpos pos:Pos}(hx:X.xe=fun _ _=>False)(C:nM X.prog X.w X.K X.mg X.base (BL X.prog X.w) k x ps sp)(hr:jq k X.A)(hg:Gl X x)
 (ha:PA X (e::es) t) (hdb:(x == ("__debug__" : Str))=false:=by decide) (he:starEach (e::es) X.env=(false,eval e X.env)::starEach es X.env:=by rfl) (hpl:(backTo cpos (starEach es X.env)).any (·.1)=false:=by rfl)
 (hs:swapsWith (.Call (.Name x p) (e::es) [] cpos) none pos.line X.env=pure false:=by rfl):PSX X (.Expr (.Call (.Name x p) (e::es) [] cpos) pos) (Q7 sp t):=by
 intro pins s σ H D F I h
 obtain⟨f,fd,hm,hk,hb,Fo⟩:=C.ex
 refine wpAny_Expr_any ?_ I.quiet hs
 refine wpAny_Call_Name_kw (tR I hg hm ?_ hdb)
 refine PySem.W.callWith_K (h₀:=X.base) I.ok.mod.kin hk (wpAny_mono (ha cpos pins s σ H _ I h) (fun us s1 ⟨vs,H1,I1,r,q⟩=>⟨I1.yu,?_⟩) fun _ _ z=>by rw[hx] at z;exact z.elim) he hpl
 have hl:us.length=ps.length:=by rw[← r.length];exact Fo.len _ _ _ _ q
 refine wpAny_call (codeAny_mono (Fo.run X.A X.stack s1 H1 ⟨us,[]⟩ us vs _ _ hr I1.env0 (by have:=hb s1 us I1.yu (by rw[List.append_nil];exact hl);rwa [List.append_nil] at this) r q) fun res s' hq=>?_)
 cases res with
 | error e'=>exact⟨σ,H1,s1,I1,hq⟩
 | ok fl =>
  cases fl with
  | ret v =>
   obtain⟨v',H2,I2,_,q2⟩:=I1.after hq
   exact⟨σ,H2,I2,q2⟩
  | next=>exact False.elim hq
  | brk=>exact False.elim hq
  | cont=>exact False.elim hq
end
def Cx.held(X:Cx)(e:Value):Cx:={ X with A:=X.A.mark (some e),calm:=false,xe:=fun _ _=>False }
section
variable{X:Cx}{pins:List (Addr×Obj)}{σ : St}{H:Hp}{s:Shared}
theorem Inv.held(I:Inv X pins σ H s)(e:Value):Inv (X.held e) pins σ H s :=
 ⟨⟨I.ok.mod,I.ok.kind,I.ok.glob,I.ok.blt,I.ok.above,I.ok.inj,I.ok.has,I.ok.cab,fun z=>(nomatch z),I.ok.frames,I.ok.stk,I.ok.exf,I.ok.bs,I.ok.bsz,I.ok.Km,I.ok.Pz,I.ok.sG,I.ok.frf⟩,I.os,I.bare,I.base,I.loc,I.cell,I.free,I.lO,I.pin,I.hok,I.len⟩
theorem Inv.DQ{e:Value}(J:X.Ok)(I:Inv (X.held e) pins σ H s):Inv X pins σ H s :=
 ⟨J,I.os,I.bare,I.base,I.loc,I.cell,I.free,I.lO,I.pin,I.hok,I.len⟩
end
end L2
namespace L2
open PySem PySem.Spec PyProof.Rows
open A (xf)
section
variable{X:Cx}{pins:List (Addr×Obj)}{σ : St}{H:Hp}{s:Shared}
theorem vI{M:Model}{A:Around}{E:Value→Shared→Prop}{i:Nat}{n:Str}{pos:Pos}{Q:Unit→Shared→Prop}(I:Inv X pins σ H s)(hN:X.N.Nodup)(hi:X.N[i]? = some n)(hk:X.env.scope.names.lookup n=some .local)
 (h:∀ s',Inv X pins (σ.set i none) H s'→Q () s'):wpAny M A (do bindName X.env n .none;unbindBehindTheSuite X.env n pos) Q E s:=by
 have hcls:(X.env.scope.kind == .class || (X.env.scope.kind == .module && X.env.locals != X.env.globals))=false:=by rw[I.ok.kind];rfl
 have hiσ : i < σ.length:=by rw[I.len];exact(List.getElem?_eq_some_iff.mp hi).1
 refine wpAny_bind (wpAny_bindName (vm (v:=.non) (u:=.none) I hN hi (.inl hk) rfl (fun s1 I1=>?_) (.inr hk)))
 obtain⟨m,hn,hl⟩:=id I1.loc
 have hsome:(m n).isSome=true:=by
  obtain⟨u,_,q⟩:=hl i n .non hi (List.getElem?_set_self hiσ) (.inl hk)
  rcases q with ⟨_,e⟩|⟨k,_⟩
  ·rw[e];rfl
  ·have hk':X.env.kindOf n=some .local:=hk
   rcases k with k|k<;>(rw[hk'] at k;cases k)
 have hk':X.env.kindOf n=some .local:=hk
 unfold unbindBehindTheSuite
 refine wpAny_onRaise ?_
 unfold unbindName
 refine wpAny_bind (wpAny_point (wpAny_bind ?_))
 unfold deleteName
 simp only[hk',hcls]
 rw[if_neg (by decide)]
 refine wpAny_bind (wpAny_nsDel_keeps hn fun h2 v hn2 hs2=>?_)
 rw[hsome]
 simp only[if_true,Bool.not_true,Bool.false_eq_true,if_false]
 refine wpAny_pure (wpAny_point (h _ ?_))
 obtain⟨oL,_,_,hoL,_⟩:=id hn
 have ne:∀ {b o},X.s₀.heap.get? b=some o→b≠X.env.locals:=fun {b o} e=>Nat.ne_of_lt (Nat.lt_of_lt_of_le (Heap.lt_size e) I1.ok.above)
 refine⟨I1.ok,I1.os,I1.bare,⟨fun b o e z hb hx=>(hs2.2 b (ne e)).trans (I1.base.keep b o e z hb hx),fun b o e z hb hx=>?_,I1.base.free,fun b o e hx=>?_,I1.base.tups,I1.base.wZ,I1.base.wz⟩,⟨_,hn2,fun j y v' e1 e2 e3=>?_⟩,fun y c e=>?_,I1.free,I1.lO,fun p hp=>?_,?_,by simpa using I1.len⟩
 ·obtain⟨sl,e1⟩:=I1.base.slot b o e z hb hx
  exact⟨sl,(hs2.2 b (ne e)).trans e1⟩
 ·obtain⟨o',e1⟩:=I1.base.there b o e hx
  exact⟨o',(hs2.2 b (ne e)).trans e1⟩
 ·by_cases hj:j=i
  ·subst hj
   rw[List.getElem?_set_self hiσ] at e2;cases e2
  ·have e2':(σ.set i (some V.non))[j]? = some (some v'):=by
    rw[List.getElem?_set_ne (Ne.symm hj)] at e2 ⊢;exact e2
   obtain⟨u',r',q⟩:=hl j y v' e1 e2' e3
   refine⟨u',r',?_⟩
   rcases q with ⟨k,e⟩|⟨k,c,e,z⟩
   ·refine .inl ⟨k,?_⟩
    have:y≠n:=fun e=>hj (zZ hN e1 (e ▸ hi))
    simp[this,e]
   ·refine .inr ⟨k,c,e,?_⟩
    obtain⟨o,ho,hd⟩:=z
    exact⟨o,(hs2.2 c (I1.W3 y c e)).trans ho,hd⟩
 ·obtain⟨v2,o,ho,hd⟩:=I1.cell y c e
  exact⟨v2,o,(hs2.2 c (I1.W3 y c e)).trans ho,hd⟩
 ·obtain⟨q1,q2,q3,q4⟩:=I1.pin p hp
  exact⟨(hs2.2 _ q3).trans q1,q2,q3,q4⟩
 ·intro b ob e
  refine(I1.hok b ob e).stay (fun c w' hc q=>(hs2.2 c ?_).trans q) (fun _ q=>q) fun _ _ q=>q
  rintro rfl
  rcases hc with rfl|hc
  ·rw[I1.free] at e;cases e
  ·rw[I1.free] at hc;cases hc
theorem Inv.caught{H1 H2:Hp}{s1 s':Shared}{h4:Heap}{ea C:Addr}{no:List Addr}{oe:Obj}(I1:Inv X pins σ H1 s1)(os:s'.os=s1.os)(bare:AllBare s'.gens)(un:Un (frs X.stack) [] H1 H2 s1.heap s'.heap)(ok2:pO X.prog X.w H2 s'.heap)
 (n:fV (frs X.stack) no s'.heap h4) (hno:∀ b∈no,s1.heap.get? b=none∧H2 b=none) (he:ea∈no) (hx:h4.get? ea=some oe) (hc:oe.cls=.ref C) (hcd:oe.dict=none) (hcf:∃ vs,oe.data=.fields vs):Inv X pins σ (upd H2 ea (.ext (xf ea C))) { s' with heap:=h4 }:=by
 have I2:Inv X pins σ H2 s':=I1.call' os (ch:=[]) un ok2 bare (fun b z=>absurd z (by simp))
 have old:∀ {b o},s1.heap.get? b=some o→b∉no:=fun {b o} e z=>by rw[(hno b z).1] at e;cases e
 have nee:∀ {b o},H2 b=some o→b≠ea:=fun {b o} e z=>by rw[z,(hno ea he).2] at e;cases e
 refine I1.call' (s':={ s' with heap:=h4 }) os (ch:=[]) ⟨fun b o e z nf nx=>n.keep b o (un.keep b o e z nf nx) nf (old e),fun b o e z nf nx=>?_,fun b o e z nx=>?_,fun b o e nx=>?_,fun b xs e=>?_,fun b o u e=>?_,fun b w ps e=>?_⟩ ?_ bare (fun b z=>absurd z (by simp))
 ·obtain⟨sl,q⟩:=un.slot b o e z nf nx
  obtain⟨sl2,q2⟩:=n.slot b _ q (old e)
  exact⟨sl2,q2⟩
 ·rw[aJ (fun y:b=ea=>old e (by rw[y];exact he))]
  exact un.free b o e z nx
 ·obtain⟨o1,q⟩:=un.there b o e nx
  exact n.there b o1 q
 ·have q:=un.tups b xs e
  rw[aJ (nee q)];exact q
 ·have q:=un.wZ b o u e
  rw[aJ (nee q)];exact q
 ·obtain⟨more,q⟩:=un.wz b w ps e
  exact⟨more,by rw[aJ (nee q)];exact q⟩
 ·intro a o e
  by_cases ha:a=ea
  ·subst ha
   rw[aU] at e;cases e
   refine⟨⟨oe,hx,hc,hcd,hcf⟩,⟨oe,hx⟩,fun k1 k2 ⟨o,q1,q2⟩ kk=>⟨o,kk o q1,q2⟩⟩
  ·rw[aJ ha] at e
   refine(ok2 a o e).stay (fun b u hb q=>?_) (fun b q=>by rw[aJ (nee q)];exact q) fun b xs q=>by rw[aJ (nee q)];exact q
   have tr:∃ ob,H2 b=some ob:=by
    rcases hb with rfl|hb
    ·exact⟨_,e⟩
    ·exact⟨_,hb⟩
   obtain⟨ob,tr⟩:=tr
   refine n.keep b u q (fun z=>?_) fun z=>?_
   ·have:=I2.vo b z
    rw[tr] at this;cases this
   ·rw[(hno b z).2] at tr;cases tr
def acW(i:Nat)(D:Ends):Ends:={ nx:=fun σ H=>D.nx (σ.set i none) H,rt:=D.rt,bk:=fun σ H=>D.bk (σ.set i none) H,ct:=fun σ H=>D.ct (σ.set i none) H }
def aaN(i:Nat)(okC:Addr→Prop)(tb:Yr)(th:TS):TS:=fun D σ H=>tb D (fun C ea σ' H2=>okC C∧th (acW i D) (σ'.set i (some (.ref ea))) (upd H2 ea (.ext (xf ea C)))) σ H
theorem Y5{body suite:List Stmt}{b0:Stmt}{tb:Yr}{th:TS}{x n:Str}{i:Nat}{C0:Addr}{np hpos pos:Pos}{okC:Addr→Prop}(hx:X.xe=fun _ _=>False)(hst:X.stack=X.env::X.outer)(hfr:X.env.frame=some X.env.locals)
 (hN:X.N.Nodup) (hi:X.N[i]? = some n) (hk:X.env.scope.names.lookup n=some .local) (hg:Gl X x) (hm:X.mg x=some (.ref C0)) (ZV:∀ C,okC C→PySem.W.exmOne X.K (.ref C) (.ref C0)=some true)
 (hb:aco X body tb) (hh:∀ ea,GZ (X.held (.ref ea)) (b0::suite) th) (hdb:(x == ("__debug__" : Str))=false:=by decide) :
 PS X (.Try body [.ExceptHandler (some (.Name x np)) (some n) (b0::suite) hpos] [] [] pos) (aaN i okC tb th):=by
 intro pins s σ0 H0 D I h
 refine wpAny_Try_except (wpAny_mono (hb pins s σ0 H0 D _ I h) (fun f s1 q=>?_) fun e s' xp=>?_)
 ·cases f with
  | next=>exact wpAny_execs_nil q
  | ret v=>exact q
  | brk=>exact q
  | cont=>exact q
 obtain⟨σ,H1,s1,I1,ea,T,C,H2,rfl,os,bare,un,ok2,n1,n2,n3,n4,xx,C',ea',eC,eE,okc,ht⟩:=xp
 cases eC;cases eE
 have I2:Inv X pins σ H2 s':=I1.call' os (ch:=[]) un ok2 bare (fun b z=>absurd z (by simp))
 have adh:X.A.frames=some (X.env::X.outer):=by rw[← hst];exact I2.ok.frames
 have hl:s'.heap.FunFrames X.base (X.env::X.outer):=by rw[← hst];exact I2.stack
 refine Mq (base:=X.base) adh hl hfr xx fun h3 T' hT' n x3=>?_
 refine qm (s:={ s' with heap:=h3 }) x3 fun h4 m4 _ x4=>?_
 have ac1:s1.heap.get? T'=none∧H2 T'=none:=by
  have hTn:s'.heap.get? T'=none:=by
   cases q2:s'.heap.get? T' with
   | none=>rfl
   | some o=>exact absurd (Heap.lt_size q2) (Nat.not_lt.mpr hT')
  refine⟨?_,ok2.none_of hTn⟩
  cases q2:s1.heap.get? T' with
  | none=>rfl
  | some o =>
   obtain⟨o',z2⟩:=un.there T' o q2 (by simp)
   rw[hTn] at z2;cases z2
 have nn:∀ b∈[ea,T,T'],s1.heap.get? b=none∧H2 b=none:=fun b hb=>by
  simp only[List.mem_cons,List.not_mem_nil,or_false] at hb
  rcases hb with rfl|rfl|rfl
  ·exact⟨n1,n3⟩
  ·exact⟨n2,n4⟩
  ·exact ac1
 have wide:∀ {k k':Heap},fV [] [T'] k k'→fV (frs X.stack) [T'] k k':=fun z=>⟨fun b o q _=>z.keep b o q (by simp),z.slot,z.there⟩
 have n':fV (frs X.stack) [ea,T] s'.heap h3:=by rw[hst];exact n
 have N4:fV (frs X.stack) [ea,T,T'] s'.heap h4:=(n'.trans (wide m4)).more fun b hb=>by simpa [or_assoc] using hb
 have x4':=x4
 obtain⟨oe,vs,oT,ts,he,⟨hc,hcd⟩,hcf,_⟩:=x4'
 have I4:=I1.caught os bare un ok2 N4 nn (by simp) he hc hcd ⟨vs,hcf⟩
 refine wpAny_handleBy_cons (codeAny_handlers_test ?_) (by intro q;cases q)
 refine tR (X:=X.held (.ref ea)) (I4.held _) hg hm ?_ hdb
 have LT:PySem.W.Looks (model X.prog X.w) h4 (typeOf (.ref ea)) (.ref C):=by
  rw[← hc]
  exact(PySem.W.Looks.ld he).andThen .now
 refine PySem.W.exm_one (K:=X.K) I4.yu LT (ZV C okc) _ _ _ { s' with heap:=h4 } (fun _ _ q=>q) ?_
 refine codeAny_handlers_suite_as ?_
 refine qm (s:={ s' with heap:=h4 }) x4 fun h5 m5 _ x5=>?_
 have N5:fV (frs X.stack) [ea,T,T'] s'.heap h5:=(N4.trans (wide m5)).more fun b hb=>by
  simp only[List.cons_append,List.nil_append,List.mem_cons,List.not_mem_nil,or_false] at hb ⊢
  rcases hb with z|z|z|z
  ·exact .inl z
  ·exact .inr (.inl z)
  ·exact .inr (.inr z)
  ·exact .inr (.inr z)
 obtain⟨oe5,vs5,_,_,he5,⟨hc5,adk⟩,adi,_⟩:=x5
 have I5:=I1.caught os bare un ok2 N5 nn (by simp) he5 hc5 adk ⟨vs5,adi⟩
 refine vm (X:=X.held (.ref ea)) (i:=i) (v:=.ref ea) (I5.held _) hN hi (.inl hk) rfl (fun s6 I6=>?_) (.inr hk)
 refine wpAny_mono (hh ea pins s6 _ _ _ I6 ht) (fun f s7 q=>?_) fun _ _ z=>z.elim
 have J:=I.ok
 cases f with
 | next =>
  obtain⟨σ',H',I7,q⟩:=q
  exact vI (I7.DQ J) hN hi hk fun s8 I8=>⟨_,_,I8,q⟩
 | brk =>
  obtain⟨σ',H',I7,q⟩:=q
  exact vI (I7.DQ J) hN hi hk fun s8 I8=>⟨_,_,I8,q⟩
 | cont =>
  obtain⟨σ',H',I7,q⟩:=q
  exact vI (I7.DQ J) hN hi hk fun s8 I8=>⟨_,_,I8,q⟩
 | ret v =>
  obtain⟨v',σ',H',I7,r,q⟩:=q
  exact vI (I7.DQ J) hN hi hk fun s8 I8=>⟨v',_,_,I8,r,q⟩
end
end L2
namespace L2
open PySem PySem.Spec PyProof.Rows
structure qK(k:Nat)(A:Around):Prop where
 dp:A.depth+3 * k+5 < recursionLimit
 un:A.units+16 * k+200 < cLine
theorem jq.abU{k:Nat}{A:Around}(r:jq k A)(e:Value):qK k (A.mark (some e)):=⟨r.dp,r.un⟩
theorem qK.deeper{k:Nat}{A:Around}(r:qK (k+1) A)(env:Env):qK k (A.deeper env) :=
 ⟨by have:=r.dp;show A.depth+1+3 * k+5 < _;omega,by have:=r.un;show A.units+3+16 * k+200 < _;omega⟩
theorem qK.depth{k:Nat}{A:Around}(r:qK k A):A.depth < recursionLimit:=by have:=r.dp;omega
theorem qK.units{k:Nat}{A:Around}(r:qK k A):A.units+64 < cLine:=by have:=r.un;omega
structure Jx(P:Program)(w:World)(K:PySem.W.Frag)(mg:Str→Option Value)(base:Heap)(k:Nat)(f:Addr)(fd:FuncData)(ps:List Str)(sp:Sp):Prop where
 len:∀ vs H Q E,sp vs H Q E→vs.length=ps.length
 run:∀ (A:Around) (outer:List Env) (s:Shared) (H:Hp) (args:Args) (us:List Value) (vs:List V) (Q:VK) (E:XK),qK k A→Qt P w K mg base A outer s H→BindsTo s fd args (ps.zip us)→Vals vs us→sp vs H Q E →
  codeAny (model P w) A (.call (.ref f) args) (CR dH outer P w H s Q E) s
def cxH(P:Program)(w:World)(K:PySem.W.Frag)(mg:Str→Option Value)(base:Heap)(N:List Str)(qual:Str)(scope:Scope)(f:Addr)(cd:Value)(A:Around)(outer:List Env)(s:Shared)(H:Hp)(E:XK):Cx :=
 { lZ dH P w K mg base N qual scope f cd A outer s H E with calm:=false,xe:=fun _ _=>False }
theorem Z0{P:Program}{w:World}{K:PySem.W.Frag}{mg:Str→Option Value}{base:Heap}{k:Nat}{f:Addr}{name qual:Str}{params:Arguments}{body:List Stmt}{scope:Scope}{dV kV doc pm cdv ct oc:Value}{an od:Option Addr}
 {osl:Array (Option Value)} {N ps:List Str} {sp:Sp} (lk:K.lookup f=some ⟨oc,od,.func (PySem.W.fnOf name qual params body scope dV kV doc pm an cdv ct),osl⟩) (hcd:PySem.W.codeIn K cdv qual=true) (S:bG N ps scope)
 (len:∀ vs H Q E,sp vs H Q E→vs.length=ps.length)
 (hbody:∀ (A:Around) (outer:List Env) (s:Shared) (H:Hp) (vs:List V) (Q:VK) (E:XK),qK k (A.deeper (envOfC qual scope s.heap.objs.size f cdv))→sp vs H Q E →
  ∃ t,GZ (cxH P w K mg base N qual scope f cdv A outer s H E) body t∧t { nx:=fun _ H'=>Q .non H',rt:=Q } (start N vs) H) :
 Jx P w K mg base (k+1) f (PySem.W.fnOf name qual params body scope dV kV doc pm an cdv ct) ps sp:=by
 refine⟨len,fun A outer s H args us vs Q E hr e0 hb r hsp=>?_⟩
 have hl:=len _ _ _ _ hsp
 have KX:K.In s.heap:=e0.mod.kin.keeps fun b o e=>(e0.bs b o e).1
 have lim:s.heap.NoLimit:=e0.mod.nolimit.keeps fun b o e=>(e0.bs b o e).1
 have hkind:∀ y∈ps.zip us,scope.names.lookup y.1=some .local∨(scope.names.lookup y.1=some .cell∧((cellsFrom (s.heap.objs.size+1) scope.names []).lookup y.1).isSome=true):=fun ⟨n,v⟩ hy=>by
  rcases S.par n (List.of_mem_zip hy).1 with q|q
  ·exact .inl q
  ·exact .inr ⟨q,PySem.W.cellsFrom_some _ _ _ (.inl q)⟩
 refine codeAny_call_function hr.depth (KX _ _ lk) rfl S.co S.gen rfl (PySem.W.codeRec_of KX hcd) (hb _ _ _ _ ?_)
 refine wpAny_newFunctionEnv_cells S.kind hkind fun env he s1 x=>?_
 subst he
 refine⟨lim.keeps x.toInCall.keep,codeAny_func ?_⟩
 obtain⟨t,ht,hq⟩:=hbody A outer s H vs Q E (hr.deeper _) hsp
 have e1:Qt P w K mg base { A with handled:=none } outer s H:=⟨e0.frames,e0.mod,e0.bs,e0.bsz,e0.sG,e0.frf,e0.hok,e0.bare⟩
 have I1:Inv (lZ dH P w K mg base N qual scope f cdv { A with handled:=none } outer s H E) [] (start N vs) H s1:=Cy S rfl e1 hl r x
 have I:Inv (cxH P w K mg base N qual scope f cdv A outer s H E) [] (start N vs) H s1 :=
  ⟨⟨I1.ok.mod,I1.ok.kind,I1.ok.glob,I1.ok.blt,I1.ok.above,I1.ok.inj,I1.ok.has,I1.ok.cab,fun z=>(nomatch z),Around.frames_deeper e0.frames,I1.ok.stk,I1.ok.exf,I1.ok.bs,I1.ok.bsz,I1.ok.Km,I1.ok.Pz,I1.ok.sG,I1.ok.frf⟩,I1.os,I1.bare,I1.base,I1.loc,I1.cell,I1.free,I1.lO,I1.pin,I1.hok,I1.len⟩
 refine wpAny_mono (ht [] s1 (start N vs) H _ I hq) (fun fl s' hs=>?_) fun e s' hs=>hs.elim
 have fin:∀ {σ':St} {H':Hp} {v:V} {u:Value},Inv (cxH P w K mg base N qual scope f cdv A outer s H E) [] σ' H' s'→RelV v u→Q v H'→CE outer P w H s Q u s' :=
  fun {σ' H' v u} J rv q=>⟨v,H',J.os,J.bare,J.base,J.hok,rv,q⟩
 cases fl with
 | ret u =>
  obtain⟨v,σ',H',J,rv,q⟩:=hs
  exact fin J rv q
 | next =>
  obtain⟨σ',H',J,q⟩:=hs
  exact fin (v:=V.non) (u:=Value.none) J rfl q
 | brk =>
  obtain⟨_,_,_,q⟩:=hs
  exact False.elim q
 | cont =>
  obtain⟨_,_,_,q⟩:=hs
  exact False.elim q
theorem nZ.okH{P:Program}{w:World}{K:PySem.W.Frag}{mg:Str→Option Value}{base:Heap}{x qual:Str}{st:Stmt}{f:Addr}{fd:FuncData}{N ps:List Str}{k:Nat}{sp:Sp}(F:nZ K x qual st f fd)(S:bG N ps (aQ st))(len:∀ vs H Q E,sp vs H Q E→vs.length=ps.length)
 (hbody:∀ (cdv:Value) (A:Around) (outer:List Env) (s:Shared) (H:Hp) (vs:List V) (Q:VK) (E:XK),qK k (A.deeper (envOfC qual (aQ st) s.heap.objs.size f cdv))→sp vs H Q E →
  ∃ t,GZ (cxH P w K mg base N qual (aQ st) f cdv A outer s H E) (iG st) t∧t { nx:=fun _ H'=>Q .non H',rt:=Q } (start N vs) H):Jx P w K mg base (k+1) f fd ps sp:=by
 obtain⟨oc,od,kV,doc,pm,an,cdv,ct,osl,rfl,lk,hcd⟩:=F.ex
 exact Z0 lk hcd S len fun A outer s H vs Q E hr hsp=>hbody cdv A outer s H vs Q E hr hsp
structure aax(P:Program)(w:World)(K:PySem.W.Frag)(mg:Str→Option Value)(base:Heap)(k:Nat)(x:Str)(ps:List Str)(sp:Sp):Prop where
 ex:∃ (f:Addr) (fd:FuncData),mg x=some (.ref f)∧PySem.W.keepIn K (.ref f)=true∧Binds K fd ps []∧Jx P w K mg base k f fd ps sp
theorem qY.adv{P:Program}{w:World}{K:PySem.W.Frag}{mg:Str→Option Value}{base:Heap}{k:Nat}{x:Str}{st:Stmt}{ps:List Str}{sp:Sp}(F:qY K mg x st ps)(h:∀ f fd,nZ K x x st f fd→Jx P w K mg base k f fd ps sp):aax P w K mg base k x ps sp:=by
 obtain⟨f,fd,h1,h2,h3,_,h4⟩:=F.ex
 exact⟨f,fd,h1,h2,h3,h f fd h4⟩
theorem V8{X:Cx}{k:Nat}{x:Str}{ps:List Str}{sp:Sp}{E:XK}{e:Expr}{es:List Expr}{t:TA}{p pos:Pos}(C:aax X.prog X.w X.K X.mg X.base k x ps sp)(hr:qK k X.A)(hg:Gl X x)(ha:PA X (e::es) t)
 (hdb:(x == ("__debug__" : Str))=false:=by decide) (he:starEach (e::es) X.env=(false,eval e X.env)::starEach es X.env:=by rfl) (hpl:(backTo pos (starEach es X.env)).any (·.1)=false:=by rfl) :
 PE X (.Call (.Name x p) (e::es) [] pos) (vf sp [] E t):=by
 obtain⟨f,fd,hm,hk,hb,F⟩:=C.ex
 intro pins s σ H Q I h
 refine wpAny_Call_Name_kw (tR I hg hm ?_ hdb)
 refine PySem.W.callWith_K (h₀:=X.base) I.ok.mod.kin hk (dY (ha pos pins s σ H _ I h) fun us s1 ⟨vs,H1,I1,r,q⟩=>⟨I1.yu,?_⟩) he hpl
 have q:sp (vs++[]) H1 Q E:=q
 rw[List.append_nil] at q
 have hl:us.length=ps.length:=by rw[← r.length];exact F.len _ _ _ _ q
 refine wpAny_call (codeAny_mono (F.run X.A X.stack s1 H1 ⟨us,[]⟩ us vs _ _ hr I1.env0 (by have:=hb s1 us I1.yu (by rw[List.append_nil];exact hl);rwa [List.append_nil] at this) r q) fun res s' hq=>?_)
 cases res with
 | error e'=>exact hq.elim
 | ok fl =>
  cases fl with
  | ret u=>exact I1.after hq
  | next=>exact False.elim hq
  | brk=>exact False.elim hq
  | cont=>exact False.elim hq
end L2
namespace Mi
open PySem
def abr(i:Nat):Out→Out
 | .nx e=>.nx (e.set i none)
 | .rt w=>.rt w
 | .bk e=>.bk (e.set i none)
 | .ct e=>.ct (e.set i none)
def Rh(i:Nat)(cs:List String)(body hb:S):S:=fun e=>match body e with
 | .ok o=>.ok o
 | .ex z=>aN (z.cls∈cs) ((still (hb (e.set i (some (.ex z.cls))))).bind fun o=>.ok (abr i o))
 | .no=>.no
end Mi
namespace A
open PySem L2 PyProof.Rows So
open Mi (D W Rs Fin kh aq du Out Tg yp)
variable[Tb:fQ]
def AX(M:Nat→Bool)(κ : Kd)(t:Yr)(m:Mi.S):Prop:=∀ H0 Hv0 e σ H Hv D F,R1 M H0 Hv0 e σ H Hv→kh (m e) (nJ M κ H0 Hv0 D Hv) (fun z=>∀ ea H' Hv',R1 M H0 Hv0 e σ H' Hv'→gH Hv Hv'→H' ea=none→F (Tb.cl z.cls) ea σ H')→t D F σ H
section
variable{M:Nat→Bool}{κ : Kd}{t u:Yr}{m n:Mi.S}
theorem Xc{f:Mi.Fn}{ws:List Mi.EW}{tr:TA}(ha:AAW M qV tr (Mi.bM ws)):AX M κ (Q7 (Xy Tb.cl f) tr) (Mi.mJ f ws):=fun H0 Hv0 e σ H Hv D F I h =>
 ha e σ H Hv _ I.toR0 ((Mi.oU (du.mp h)).mono fun ds hx vs H1 Hv1 g1 rx=>by
  refine⟨Hv1,ds,g1.vw,rx,(du.mp hx).mono (fun w hw v H3 Hv3 g3 r=>?_) fun z hz H3 Hv3 g3 ea hea=>?_⟩
  ·exact hw σ H3 Hv3 (I.grow (g1.trans g3)) (g1.trans g3).vis
  ·exact⟨_,_,rfl,rfl,hz ea H3 Hv3 (I.grow (g1.trans g3)) (g1.trans g3).vis hea⟩)
theorem R1.off{H0 Hv0:Hp}{e:Mi.Env}{σ : L2.St}{H Hv:Hp}(I:R1 M H0 Hv0 e σ H Hv)(i:Nat):R1 M H0 Hv0 (e.set i none) (σ.set i none) H Hv:=by
 have get:∀ {j:Nat} {w:W},(e.set i none)[j]? = some (some w)→i≠j∧e[j]? = some (some w):=fun {j w} h=>by
  rcases jC h with ⟨_,h,_⟩|z
  ·cases h
  ·exact z
 have st:∀ {j:Nat} {v:V},i≠j→σ[j]? = some (some v)→(σ.set i none)[j]? = some (some v):=fun {j v} n h=>by rw[List.getElem?_set_ne n];exact h
 have ts:∀ {j:Nat} {v:V},i≠j→(σ.set i none)[j]? = some (some v)→σ[j]? = some (some v):=fun {j v} n h=>by rw[List.getElem?_set_ne n] at h;exact h
 refine⟨⟨I.vw,by rw[List.length_set,List.length_set];exact I.len,fun j w h mm=>?_,fun j w h mm=>?_⟩,I.gw,fun j w a h mm q=>?_,fun j k w w' a b hjk h1 h2 m1 m2 q1 q2=>?_⟩
 ·obtain⟨nj,h⟩:=get h
  obtain⟨v,hv,r⟩:=I.nob j w h mm
  exact⟨v,st nj hv,r⟩
 ·obtain⟨nj,h⟩:=get h
  obtain⟨v,hv,r⟩:=I.own j w h mm
  exact⟨v,st nj hv,r⟩
 ·obtain⟨nj,h⟩:=get h
  exact I.fresh j w a h mm (ts nj q)
 ·obtain⟨nj,h1⟩:=get h1
  obtain⟨nk,h2⟩:=get h2
  exact I.sep j k w w' a b hjk h1 h2 m1 m2 (ts nj q1) (ts nk q2)
theorem aam{i:Nat}{cs:List String}{th:TS}{hb:Mi.S}(hi:M i=false)(h1:AX M κ t m)(h2:AS M κ th hb):AS M κ (aaN i (fun C=>∃ c∈cs,C=Tb.cl c) t th) (Mi.Rh i cs m hb):=fun H0 Hv0 e σ H Hv D I h=>by
 refine h1 H0 Hv0 e σ H Hv D _ I ?_
 unfold Mi.Rh at h
 cases hm:m e with
 | ok o=>rw[hm] at h;exact h
 | no=>rw[hm] at h;exact h.elim
 | ex z =>
  rw[hm] at h
  obtain⟨hz,h⟩:=Mi.aV h
  intro ea H' Hv' I' s' hea
  have g:b8 H' Hv' (upd H' ea (.ext (xf ea (Tb.cl z.cls)))) (upd Hv' ea (.ext (xf ea (Tb.cl z.cls)))):=.new I'.vw hea
  have r:uh (upd Hv' ea (.ext (xf ea (Tb.cl z.cls)))) (.ex z.cls) (.ref ea):=⟨ea,rfl,aU⟩
  refine⟨⟨z.cls,hz,rfl⟩,h2 H0 Hv0 _ _ _ _ _ ((I'.grow g).set hi r) ?_⟩
  have h:=aq.mp h
  cases hh:hb (e.set i (some (.ex z.cls))) with
  | no=>rw[hh] at h;exact h.elim
  | ex y=>rw[hh] at h;exact h.elim
  | ok o =>
   rw[hh] at h
   have sm:gH Hv (upd Hv' ea (.ext (xf ea (Tb.cl z.cls)))):=s'.trans g.vis
   cases o with
   | nx e2=>exact fun σ2 H2 Hv2 I2 s2=>h (σ2.set i none) H2 Hv2 (I2.off i) (sm.trans s2)
   | rt w=>exact h
   | bk e2=>exact fun σ2 H2 Hv2 I2 s2=>h (σ2.set i none) H2 Hv2 (I2.off i) (sm.trans s2)
   | ct e2=>exact fun σ2 H2 Hv2 I2 s2=>h (σ2.set i none) H2 Hv2 (I2.off i) (sm.trans s2)
end
end A
namespace PySem.W
open PySem PySem.Spec PySem.Calls PyProof.Rows
section
variable{prog:Program}{w:World}{A:Around}{E:Value→Shared→Prop}{s:Shared}{K:Frag}{x D:Addr}{ox:Obj}
variable(hga:findIn K (.ref D) "__getattribute__" = some (some (.builtin "BaseException.__getattribute__")))(hgt:findIn K (.ref D) "__getattr__" = some none)(hcd:(clsIn K D).isSome=true)
 (ha:findIn K (.ref D) "__class__" = some (some (.builtin "object.__class__"))) (hn:specialIn K (.builtin "object.__class__") "__get__" = some (some (.builtin "getset_descriptor.__get__"))) (htk:takesIn K (.builtin "object.__class__")=some true)
 (hm:mroIn K D (.type "object")=some true) (hb:mroIn K D (.type "BaseException")=some true)
include hga hgt hcd ha hn htk hm hb
theorem Iu{tk:Tok}{R:Result→Shared→Prop}(X:K.In s.heap)(I:InstAt s.heap x ox D none)(h:R (.ok (.ret (.ref D))) s) :
 codeAny (model prog w) A (.call (.builtin "BaseException.__getattribute__") ⟨[.ref x,.str "__class__" tk],[]⟩) R s:=by
 obtain⟨hh,g,d,t,os⟩:=s
 have hf:findObj K D none "__class__" = some (.bind (.builtin "getset_descriptor.__get__") (.builtin "object.__class__")):=by
  obtain⟨cd,hc⟩:=Option.isSome_iff_exists.mp hcd
  unfold findObj
  rw[hc,Option.bind_some,ha,Option.bind_some]
  simp[hn,htk]
 have L0:=I.type (M:=model prog w)
 have L1:=looks_find (M:=model prog w) X I hf
 have L2:=looks_mroIn (M:=model prog w) X hb
 have hk:builtinKind "BaseException.__getattribute__" = some .slot:=by decide +kernel
 have hsplit:splitId "BaseException.__getattribute__" = some ("BaseException", "__getattribute__"):=by decide +kernel
 have hargs:=F.args_bexc_ga (.ref x) (.str "__class__" tk)
 refine codeAny_call_builtin (F.excAttr_ValueError).ga.plain F.entry_bexc_ga ?_
 simp only[checkBuiltinCall,hk,hsplit]
 refine wpAny_bind ?_
 unfold isInstance
 refine wpAny_bind (L0.at ?_)
 refine L2.at ?_
 repeat (any_goals (first|assumption|(refine wpAny_bind (L0.at ?_))|(refine wpAny_bind (L1.at ?_))|wp_step))
 refine class_get (s:=⟨hh,g,d,t,os⟩) X I hm ?_
 exact wpAny_pure h
theorem Ao{Q:Option Value→Shared→Prop}(X:K.In s.heap)(I:InstAt s.heap x ox D none)(h:Q (some (.ref D)) { s with toks:=s.toks+1 }):wpAny (model prog w) A (getAttr? (.ref x) "__class__") Q E s:=by
 obtain⟨hh,g,d,t,os⟩:=s
 have L0:=I.type (M:=model prog w)
 have L1:=looks_findIn (M:=model prog w) X hga
 have L2:=looks_findIn (M:=model prog w) X hgt
 have f3:=(F.excAttr_ValueError).ga.bind (.ref x)
 have hx2:(Value.builtin "BaseException.__getattribute__" == Value.builtin "object.__getattribute__")=false:=by decide +kernel
 have hx1:(onTheHeap (Value.ref D) && Value.builtin "BaseException.__getattribute__" == Value.builtin "object.__getattribute__")=false:=by rw[hx2,Bool.and_false]
 unfold getAttr? getAttrBy? getAttrBy
 refine wpAny_bind (wpAny_mkText (wpAny_bind (wpAny_attempt (wpAny_holding (wpAny_bind (L0.at (wpAny_bind (L1.at ?_))))))))
 dsimp only
 rw[if_neg (by rw[hx1];exact Bool.false_ne_true)]
 unfold getAttrByItsOwn
 repeat (any_goals (first|assumption|(refine wpAny_bind (L2.at ?_))|(refine L2.at ?_)|wp_step))
 refine Iu (s:=⟨hh,g,d,t+1,os⟩) hga hgt hcd ha hn htk hm hb X I ?_
 exact handed_on rfl (wpAny_pure h)
theorem Ig:KitX K (.ref x) (.ref D) (fun h=>∃ ox,InstAt h x ox D none) where
 ty:=fun _ _ _ ⟨_,I⟩=>I.type
 it:=fun _ _ X _=>by
  obtain⟨cd,hc⟩:=Option.isSome_iff_exists.mp hcd
  unfold clsIn at hc
  split at hc
  ·rename_i c' d' cd' sl' ho
   intro A' Q' E' s' k q
   unfold isType loadHead
   exact wpAny_bind (wpAny_loadPart (k _ _ (X _ _ ho)) (wpAny_pure q))
  ·cases hc
 ne:=fun h tp dd its n sl X htp=>by
  obtain⟨cd,hc⟩:=Option.isSome_iff_exists.mp hcd
  refine Bool.eq_false_iff.mpr fun q=>?_
  have e:D=tp:=Value.ref.inj (beq_iff_eq.mp q)
  subst e
  unfold clsIn at hc
  split at hc
  ·rename_i c' d' cd' sl' ho
   have z:=(X _ _ ho).symm.trans htp
   cases z
  ·cases hc
 ca:=fun X ⟨_,I⟩ k=>Ao hga hgt hcd ha hn htk hm hb X I k
end
end PySem.W
namespace L2
open PySem PySem.Spec PyProof.Rows
open A (xf)
theorem FW{X:Cx}:FPs X [] []:=trivial
theorem gV{X:Cx}{e:Expr}{es:List Expr}{p:St→Hp→Prop}{ps:List (St→Hp→Prop)}(h:FP X e p)(t:FPs X es ps):FPs X (e::es) (p::ps):=⟨h,t⟩
structure kj(K:PySem.W.Frag)(D:Addr):Prop where
 ga:PySem.W.findIn K (.ref D) "__getattribute__" = some (some (.builtin "BaseException.__getattribute__"))
 gt:PySem.W.findIn K (.ref D) "__getattr__" = some none
 cd:(PySem.W.clsIn K D).isSome=true
 at_:PySem.W.findIn K (.ref D) "__class__" = some (some (.builtin "object.__class__"))
 gn:PySem.W.specialIn K (.builtin "object.__class__") "__get__" = some (some (.builtin "getset_descriptor.__get__"))
 tk:PySem.W.takesIn K (.builtin "object.__class__")=some true
 mo:PySem.W.mroIn K D (.type "object")=some true
 mb:PySem.W.mroIn K D (.type "BaseException")=some true
section
variable{X:Cx}{pins:List (Addr×Obj)}{σ : St}{H:Hp}{s:Shared}
theorem Inv.instX(I:Inv X pins σ H s){ea C:Addr}(h:H ea=some (.ext (xf ea C))):∃ ox,PySem.W.InstAt s.heap ea ox C none:=by
 obtain⟨⟨o,h1,h2,h3,vs,h4⟩,_⟩:=(show bZ X.prog X.w H s.heap ea (.ext (xf ea C)) from I.hok ea _ h)
 refine⟨o,h1,h2,?_,by rw[h3];trivial⟩
 unfold PySem.W.notCls
 rw[h4]
inductive Xp:V→Value→Prop
 | own (C:Addr):Xp (.ref C) (.ref C)
 | blt (T:String):Xp (.ty T) (.type T)
def abb(K:PySem.W.Frag):List V→Hp→VK→Prop:=fun xs H Q=>∃ ea C c c' b,xs=[.ref ea,c]∧H ea=some (.ext (xf ea C))∧kj K C∧Xp c c'∧PySem.W.kitOne K (.ref C) c'=some b∧Q (.bl b) H
theorem vW:ik X (.builtin "isinstance") (abb X.K):=by
 intro pins s σ H xs us Q I r h
 obtain⟨ea,C,c,c',b,rfl,he,k,hc,e,q⟩:=h
 obtain⟨u,w',rfl,rx,rt⟩:=vals2 r
 cases (show u=Value.ref ea from rx)
 have hw:w'=c':=by
  cases hc with
  | own C=>exact(show w'=Value.ref C from rt)
  | blt T=>exact(show w'=Value.type T from rt)
 subst hw
 exact PySem.W.kia_one (PySem.W.Ig k.ga k.gt k.cd k.at_ k.gn k.tk k.mo k.mb) I.yu (I.instX he) e (fun z=>nomatch z) fun tk=>⟨.bl b,H,I.tok tk,rfl,q⟩
theorem BV:∀ {Cs:List Addr} {us:List Value},Vals (Cs.map V.ref) us→us=Cs.map .ref
 | [],_,.nil=>rfl
 | T::r,_,.cons a t=>by
  have a:_=Value.ref T:=a
  rw[a,BV t];rfl
def XJ(K:PySem.W.Frag):List V→Hp→VK→Prop:=fun xs H Q=>∃ (ea C tp:Addr) (Cs:List Addr) (b:Bool),xs=[.ref ea,.ref tp]∧H tp=some (.tup (Cs.map V.ref))∧H ea=some (.ext (xf ea C))∧kj K C∧PySem.W.kitAny K (.ref C) (Cs.map .ref)=some b∧Q (.bl b) H
theorem CQ:ik X (.builtin "isinstance") (XJ X.K):=by
 intro pins s σ H xs us Q I r h
 obtain⟨ea,C,tp,Cs,b,rfl,ht,he,k,e,q⟩:=h
 obtain⟨u,w',rfl,rx,rt⟩:=vals2 r
 cases (show u=Value.ref ea from rx)
 cases (show w'=Value.ref tp from rt)
 obtain⟨_,its,rv,o,h1,h2,_,n,h3⟩:=(show bZ X.prog X.w H s.heap tp (.tup (Cs.map V.ref)) from I.hok tp _ ht)
 obtain rfl:=BV rv
 obtain⟨c,d,dt,sl⟩:=o
 simp only at h2 h3
 subst h2 h3
 exact PySem.W.kia_tup (PySem.W.Ig k.ga k.gt k.cd k.at_ k.gn k.tk k.mo k.mb) I.yu (I.instX he) h1 e (fun z=>nomatch z) fun tk=>⟨.bl b,H,I.tok tk,rfl,q⟩
end
end L2
namespace Mi
open PySem
def Bt(i:Nat)(b:String→Option Bool):E:=fun e=>match e[i]? with
 | some (some (.ex c))=>match b c with
  | some k=>.ok (.bl k)
  | none=>.no
 | _=>.no
end Mi
namespace A
open PySem L2 PyProof.Rows So
open Mi (D W Rs Fin kh aq du Out Tg yp)
variable[Tb:fQ]
section
variable{K:PySem.W.Frag}{M:Nat→Bool}{b:String→Option Bool}
theorem Em:Vm M [] []:=trivial
theorem gP{g:Mi.Env→Bool}{p:L2.St→Hp→Prop}{gs:List (Mi.Env→Bool)}{ps:List (L2.St→Hp→Prop)}(h:PG M g p)(t:Vm M gs ps):Vm M (g::gs) (p::ps):=⟨h,t⟩
theorem TQ{i:Nat}{e:Mi.Env}{k:D→Prop}(h:Fin (Mi.Bt i b e) k):∃ c q,e[i]? = some (some (.ex c))∧b c=some q∧k (.bl q):=by
 unfold Mi.Bt at h
 split at h
 ·rename_i c hc
  split at h
  ·rename_i q hq
   exact⟨c,q,hc,hq,h⟩
  ·exact h.elim
 ·exact h.elim
theorem NK{i:Nat}{c:V}{c':Value}(hm:M i=false)(hc:Xp c c')(hb:∀ x k,b x=some k→kj K (Tb.cl x)∧PySem.W.kitOne K (.ref (Tb.cl x)) c'=some k):AE M qV (VD (abb K) (iW (uD i) (iW (tC c) rA))) (Mi.Bt i b):=fun e σ H Hv Q I h=>by
 obtain⟨x,k,he,hk,q⟩:=TQ h
 obtain⟨v,hv,a,rfl,ha⟩:=I.nob i _ he hm
 obtain⟨h1,h2⟩:=hb x k hk
 exact⟨_,hv,a,_,c,c',k,rfl,I.vw.sub _ _ ha,h1,hc,h2,q _ H Hv (.refl I.vw) gO⟩
def Q3:List Addr→TA
 | []=>rA
 | C::r=>iW (tC (.ref C)) (Q3 r)
theorem G9:∀ (Cs:List Addr) (σ : L2.St) (H:Hp) (Q:List V→Hp→Prop),Q (Cs.map V.ref) H→Q3 Cs σ H Q
 | [],_,_,_,h=>h
 | C::r,σ,H,Q,h=>G9 r σ H _ h
theorem Vk{i:Nat}{Cs:List Addr}(hm:M i=false)(hl:Cs.length≤100)(hb:∀ x k,b x=some k→kj K (Tb.cl x)∧PySem.W.kitAny K (.ref (Tb.cl x)) (Cs.map .ref)=some k):AE M qV (VD (XJ K) (iW (uD i) (iW (Vz (Q3 Cs)) rA))) (Mi.Bt i b):=fun e σ H Hv Q I h=>by
 obtain⟨x,k,he,hk,q⟩:=TQ h
 obtain⟨v,hv,a,rfl,ha⟩:=I.nob i _ he hm
 obtain⟨h1,h2⟩:=hb x k hk
 refine⟨_,hv,G9 Cs σ H _ ⟨by rw[List.length_map,sizeLine_eq];omega,fun p hp=>?_⟩⟩
 have g:b8 H Hv (upd H p (.tup (Cs.map V.ref))) (upd Hv p (.tup (Cs.map V.ref))):=.new I.vw hp
 exact⟨a,_,p,Cs,k,rfl,aU,g.old.at (I.vw.sub _ _ ha) trivial,h1,h2,q _ _ _ g gO⟩
end
end A
namespace Mi
open PySem
def QQ(x:Str):Str:=⟨PySem.placed x fun _ c=>Unicode.upperOf c⟩
def K5:D→Rs D
 | .str x=>aN ((QQ x).length≤16777216) (.ok (.str (QQ x)))
 | _=>.no
end Mi
namespace L2
open PySem PySem.Spec PyProof.Rows
section
variable{X:Cx}
def rUp:V→List V→Hp→VK→Prop:=fun x vs H Q=>∃ y:Str,x=.str y∧vs=[]∧(Mi.QQ y).length≤sizeLine∧Q (.str (Mi.QQ y)) H
theorem SX:Vp X "str.upper" rUp:=by
 intro pins s σ H x vs v us Q I rx rv h
 obtain⟨y,rfl,rfl,hz,q⟩:=h
 obtain⟨t,rfl⟩:=rx
 cases rv
 have hl:PySem.Builtin.Str.tooLong (PySem.placed y fun _ c=>Unicode.upperOf c).size=false:=by
  unfold PySem.Builtin.Str.tooLong
  exact decide_eq_false (Nat.not_lt.mpr hz)
 exact call_gives F.slot_str_upper (typeIs_str s y t) F.entry_str_upper (F.args_str_upper_1 _) (gives_str_upper y t hl) ⟨hz,.str (Mi.QQ y),H,I.tok _,⟨_,rfl⟩,q⟩
end
end L2
namespace A
open PySem L2 PyProof.Rows So
open Mi (D W Rs Fin aq)
variable[Tb:fQ]
section
variable{K:PySem.W.Frag}{M:Nat→Bool}{ta:TE}{a:Mi.E}
theorem Xj(ha:AE M qP ta a):AE M qV (aaS K "str" rUp ta) (Mi.m1 Mi.K5 a):=fun e σ H Hv Q I h =>
 ha e σ H Hv _ I ((aq.mp h).mono fun x hx v H1 Hv1 g1 rx=>by
  cases x with
  | str y =>
   obtain⟨hz,hk⟩:=Mi.aV (show Fin (Mi.aN ((Mi.QQ y).length≤16777216) _) _ from hx)
   cases RD.str rx
   exact⟨rfl,y,rfl,rfl,by rw[sizeLine_eq];exact hz,(Mi.gF hk) _ H1 Hv1 g1 wL⟩
  | _=>exact hx.elim)
end
end A
namespace Mi
end Mi
namespace A
open PySem L2 PyProof.Rows So
open Mi (D W Rs Fin aq Out Tg)
variable[Tb:fQ]
end A
namespace Mi
open PySem
def JB(a b:Str):Bool:=decide (¬ b.cps.toList < a.cps.toList)
def m9(xs:List Str):List Str:=xs.mergeSort JB
def sO:List D→Rs D
 | [.lst ds]=>(tM (mY ds)).bind fun ss=>aN (ss.length < 64) (.ok (.lst ((m9 ss).map D.str)))
 | _=>.no
theorem rR{α : Type}{le:α→α→Prop}(ach:∀ a b,le a b→le b a→a=b):∀ (l m:List α),l.Perm m→l.Pairwise le→m.Pairwise le→l=m
 | [],m,h,_,_=>h.symm.eq_nil.symm
 | a::r,[],h,_,_=>nomatch h.eq_nil
 | a::r,b::t,h,hl,hm=>by
  have l1:=List.pairwise_cons.mp hl
  have m1:=List.pairwise_cons.mp hm
  have e:a=b:=by
   rcases List.mem_cons.mp (h.mem_iff.mp (List.mem_cons_self ..)) with z|z
   ·exact z
   ·rcases List.mem_cons.mp (h.mem_iff.mpr (List.mem_cons_self ..)) with y|y
    ·exact y.symm
    ·exact ach _ _ (l1.1 b y) (m1.1 a z)
  subst e
  rw[rR ach r t ((List.perm_cons a).mp h) l1.2 m1.2]
theorem qe{a b:Str}:JB a b=true↔a.cps.toList≤b.cps.toList:=by
 unfold JB
 rw[decide_eq_true_iff];exact Iff.rfl
theorem YM{x y:Str}(h:x.cps.toList=y.cps.toList):x=y:=by
 obtain⟨x⟩:=x
 obtain⟨y⟩:=y
 exact congrArg Str.mk (Array.toList_inj.mp h)
theorem Tt(a b:Str)(h:JB a b=true)(k:JB b a=true):a=b:=YM (List.le_antisymm (qe.mp h) (qe.mp k))
theorem Cu(a b c:Str)(h:JB a b=true)(k:JB b c=true):JB a c=true:=qe.mpr (List.le_trans (qe.mp h) (qe.mp k))
theorem O7(a b:Str):(JB a b || JB b a)=true:=by
 rw[Bool.or_eq_true,qe,qe];exact List.le_total _ _
theorem mH(xs:List Str):(m9 xs).Perm xs:=List.mergeSort_perm xs _
theorem vp(xs:List Str):(m9 xs).Pairwise fun a b=>JB a b=true:=List.pairwise_mergeSort (fun a b c=>Cu a b c) (fun a b=>O7 a b) xs
theorem Hl{xs ys:List Str}(hp:ys.Perm xs)(hs:ys.Pairwise fun a b=>JB a b=true):ys=m9 xs:=rR Tt _ _ (hp.trans (mH xs).symm) hs (vp xs)
theorem Hm{xs ys:List Str}:m9 xs=m9 ys↔xs.Perm ys:=⟨fun h=>(mH xs).symm.trans (h ▸ mH ys),fun h=>Hl ((mH xs).trans h) (vp xs)⟩
theorem Cg:∀ (l:List Str) (x:Str),PyProof.Rows.risingS x l=true→(x::l).Pairwise fun a b=>JB a b=true
 | [],x,_=>List.pairwise_singleton ..
 | y::r,x,h=>by
  have h:(!PySem.Spec.ltCps y.cps.toList x.cps.toList && PyProof.Rows.risingS y r)=true:=h
  rw[Bool.and_eq_true,PyProof.Rows.ltCps_eq] at h
  have k:JB x y=true:=by
   unfold JB
   have:=h.1
   simpa using this
  have t:=Cg r y h.2
  refine List.pairwise_cons.mpr ⟨fun z hz=>?_,t⟩
  rcases List.mem_cons.mp hz with rfl|hz
  ·exact k
  ·exact Cu _ _ _ k ((List.pairwise_cons.mp t).1 z hz)
theorem Oc:∀ l:List Str,PyProof.Rows.sortedS l=true→l.Pairwise fun a b=>JB a b=true
 | [],_=>List.Pairwise.nil
 | x::r,h=>Cg r x h
end Mi
namespace L2
open PySem PySem.Spec PyProof.Rows
section
variable{X:Cx}
theorem vd:∀ {ss:List Str} {its:List Value},Vals (ss.map V.str) its→StrsAre its ss
 | [],_,.nil=>.nil
 | n::r,_,.cons h t=>by
  obtain⟨t1,rfl⟩:=h
  exact .cons n t1 (vd t)
theorem vh:∀ {ss:List Str} {its:List Value},StrsAre its ss→Vals (ss.map V.str) its
 | [],_,.nil=>.nil
 | _::_,_,.cons y t r=>.cons ⟨t,rfl⟩ (vh r)
end
end L2
namespace A
open PySem L2 PyProof.Rows So
open Mi (D W Rs Fin aq)
variable[Tb:fQ]
section
variable{X:Cx}
def Rr:List V→Hp→VK→Prop:=fun vs H Q=>∃ (a:Addr) (ss:List Str),vs=[.ref a]∧Lst H a (ss.map V.str)∧ss.length < 64∧∀ p,H p=none→Q (.ref p) (upd H p (.lst ((Mi.m9 ss).map V.str)))
theorem Ax:ik X (.builtin "sorted") Rr:=by
 intro pins s σ H xs us Q I r h
 obtain⟨a,ss,rfl,hl,h64,q⟩:=h
 obtain⟨u,rfl,ru⟩:=vals1 r
 cases (show u=Value.ref a from ru)
 obtain⟨its,n0,rv,hz,ho⟩:=Th I hl
 have hli:=rv.length
 rw[List.length_map] at hli
 refine sorted_strs (vs:=its) (ss:=ss) ⟨_,ho,rfl,_,rfl⟩ (vd rv) (by omega) fun out ss' a1 a2 a3=>?_
 obtain⟨e1,he⟩:=sortedAll_at s.heap its out
 have e:=Mi.Hl a2 (Mi.Oc ss' a3)
 subst e
 have fr:H (s.heap.objs.size+1)=none:=I.hok.fresh (Nat.le_succ _)
 refine⟨.ref (s.heap.objs.size+1),_,adopt (fp:=[s.heap.objs.size+1]) (D:=s.heap.objs.size+1) (o:=.lst ((Mi.m9 ss).map V.str)) (t':=s.toks) I (fun b hb=>?_) (List.mem_singleton.mpr rfl) (fun b u _ q=>sortedAll_old q) ⟨?_,out.toList,e1,vh a1,he⟩,rfl,q _ fr⟩
 ·rw[List.mem_singleton.mp hb]
  exact I.uO (Nat.le_succ _) fr
 ·rw[List.length_map,(Mi.mH ss).length_eq,sizeLine_eq];omega
end
theorem Ci{Hv:Hp}:∀ {ds:List D} {ss:List Str} {xs:List V},Mi.mY ds=some ss→P2 (Rep Hv) ds xs→ds=ss.map D.str∧xs=ss.map V.str
 | [],ss,_,h,.nil=>by cases h;exact⟨rfl,rfl⟩
 | d::r,ss,_,h,.cons k t=>by
  cases d with
  | str z =>
   rw[Mi.mY] at h
   cases e:Mi.mY r with
   | none=>rw[e] at h;cases h
   | some q =>
    rw[e] at h
    cases h
    obtain⟨h1,h2⟩:=Ci e t
    rw[lR.mp k,h1,h2];exact⟨rfl,rfl⟩
  | _=>simp[Mi.mY] at h
theorem Nu:BN qN Rr Mi.sO:=fun ds vs H Hv Q vw r h=>by
 match ds,r,h with
 | [.lst ds],r,h =>
  obtain⟨v,ev,rr⟩:=mQ r
  subst ev
  obtain⟨p,xs,rfl,l1,r1⟩:=RD.lst vw rr
  have h:=aq.mp h
  cases e:Mi.mY ds with
  | none=>rw[e] at h;exact h.elim
  | some ss =>
   rw[e] at h
   obtain⟨h64,h⟩:=Mi.aV (show Fin (Mi.aN (ss.length < 64) _) _ from h)
   obtain⟨e1,e2⟩:=Ci e r1
   subst e2
   refine⟨p,ss,rfl,l1,h64,fun a ha=>?_⟩
   have r2:P2 (Rep Hv) ((Mi.m9 ss).map D.str) ((Mi.m9 ss).map V.str):=by
    generalize Mi.m9 ss=l
    induction l with
    | nil=>exact .nil
    | cons a r ih=>exact .cons (lR.mpr rfl) ih
   obtain⟨g,k⟩:=Ey vw r2 ha
   exact(Mi.gF h) _ _ _ g k
 | [],_,h=>exact h.elim
 | [.non],_,h=>exact h.elim
 | [.bl _],_,h=>exact h.elim
 | [.int _],_,h=>exact h.elim
 | [.str _],_,h=>exact h.elim
 | [.tup _],_,h=>exact h.elim
 | d::_::_,_,h=>cases d<;>exact(show False from h).elim
end A
namespace Mi
open PySem
end Mi
namespace A
open PySem L2 PyProof.Rows So
open Mi (D W Rs Fin kh aq du Out Tg yp)
variable[Tb:fQ]
end A
namespace L2
open PySem PySem.Spec PyProof.Rows
end L2
namespace Mi
open PySem
end Mi
namespace A
open PySem L2 PyProof.Rows So
open Mi (D W Rs Fin aq Out Tg)
variable[Tb:fQ]
end A
namespace Mi
open PySem
end Mi
namespace L2
open PySem PySem.Spec PyProof.Rows
end L2
namespace A
open PySem L2 PyProof.Rows
open Mi (D W Rs Fin aq)
variable[Tb:fQ]
end A
namespace Mi
open PySem
end Mi
namespace L2
open PySem PySem.Spec PyProof.Rows
end L2
namespace A
open PySem L2 PyProof.Rows
open Mi (D W Rs Fin aq)
variable[Tb:fQ]
end A
namespace Mr
open PySem Mi
def mW:S :=
 (m7 (rY (mV 1)) (.n 2)
 (iy (cB (m2 dC (mV 2) (mV 0)))
 ji
 bB))
def bh:Fn:=vP 2 3 mW
def ym:S :=
 (aY (rP (aZ bh [(wD (m2 dU (mV 0) (mC (.int 0)))),(wD (mN gq [(mV 1)]))]))
 (dF (wD (mN qw [(fL [some 1,none,none] (rY (m2 dU (mV 0) (mC (.int 1)))) (.t [1,2]) (cB (m2 tX (mV 2) (mV 0))) (mV 1))]))))
def cI:Fn:=vP 2 2 ym
def uz:S :=
 (aY (m7 (rY (m2 dU (mV 0) (mC (.int 0)))) (.n 2)
 (iy (uf (cB (m2 dC (mV 2) (mV 1))) (cB (mN Qm [(fL [some 1,none] (rY (aZ cI [(wD (mV 0)),(wD (mV 2))])) (.n 1) jA (m2 Qw (mV 1) (mV 0)))])))
 (dF (wD (mV 2)))
 bB))
 (dF (wD (mC .non))))
def cX:Fn:=vP 2 3 uz
def Dk:S :=
 (aY (bW 1 (mN gq []))
 (aY (bW 2 (rW cX [(wD (mV 0)),(wD (mV 1))]))
 (aY (J0 100 (cB (m2 Aw (mV 2) (mC .non)))
 (aY (bV 1 (mV 2))
 (bW 2 (rW cX [(wD (mV 0)),(wD (mV 1))]))))
 (dF (wV 1)))))
def pC:Fn:=Nh 1 3 Dk
def Dh:S :=
 (aY (bW 2 (mC (.str "etaoinshrdlucmfwypvbgkqjxz")))
 (aY (iy (cB (m2 Bx (m2 bT (mV 0) (mC (.int 4))) (mC (.int 2))))
 (aY (bW 3 (m2 Nq (mC (.str "")) (fL [some 2,some 0,none] (iD (mC (.int 8))) (.n 2) jA (m2 dU (mV 0) (m2 bT (m2 dD (mV 1) (m2 di (mC (.int 4)) (m2 cQ (mC (.int 3)) (mV 2)))) (mC (.int 26)))))))
 (aY (iy (cB (m2 tX (m2 bT (mV 0) (mC (.int 4))) (mC (.int 0))))
 (dF (wD (fL [some 3,none] (iD (mV 1)) (.n 1) jA (pD JC (mV 0) none (some (m2 di (mV 1) (mC (.int 1))))))))
 bB)
 (dF (wD (fL [some 3,none] (iD (mV 1)) (.n 1) jA (pD JC (mV 0) (some (m2 yx (mC (.int 7)) (mV 1))) none))))))
 bB)
 (aY (bW 4 (m2 bT (m2 dD (mV 0) (mC (.int 4))) (mC (.int 8))))
 (aY (bW 5 (m2 Nq (mC (.str "")) (fL [some 2,some 0,none] (iD (mV 4)) (.n 2) jA (m2 dU (mV 0) (m2 bT (m2 di (m2 di (m2 dD (mV 1) (mC (.int 32))) (m2 cQ (mC (.int 5)) (mV 2))) (m2 cQ (mV 2) (mV 2))) (mC (.int 26)))))))
 (aY (bW 6 (m2 bT (m2 dD (mV 0) (mC (.int 256))) (m2 di (mV 4) (mC (.int 1)))))
 (dF (wD (fL [some 5,some 2,some 6,some 0,none] (iD (mV 1)) (.n 4) jA (m2 di (m2 di (pD JC (mV 0) none (some (mV 2))) (m2 dU (mV 1) (m2 bT (m2 di (m2 dD (mV 3) (mC (.int 7))) (m2 cQ (mC (.int 5)) (mV 4))) (mC (.int 26))))) (pD JC (mV 0) (some (mV 2)) none))))))))))
def pq:Fn:=Nh 2 7 Dh
def Jg:S :=
 (aY (iy (cB (m2 Bx (mV 1) (mN iR [(mV 0)])))
 (dF (wD (m2 dU (mV 0) (mV 1))))
 bB)
 (aY (bW 2 (m2 di (mC (.int 30011)) (m2 cQ (m2 cQ (mC (.int 709)) (mV 1)) (mV 1))))
 (aY (iy (cB (m2 dGt (mN iR [(mV 0)]) (mC (.int 0))))
 (bW 2 (m2 di (mV 2) (m2 cQ (m2 bT (m2 dU (mV 0) (mC (.int 0))) (mC (.int 99991))) (m2 di (m2 di (m2 cQ (mV 1) (mV 1)) (m2 cQ (mC (.int 2)) (mV 1))) (mC (.int 5))))))
 bB)
 (dF (wD (mV 2))))))
def dR:Fn:=vP 2 3 Jg
def yh:S :=
 (aY (bW 2 (fL [none] (iD (mV 1)) (.n 0) jA (mV 0)))
 (aY (bW 3 (mN gq []))
 (aY (bW 4 (m2 bT (mV 0) (mC (.int 2147483647))))
 (aY (m7 (iD (mV 1)) (.n 5)
 (aY (bW 4 (m2 bT (m2 di (m2 di (m2 cQ (mV 4) (mC (.int 48271))) (m2 cQ (mC (.int 7)) (mV 5))) (mC (.int 1))) (mC (.int 2147483647))))
 (pX 3 2 (m2 bT (m2 dD (mV 4) (mC (.int 32))) (mN iR [(mV 2)])))))
 (dF (wV 3))))))
def lg:Fn:=Nh 2 6 yh
def Di:S :=
 (aY (bW 2 (m2 di (mC (.int 1)) (m2 bT (aZ dR [(wD (mV 0)),(wD (mC (.int 0)))]) (mV 1))))
 (aY (bW 3 (aZ pq [(wD (aZ dR [(wD (mV 0)),(wD (mC (.int 1)))])),(wD (mV 2))]))
 (aY (bW 4 (aZ lg [(wD (aZ dR [(wD (mV 0)),(wD (mC (.int 2)))])),(wD (mV 2))]))
 (aY (bW 5 (m2 dU (mN gq [(mC (.int 4)),(mC (.int 1)),(mC (.int 2)),(mC (.int 3)),(mC (.int 2)),(mC (.int 3))]) (m2 bT (aZ dR [(wD (mV 0)),(wD (mC (.int 3)))]) (mC (.int 6)))))
 (aY (bW 6 (mN gq []))
 (aY (m7 (iD (mV 2)) (.n 7)
 (m7 (iD (mV 2)) (.n 8)
 (aY (bW 9 (aZ dR [(wD (mV 0)),(wD (m2 di (m2 di (mC (.int 4)) (m2 dD (m2 cQ (mN xn [(mV 7),(mV 8)]) (m2 yx (mN xn [(mV 7),(mV 8)]) (mC (.int 1)))) (mC (.int 2)))) (mN BJ [(mV 7),(mV 8)])))]))
 (iy (uf (cB (m2 Bx (m2 dU (mV 4) (mV 7)) (m2 dU (mV 4) (mV 8)))) (cB (m2 Bx (m2 bT (m2 dD (m2 bT (m2 cQ (mV 9) (mC (.int 48271))) (mC (.int 2147483647))) (mC (.int 16))) (mC (.int 4))) (mV 5))))
 (bV 6 (mN dTup [(m2 dU (mV 3) (mV 7)),(m2 dU (mV 3) (mV 8))]))
 bB))))
 (dF (wD (mN dTup [(mN qw [(mV 3)]),(mN qw [(mV 6)])])))))))))
def pB:Fn:=vP 2 10 Di
def pL(F:Fn):S :=
 (aY (iy (Uy (cB (m1 (yN ["str"]) (mV 1))) (cB (m1 (yN ["int"]) (mV 1))))
 (aY (iy (Uy (cB (m2 GR (m1 (yN ["bool"]) (mV 0)) (m1 (yN ["bool"]) (mV 1)))) (cB (m2 GR (m1 (yN ["str"]) (mV 0)) (m1 (yN ["str"]) (mV 1)))))
 (dF (wD (mC (.bl false))))
 bB)
 (dF (wD (Ku (m1 (yN ["int", "str"]) (mV 0)) (m2 tX (mV 0) (mV 1))))))
 bB)
 (aY (iy (Uy (cB (m2 GR (m1 (yN ["list"]) (mV 0)) (m1 (yN ["list"]) (mV 1)))) (qW (cB (m1 (yN ["list", "tuple"]) (mV 0)))))
 (dF (wD (mC (.bl false))))
 bB)
 (aY (iy (cB (m2 GR (mN iR [(mV 0)]) (mN iR [(mV 1)])))
 (dF (wD (mC (.bl false))))
 bB)
 (aY (m7 (KH (mV 0) (mV 1)) (.t [2,3])
 (iy (qW (cB (aZ F [(wD (mV 2)),(wD (mV 3))])))
 (dF (wD (mC (.bl false))))
 bB))
 (dF (wD (mC (.bl true))))))))
def cj:Nat→Fn
 | 0=>fnZ
 | n+1=>vP 2 4 (pL (cj n))
def qJ:S :=
 (dF (wD (m2 Gf (aZ cI [(wD (mV 0)),(wD (mV 2))]) (m2 Um (aZ cI [(wD (mV 0)),(wD (mV 1))]) (mN dTup [(mV 1)])))))
def dw:Fn:=vP 3 3 qJ
def yj:S :=
 (dF (wD (fL [some 1,none] (rY (mV 0)) (.n 1) jA (m2 dU (mN gq [(mV 1),(mN dTup [(m2 dU (mV 1) (mC (.int 1))),(m2 dU (mV 1) (mC (.int 0)))])]) (mN aaj [(m2 tX (mV 1) (mV 0))])))))
def lq:Fn:=Nh 2 2 yj
def Bc:S :=
 (aY (bW 2 (mN gq []))
 (aY (m7 (rY (mV 0)) (.n 3)
 (m7 (rY (mV 0)) (.n 4)
 (iy (cB (m2 Qw (mN dTup [(mV 3),(mV 4)]) (mV 1)))
 (bV 2 (mN dTup [(mV 3),(mV 4)]))
 bB)))
 (dF (wD (mN dTup [(mN qw [(mV 0)]),(mN qw [(mV 2)])])))))
def mR:Fn:=vP 2 5 Bc
def uw:S :=
 (dF (wD (Ff [0] (mV 1) (fL [some 1,none] (rY (mV 0)) (.n 1) jA (m2 Uk (mV 0) (mV 1))))))
def gA:Fn:=Nh 2 2 uw
def Dj:S :=
 (dF (wD (Ku (wR WX WX (mC (.int 1)) (mN iR [(mV 0)]) (mC (.int 8))) (mN Qm [(fL [none] (rY (mV 0)) (.n 0) jA (m2 Qw (mV 0) (mC (.str "abcdefghijklmnopqrstuvwxyz"))))]))))
def d9:Fn:=vP 1 1 Dj
def lC:S :=
 (aY (iy (qW (cB (wR WX WX (mC (.int 1)) (mN iR [(mV 0)]) (mC (.int 8)))))
 ji
 bB)
 (aY (Ri 1 (fun _=>.ok (.dk [])))
 (m7 (rY (mV 0)) (.n 2)
 (aY (iy (qW (cB (aZ d9 [(wD (mV 2))])))
 ji
 bB)
 (aY (iy (cB (Fg 1 (mV 2)))
 ji
 bB)
 (ni 1 (mV 2) (mC (.bl true))))))))
def dh:Fn:=vP 1 3 lC
def lB:S :=
 (aY (Ri 2 (fun _=>.ok (.dt [])))
 (m7 (rY (mV 1)) (.t [3,4])
 (aY (rP (aZ bh [(wD (mV 0)),(wD (mN gq [(mV 3),(mV 4)]))]))
 (aY (iy (cB (m2 tX (mV 3) (mV 4)))
 ji
 bB)
 (aY (iy (cB (Fg 2 (mN dTup [(mV 3),(mV 4)])))
 ji
 bB)
 (aY (ni 2 (mN dTup [(mV 3),(mV 4)]) (mC (.bl true)))
 (ni 2 (mN dTup [(mV 4),(mV 3)]) (mC (.bl true)))))))))
def dg:Fn:=vP 2 5 lB
def ux:S :=
 (aY (bW 1 (aZ pC [(wD (mV 0))]))
 (aY (bW 2 (fL [some 1,none] (rY (m2 dU (mV 0) (mC (.int 0)))) (.n 1) (cB (m2 dC (mV 1) (mV 0))) (mV 1)))
 (iy (aac (mV 2))
 ji
 bB)))
def iY:Fn:=vP 1 3 ux
def Bb:S :=
 (aY (rP (aZ dh [(wD (mV 0))]))
 (aY (rP (aZ dg [(wD (mV 0)),(wD (mV 1))]))
 (aY (bW 2 (fL [none,none] (rY (mV 1)) (.t [0,1]) jA (mN dTup [(mV 0),(mV 1)])))
 (aY (bW 3 (mN dTup [(mN qw [(mV 0)]),(mN qw [(aZ gA [(wD (mV 0)),(wD (mV 2))])])]))
 (aY (rP (aZ iY [(wD (mV 3))]))
 (dF (wD (mV 3))))))))
def gQ:Fn:=vP 2 4 Bb
def iQ:S :=
 (m7 (iP (rY (mV 1))) (.n 2)
 (iy (cP (cB (m2 dC (mV 2) (mV 0))))
 (rO "NoName" [(gR 2),(fun _=>true)])
 (sP bB)))
def bL:Fn:=vP 2 3 iQ
def vY:S :=
 (aY (bW 2 (m2 dU (mV 0) (m2 bT (mV 1) (mN iR [(mV 0)]))))
 (aY (bW 3 (mC (.str "zqxjkvbpygfwmucldrhsnioate")))
 (aY (bW 4 (mN gq [(m2 di (mV 2) (m2 dU (mV 3) (m2 bT (m2 dD (mV 1) (mC (.int 8))) (mC (.int 26))))),(pD JC (mV 2) (some (mC (.int 1))) none),(pD JC (mV 2) none (some (m1 Z9 (mC (.int 1))))),(m2 di (m2 dU (mV 3) (m2 bT (m2 dD (mV 1) (mC (.int 5))) (mC (.int 26)))) (mV 2)),(m1 K5 (mV 2))]))
 (aY (bW 4 (m2 di (mV 4) (fL [none] (rY (mV 3)) (.n 0) jA (mV 0))))
 (aY (bW 4 (fL [some 0,none] (rY (mV 4)) (.n 1) (uf (cB (m2 dC (mV 1) (mV 0))) (cB (m2 GR (mV 1) (mC (.str ""))))) (mV 1)))
 (dF (wD (m2 dU (mV 4) (m2 bT (m2 dD (mV 1) (mC (.int 3))) (mN BJ [(mC (.int 5)),(mN iR [(mV 4)])]))))))))))
def cG:Fn:=vP 2 5 vY
def qI:S :=
 (aY (bW 2 (mN gq [(m2 bT (aZ dR [(wD (mV 0)),(wD (mC (.int 39)))]) (mC (.int 2147483647)))]))
 (aY (m7 (TX (pD JC (mV 0) (some (mC (.int 40))) (some (mC (.int 63))))) (.t [3,4])
 (iy (cB (m2 Bx (mV 3) (m2 yx (mV 1) (mC (.int 1)))))
 (bV 2 (m2 bT (mV 4) (mC (.int 2147483647))))
 (aY (bW 5 (m2 bT (mV 3) (mV 1)))
 (pW 2 (mV 5) (m2 bT (m2 di (m2 cQ (m2 dU (mV 2) (mV 5)) (mC (.int 48271))) (mV 4)) (mC (.int 2147483647)))))))
 (dF (wV 2))))
def gj:Fn:=Nh 2 6 qI
def Je:S :=
 (aY (bW 2 (mN Be [(m2 dU (mV 0) (mC (.int 0)))]))
 (aY (bW 3 (mN gq [(m2 dU (mV 2) (m2 bT (mV 1) (mN iR [(mV 2)]))),(m2 dU (mV 2) (m2 bT (m2 dD (mV 1) (mC (.int 8))) (mN iR [(mV 2)])))]))
 (aY (iy (uf (cB (m2 tX (m2 bT (m2 dD (mV 1) (mC (.int 64))) (mC (.int 2))) (mC (.int 1)))) (cB (m2 dGt (mN iR [(m2 dU (mV 0) (mC (.int 1)))]) (mC (.int 0)))))
 (bW 3 (mN Be [(m2 dU (m2 dU (mV 0) (mC (.int 1))) (m2 bT (m2 dD (mV 1) (mC (.int 128))) (mN iR [(m2 dU (mV 0) (mC (.int 1)))])))]))
 bB)
 (aY (iy (cB (m2 tX (m2 bT (m2 dD (mV 1) (mC (.int 4096))) (mC (.int 6))) (mC (.int 1))))
 (pW 3 (m2 bT (m2 dD (mV 1) (mC (.int 5))) (mC (.int 2))) (aZ cG [(wD (mV 2)),(wD (m2 dD (mV 1) (mC (.int 7))))]))
 bB)
 (aY (iy (cB (m2 tX (m2 bT (m2 dD (mV 1) (mC (.int 4096))) (mC (.int 6))) (mC (.int 2))))
 (bW 3 (mN gq [(aZ cG [(wD (mV 2)),(wD (m2 dD (mV 1) (mC (.int 9))))]),(aZ cG [(wD (mV 2)),(wD (m2 dD (mV 1) (mC (.int 11))))])]))
 bB)
 (dF (wV 3)))))))
def pA:Fn:=Nh 2 4 Je
def vX:S :=
 (aY (VN (.t [3,4]) (mV 0))
 (aY (rP (aZ bh [(wD (mV 3)),(wD (mN gq [(mV 1),(mV 2)]))]))
 (aY (iy (cB (m2 dC (mN dTup [(mV 1),(mV 2)]) (mV 4)))
 ji
 bB)
 (aY (iy (qW (cB (aZ dw [(wD (mV 0)),(wD (mV 1)),(wD (mV 2))])))
 ji
 bB)
 (aY (bW 5 (fL [some 1,some 2,none] (rY (mV 4)) (.n 2) (cB (m2 GR (mV 2) (mN dTup [(mV 0),(mV 1)]))) (mV 2)))
 (dF (wD (aZ gQ [(wD (mV 3)),(wD (m2 di (mV 5) (mN gq [(mN dTup [(mV 2),(mV 1)])])))]))))))))
def iB:Fn:=vP 3 6 vX
def kW:S :=
 (aY (sP (VN (.t [3,4]) (mV 0)))
 (aY (mJ bL [(wD (mV 3)),(wD (mN gq [(mV 1),(mV 2)]))])
 (aY (iy (cP (cB (m2 dC (mN dTup [(mV 1),(mV 2)]) (mV 4))))
 (rO "NoArrow" [(fun _=>true),(gR 1),(fun _=>true),(gR 2)])
 (sP bB))
 (aY (iy (cP (qW (cB (aZ dw [(wD (mV 0)),(wD (mV 1)),(wD (mV 2))]))))
 (rO "Locked" [(fun _=>true),(gR 1),(fun _=>true),(gR 2),(fun _=>true)])
 (sP bB))
 (aY (sP (bW 5 (fL [some 1,some 2,none] (rY (mV 4)) (.n 2) (cB (m2 GR (mV 2) (mN dTup [(mV 0),(mV 1)]))) (mV 2))))
 (sP (dF (wD (aZ gQ [(wD (mV 3)),(wD (m2 di (mV 5) (mN gq [(mN dTup [(mV 2),(mV 1)])])))])))))))))
def cC:Fn:=vP 3 6 kW
def Bd:S :=
 (dF (wD (fL [some 1,none,none] (rY (mV 0)) (.t [1,2]) (cB (m2 tX (mV 2) (mV 0))) (mV 1))))
def fc:Fn:=Nh 2 2 Bd
def yl:S :=
 (aY (bW 1 (mN gq []))
 (aY (m7 (rY (mV 0)) (.t [2,3])
 (iy (cB (m2 tX (mN sO [(aZ fc [(wD (mV 0)),(wD (mV 3))])]) (mN sO [(m2 di (aZ fc [(wD (mV 0)),(wD (mV 2))]) (mN gq [(mV 2)]))])))
 (bV 1 (mN dTup [(mV 2),(mV 3)]))
 bB))
 (dF (wV 1))))
def jt:Fn:=Nh 1 4 yl
def Jf:S :=
 (aY (bW 1 (mN gq []))
 (aY (iy (cB (Bt 0 (fun c=>([("NoName", false),("NoArrow", false),("Locked", false)]:List (String×Bool)).lookup c)))
 (bV 1 (mC (.str "one of the others")))
 bB)
 (aY (iy (cB (Bt 0 (fun c=>([("NoName", false),("NoArrow", false),("Locked", false)]:List (String×Bool)).lookup c)))
 (bV 1 (mC (.str "one of the others")))
 bB)
 (aY (iy (cB (Bt 0 (fun c=>([("NoName", false),("NoArrow", false),("Locked", true)]:List (String×Bool)).lookup c)))
 (bV 1 (mC (.str "Locked")))
 bB)
 (aY (iy (cB (Bt 0 (fun c=>([("NoName", false),("NoArrow", true),("Locked", false)]:List (String×Bool)).lookup c)))
 (bV 1 (mC (.str "NoArrow")))
 bB)
 (aY (iy (cB (Bt 0 (fun c=>([("NoName", true),("NoArrow", false),("Locked", false)]:List (String×Bool)).lookup c)))
 (bV 1 (mC (.str "NoName")))
 bB)
 (aY (iy (qW (cB (Bt 0 (fun c=>([("NoName", true),("NoArrow", true),("Locked", true)]:List (String×Bool)).lookup c))))
 (bV 1 (mC (.str "no ValueError")))
 bB)
 (dF (wV 1)))))))))
def fU:Fn:=Nh 1 2 Jf
def uy:S :=
 (aY (bW 3 (mN gq []))
 (aY (Rh 4 ["NoName", "NoArrow", "Locked"]
 (mJ cC [(wD (mV 0)),(wD (mV 1)),(wD (mV 2))])
 (bW 3 (aZ fU [(wV 4)])))
 (dF (wD (mV 3)))))
def cW:Fn:=vP 3 5 uy
def sJ:S :=
 (aY (iy (Uy (cB (m2 dC (mV 1) (m2 dU (mV 0) (mC (.int 0))))) (cB (m2 dC (mV 2) (m2 dU (mV 0) (mC (.int 0))))))
 (dF (wD (m2 tX (aZ cW [(wD (mV 0)),(wD (mV 1)),(wD (mV 2))]) (mN gq [(mC (.str "NoName"))]))))
 bB)
 (aY (iy (cB (m2 dC (mN dTup [(mV 1),(mV 2)]) (m2 dU (mV 0) (mC (.int 1)))))
 (dF (wD (m2 tX (aZ cW [(wD (mV 0)),(wD (mV 1)),(wD (mV 2))]) (mN gq [(mC (.str "NoArrow"))]))))
 bB)
 (aY (iy (cB (m2 dC (mN dTup [(mV 1),(mV 2)]) (aZ jt [(wD (mN Be [(m2 dU (mV 0) (mC (.int 1)))]))])))
 (dF (wD (m2 tX (aZ cW [(wD (mV 0)),(wD (mV 1)),(wD (mV 2))]) (mN gq [(mC (.str "Locked"))]))))
 bB)
 (aY (bW 3 (aZ mR [(wD (m2 dU (mV 0) (mC (.int 0)))),(wD (aZ lq [(wD (mN Be [(m2 dU (mV 0) (mC (.int 1)))])),(wD (mN dTup [(mV 1),(mV 2)]))]))]))
 (aY (bW 4 (aZ iB [(wD (mV 0)),(wD (mV 1)),(wD (mV 2))]))
 (dF (wD (Ku (aZ (cj 4) [(wD (mV 4)),(wD (mV 3))]) (aZ (cj 4) [(wD (aZ iB [(wD (mV 3)),(wD (mV 2)),(wD (mV 1))])),(wD (mV 0))])))))))))
def fK:Fn:=vP 3 5 sJ
def Dg:S :=
 (aY (bW 1 (aZ pB [(wD (mV 0)),(wD (mC (.int 8)))]))
 (aY (m7 (rY (aZ gj [(wD (mV 0)),(wD (mC (.int 6)))])) (.n 2)
 (aY (bW 3 (aZ pA [(wD (mV 1)),(wD (mV 2))]))
 (iy (qW (cB (aZ fK [(wD (mV 1)),(wD (m2 dU (mV 3) (mC (.int 0)))),(wD (m2 dU (mV 3) (mC (.int 1))))])))
 (dF (wD (mC (.bl false))))
 bB)))
 (dF (wD (mC (.bl true))))))
def wQ:Fn:=vP 1 4 Dg
end Mr
namespace Jv
open PySem L2 PyProof.Rows A
open Mr
def Wt(x:Str):Str:=x ++ ".<locals>." ++ "<lambda>"
def top(i:Nat):Stmt:=PySem.Challenge.pw_arrowfind_k31_turned_and_refused.main.body.getD i (.Pass ⟨0,0,0,0⟩)
structure Txt(mg:Str→Option Value):Prop where
 fO:mg "len" = none
 mj:mg "range" = none
 Jd:mg "max" = none
 Jc:mg "min" = none
 fG:mg "tuple" = none
 lK:mg "list" = none
 bI:mg "isinstance" = none
 Jj:mg "all" = none
 adN:mg "any" = none
 UW:mg "bool" = none
 Nt:mg "str" = none
 Jh:mg "int" = none
 acb:mg "zip" = none
 Ji:mg "enumerate" = none
 Az:mg "sorted" = none
 aaf:mg "reversed" = none
 Yl:mg "set" = none
 Qj:∃ t,mg "LETTERS" = some (.str "abcdefghijklmnopqrstuvwxyz" t)
 Ay:∃ t,mg "MOST_LETTERS" = some (.int 8 t)
 Gm:∃ t,mg "MOST_NAMES" = some (.int 8 t)
section
variable[Tb:fQ]
structure Own(mg:Str→Option Value)(base:Heap):Prop where
 Wi:OwnCls "ArrowError" (Tb.cl "ArrowError") [.type "ValueError", .type "Exception", .type "BaseException", .type "object"] "ValueError.__new__" mg base
 X3:OwnCls "WrongSize" (Tb.cl "WrongSize") [.type "ValueError", .type "Exception", .type "BaseException", .type "object"] "ValueError.__new__" mg base
 abu:OwnCls "NoWord" (Tb.cl "NoWord") [.type "ValueError", .type "Exception", .type "BaseException", .type "object"] "ValueError.__new__" mg base
 acC:OwnCls "Twice" (Tb.cl "Twice") [.type "ValueError", .type "Exception", .type "BaseException", .type "object"] "ValueError.__new__" mg base
 Sq:OwnCls "NoName" (Tb.cl "NoName") [.type "ValueError", .type "Exception", .type "BaseException", .type "object"] "ValueError.__new__" mg base
 abt:OwnCls "Unlike" (Tb.cl "Unlike") [.type "ValueError", .type "Exception", .type "BaseException", .type "object"] "ValueError.__new__" mg base
 O3:OwnCls "NoArrow" (Tb.cl "NoArrow") [.type "ValueError", .type "Exception", .type "BaseException", .type "object"] "ValueError.__new__" mg base
 Ss:OwnCls "Locked" (Tb.cl "Locked") [.type "ValueError", .type "Exception", .type "BaseException", .type "object"] "ValueError.__new__" mg base
 acD:OwnCls "NoTie" (Tb.cl "NoTie") [.type "ValueError", .type "Exception", .type "BaseException", .type "object"] "ValueError.__new__" mg base
 abw:OwnCls "NoSuch" (Tb.cl "NoSuch") [.type "ValueError", .type "Exception", .type "BaseException", .type "object"] "ValueError.__new__" mg base
 abv:OwnCls "NoText" (Tb.cl "NoText") [.type "ValueError", .type "Exception", .type "BaseException", .type "object"] "ValueError.__new__" mg base
 acE:OwnCls "NoRow" (Tb.cl "NoRow") [.type "ValueError", .type "Exception", .type "BaseException", .type "object"] "ValueError.__new__" mg base
 aaA:OwnCls "NoLabel" (Tb.cl "NoLabel") [.type "ValueError", .type "Exception", .type "BaseException", .type "object"] "ValueError.__new__" mg base
 Gn:mg "ArrowError" = some (.ref (Tb.cl "ArrowError"))
 Jk:mg "WrongSize" = some (.ref (Tb.cl "WrongSize"))
 U3:mg "NoWord" = some (.ref (Tb.cl "NoWord"))
 W8:mg "Twice" = some (.ref (Tb.cl "Twice"))
 U6:mg "NoName" = some (.ref (Tb.cl "NoName"))
 aai:mg "Ring" = some (.ref (Tb.cl "Ring"))
 U0:mg "Unlike" = some (.ref (Tb.cl "Unlike"))
 Ql:mg "NoArrow" = some (.ref (Tb.cl "NoArrow"))
 U7:mg "Locked" = some (.ref (Tb.cl "Locked"))
 W9:mg "NoTie" = some (.ref (Tb.cl "NoTie"))
 U5:mg "NoSuch" = some (.ref (Tb.cl "NoSuch"))
 Xb:mg "NoNet" = some (.ref (Tb.cl "NoNet"))
 U4:mg "NoText" = some (.ref (Tb.cl "NoText"))
 Xa:mg "NoRow" = some (.ref (Tb.cl "NoRow"))
 Qk:mg "NoLabel" = some (.ref (Tb.cl "NoLabel"))
 Ez:mg "ValueError" = none
end
section
variable{P:Program}{w:World}{K:PySem.W.Frag}{mg:Str→Option Value}{base:Heap}[Tb:fQ]
structure Kit(K:PySem.W.Frag):Prop where
 Fw:∀ x k,(fun c=>([("NoName", true),("NoArrow", true),("Locked", true)]:List (String×Bool)).lookup c) x=some k→kj K (Tb.cl x)∧PySem.W.kitOne K (.ref (Tb.cl x)) (.type "ValueError")=some k
 Tw:∀ x k,(fun c=>([("NoName", true),("NoArrow", false),("Locked", false)]:List (String×Bool)).lookup c) x=some k→kj K (Tb.cl x)∧PySem.W.kitOne K (.ref (Tb.cl x)) (.ref (Tb.cl "NoName"))=some k
 Pj:∀ x k,(fun c=>([("NoName", false),("NoArrow", true),("Locked", false)]:List (String×Bool)).lookup c) x=some k→kj K (Tb.cl x)∧PySem.W.kitOne K (.ref (Tb.cl x)) (.ref (Tb.cl "NoArrow"))=some k
 Tz:∀ x k,(fun c=>([("NoName", false),("NoArrow", false),("Locked", true)]:List (String×Bool)).lookup c) x=some k→kj K (Tb.cl x)∧PySem.W.kitOne K (.ref (Tb.cl x)) (.ref (Tb.cl "Locked"))=some k
 iM:∀ x k,(fun c=>([("NoName", false),("NoArrow", false),("Locked", false)]:List (String×Bool)).lookup c) x=some k→kj K (Tb.cl x)∧PySem.W.kitAny K (.ref (Tb.cl x)) (([Tb.cl "NoWord", Tb.cl "Ring", Tb.cl "Twice", Tb.cl "Unlike", Tb.cl "WrongSize"]:List Addr).map .ref)=some k
 gm:∀ x k,(fun c=>([("NoName", false),("NoArrow", false),("Locked", false)]:List (String×Bool)).lookup c) x=some k→kj K (Tb.cl x)∧PySem.W.kitAny K (.ref (Tb.cl x)) (([Tb.cl "NoLabel", Tb.cl "NoNet", Tb.cl "NoRow", Tb.cl "NoSuch", Tb.cl "NoText", Tb.cl "NoTie"]:List Addr).map .ref)=some k
 Fe:∀ C,(∃ c∈(["NoName", "NoArrow", "Locked"]:List String),C=Tb.cl c)→PySem.W.exmOne K (.ref C) (.ref (Tb.cl "ArrowError"))=some true
abbrev zG:Stmt:=top 36
theorem Ce:bG ["_law_script", "_law_k", "_law_spare"] ["_law_script", "_law_k"] (aQ zG):=⟨rfl,rfl,rfl,by decide +kernel,rfl,by decide +kernel,by decide +kernel⟩
theorem O1{f:Addr}{fd:FuncData}(F:nZ K "_law_cell" "_law_cell" zG f fd)(T:Txt mg)  : cY P w K mg base dH 1 f fd ["_law_script", "_law_k"] (lE dR) :=
 F.ok Ce (fun vs H Q E h=>qR h) (fun cdv A outer s H vs Q E hr h=>by
  have nd:=Ce.nd
  have hu:=eV hr
  have bY:=hr.units
  exact⟨_,(aA (cD (bF zQ (pv 1) (bc dN rfl T.fO PySem.boot_len (aj (pv 0) au)) (cF _))
 (aF (bK (cO bN (pv 0) (pv 1) (fun _ _=>rfl))))
 bu)
 (aA (bH (i:=2) nd rfl (Or.inl rfl) (aW cu aH (aW jG (aW jG aH (pv 1)) (pv 1))))
 (aA (cD (bF R3 (bc dN rfl T.fO PySem.boot_len (aj (pv 0) au)) aH (cF _))
 (aF (bH (i:=2) nd rfl (Or.inl rfl) (aW cu (pv 2) (aW jG (aW cz (cO bN (pv 0) aH (fun _ _=>rfl)) aH) (aW cu (aW cu (aW jG (pv 1) (pv 1)) (aW jG aH (pv 1))) aH)))))
 bu)
 (aF (bK (pv 2)))))),
  _root_.A.qL (N:=["_law_script", "_law_k", "_law_spare"]) (M:=Mo []) (aK (cV (bC (AE.p (aC UT (AE.p (ak 1 rfl)) (AE.p (iT fO (aB (AE.p (ak 0 rfl)) aO))))))
 (dj (AE.w (aC gB (AE.p (ak 0 rfl)) (AE.p (ak 1 rfl)))))
 bw)
 (aK (bO 2 rfl (aC gG (AE.p aM) (AE.p (aC nG (AE.p (aC nG (AE.p aM) (AE.p (ak 1 rfl)))) (AE.p (ak 1 rfl))))))
 (aK (cV (bC (AE.p (aC ace (AE.p (iT fO (aB (AE.p (ak 0 rfl)) aO))) (AE.p aM))))
 (bO 2 rfl (aC gG (AE.p (ak 2 rfl)) (AE.p (aC nG (AE.p (aC dZ (AE.p (aC gB (AE.p (ak 0 rfl)) (AE.p aM))) (AE.p aM))) (AE.p (aC gG (AE.p (aC gG (AE.p (aC nG (AE.p (ak 1 rfl)) (AE.p (ak 1 rfl)))) (AE.p (aC nG (AE.p aM) (AE.p (ak 1 rfl)))))) (AE.p aM)))))))
 bw)
 (dj (AE.w (ak 2 rfl)))))) (by decide) h⟩)
abbrev wA:Stmt:=top 37
theorem zu:bG ["_law_cell_here", "_law_many", "_law_letters", "_law_long", "_law_size", "_law_stem", "_law_at"] ["_law_cell_here", "_law_many"] (aQ wA):=⟨rfl,rfl,rfl,by decide +kernel,rfl,by decide +kernel,by decide +kernel⟩
theorem Ka{f:Addr}{fd:FuncData}(F:nZ K "_law_words" "_law_words" wA f fd)(T:Txt mg)  : cY P w K mg base dH 1 f fd ["_law_cell_here", "_law_many"] (yC pq) :=
 F.ok zu (fun vs H Q E h=>Bu h) (fun cdv A outer s H vs Q E hr h=>by
  have nd:=zu.nd
  have hu:=eV hr
  have bY:=hr.units
  exact⟨_,(aA (bH (i:=2) nd rfl (Or.inr rfl) jm)
 (aA (cD (bF zQ (aW cz (pv 0) aH) aH (cF _))
 (aA (bH (i:=3) nd rfl (Or.inr rfl) (mO PySem.F.plainAttrs_str PySem.F.slot_str_join PySem.F.type_str_join Ms jm (aj (jg (N':=["_law_letters", "_law_cell_here", "_law_k"]) (ρ:=[some 2,some 0,none]) rfl (dW.of rfl (by kernel_rfl)) (iz rfl T.mj (aj aH au)) (fun _ _ _ _ _=>(bf (i:=2) (by show (["_law_letters", "_law_cell_here", "_law_k"]:List Str).Nodup;decide +kernel) rfl (Or.inl rfl))) (fY rfl) (fun _ _ _ _ _=>jf) (fun _ _ _ _ _=>(cO bN (pv 0) (aW cz (aW cg (pv 1) (aW cu aH (aW jG aH (pv 2)))) aH) (fun _ _=>rfl)))) au)))
 (aA (cD (bF (jX bY) (aW cz (pv 0) aH) aH (cF _))
 (aF (bK (jg (N':=["_law_long", "_law_k"]) (ρ:=[some 3,none]) rfl (dW.of rfl (by kernel_rfl)) (iz rfl T.mj (aj (pv 1) au)) (fun _ _ _ _ _=>(bf (i:=1) (by show (["_law_long", "_law_k"]:List Str).Nodup;decide +kernel) rfl (Or.inl rfl))) (fY rfl) (fun _ _ _ _ _=>jf) (fun _ _ _ _ _=>(mL JT (pv 0) tH (nu (aW cu (pv 1) aH)))))))
 bu)
 (aF (bK (jg (N':=["_law_long", "_law_k"]) (ρ:=[some 3,none]) rfl (dW.of rfl (by kernel_rfl)) (iz rfl T.mj (aj (pv 1) au)) (fun _ _ _ _ _=>(bf (i:=1) (by show (["_law_long", "_law_k"]:List Str).Nodup;decide +kernel) rfl (Or.inl rfl))) (fY rfl) (fun _ _ _ _ _=>jf) (fun _ _ _ _ _=>(mL JT (pv 0) (nu (aW J7 aH (pv 1))) tH)))))))
 bu)
 (aA (bH (i:=4) nd rfl (Or.inl rfl) (aW cz (aW cg (pv 0) aH) aH))
 (aA (bH (i:=5) nd rfl (Or.inr rfl) (mO PySem.F.plainAttrs_str PySem.F.slot_str_join PySem.F.type_str_join Ms jm (aj (jg (N':=["_law_letters", "_law_cell_here", "_law_k"]) (ρ:=[some 2,some 0,none]) rfl (dW.of rfl (by kernel_rfl)) (iz rfl T.mj (aj (pv 4) au)) (fun _ _ _ _ _=>(bf (i:=2) (by show (["_law_letters", "_law_cell_here", "_law_k"]:List Str).Nodup;decide +kernel) rfl (Or.inl rfl))) (fY rfl) (fun _ _ _ _ _=>jf) (fun _ _ _ _ _=>(cO bN (pv 0) (aW cz (aW cu (aW cu (aW cg (pv 1) aH) (aW jG aH (pv 2))) (aW jG (pv 2) (pv 2))) aH) (fun _ _=>rfl)))) au)))
 (aA (bH (i:=6) nd rfl (Or.inr rfl) (aW cz (aW cg (pv 0) aH) (aW cu (pv 4) aH)))
 (aF (bK (jg (N':=["_law_stem", "_law_letters", "_law_at", "_law_cell_here", "_law_k"]) (ρ:=[some 5,some 2,some 6,some 0,none]) rfl (dW.of rfl (by kernel_rfl)) (iz rfl T.mj (aj (pv 1) au)) (fun _ _ _ _ _=>(bf (i:=4) (by show (["_law_stem", "_law_letters", "_law_at", "_law_cell_here", "_law_k"]:List Str).Nodup;decide +kernel) rfl (Or.inl rfl))) (fY rfl) (fun _ _ _ _ _=>jf) (fun _ _ _ _ _=>(aW cu (aW cu (mL JT (pv 0) tH (nu (pv 2))) (cO bN (pv 1) (aW cz (aW cu (aW cg (pv 3) aH) (aW jG aH (pv 4))) aH) (fun _ _=>rfl))) (mL JT (pv 0) (nu (pv 2)) tH))))))))))),
  _root_.A.runN (N:=["_law_cell_here", "_law_many", "_law_letters", "_law_long", "_law_size", "_law_stem", "_law_at"]) (M:=Mo []) (aK (bO 2 rfl mZ)
 (aK (cV (bC (AE.p (aC UT (AE.p (aC dZ (AE.p (ak 0 rfl)) (AE.p aM))) (AE.p aM))))
 (aK (bO 3 rfl (Vj (AE.p mZ) (AE.np (gC (K:=K) (tg:=(.n 2)) (NZ.c (iH (AE.p aM))) (by decide) lL (aC gB (AE.p (ak 0 rfl)) (AE.p (aC dZ (AE.p (aC jx (AE.p (ak 1 rfl)) (AE.p (aC gG (AE.p aM) (AE.p (aC nG (AE.p aM) (AE.p (ak 2 rfl)))))))) (AE.p aM))))))))
 (aK (cV (bC (AE.p (aC xm (AE.p (aC dZ (AE.p (ak 0 rfl)) (AE.p aM))) (AE.p aM))))
 (tZ (AE.w (gC (K:=K) (tg:=(.n 1)) (NZ.c (iH (AE.p (ak 1 rfl)))) (by decide) lL (Lj Ba (AE.p (ak 0 rfl)) uc (nH (AE.p (aC gG (AE.p (ak 1 rfl)) (AE.p aM))))))))
 bw)
 (tZ (AE.w (gC (K:=K) (tg:=(.n 1)) (NZ.c (iH (AE.p (ak 1 rfl)))) (by decide) lL (Lj Ba (AE.p (ak 0 rfl)) (nH (AE.p (aC UL (AE.p aM) (AE.p (ak 1 rfl))))) uc))))))
 bw)
 (aK (bO 4 rfl (aC dZ (AE.p (aC jx (AE.p (ak 0 rfl)) (AE.p aM))) (AE.p aM)))
 (aK (bO 5 rfl (Vj (AE.p mZ) (AE.np (gC (K:=K) (tg:=(.n 2)) (NZ.c (iH (AE.p (ak 4 rfl)))) (by decide) lL (aC gB (AE.p (ak 0 rfl)) (AE.p (aC dZ (AE.p (aC gG (AE.p (aC gG (AE.p (aC jx (AE.p (ak 1 rfl)) (AE.p aM))) (AE.p (aC nG (AE.p aM) (AE.p (ak 2 rfl)))))) (AE.p (aC nG (AE.p (ak 2 rfl)) (AE.p (ak 2 rfl)))))) (AE.p aM))))))))
 (aK (bO 6 rfl (aC dZ (AE.p (aC jx (AE.p (ak 0 rfl)) (AE.p aM))) (AE.p (aC gG (AE.p (ak 4 rfl)) (AE.p aM)))))
 (tZ (AE.w (gC (K:=K) (tg:=(.n 4)) (NZ.c (iH (AE.p (ak 1 rfl)))) (by decide) lL (aC gG (AE.p (aC gG (AE.p (Lj Ba (AE.p (ak 0 rfl)) uc (nH (AE.p (ak 2 rfl))))) (AE.p (aC gB (AE.p (ak 1 rfl)) (AE.p (aC dZ (AE.p (aC gG (AE.p (aC jx (AE.p (ak 3 rfl)) (AE.p aM))) (AE.p (aC nG (AE.p aM) (AE.p (ak 4 rfl)))))) (AE.p aM))))))) (AE.p (Lj Ba (AE.p (ak 0 rfl)) (nH (AE.p (ak 2 rfl))) uc))))))))))) (by decide) h⟩)
abbrev wB:Stmt:=top 38
theorem zx:bG ["_law_cell_here", "_law_many", "_law_left", "_law_ranks_here", "_law_draw", "_law_k"] ["_law_cell_here", "_law_many"] (aQ wB):=⟨rfl,rfl,rfl,by decide +kernel,rfl,by decide +kernel,by decide +kernel⟩
theorem Kc{f:Addr}{fd:FuncData}(F:nZ K "_law_ranks" "_law_ranks" wB f fd)(T:Txt mg)  : cY P w K mg base dH 1 f fd ["_law_cell_here", "_law_many"] (yC lg) :=
 F.ok zx (fun vs H Q E h=>Bu h) (fun cdv A outer s H vs Q E hr h=>by
  have nd:=zx.nd
  have hu:=eV hr
  have bY:=hr.units
  exact⟨_,(aA (tG (i:=2) (N':=["_law_k"]) (ρ:=[none]) rfl nd rfl (Or.inl rfl) (dW.of rfl (by kernel_rfl)) (iz rfl T.mj (aj (pv 1) au)) (fun _ _ _ _ _=>(bf (i:=0) (by show (["_law_k"]:List Str).Nodup;decide +kernel) rfl (Or.inl rfl))) (fY rfl) (fun _ _ _ _ _=>jf) (fun _ _ _ _ _=>(pv 0)))
 (aA (bH (i:=3) nd rfl (Or.inl rfl) (dO au))
 (aA (bH (i:=4) nd rfl (Or.inl rfl) (aW cz (pv 0) aH))
 (aA (jF PassesOwn.never rfl (iz rfl T.mj (aj (pv 1) au)) (bf (i:=5) nd rfl (Or.inl rfl))
 (aA (bH (i:=4) nd rfl (Or.inl rfl) (aW cz (aW cu (aW cu (aW jG (pv 4) aH) (aW jG aH (pv 5))) aH) aH))
 (aF (dJ (mO PySem.F.plainAttrs_list PySem.F.slot_list_append PySem.F.type_list_append d8 (pv 3) (aj (mO PySem.F.plainAttrs_list PySem.F.slot_list_pop PySem.F.type_list_pop S5 (pv 2) (aj (aW cz (aW cg (pv 4) aH) (bc dN rfl T.fO PySem.boot_len (aj (pv 2) au))) au)) au))))))
 (aF (bK (pv 3))))))),
  _root_.A.runN (N:=["_law_cell_here", "_law_many", "_law_left", "_law_ranks_here", "_law_draw", "_law_k"]) (M:=Mo [2,3]) (aK (mX 2 rfl (gC (K:=K) (tg:=(.n 0)) (NZ.c (iH (AE.p (ak 1 rfl)))) (by decide) lL (ak 0 rfl)))
 (aK (mX 3 rfl (gZ aO))
 (aK (bO 4 rfl (aC dZ (AE.p (ak 0 rfl)) (AE.p aM)))
 (aK (j9 (K:=K) (tg:=(.n 5)) (iH (AE.p (ak 1 rfl))) (by decide)
 (aK (bO 4 rfl (aC dZ (AE.p (aC gG (AE.p (aC gG (AE.p (aC nG (AE.p (ak 4 rfl)) (AE.p aM))) (AE.p (aC nG (AE.p aM) (AE.p (ak 5 rfl)))))) (AE.p aM))) (AE.p aM)))
 (Gs 3 2 (by decide) rfl rfl (AE.p (aC dZ (AE.p (aC jx (AE.p (ak 4 rfl)) (AE.p aM))) (AE.p (iT fO (aB (xF 2) aO))))))))
 (mD 3 rfl))))) (by decide) h⟩)
abbrev Ef:Stmt:=top 39
theorem Hr:bG ["_law_script", "_law_most", "_law_many", "_law_names", "_law_ranks_here", "_law_thick", "_law_arrows", "_law_j", "_law_k", "_law_cell_here"] ["_law_script", "_law_most"] (aQ Ef):=⟨rfl,rfl,rfl,by decide +kernel,rfl,by decide +kernel,by decide +kernel⟩
theorem R6{f:Addr}{fd:FuncData}(F:nZ K "_law_net" "_law_net" Ef f fd)(T:Txt mg)(jb:nM P w K mg base dH 1 "_law_cell" ["_law_script", "_law_k"] (lE dR))(xO:nM P w K mg base dH 1 "_law_words" ["_law_cell_here", "_law_many"] (yC pq))(xP:nM P w K mg base dH 1 "_law_ranks" ["_law_cell_here", "_law_many"] (yC lg)):cY P w K mg base dH 2 f fd ["_law_script", "_law_most"] (lE pB) :=
 F.ok Hr (fun vs H Q E h=>qR h) (fun cdv A outer s H vs Q E hr h=>by
  have nd:=Hr.nd
  have hu:=eV hr
  have bY:=hr.units
  have jZ:=hr.mono (show 1≤_ by decide)
  have KJ:=hr.mono (show 1≤_ by decide)
  have KN:=hr.mono (show 1≤_ by decide)
  exact⟨_,(aA (bH (i:=2) nd rfl (Or.inl rfl) (aW cu aH (aW cz (bz jb jZ rfl bQ (aj (pv 0) (aj aH au))) (pv 1))))
 (aA (bH (i:=3) nd rfl (Or.inl rfl) (bz xO KJ rfl bQ (aj (bz jb jZ rfl bQ (aj (pv 0) (aj aH au))) (aj (pv 2) au))))
 (aA (bH (i:=4) nd rfl (Or.inl rfl) (bz xP KN rfl bQ (aj (bz jb jZ rfl bQ (aj (pv 0) (aj aH au))) (aj (pv 2) au))))
 (aA (bH (i:=5) nd rfl (Or.inl rfl) (cO bN (dO (aj aH (aj aH (aj aH (aj aH (aj aH (aj aH au))))))) (aW cz (bz jb jZ rfl bQ (aj (pv 0) (aj aH au))) aH) (fun _ _=>rfl)))
 (aA (bH (i:=6) nd rfl (Or.inl rfl) (dO au))
 (aA (jF PassesOwn.never rfl (iz rfl T.mj (aj (pv 2) au)) (bf (i:=7) nd rfl (Or.inl rfl))
 (aF (jF PassesOwn.never rfl (iz rfl T.mj (aj (pv 2) au)) (bf (i:=8) nd rfl (Or.inl rfl))
 (aA (bH (i:=9) nd rfl (Or.inl rfl) (bz jb jZ rfl bQ (aj (pv 0) (aj (aW cu (aW cu aH (aW cg (aW jG (bc (CP rfl) rfl T.Jd boot_max (aj (pv 7) (aj (pv 8) au))) (aW J7 (bc (CP rfl) rfl T.Jd boot_max (aj (pv 7) (aj (pv 8) au))) aH)) aH)) (bc (CN rfl) rfl T.Jc boot_min (aj (pv 7) (aj (pv 8) au)))) au))))
 (aF (cD (PW.pt (pw_and (bF zQ (cO bN (pv 4) (pv 7) (fun _ _=>rfl)) (cO bN (pv 4) (pv 8) (fun _ _=>rfl)) (cF _)) (pw_and1 (bF zQ (aW cz (aW cg (aW cz (aW jG (pv 9) aH) aH) aH) aH) (pv 5) (cF _)))))
 (aF (dJ (mO PySem.F.plainAttrs_list PySem.F.slot_list_append PySem.F.type_list_append d8 (pv 6) (aj (cZ (aj (cO bN (pv 3) (pv 7) (fun _ _=>rfl)) (aj (cO bN (pv 3) (pv 8) (fun _ _=>rfl)) au))) au))))
 bu))))))
 (aF (bK (cZ (aj (dm gY rfl T.fG boot_tuple (aj (pv 3) au)) (aj (dm gY rfl T.fG boot_tuple (aj (pv 6) au)) au))))))))))),
  _root_.A.qL (N:=["_law_script", "_law_most", "_law_many", "_law_names", "_law_ranks_here", "_law_thick", "_law_arrows", "_law_j", "_law_k", "_law_cell_here"]) (M:=Mo [6]) (aK (bO 2 rfl (aC gG (AE.p aM) (AE.p (aC dZ (AE.p (bR (aD (AE.w (ak 0 rfl)) (aD (AE.w aM) bj)))) (AE.p (ak 1 rfl))))))
 (aK (bO 3 rfl (AE.nv (jN (aD (AE.w (bR (aD (AE.w (ak 0 rfl)) (aD (AE.w aM) bj)))) (aD (AE.w (ak 2 rfl)) bj)))))
 (aK (bO 4 rfl (AE.nv (jN (aD (AE.w (bR (aD (AE.w (ak 0 rfl)) (aD (AE.w aM) bj)))) (aD (AE.w (ak 2 rfl)) bj)))))
 (aK (bO 5 rfl (aC gB (AE.np (gZ (aB aM (aB aM (aB aM (aB aM (aB aM (aB aM aO)))))))) (AE.p (aC dZ (AE.p (bR (aD (AE.w (ak 0 rfl)) (aD (AE.w aM) bj)))) (AE.p aM)))))
 (aK (mX 6 rfl (gZ aO))
 (aK (j9 (K:=K) (tg:=(.n 7)) (iH (AE.p (ak 2 rfl))) (by decide)
 (j9 (K:=K) (tg:=(.n 8)) (iH (AE.p (ak 2 rfl))) (by decide)
 (aK (bO 9 rfl (bR (aD (AE.w (ak 0 rfl)) (aD (AE.w (aC gG (AE.p (aC gG (AE.p aM) (AE.p (aC jx (AE.p (aC nG (AE.p (iT Jd (aB (AE.p (ak 7 rfl)) (aB (AE.p (ak 8 rfl)) aO)))) (AE.p (aC UL (AE.p (iT Jd (aB (AE.p (ak 7 rfl)) (aB (AE.p (ak 8 rfl)) aO)))) (AE.p aM))))) (AE.p aM))))) (AE.p (iT Jc (aB (AE.p (ak 7 rfl)) (aB (AE.p (ak 8 rfl)) aO)))))) bj))))
 (cV (Gp (bC (AE.p (aC UT (AE.p (aC gB (AE.p (ak 4 rfl)) (AE.p (ak 7 rfl)))) (AE.p (aC gB (AE.p (ak 4 rfl)) (AE.p (ak 8 rfl))))))) (bC (AE.p (aC UT (AE.p (aC dZ (AE.p (aC jx (AE.p (aC dZ (AE.p (aC nG (AE.p (ak 9 rfl)) (AE.p aM))) (AE.p aM))) (AE.p aM))) (AE.p aM))) (AE.p (ak 5 rfl))))))
 (fP 6 rfl (iJ (aB (aC gB (AE.p (ak 3 rfl)) (AE.p (ak 7 rfl))) (aB (aC gB (AE.p (ak 3 rfl)) (AE.p (ak 8 rfl))) aO))))
 bw))))
 (dj (AE.w (iJ (aB (iT fG (aB (AE.p (ak 3 rfl)) aO)) (aB (iT fG (aB (xF 6) aO)) aO))))))))))) (by decide) h⟩)
abbrev nR:Stmt:=top 42
theorem rG:bG ["_law_script", "_law_many", "_law_found", "_law_k", "_law_cell_here", "_law_at"] ["_law_script", "_law_many"] (aQ nR):=⟨rfl,rfl,rfl,by decide +kernel,rfl,by decide +kernel,by decide +kernel⟩
theorem zU{f:Addr}{fd:FuncData}(F:nZ K "_law_questions" "_law_questions" nR f fd)(T:Txt mg)(jb:nM P w K mg base dH 1 "_law_cell" ["_law_script", "_law_k"] (lE dR)):cY P w K mg base dH 2 f fd ["_law_script", "_law_many"] (yC gj) :=
 F.ok rG (fun vs H Q E h=>Bu h) (fun cdv A outer s H vs Q E hr h=>by
  have nd:=rG.nd
  have hu:=eV hr
  have bY:=hr.units
  have jZ:=hr.mono (show 1≤_ by decide)
  exact⟨_,(aA (bH (i:=2) nd rfl (Or.inl rfl) (dO (aj (aW cz (bz jb jZ rfl bQ (aj (pv 0) (aj aH au))) aH) au)))
 (aA (jF PassesOwn.never rfl (V6 rfl T.Ji (mL JT (pv 0) (nu aH) (nu aH))) (p6 rfl (cM (bf (i:=3) nd rfl (Or.inl rfl)) (cM (bf (i:=4) nd rfl (Or.inl rfl)) lU)))
 (aF (cD (bF zQ (pv 3) (aW J7 (pv 1) aH) (cF _))
 (aF (dJ (mO PySem.F.plainAttrs_list PySem.F.slot_list_append PySem.F.type_list_append d8 (pv 2) (aj (aW cz (pv 4) aH) au))))
 (aA (bH (i:=5) nd rfl (Or.inl rfl) (aW cz (pv 3) (pv 1)))
 (aF (Ej (aW cz (aW cu (aW jG (cO bN (pv 2) (pv 5) (fun _ _=>rfl)) aH) (pv 4)) aH) (RL (pv 2) (pv 5) set_list)))))))
 (aF (bK (pv 2))))),
  _root_.A.runN (N:=["_law_script", "_law_many", "_law_found", "_law_k", "_law_cell_here", "_law_at"]) (M:=Mo [2]) (aK (mX 2 rfl (gZ (aB (aC dZ (AE.p (bR (aD (AE.w (ak 0 rfl)) (aD (AE.w aM) bj)))) (AE.p aM)) aO)))
 (aK (j9 (K:=K) (tg:=(.t [3,4])) (Xi (Lj Ba (AE.p (ak 0 rfl)) (nH (AE.p aM)) (nH (AE.p aM)))) (by decide)
 (cV (bC (AE.p (aC UT (AE.p (ak 3 rfl)) (AE.p (aC UL (AE.p (ak 1 rfl)) (AE.p aM))))))
 (fP 2 rfl (aC dZ (AE.p (ak 4 rfl)) (AE.p aM)))
 (aK (bO 5 rfl (aC dZ (AE.p (ak 3 rfl)) (AE.p (ak 1 rfl))))
 (Jo 2 rfl (aC dZ (AE.p (aC gG (AE.p (aC nG (AE.p (aC gB (xF 2) (AE.p (ak 5 rfl)))) (AE.p aM))) (AE.p (ak 4 rfl)))) (AE.p aM)) (AE.p (ak 5 rfl))))))
 (mD 2 rfl))) (by decide) h⟩)
abbrev pR:Stmt:=top 41
theorem um:bG ["_law_names", "_law_cell_here", "_law_one", "_law_letters", "_law_some"] ["_law_names", "_law_cell_here"] (aQ pR):=⟨rfl,rfl,rfl,by decide +kernel,rfl,by decide +kernel,by decide +kernel⟩
theorem Br{f:Addr}{fd:FuncData}(F:nZ K "_law_stranger" "_law_stranger" pR f fd)(T:Txt mg)  : cY P w K mg base dH 1 f fd ["_law_names", "_law_cell_here"] (lE cG) :=
 F.ok um (fun vs H Q E h=>qR h) (fun cdv A outer s H vs Q E hr h=>by
  have nd:=um.nd
  have hu:=eV hr
  have bY:=hr.units
  exact⟨_,(aA (bH (i:=2) nd rfl (Or.inl rfl) (cO bN (pv 0) (aW cz (pv 1) (bc dN rfl T.fO PySem.boot_len (aj (pv 0) au))) (fun _ _=>rfl)))
 (aA (bH (i:=3) nd rfl (Or.inl rfl) jm)
 (aA (bH (i:=4) nd rfl (Or.inl rfl) (dO (aj (aW cu (pv 2) (cO bN (pv 3) (aW cz (aW cg (pv 1) aH) aH) (fun _ _=>rfl))) (aj (mL JT (pv 2) (nu aH) tH) (aj (mL JT (pv 2) tH (nu (abm Yz aH))) (aj (aW cu (cO bN (pv 3) (aW cz (aW cg (pv 1) aH) aH) (fun _ _=>rfl)) (pv 2)) (aj (Zb PySem.F.plainAttrs_str PySem.F.slot_str_upper PySem.F.type_str_upper SX (pv 2)) au)))))))
 (aA (bH (i:=4) nd rfl (Or.inl rfl) (aW cu (pv 4) (jg (N':=["_law_sign"]) (ρ:=[none]) rfl (dW.of rfl (by kernel_rfl)) (eY (pv 3)) (fun _ _ _ _ _=>(bf (i:=0) (by show (["_law_sign"]:List Str).Nodup;decide +kernel) rfl (Or.inl rfl))) (fY rfl) (fun _ _ _ _ _=>jf) (fun _ _ _ _ _=>(pv 0)))))
 (aA (tG (i:=4) (N':=["_law_names", "_law_text"]) (ρ:=[some 0,none]) rfl nd rfl (Or.inl rfl) (dW.of rfl (by kernel_rfl)) (eY (pv 4)) (fun _ _ _ _ _=>(bf (i:=1) (by show (["_law_names", "_law_text"]:List Str).Nodup;decide +kernel) rfl (Or.inl rfl))) (fY rfl) (fun _ _ _ _ _=>(tE (PW.pt (pw_and (bF (fJ bY) (pv 1) (pv 0) rfl) (pw_and1 (bF (uK bY) (pv 1) jm (cF _))))))) (fun _ _ _ _ _=>(pv 1)))
 (aF (bK (cO bN (pv 4) (aW cz (aW cg (pv 1) aH) (bc (CN rfl) rfl T.Jc boot_min (aj aH (aj (bc dN rfl T.fO PySem.boot_len (aj (pv 4) au)) au)))) (fun _ _=>rfl))))))))),
  _root_.A.qL (N:=["_law_names", "_law_cell_here", "_law_one", "_law_letters", "_law_some"]) (M:=Mo []) (aK (bO 2 rfl (aC gB (AE.p (ak 0 rfl)) (AE.p (aC dZ (AE.p (ak 1 rfl)) (AE.p (iT fO (aB (AE.p (ak 0 rfl)) aO)))))))
 (aK (bO 3 rfl mZ)
 (aK (bO 4 rfl (AE.nv (gZ (aB (aC gG (AE.p (ak 2 rfl)) (AE.p (aC gB (AE.p (ak 3 rfl)) (AE.p (aC dZ (AE.p (aC jx (AE.p (ak 1 rfl)) (AE.p aM))) (AE.p aM)))))) (aB (Lj Ba (AE.p (ak 2 rfl)) (nH (AE.p aM)) uc) (aB (Lj Ba (AE.p (ak 2 rfl)) uc (nH (AE.p (ady acd (AE.p aM))))) (aB (aC gG (AE.p (aC gB (AE.p (ak 3 rfl)) (AE.p (aC dZ (AE.p (aC jx (AE.p (ak 1 rfl)) (AE.p aM))) (AE.p aM))))) (AE.p (ak 2 rfl))) (aB (Xj (AE.p (ak 2 rfl))) aO))))))))
 (aK (bO 4 rfl (aC gG (AE.p (ak 4 rfl)) (AE.np (gC (K:=K) (tg:=(.n 0)) (jh (AE.p (ak 3 rfl))) (by decide) lL (ak 0 rfl)))))
 (aK (bO 4 rfl (AE.nv (gC (K:=K) (tg:=(.n 1)) (jh (AE.p (ak 4 rfl))) (by decide) (Gp (bC (AE.p (aC jL (AE.p (ak 1 rfl)) (AE.p (ak 0 rfl))))) (bC (AE.p (aC La (AE.p (ak 1 rfl)) (AE.p mZ))))) (ak 1 rfl))))
 (dj (AE.w (aC gB (AE.p (ak 4 rfl)) (AE.p (aC dZ (AE.p (aC jx (AE.p (ak 1 rfl)) (AE.p aM))) (AE.p (iT Jc (aB (AE.p aM) (aB (AE.p (iT fO (aB (AE.p (ak 4 rfl)) aO))) aO)))))))))))))) (by decide) h⟩)
abbrev zF:Stmt:=top 49
theorem Cd:bG ["_law_net_here", "_law_draw", "_law_names", "_law_pair_here"] ["_law_net_here", "_law_draw"] (aQ zF):=⟨rfl,rfl,rfl,by decide +kernel,rfl,by decide +kernel,by decide +kernel⟩
theorem OJ{f:Addr}{fd:FuncData}(F:nZ K "_law_pair" "_law_pair" zF f fd)(T:Txt mg)(jO:nM P w K mg base dH 1 "_law_stranger" ["_law_names", "_law_cell_here"] (lE cG)):cY P w K mg base dH 2 f fd ["_law_net_here", "_law_draw"] (yC pA) :=
 F.ok Cd (fun vs H Q E h=>Bu h) (fun cdv A outer s H vs Q E hr h=>by
  have nd:=Cd.nd
  have hu:=eV hr
  have bY:=hr.units
  have nY:=hr.mono (show 1≤_ by decide)
  exact⟨_,(aA (bH (i:=2) nd rfl (Or.inl rfl) (dm qu rfl T.lK boot_list (aj (cO bN (pv 0) aH (fun _ _=>rfl)) au)))
 (aA (bH (i:=3) nd rfl (Or.inl rfl) (dO (aj (cO bN (pv 2) (aW cz (pv 1) (bc dN rfl T.fO PySem.boot_len (aj (pv 2) au))) (fun _ _=>rfl)) (aj (cO bN (pv 2) (aW cz (aW cg (pv 1) aH) (bc dN rfl T.fO PySem.boot_len (aj (pv 2) au))) (fun _ _=>rfl)) au))))
 (aA (cD (PW.pt (pw_and (bF (jX bY) (aW cz (aW cg (pv 1) aH) aH) aH (cF _)) (pw_and1 (bF R3 (bc dN rfl T.fO PySem.boot_len (aj (cO bN (pv 0) aH (fun _ _=>rfl)) au)) aH (cF _)))))
 (aF (bH (i:=3) nd rfl (Or.inl rfl) (dm qu rfl T.lK boot_list (aj (cO bN (cO bN (pv 0) aH (fun _ _=>rfl)) (aW cz (aW cg (pv 1) aH) (bc dN rfl T.fO PySem.boot_len (aj (cO bN (pv 0) aH (fun _ _=>rfl)) au))) (fun _ _=>rfl)) au))))
 bu)
 (aA (cD (bF (jX bY) (aW cz (aW cg (pv 1) aH) aH) aH (cF _))
 (aF (Ej (bz jO nY rfl bQ (aj (pv 2) (aj (aW cg (pv 1) aH) au))) (RL (pv 3) (aW cz (aW cg (pv 1) aH) aH) set_list)))
 bu)
 (aA (cD (bF (jX bY) (aW cz (aW cg (pv 1) aH) aH) aH (cF _))
 (aF (bH (i:=3) nd rfl (Or.inl rfl) (dO (aj (bz jO nY rfl bQ (aj (pv 2) (aj (aW cg (pv 1) aH) au))) (aj (bz jO nY rfl bQ (aj (pv 2) (aj (aW cg (pv 1) aH) au))) au)))))
 bu)
 (aF (bK (pv 3)))))))),
  _root_.A.runN (N:=["_law_net_here", "_law_draw", "_law_names", "_law_pair_here"]) (M:=Mo [3]) (aK (bO 2 rfl (AE.nv (iT lK (aB (AE.p (aC gB (AE.p (ak 0 rfl)) (AE.p aM))) aO))))
 (aK (mX 3 rfl (gZ (aB (aC gB (AE.p (ak 2 rfl)) (AE.p (aC dZ (AE.p (ak 1 rfl)) (AE.p (iT fO (aB (AE.p (ak 2 rfl)) aO)))))) (aB (aC gB (AE.p (ak 2 rfl)) (AE.p (aC dZ (AE.p (aC jx (AE.p (ak 1 rfl)) (AE.p aM))) (AE.p (iT fO (aB (AE.p (ak 2 rfl)) aO)))))) aO))))
 (aK (cV (Gp (bC (AE.p (aC xm (AE.p (aC dZ (AE.p (aC jx (AE.p (ak 1 rfl)) (AE.p aM))) (AE.p aM))) (AE.p aM)))) (bC (AE.p (aC ace (AE.p (iT fO (aB (AE.p (aC gB (AE.p (ak 0 rfl)) (AE.p aM))) aO))) (AE.p aM)))))
 (mX 3 rfl (iT lK (aB (AE.p (aC gB (AE.p (aC gB (AE.p (ak 0 rfl)) (AE.p aM))) (AE.p (aC dZ (AE.p (aC jx (AE.p (ak 1 rfl)) (AE.p aM))) (AE.p (iT fO (aB (AE.p (aC gB (AE.p (ak 0 rfl)) (AE.p aM))) aO))))))) aO)))
 bw)
 (aK (cV (bC (AE.p (aC xm (AE.p (aC dZ (AE.p (aC jx (AE.p (ak 1 rfl)) (AE.p aM))) (AE.p aM))) (AE.p aM))))
 (Jo 3 rfl (bR (aD (AE.w (ak 2 rfl)) (aD (AE.w (aC jx (AE.p (ak 1 rfl)) (AE.p aM))) bj))) (AE.p (aC dZ (AE.p (aC jx (AE.p (ak 1 rfl)) (AE.p aM))) (AE.p aM))))
 bw)
 (aK (cV (bC (AE.p (aC xm (AE.p (aC dZ (AE.p (aC jx (AE.p (ak 1 rfl)) (AE.p aM))) (AE.p aM))) (AE.p aM))))
 (mX 3 rfl (gZ (aB (bR (aD (AE.w (ak 2 rfl)) (aD (AE.w (aC jx (AE.p (ak 1 rfl)) (AE.p aM))) bj))) (aB (bR (aD (AE.w (ak 2 rfl)) (aD (AE.w (aC jx (AE.p (ak 1 rfl)) (AE.p aM))) bj))) aO))))
 bw)
 (mD 3 rfl)))))) (by decide) h⟩)
abbrev nP:Stmt:=top 25
theorem rE:bG ["names", "rows"] ["names", "rows"] (aQ nP):=⟨rfl,rfl,rfl,by decide +kernel,rfl,by decide +kernel,by decide +kernel⟩
theorem zR{f:Addr}{fd:FuncData}{cc TT:Addr}(F:Vn K "sorted_rows" "sorted_rows" nP cc f fd)(T:Txt mg)(hB:BM mg base)(hC:PySem.W.CodeHd base cc TT)(hTb:(TT,Wt "sorted_rows")∈Tb.l)  : cY P w K mg base dH 4 f fd ["names", "rows"] (yC gA) :=
 F.ok rE (fun vs H Q E h=>Bu h) (fun A outer s H vs Q E hr h=>by
  have nd:=rE.nd
  have hu:=eV hr
  have bY:=hr.units
  exact⟨_,(aF (bK (RM (x := "row") (ρ:=[0]) (N':=["row", "names"]) (k:=0) (qual:=Wt "sorted_rows") rfl T.Az (pv 1) (hr.mono (by decide)) rfl hC hB rfl rfl rfl (Dn.one rfl rfl rfl rfl rfl rfl rfl rfl) (fun pm c' ctv u=>rfl) (fun A f c' s H env hrl he=>by subst he;exact(jg (N':=["names", "name"]) (ρ:=[some 1,none]) rfl (dW.of rfl (by kernel_rfl)) (eY (pv 0)) (fun _ _ _ _ _=>(bf (i:=1) (by show (["names", "name"]:List Str).Nodup;decide +kernel) rfl (Or.inl rfl))) (fY rfl) (fun _ _ _ _ _=>jf) (fun _ _ _ _ _=>(Za PySem.F.plainAttrs_tuple PySem.F.slot_tuple_index PySem.F.type_tuple_index abE PySem.F.plainAttrs_list PySem.F.slot_list_index PySem.F.type_list_index abF (pv 0) (aj (pv 1) au)))))))),
  _root_.A.runN (N:=["names", "rows"]) (M:=Mo []) (tZ (AE.w (Xk hTb (by decide) (AE.p (ak 1 rfl)) (gC (K:=K) (tg:=(.n 1)) (jh (AE.p (ak 0 rfl))) (by decide) lL (aci (AE.p (ak 0 rfl)) (AE.p (ak 1 rfl))))))) (by decide) h⟩)
abbrev wG:Stmt:=top 21
theorem zB:bG ["text"] ["text"] (aQ wG):=⟨rfl,rfl,rfl,by decide +kernel,rfl,by decide +kernel,by decide +kernel⟩
theorem Kf{f:Addr}{fd:FuncData}(F:nZ K "is_word" "is_word" wG f fd)(T:Txt mg)  : cY P w K mg base dH 1 f fd ["text"] (lE d9) :=
 F.ok zB (fun vs H Q E h=>qR h) (fun cdv A outer s H vs Q E hr h=>by
  have nd:=zB.nd
  have hu:=eV hr
  have bY:=hr.units
  obtain⟨_,Px⟩:=T.Qj
  obtain⟨_,Aj⟩:=T.Ay
  exact⟨_,(aF (bK (J5 (RT Mm Mm aH (bc dN rfl T.fO PySem.boot_len (aj (pv 0) au)) (eQ (v:=(.int 8)) rfl Aj ⟨_,rfl⟩)) (J4 (bc (Ja rfl) rfl T.Jj boot_all (aj (jg (N':=["sign"]) (ρ:=[none]) rfl (dW.of rfl (by kernel_rfl)) (eY (pv 0)) (fun _ _ _ _ _=>(bf (i:=0) (by show (["sign"]:List Str).Nodup;decide +kernel) rfl (Or.inl rfl))) (fY rfl) (fun _ _ _ _ _=>jf) (fun _ _ _ _ _=>(nA (J8 bY) (pv 0) (eQ (v:=(.str "abcdefghijklmnopqrstuvwxyz")) rfl Px ⟨_,rfl⟩) rfl))) au)))))),
  _root_.A.qL (N:=["text"]) (M:=Mo []) (dj (AE.w (Vl (AE.p (NP W6 W6 (AE.p aM) (AE.p (iT fO (aB (AE.p (ak 0 rfl)) aO))) (AE.p aM))) (iT Jj (aB (AE.np (gC (K:=K) (tg:=(.n 0)) (jh (AE.p (ak 0 rfl))) (by decide) lL (aC aag (AE.p (ak 0 rfl)) (AE.p mZ)))) aO))))) (by decide) h⟩)
abbrev gK:Stmt:=top 27
theorem jR:bG ["names", "stood", "name"] ["names"] (aQ gK):=⟨rfl,rfl,rfl,by decide +kernel,rfl,by decide +kernel,by decide +kernel⟩
theorem qO{f:Addr}{fd:FuncData}(F:nZ K "refuse_wrong_names" "refuse_wrong_names" gK f fd)(T:Txt mg)(xQ:nM P w K mg base dH 1 "is_word" ["text"] (lE d9)):cY P w K mg base dH 2 f fd ["names"] (lE dh) :=
 F.ok jR (fun vs H Q E h=>qR h) (fun cdv A outer s H vs Q E hr h=>by
  have nd:=jR.nd
  have hu:=eV hr
  have bY:=hr.units
  have KQ:=hr.mono (show 1≤_ by decide)
  obtain⟨_,FT⟩:=T.Gm
  exact⟨_,(aA (cD (rQ (Rz Mm Mm aH (bc dN rfl T.fO PySem.boot_len (aj (pv 0) au)) (eQ (v:=(.int 8)) rfl FT ⟨_,rfl⟩)))
 (aF jE)
 bu)
 (aA (bH (i:=1) nd rfl (Or.inl rfl) RQ)
 (aF (jF PassesOwn.never rfl (eY (pv 0)) (bf (i:=2) nd rfl (Or.inl rfl))
 (aA (cD (rQ (jj (bz xQ KQ rfl bQ (aj (pv 2) au))))
 (aF jE)
 bu)
 (aA (cD (Ry (RV hu (pv 2) (pv 1)) rfl)
 (aF jE)
 bu)
 (aF (Ei hu (pv 1) (pv 2) uq rfl)))))))),
  _root_.A.qL (N:=["names", "stood", "name"]) (M:=Mo [1]) (aK (cV (sS (bC (AE.p (NP W6 W6 (AE.p aM) (AE.p (iT fO (aB (AE.p (ak 0 rfl)) aO))) (AE.p aM)))))
 jM
 bw)
 (aK (Ny 1 rfl U9)
 (j9 (K:=K) (tg:=(.n 2)) (qx (ak 0 rfl)) (by decide)
 (aK (cV (sS (qX (AE.p (bR (aD (AE.w (ak 2 rfl)) bj)))))
 jM
 bw)
 (aK (cV (qX (AE.p (Yq 1 (ak 2 rfl))))
 jM
 bw)
 (Gr 1 rfl (ak 2 rfl) BK)))))) (by decide) h⟩)
abbrev fX:Stmt:=top 26
theorem fu:bG ["names", "asked", "name"] ["names", "asked"] (aQ fX):=⟨rfl,rfl,rfl,by decide +kernel,rfl,by decide +kernel,by decide +kernel⟩
theorem ud{f:Addr}{fd:FuncData}(F:nZ K "refuse_strangers" "refuse_strangers" fX f fd)(T:Txt mg)  : cY P w K mg base dH 1 f fd ["names", "asked"] (lE bh) :=
 F.ok fu (fun vs H Q E h=>qR h) (fun cdv A outer s H vs Q E hr h=>by
  have nd:=fu.nd
  have hu:=eV hr
  have bY:=hr.units
  exact⟨_,(aF (jF PassesOwn.never rfl (eY (pv 1)) (bf (i:=2) nd rfl (Or.inl rfl))
 (aF (cD (bF (fJ bY) (pv 2) (pv 0) rfl)
 (aF jE)
 bu)))),
  _root_.A.qL (N:=["names", "asked", "name"]) (M:=Mo []) (j9 (K:=K) (tg:=(.n 2)) (qx (ak 1 rfl)) (by decide)
 (cV (bC (AE.p (aC jL (AE.p (ak 2 rfl)) (AE.p (ak 0 rfl)))))
 jM
 bw)) (by decide) h⟩)
theorem rT{f:Addr}{fd:FuncData}(F:nZ K "refuse_strangers" "refuse_strangers" fX f fd)(T:Txt mg)(O:Own mg base)   : cY P w K mg base (BL P w) 1 f fd ["names", "asked"] (Xy Tb.cl bL) :=
 F.okX fu (fun vs H Q E h=>abN h) (fun cdv A outer s H vs Q E hr h=>by
  have nd:=fu.nd
  have hu:=eV hr
  have bY:=hr.units
  exact⟨_,(aF (jF J6 rfl (eY (pv 1)) (bf (i:=2) nd rfl (Or.inl rfl))
 (aF (cD (bF (fJ bY) (pv 2) (pv 0) rfl)
 (aF (zM PySem.F.excBase_ValueError O.Sq (En (gV (vN (pv 2)) (gV (tU (by decide +kernel)) FW)) (by decide)) rfl))
 bu)))),
  _root_.A.aaY (N:=["names", "asked", "name"]) (M:=Mo []) (Xf (K:=K) (tg:=(.n 2)) (qx (ak 1 rfl)) (by decide)
 (Lb (bC (AE.p (aC jL (AE.p (ak 2 rfl)) (AE.p (ak 0 rfl)))))
 (xq (gP (vD 2 rfl) (gP tK Em)))
 (xr bw))) (by decide) h⟩)
abbrev gJ:Stmt:=top 28
theorem jQ:bG ["names", "arrows", "stood", "tail", "head"] ["names", "arrows"] (aQ gJ):=⟨rfl,rfl,rfl,by decide +kernel,rfl,by decide +kernel,by decide +kernel⟩
theorem qM{f:Addr}{fd:FuncData}(F:nZ K "refuse_wrong_pairs" "refuse_wrong_pairs" gJ f fd)(T:Txt mg)(bJ:nM P w K mg base dH 1 "refuse_strangers" ["names", "asked"] (lE bh)):cY P w K mg base dH 2 f fd ["names", "arrows"] (lE dg) :=
 F.ok jQ (fun vs H Q E h=>qR h) (fun cdv A outer s H vs Q E hr h=>by
  have nd:=jQ.nd
  have hu:=eV hr
  have bY:=hr.units
  have dG:=hr.mono (show 1≤_ by decide)
  exact⟨_,(aA (bH (i:=2) nd rfl (Or.inl rfl) RP)
 (aF (jF PassesOwn.never rfl (eY (pv 1)) (p6 rfl (cM (bf (i:=3) nd rfl (Or.inl rfl)) (cM (bf (i:=4) nd rfl (Or.inl rfl)) lU)))
 (aA (dJ (bz bJ dG rfl bQ (aj (pv 0) (aj (dO (aj (pv 3) (aj (pv 4) au))) au))))
 (aA (cD (bF (jX bY) (pv 3) (pv 4) (cF _))
 (aF jE)
 bu)
 (aA (cD (Ry (RV hu (cZ (aj (pv 3) (aj (pv 4) au))) (pv 2)) rfl)
 (aF jE)
 bu)
 (aA (Ei hu (pv 2) (cZ (aj (pv 3) (aj (pv 4) au))) uq rfl)
 (aF (Ei hu (pv 2) (cZ (aj (pv 4) (aj (pv 3) au))) uq rfl))))))))),
  _root_.A.qL (N:=["names", "arrows", "stood", "tail", "head"]) (M:=Mo [2]) (aK (Ny 2 rfl U8)
 (j9 (K:=K) (tg:=(.t [3,4])) (qx (ak 1 rfl)) (by decide)
 (aK (t6 (AE.p (bR (aD (AE.w (ak 0 rfl)) (aD (AW.nv (AE.w (gZ (aB (ak 3 rfl) (aB (ak 4 rfl) aO))))) bj)))))
 (aK (cV (bC (AE.p (aC xm (AE.p (ak 3 rfl)) (AE.p (ak 4 rfl)))))
 jM
 bw)
 (aK (cV (qX (AE.p (Yq 2 (iJ (aB (ak 3 rfl) (aB (ak 4 rfl) aO))))))
 jM
 bw)
 (aK (Gr 2 rfl (iJ (aB (ak 3 rfl) (aB (ak 4 rfl) aO))) BK)
 (Gr 2 rfl (iJ (aB (ak 4 rfl) (aB (ak 3 rfl) aO))) BK))))))) (by decide) h⟩)
abbrev rN:Stmt:=top 23
theorem vB:bG ["net", "name"] ["net", "name"] (aQ rN):=⟨rfl,rfl,rfl,by decide +kernel,rfl,by decide +kernel,by decide +kernel⟩
theorem Ew{f:Addr}{fd:FuncData}(F:nZ K "elders_of" "elders_of" rN f fd)(T:Txt mg)(bJ:nM P w K mg base dH 1 "refuse_strangers" ["names", "asked"] (lE bh)):cY P w K mg base dH 2 f fd ["net", "name"] (lE cI) :=
 F.ok vB (fun vs H Q E h=>qR h) (fun cdv A outer s H vs Q E hr h=>by
  have nd:=vB.nd
  have hu:=eV hr
  have bY:=hr.units
  have dG:=hr.mono (show 1≤_ by decide)
  exact⟨_,(aA (dJ (bz bJ dG rfl bQ (aj (cO bN (pv 0) aH (fun _ _=>rfl)) (aj (dO (aj (pv 1) au)) au))))
 (aF (bK (dm gY rfl T.fG boot_tuple (aj (jg (N':=["name", "tail", "head"]) (ρ:=[some 1,none,none]) rfl (dW.of rfl (by kernel_rfl)) (eY (cO bN (pv 0) aH (fun _ _=>rfl))) (fun _ _ _ _ _=>(p6 rfl (cM (bf (i:=1) (by show (["name", "tail", "head"]:List Str).Nodup;decide +kernel) rfl (Or.inl rfl)) (cM (bf (i:=2) (by show (["name", "tail", "head"]:List Str).Nodup;decide +kernel) rfl (Or.inl rfl)) lU)))) (KY (pI rfl (pI rfl KZ wY) (FQ wY))) (fun _ _ _ _ _=>(tE (bF (jX bY) (pv 2) (pv 0) (cF _)))) (fun _ _ _ _ _=>(pv 1))) au))))),
  _root_.A.qL (N:=["net", "name"]) (M:=Mo []) (aK (t6 (AE.p (bR (aD (AE.w (aC gB (AE.p (ak 0 rfl)) (AE.p aM))) (aD (AW.nv (AE.w (gZ (aB (ak 1 rfl) aO)))) bj)))))
 (dj (AE.w (iT fG (aB (AE.np (gC (K:=K) (tg:=(.t [1,2])) (jh (AE.p (aC gB (AE.p (ak 0 rfl)) (AE.p aM)))) (by decide) (bC (AE.p (aC xm (AE.p (ak 2 rfl)) (AE.p (ak 0 rfl))))) (ak 1 rfl))) aO))))) (by decide) h⟩)
abbrev nU:Stmt:=top 31
theorem rH:bG ["net", "told", "name"] ["net", "told"] (aQ nU):=⟨rfl,rfl,rfl,by decide +kernel,rfl,by decide +kernel,by decide +kernel⟩
theorem zW{f:Addr}{fd:FuncData}(F:nZ K "first_ready" "first_ready" nU f fd)(T:Txt mg)(iw:nM P w K mg base dH 2 "elders_of" ["net", "name"] (lE cI)):cY P w K mg base dH 3 f fd ["net", "told"] (lE cX) :=
 F.ok rH (fun vs H Q E h=>qR h) (fun cdv A outer s H vs Q E hr h=>by
  have nd:=rH.nd
  have hu:=eV hr
  have bY:=hr.units
  have lW:=hr.mono (show 2≤_ by decide)
  exact⟨_,(aA (jF PassesOwn.never rfl (eY (cO bN (pv 0) aH (fun _ _=>rfl))) (bf (i:=2) nd rfl (Or.inl rfl))
 (aF (cD (PW.pt (pw_and (bF (fJ bY) (pv 2) (pv 1) rfl) (pw_and1 (jj (bc (Ja rfl) rfl T.Jj boot_all (aj (jg (N':=["told", "elder"]) (ρ:=[some 1,none]) rfl (dW.of rfl (by kernel_rfl)) (eY (bz iw lW rfl bQ (aj (pv 0) (aj (pv 2) au)))) (fun _ _ _ _ _=>(bf (i:=1) (by show (["told", "elder"]:List Str).Nodup;decide +kernel) rfl (Or.inl rfl))) (fY rfl) (fun _ _ _ _ _=>jf) (fun _ _ _ _ _=>(nA (J8 bY) (pv 1) (pv 0) rfl))) au))))))
 (aF (bK (pv 2)))
 bu)))
 (aF (bK RN))),
  _root_.A.qL (N:=["net", "told", "name"]) (M:=Mo []) (aK (j9 (K:=K) (tg:=(.n 2)) (qx (aC gB (AE.p (ak 0 rfl)) (AE.p aM))) (by decide)
 (cV (Gp (bC (AE.p (aC jL (AE.p (ak 2 rfl)) (AE.p (ak 1 rfl))))) (qX (AE.p (iT Jj (aB (AE.np (gC (K:=K) (tg:=(.n 1)) (jh (AE.p (bR (aD (AE.w (ak 0 rfl)) (aD (AE.w (ak 2 rfl)) bj))))) (by decide) lL (aC aag (AE.p (ak 1 rfl)) (AE.p (ak 0 rfl))))) aO)))))
 (dj (AE.w (ak 2 rfl)))
 bw))
 (dj (AE.w Yo))) (by decide) h⟩)
abbrev wH:Stmt:=top 24
theorem zE:bG ["net", "told", "name"] ["net"] (aQ wH):=⟨rfl,rfl,rfl,by decide +kernel,rfl,by decide +kernel,by decide +kernel⟩
theorem Kg{f:Addr}{fd:FuncData}(F:nZ K "in_turn" "in_turn" wH f fd)(T:Txt mg)(kY:nM P w K mg base dH 3 "first_ready" ["net", "told"] (lE cX)):cY P w K mg base dH 4 f fd ["net"] (yC pC) :=
 F.ok zE (fun vs H Q E h=>Bu h) (fun cdv A outer s H vs Q E hr h=>by
  have nd:=zE.nd
  have hu:=eV hr
  have bY:=hr.units
  have sr:=hr.mono (show 3≤_ by decide)
  exact⟨_,(aA (bH (i:=1) nd rfl (Or.inl rfl) (dO au))
 (aA (bH (i:=2) nd rfl (Or.inl rfl) (bz kY sr rfl bQ (aj (pv 0) (aj (pv 1) au))))
 (aA (RG PassesOwn.never (bF RZ (pv 2) RN (cF _))
 (aA (dJ (mO PySem.F.plainAttrs_list PySem.F.slot_list_append PySem.F.type_list_append d8 (pv 1) (aj (pv 2) au)))
 (aF (bH (i:=2) nd rfl (Or.inl rfl) (bz kY sr rfl bQ (aj (pv 0) (aj (pv 1) au)))))))
 (aF (bK (pv 1)))))),
  _root_.A.runN (N:=["net", "told", "name"]) (M:=Mo [1]) (aK (mX 1 rfl (gZ aO))
 (aK (bO 2 rfl (NQ (aD (AW.p (AE.w (ak 0 rfl))) (aD (AE.w (xF 1)) bj))))
 (aK (Vf 100 (bC (AE.p (aC W7 (AE.p (ak 2 rfl)) (AE.p Yo))))
 (aK (fP 1 rfl (ak 2 rfl))
 (bO 2 rfl (NQ (aD (AW.p (AE.w (ak 0 rfl))) (aD (AE.w (xF 1)) bj))))))
 (mD 1 rfl)))) (by decide) h⟩)
abbrev nQ:Stmt:=top 29
theorem rF:bG ["net", "told", "left"] ["net"] (aQ nQ):=⟨rfl,rfl,rfl,by decide +kernel,rfl,by decide +kernel,by decide +kernel⟩
theorem zT{f:Addr}{fd:FuncData}(F:nZ K "refuse_ring" "refuse_ring" nQ f fd)(T:Txt mg)(xR:nM P w K mg base dH 4 "in_turn" ["net"] (yC pC)):cY P w K mg base dH 5 f fd ["net"] (lE iY) :=
 F.ok rF (fun vs H Q E h=>qR h) (fun cdv A outer s H vs Q E hr h=>by
  have nd:=rF.nd
  have hu:=eV hr
  have bY:=hr.units
  have KR:=hr.mono (show 4≤_ by decide)
  exact⟨_,(aA (bH (i:=1) nd rfl (Or.inr rfl) (bz xR KR rfl bQ (aj (pv 0) au)))
 (aA (tG (i:=2) (N':=["told", "name"]) (ρ:=[some 1,none]) rfl nd rfl (Or.inl rfl) (dW.of rfl (by kernel_rfl)) (eY (cO bN (pv 0) aH (fun _ _=>rfl))) (fun _ _ _ _ _=>(bf (i:=1) (by show (["told", "name"]:List Str).Nodup;decide +kernel) rfl (Or.inl rfl))) (fY rfl) (fun _ _ _ _ _=>(tE (bF (fJ bY) (pv 1) (pv 0) rfl))) (fun _ _ _ _ _=>(pv 1)))
 (aF (cD (Rx (pv 2) (by intro _;rfl))
 (aF jE)
 bu)))),
  _root_.A.qL (N:=["net", "told", "left"]) (M:=Mo []) (aK (bO 1 rfl (AE.nv (jN (aD (AE.w (ak 0 rfl)) bj))))
 (aK (bO 2 rfl (AE.nv (gC (K:=K) (tg:=(.n 1)) (jh (AE.p (aC gB (AE.p (ak 0 rfl)) (AE.p aM)))) (by decide) (bC (AE.p (aC jL (AE.p (ak 1 rfl)) (AE.p (ak 0 rfl))))) (ak 1 rfl))))
 (cV (Vb (AE.p (ak 2 rfl)))
 jM
 bw))) (by decide) h⟩)
abbrev uF:Stmt:=top 22
theorem xV:bG ["names", "arrows", "pairs", "net"] ["names", "arrows"] (aQ uF):=⟨rfl,rfl,rfl,by decide +kernel,rfl,by decide +kernel,by decide +kernel⟩
theorem Hz{f:Addr}{fd:FuncData}(F:nZ K "net_made" "net_made" uF f fd)(T:Txt mg)(oE:nM P w K mg base dH 4 "sorted_rows" ["names", "rows"] (yC gA))(iu:nM P w K mg base dH 2 "refuse_wrong_names" ["names"] (lE dh))(ir:nM P w K mg base dH 2 "refuse_wrong_pairs" ["names", "arrows"] (lE dg))(oF:nM P w K mg base dH 5 "refuse_ring" ["net"] (lE iY)):cY P w K mg base dH 6 f fd ["names", "arrows"] (lE gQ) :=
 F.ok xV (fun vs H Q E h=>qR h) (fun cdv A outer s H vs Q E hr h=>by
  have nd:=xV.nd
  have hu:=eV hr
  have bY:=hr.units
  have Ae:=hr.mono (show 4≤_ by decide)
  have qU:=hr.mono (show 2≤_ by decide)
  have qT:=hr.mono (show 2≤_ by decide)
  have Af:=hr.mono (show 5≤_ by decide)
  exact⟨_,(aA (dJ (bz iu qU rfl bQ (aj (pv 0) au)))
 (aA (dJ (bz ir qT rfl bQ (aj (pv 0) (aj (pv 1) au))))
 (aA (tG (i:=2) (N':=["tail", "head"]) (ρ:=[none,none]) rfl nd rfl (Or.inl rfl) (dW.of rfl (by kernel_rfl)) (eY (pv 1)) (fun _ _ _ _ _=>(p6 rfl (cM (bf (i:=0) (by show (["tail", "head"]:List Str).Nodup;decide +kernel) rfl (Or.inl rfl)) (cM (bf (i:=1) (by show (["tail", "head"]:List Str).Nodup;decide +kernel) rfl (Or.inl rfl)) lU)))) (KY (pI rfl (pI rfl KZ wY) (FQ wY))) (fun _ _ _ _ _=>jf) (fun _ _ _ _ _=>(cZ (aj (pv 0) (aj (pv 1) au)))))
 (aA (bH (i:=3) nd rfl (Or.inl rfl) (cZ (aj (dm gY rfl T.fG boot_tuple (aj (pv 0) au)) (aj (dm gY rfl T.fG boot_tuple (aj (bz oE Ae rfl bQ (aj (pv 0) (aj (pv 2) au))) au)) au))))
 (aA (dJ (bz oF Af rfl bQ (aj (pv 3) au)))
 (aF (bK (pv 3)))))))),
  _root_.A.qL (N:=["names", "arrows", "pairs", "net"]) (M:=Mo []) (aK (t6 (AE.p (bR (aD (AE.w (ak 0 rfl)) bj))))
 (aK (t6 (AE.p (bR (aD (AE.w (ak 0 rfl)) (aD (AE.w (ak 1 rfl)) bj)))))
 (aK (bO 2 rfl (AE.nv (gC (K:=K) (tg:=(.t [0,1])) (jh (AE.p (ak 1 rfl))) (by decide) lL (iJ (aB (ak 0 rfl) (aB (ak 1 rfl) aO))))))
 (aK (bO 3 rfl (iJ (aB (iT fG (aB (AE.p (ak 0 rfl)) aO)) (aB (iT fG (aB (AE.np (jN (aD (AE.w (ak 0 rfl)) (aD (AE.w (ak 2 rfl)) bj)))) aO)) aO))))
 (aK (t6 (AE.p (bR (aD (AE.w (ak 3 rfl)) bj))))
 (dj (AE.w (ak 3 rfl)))))))) (by decide) h⟩)
abbrev lF:Stmt:=top 34
theorem oX:bG ["net", "tail", "head"] ["net", "tail", "head"] (aQ lF):=⟨rfl,rfl,rfl,by decide +kernel,rfl,by decide +kernel,by decide +kernel⟩
theorem wN{f:Addr}{fd:FuncData}(F:nZ K "can_be_turned" "can_be_turned" lF f fd)(T:Txt mg)(iw:nM P w K mg base dH 2 "elders_of" ["net", "name"] (lE cI)):cY P w K mg base dH 3 f fd ["net", "tail", "head"] (lE dw) :=
 F.ok oX (fun vs H Q E h=>qR h) (fun cdv A outer s H vs Q E hr h=>by
  have nd:=oX.nd
  have hu:=eV hr
  have bY:=hr.units
  have lW:=hr.mono (show 2≤_ by decide)
  exact⟨_,(aF (bK (nA (R4 bY) (dm (CK rfl) rfl T.Yl boot_set (aj (bz iw lW rfl bQ (aj (pv 0) (aj (pv 2) au))) au)) (dm (CK rfl) rfl T.Yl boot_set (aj (aW Wg (bz iw lW rfl bQ (aj (pv 0) (aj (pv 1) au))) (cZ (aj (pv 1) au))) au)) (cF _)))),
  _root_.A.qL (N:=["net", "tail", "head"]) (M:=Mo []) (dj (AE.w (Xl (AE.p (bR (aD (AE.w (ak 0 rfl)) (aD (AE.w (ak 2 rfl)) bj)))) (AE.p (aC aah (AE.p (bR (aD (AE.w (ak 0 rfl)) (aD (AE.w (ak 1 rfl)) bj)))) (AE.p (iJ (aB (ak 1 rfl) aO)))))))) (by decide) h⟩)
abbrev lQ:Stmt:=top 33
theorem kE:bG ["net", "tail", "head", "names", "arrows", "others"] ["net", "tail", "head"] (aQ lQ):=⟨rfl,rfl,rfl,by decide +kernel,rfl,by decide +kernel,by decide +kernel⟩
theorem Bq{f:Addr}{fd:FuncData}(F:nZ K "net_turned" "net_turned" lQ f fd)(T:Txt mg)(km:nM P w K mg base dH 6 "net_made" ["names", "arrows"] (lE gQ))(bJ:nM P w K mg base dH 1 "refuse_strangers" ["names", "asked"] (lE bh))(eO:nM P w K mg base dH 3 "can_be_turned" ["net", "tail", "head"] (lE dw)):cY P w K mg base dH 7 f fd ["net", "tail", "head"] (lE iB) :=
 F.ok kE (fun vs H Q E h=>qR h) (fun cdv A outer s H vs Q E hr h=>by
  have nd:=kE.nd
  have hu:=eV hr
  have bY:=hr.units
  have rZ:=hr.mono (show 6≤_ by decide)
  have dG:=hr.mono (show 1≤_ by decide)
  have j4:=hr.mono (show 3≤_ by decide)
  exact⟨_,(aA (Ej (pv 0) (p6 rfl (cM (bf (i:=3) nd rfl (Or.inl rfl)) (cM (bf (i:=4) nd rfl (Or.inl rfl)) lU))))
 (aA (dJ (bz bJ dG rfl bQ (aj (pv 3) (aj (dO (aj (pv 1) (aj (pv 2) au))) au))))
 (aA (cD (bF (fJ bY) (cZ (aj (pv 1) (aj (pv 2) au))) (pv 4) rfl)
 (aF jE)
 bu)
 (aA (cD (rQ (jj (bz eO j4 rfl bQ (aj (pv 0) (aj (pv 1) (aj (pv 2) au))))))
 (aF jE)
 bu)
 (aA (tG (i:=5) (N':=["tail", "head", "arrow"]) (ρ:=[some 1,some 2,none]) rfl nd rfl (Or.inl rfl) (dW.of rfl (by kernel_rfl)) (eY (pv 4)) (fun _ _ _ _ _=>(bf (i:=2) (by show (["tail", "head", "arrow"]:List Str).Nodup;decide +kernel) rfl (Or.inl rfl))) (fY rfl) (fun _ _ _ _ _=>(tE (bF (uK bY) (pv 2) (cZ (aj (pv 0) (aj (pv 1) au))) (cF _)))) (fun _ _ _ _ _=>(pv 2)))
 (aF (bK (bz km rZ rfl bQ (aj (pv 3) (aj (aW cu (pv 5) (dO (aj (cZ (aj (pv 2) (aj (pv 1) au))) au))) au)))))))))),
  _root_.A.qL (N:=["net", "tail", "head", "names", "arrows", "others"]) (M:=Mo []) (aK (Vg (K:=K) (.t [3,4]) (by decide) (ak 0 rfl))
 (aK (t6 (AE.p (bR (aD (AE.w (ak 3 rfl)) (aD (AW.nv (AE.w (gZ (aB (ak 1 rfl) (aB (ak 2 rfl) aO))))) bj)))))
 (aK (cV (bC (AE.p (aC jL (AE.p (iJ (aB (ak 1 rfl) (aB (ak 2 rfl) aO)))) (AE.p (ak 4 rfl)))))
 jM
 bw)
 (aK (cV (sS (qX (AE.p (bR (aD (AE.w (ak 0 rfl)) (aD (AE.w (ak 1 rfl)) (aD (AE.w (ak 2 rfl)) bj)))))))
 jM
 bw)
 (aK (bO 5 rfl (AE.nv (gC (K:=K) (tg:=(.n 2)) (jh (AE.p (ak 4 rfl))) (by decide) (bC (AE.p (aC La (AE.p (ak 2 rfl)) (AE.p (iJ (aB (ak 0 rfl) (aB (ak 1 rfl) aO))))))) (ak 2 rfl))))
 (dj (AE.w (bR (aD (AE.w (ak 3 rfl)) (aD (AE.w (aC gG (AE.p (ak 5 rfl)) (AE.np (gZ (aB (iJ (aB (ak 2 rfl) (aB (ak 1 rfl) aO))) aO))))) bj)))))))))) (by decide) h⟩)
theorem zX{f:Addr}{fd:FuncData}(F:nZ K "net_turned" "net_turned" lQ f fd)(T:Txt mg)(O:Own mg base)(km:nM P w K mg base dH 6 "net_made" ["names", "arrows"] (lE gQ))(eO:nM P w K mg base dH 3 "can_be_turned" ["net", "tail", "head"] (lE dw))(iU:nM P w K mg base (BL P w) 1 "refuse_strangers" ["names", "asked"] (Xy Tb.cl bL)):cY P w K mg base (BL P w) 7 f fd ["net", "tail", "head"] (Xy Tb.cl cC) :=
 F.okX kE (fun vs H Q E h=>abN h) (fun cdv A outer s H vs Q E hr h=>by
  have nd:=kE.nd
  have hu:=eV hr
  have bY:=hr.units
  have rZ:=hr.mono (show 6≤_ by decide)
  have sE:=hr.mono (show 1≤_ by decide)
  have j4:=hr.mono (show 3≤_ by decide)
  exact⟨_,(aA (Ej (pv 0) (p6 rfl (cM (bf (i:=3) nd rfl (Or.inl rfl)) (cM (bf (i:=4) nd rfl (Or.inl rfl)) lU))))
 (aA (dJ (bz iU sE rfl Wa (aj (pv 3) (aj (dO (aj (pv 1) (aj (pv 2) au))) au))))
 (aA (cD (bF (fJ bY) (cZ (aj (pv 1) (aj (pv 2) au))) (pv 4) rfl)
 (aF (zM PySem.F.excBase_ValueError O.O3 (En (gV (tU (by decide +kernel)) (gV (vN (pv 1)) (gV (tU (by decide +kernel)) (gV (vN (pv 2)) FW)))) (by decide)) rfl))
 bu)
 (aA (cD (rQ (jj (bz eO j4 rfl bQ (aj (pv 0) (aj (pv 1) (aj (pv 2) au))))))
 (aF (zM PySem.F.excBase_ValueError O.Ss (En (gV (tU (by decide +kernel)) (gV (vN (pv 1)) (gV (tU (by decide +kernel)) (gV (vN (pv 2)) (gV (tU (by decide +kernel)) FW))))) (by decide)) rfl))
 bu)
 (aA (tG (i:=5) (N':=["tail", "head", "arrow"]) (ρ:=[some 1,some 2,none]) rfl nd rfl (Or.inl rfl) (dW.of rfl (by kernel_rfl)) (eY (pv 4)) (fun _ _ _ _ _=>(bf (i:=2) (by show (["tail", "head", "arrow"]:List Str).Nodup;decide +kernel) rfl (Or.inl rfl))) (fY rfl) (fun _ _ _ _ _=>(tE (bF (uK bY) (pv 2) (cZ (aj (pv 0) (aj (pv 1) au))) (cF _)))) (fun _ _ _ _ _=>(pv 2)))
 (aF (bK (bz km rZ rfl bQ (aj (pv 3) (aj (aW cu (pv 5) (dO (aj (cZ (aj (pv 2) (aj (pv 1) au))) au))) au)))))))))),
  _root_.A.aaY (N:=["net", "tail", "head", "names", "arrows", "others"]) (M:=Mo []) (vZ (xr (Vg (K:=K) (.t [3,4]) (by decide) (ak 0 rfl)))
 (vZ (Ve (aD (AE.w (ak 3 rfl)) (aD (AW.nv (AE.w (gZ (aB (ak 1 rfl) (aB (ak 2 rfl) aO))))) bj)))
 (vZ (Lb (bC (AE.p (aC jL (AE.p (iJ (aB (ak 1 rfl) (aB (ak 2 rfl) aO)))) (AE.p (ak 4 rfl)))))
 (xq (gP tK (gP (vD 1 rfl) (gP tK (gP (vD 2 rfl) Em)))))
 (xr bw))
 (vZ (Lb (sS (qX (AE.p (bR (aD (AE.w (ak 0 rfl)) (aD (AE.w (ak 1 rfl)) (aD (AE.w (ak 2 rfl)) bj)))))))
 (xq (gP tK (gP (vD 1 rfl) (gP tK (gP (vD 2 rfl) (gP tK Em))))))
 (xr bw))
 (vZ (xr (bO 5 rfl (AE.nv (gC (K:=K) (tg:=(.n 2)) (jh (AE.p (ak 4 rfl))) (by decide) (bC (AE.p (aC La (AE.p (ak 2 rfl)) (AE.p (iJ (aB (ak 0 rfl) (aB (ak 1 rfl) aO))))))) (ak 2 rfl)))))
 (xr (dj (AE.w (bR (aD (AE.w (ak 3 rfl)) (aD (AE.w (aC gG (AE.p (ak 5 rfl)) (AE.np (gZ (aB (iJ (aB (ak 2 rfl) (aB (ak 1 rfl) aO))) aO))))) bj))))))))))) (by decide) h⟩)
abbrev wF:Stmt:=top 40
theorem zA:bG ["_law_found", "_law_due", "_law_one", "_law_other"] ["_law_found", "_law_due"] (aQ wF):=⟨rfl,rfl,rfl,by decide +kernel,rfl,by decide +kernel,by decide +kernel⟩
theorem zV{f:Addr}{fd:FuncData}(F:nZ K "_law_alike" "_law_alike" wF f fd)(T:Txt mg)  (self:∀ n,cY P w K mg base dH (n+1) f fd ["_law_found", "_law_due"] (lE (cj n))→nM P w K mg base dH (n+1) "_law_alike" ["_law_found", "_law_due"] (lE (cj n))):∀ n,cY P w K mg base dH (n+1) f fd ["_law_found", "_law_due"] (lE (cj n))
 | 0=>Py
 | n+1=>F.ok zA (fun vs H Q E h=>qR h) (fun cdv A outer s H vs Q E hr h=>by
  have jy:∀ m:Nat,m=n→nM P w K mg base dH (m+1) "_law_alike" ["_law_found", "_law_due"] (lE (cj m)):=fun m e=>by subst e;exact self m (zV F T  self m)
  have jy:=fun m:Nat=>(jy n rfl:nM P w K mg base dH (n+1) "_law_alike" ["_law_found", "_law_due"] (lE (cj n)))
  have nd:=zA.nd
  have hu:=eV hr
  have bY:=hr.units
  have qi:=hr.mono (show (n+1)≤_ by omega)
  exact⟨_,(aA (cD (PW.pt (pw_or (jj (bc lA rfl T.bI boot_isinstance (aj (pv 1) (aj (ph rfl T.Nt boot_str) au)))) (pw_or1 (jj (bc lA rfl T.bI boot_isinstance (aj (pv 1) (aj (ph rfl T.Jh boot_int) au)))))))
 (aA (cD (PW.pt (pw_or (bF (uK bY) (bc lA rfl T.bI boot_isinstance (aj (pv 0) (aj (ph rfl T.UW boot_bool) au))) (bc lA rfl T.bI boot_isinstance (aj (pv 1) (aj (ph rfl T.UW boot_bool) au))) (cF _)) (pw_or1 (bF (uK bY) (bc lA rfl T.bI boot_isinstance (aj (pv 0) (aj (ph rfl T.Nt boot_str) au))) (bc lA rfl T.bI boot_isinstance (aj (pv 1) (aj (ph rfl T.Nt boot_str) au))) (cF _)))))
 (aF (bK uq))
 bu)
 (aF (bK (J5 (bc Zp.CT rfl T.bI boot_isinstance (aj (pv 0) (aj (cZ (aj (ph rfl T.Jh boot_int) (aj (ph rfl T.Nt boot_str) au))) au))) (J4 (nA (jX bY) (pv 0) (pv 1) (cF _)))))))
 bu)
 (aA (cD (PW.pt (pw_or (bF (uK bY) (bc lA rfl T.bI boot_isinstance (aj (pv 0) (aj (ph rfl T.lK boot_list) au))) (bc lA rfl T.bI boot_isinstance (aj (pv 1) (aj (ph rfl T.lK boot_list) au))) (cF _)) (pw_or1 (rQ (jj (bc Zp.CT rfl T.bI boot_isinstance (aj (pv 0) (aj (cZ (aj (ph rfl T.lK boot_list) (aj (ph rfl T.fG boot_tuple) au))) au))))))))
 (aF (bK uq))
 bu)
 (aA (cD (bF (uK bY) (bc dN rfl T.fO PySem.boot_len (aj (pv 0) au)) (bc dN rfl T.fO PySem.boot_len (aj (pv 1) au)) (cF _))
 (aF (bK uq))
 bu)
 (aA (jF PassesOwn.never rfl (Zp.V4 rfl T.acb (pv 0) (pv 1)) (p6 rfl (cM (bf (i:=2) nd rfl (Or.inl rfl)) (cM (bf (i:=3) nd rfl (Or.inl rfl)) lU)))
 (aF (cD (rQ (jj (bz (jy n) qi rfl bQ (aj (pv 2) (aj (pv 3) au)))))
 (aF (bK uq))
 bu)))
 (aF (bK uq)))))),
  _root_.A.qL (N:=["_law_found", "_law_due", "_law_one", "_law_other"]) (M:=Mo []) (aK (cV (Nv (qX (AE.p (Ju (ty_str K) (AE.p (ak 1 rfl))))) (qX (AE.p (Ju (ty_int K) (AE.p (ak 1 rfl))))))
 (aK (cV (Nv (bC (AE.p (aC La (AE.p (Ju (ty_bool K) (AE.p (ak 0 rfl)))) (AE.p (Ju (ty_bool K) (AE.p (ak 1 rfl))))))) (bC (AE.p (aC La (AE.p (Ju (ty_str K) (AE.p (ak 0 rfl)))) (AE.p (Ju (ty_str K) (AE.p (ak 1 rfl))))))))
 (dj (AE.w BK))
 bw)
 (dj (AE.w (Vl (AE.p (Zp.Yp (Zp.aaK (ty_int K) (ty_str K)) (by decide) (AE.p (ak 0 rfl)))) (aC xm (AE.p (ak 0 rfl)) (AE.p (ak 1 rfl)))))))
 bw)
 (aK (cV (Nv (bC (AE.p (aC La (AE.p (Ju (ty_list K) (AE.p (ak 0 rfl)))) (AE.p (Ju (ty_list K) (AE.p (ak 1 rfl))))))) (sS (qX (AE.p (Zp.Yp (Zp.aaK (ty_list K) (ty_tuple K)) (by decide) (AE.p (ak 0 rfl)))))))
 (dj (AE.w BK))
 bw)
 (aK (cV (bC (AE.p (aC La (AE.p (iT fO (aB (AE.p (ak 0 rfl)) aO))) (AE.p (iT fO (aB (AE.p (ak 1 rfl)) aO))))))
 (dj (AE.w BK))
 bw)
 (aK (j9 (K:=K) (tg:=(.t [2,3])) (Zp.Xh (ak 0 rfl) (ak 1 rfl)) (by decide)
 (cV (sS (qX (AE.p (bR (aD (AE.w (ak 2 rfl)) (aD (AE.w (ak 3 rfl)) bj))))))
 (dj (AE.w BK))
 bw))
 (dj (AE.w BK)))))) (by decide) h⟩)
abbrev uH:Stmt:=top 44
theorem xX:bG ["_law_arrows", "_law_name"] ["_law_arrows", "_law_name"] (aQ uH):=⟨rfl,rfl,rfl,by decide +kernel,rfl,by decide +kernel,by decide +kernel⟩
theorem HD{f:Addr}{fd:FuncData}(F:nZ K "_law_elders" "_law_elders" uH f fd)(T:Txt mg)  : cY P w K mg base dH 1 f fd ["_law_arrows", "_law_name"] (yC fc) :=
 F.ok xX (fun vs H Q E h=>Bu h) (fun cdv A outer s H vs Q E hr h=>by
  have nd:=xX.nd
  have hu:=eV hr
  have bY:=hr.units
  exact⟨_,(aF (bK (jg (N':=["_law_name", "_law_tail", "_law_head"]) (ρ:=[some 1,none,none]) rfl (dW.of rfl (by kernel_rfl)) (eY (pv 0)) (fun _ _ _ _ _=>(p6 rfl (cM (bf (i:=1) (by show (["_law_name", "_law_tail", "_law_head"]:List Str).Nodup;decide +kernel) rfl (Or.inl rfl)) (cM (bf (i:=2) (by show (["_law_name", "_law_tail", "_law_head"]:List Str).Nodup;decide +kernel) rfl (Or.inl rfl)) lU)))) (KY (pI rfl (pI rfl KZ wY) (FQ wY))) (fun _ _ _ _ _=>(tE (bF (jX bY) (pv 2) (pv 0) (cF _)))) (fun _ _ _ _ _=>(pv 1))))),
  _root_.A.runN (N:=["_law_arrows", "_law_name"]) (M:=Mo []) (tZ (AE.w (gC (K:=K) (tg:=(.t [1,2])) (jh (AE.p (ak 0 rfl))) (by decide) (bC (AE.p (aC xm (AE.p (ak 2 rfl)) (AE.p (ak 0 rfl))))) (ak 1 rfl)))) (by decide) h⟩)
abbrev rM:Stmt:=top 45
theorem vA:bG ["_law_arrows", "_law_found", "_law_tail", "_law_head"] ["_law_arrows"] (aQ rM):=⟨rfl,rfl,rfl,by decide +kernel,rfl,by decide +kernel,by decide +kernel⟩
theorem Eu{f:Addr}{fd:FuncData}(F:nZ K "_law_covered" "_law_covered" rM f fd)(T:Txt mg)(qD:nM P w K mg base dH 1 "_law_elders" ["_law_arrows", "_law_name"] (yC fc)):cY P w K mg base dH 2 f fd ["_law_arrows"] (yC jt) :=
 F.ok vA (fun vs H Q E h=>Bu h) (fun cdv A outer s H vs Q E hr h=>by
  have nd:=vA.nd
  have hu:=eV hr
  have bY:=hr.units
  have yc:=hr.mono (show 1≤_ by decide)
  exact⟨_,(aA (bH (i:=1) nd rfl (Or.inl rfl) (dO au))
 (aA (jF PassesOwn.never rfl (eY (pv 0)) (p6 rfl (cM (bf (i:=2) nd rfl (Or.inl rfl)) (cM (bf (i:=3) nd rfl (Or.inl rfl)) lU)))
 (aF (cD (bF (jX bY) (bc Ax rfl T.Az boot_sorted (aj (bz qD yc rfl bQ (aj (pv 0) (aj (pv 3) au))) au)) (bc Ax rfl T.Az boot_sorted (aj (aW cu (bz qD yc rfl bQ (aj (pv 0) (aj (pv 2) au))) (dO (aj (pv 2) au))) au)) (cF _))
 (aF (dJ (mO PySem.F.plainAttrs_list PySem.F.slot_list_append PySem.F.type_list_append d8 (pv 1) (aj (cZ (aj (pv 2) (aj (pv 3) au))) au))))
 bu)))
 (aF (bK (pv 1))))),
  _root_.A.runN (N:=["_law_arrows", "_law_found", "_law_tail", "_law_head"]) (M:=Mo [1]) (aK (mX 1 rfl (gZ aO))
 (aK (j9 (K:=K) (tg:=(.t [2,3])) (qx (ak 0 rfl)) (by decide)
 (cV (bC (AE.p (aC xm (AE.np (iT Nu (aB (AE.np (jN (aD (AE.w (ak 0 rfl)) (aD (AE.w (ak 3 rfl)) bj)))) aO))) (AE.np (iT Nu (aB (AE.p (aC gG (AE.np (jN (aD (AE.w (ak 0 rfl)) (aD (AE.w (ak 2 rfl)) bj)))) (AE.np (gZ (aB (ak 2 rfl) aO))))) aO))))))
 (fP 1 rfl (iJ (aB (ak 2 rfl) (aB (ak 3 rfl) aO))))
 bw))
 (mD 1 rfl))) (by decide) h⟩)
abbrev rK:Stmt:=top 46
theorem vz:bG ["_law_arrows", "_law_arrow"] ["_law_arrows", "_law_arrow"] (aQ rK):=⟨rfl,rfl,rfl,by decide +kernel,rfl,by decide +kernel,by decide +kernel⟩
theorem Et{f:Addr}{fd:FuncData}(F:nZ K "_law_flipped" "_law_flipped" rK f fd)(T:Txt mg)  : cY P w K mg base dH 1 f fd ["_law_arrows", "_law_arrow"] (yC lq) :=
 F.ok vz (fun vs H Q E h=>Bu h) (fun cdv A outer s H vs Q E hr h=>by
  have nd:=vz.nd
  have hu:=eV hr
  have bY:=hr.units
  exact⟨_,(aF (bK (jg (N':=["_law_arrow", "_law_one"]) (ρ:=[some 1,none]) rfl (dW.of rfl (by kernel_rfl)) (eY (pv 0)) (fun _ _ _ _ _=>(bf (i:=1) (by show (["_law_arrow", "_law_one"]:List Str).Nodup;decide +kernel) rfl (Or.inl rfl))) (fY rfl) (fun _ _ _ _ _=>jf) (fun _ _ _ _ _=>(cO bN (dO (aj (pv 1) (aj (cZ (aj (cO bN (pv 1) aH (fun _ _=>rfl)) (aj (cO bN (pv 1) aH (fun _ _=>rfl)) au))) au))) (dm Qe rfl T.Jh boot_int (aj (nA (jX bY) (pv 1) (pv 0) (cF _)) au)) (fun _ _=>rfl)))))),
  _root_.A.runN (N:=["_law_arrows", "_law_arrow"]) (M:=Mo []) (tZ (AE.w (gC (K:=K) (tg:=(.n 1)) (jh (AE.p (ak 0 rfl))) (by decide) lL (aC gB (AE.np (gZ (aB (ak 1 rfl) (aB (iJ (aB (aC gB (AE.p (ak 1 rfl)) (AE.p aM)) (aB (aC gB (AE.p (ak 1 rfl)) (AE.p aM)) aO))) aO)))) (AE.p (iT Jh (aB (AE.p (aC xm (AE.p (ak 1 rfl)) (AE.p (ak 0 rfl)))) aO))))))) (by decide) h⟩)
abbrev uG:Stmt:=top 47
theorem xW:bG ["_law_names", "_law_arrows", "_law_told", "_law_tail", "_law_head"] ["_law_names", "_law_arrows"] (aQ uG):=⟨rfl,rfl,rfl,by decide +kernel,rfl,by decide +kernel,by decide +kernel⟩
theorem HB{f:Addr}{fd:FuncData}(F:nZ K "_law_sorted" "_law_sorted" uG f fd)(T:Txt mg)  : cY P w K mg base dH 1 f fd ["_law_names", "_law_arrows"] (lE mR) :=
 F.ok xW (fun vs H Q E h=>qR h) (fun cdv A outer s H vs Q E hr h=>by
  have nd:=xW.nd
  have hu:=eV hr
  have bY:=hr.units
  exact⟨_,(aA (bH (i:=2) nd rfl (Or.inl rfl) (dO au))
 (aA (jF PassesOwn.never rfl (eY (pv 0)) (bf (i:=3) nd rfl (Or.inl rfl))
 (aF (jF PassesOwn.never rfl (eY (pv 0)) (bf (i:=4) nd rfl (Or.inl rfl))
 (aF (cD (bF (J8 bY) (cZ (aj (pv 3) (aj (pv 4) au))) (pv 1) rfl)
 (aF (dJ (mO PySem.F.plainAttrs_list PySem.F.slot_list_append PySem.F.type_list_append d8 (pv 2) (aj (cZ (aj (pv 3) (aj (pv 4) au))) au))))
 bu)))))
 (aF (bK (cZ (aj (dm gY rfl T.fG boot_tuple (aj (pv 0) au)) (aj (dm gY rfl T.fG boot_tuple (aj (pv 2) au)) au))))))),
  _root_.A.qL (N:=["_law_names", "_law_arrows", "_law_told", "_law_tail", "_law_head"]) (M:=Mo [2]) (aK (mX 2 rfl (gZ aO))
 (aK (j9 (K:=K) (tg:=(.n 3)) (qx (ak 0 rfl)) (by decide)
 (j9 (K:=K) (tg:=(.n 4)) (qx (ak 0 rfl)) (by decide)
 (cV (bC (AE.p (aC aag (AE.p (iJ (aB (ak 3 rfl) (aB (ak 4 rfl) aO)))) (AE.p (ak 1 rfl)))))
 (fP 2 rfl (iJ (aB (ak 3 rfl) (aB (ak 4 rfl) aO))))
 bw)))
 (dj (AE.w (iJ (aB (iT fG (aB (AE.p (ak 0 rfl)) aO)) (aB (iT fG (aB (xF 2) aO)) aO))))))) (by decide) h⟩)
abbrev wC:Stmt:=top 43
theorem zy:bG ["_law_e", "_law_some"] ["_law_e"] (aQ wC):=⟨rfl,rfl,rfl,by decide +kernel,rfl,by decide +kernel,by decide +kernel⟩
theorem Ke{f:Addr}{fd:FuncData}(F:nZ K "_law_kinds" "_law_kinds" wC f fd)(T:Txt mg)(O:Own mg base)(Kt:Kit K):Jx P w K mg base 1 f fd ["_law_e"] (yC fU) :=
 F.okH zy (fun vs H Q E h=>Bu h) (fun cdv A outer s H vs Q E hr h=>by
  have nd:=zy.nd
  have bY:=hr.units
  exact⟨_,(aA (bH (i:=1) nd rfl (Or.inl rfl) (dO au))
 (aA (cD (jj (bc CQ rfl T.bI boot_isinstance (aj (pv 0) (aj (cZ (aj (eQ (v:=.ref (Tb.cl "NoLabel")) rfl O.Qk rfl) (aj (eQ (v:=.ref (Tb.cl "NoNet")) rfl O.Xb rfl) (aj (eQ (v:=.ref (Tb.cl "NoRow")) rfl O.Xa rfl) (aj (eQ (v:=.ref (Tb.cl "NoSuch")) rfl O.U5 rfl) (aj (eQ (v:=.ref (Tb.cl "NoText")) rfl O.U4 rfl) (aj (eQ (v:=.ref (Tb.cl "NoTie")) rfl O.W9 rfl) au))))))) au))))
 (aF (dJ (mO PySem.F.plainAttrs_list PySem.F.slot_list_append PySem.F.type_list_append d8 (pv 1) (aj jm au))))
 bu)
 (aA (cD (jj (bc CQ rfl T.bI boot_isinstance (aj (pv 0) (aj (cZ (aj (eQ (v:=.ref (Tb.cl "NoWord")) rfl O.U3 rfl) (aj (eQ (v:=.ref (Tb.cl "Ring")) rfl O.aai rfl) (aj (eQ (v:=.ref (Tb.cl "Twice")) rfl O.W8 rfl) (aj (eQ (v:=.ref (Tb.cl "Unlike")) rfl O.U0 rfl) (aj (eQ (v:=.ref (Tb.cl "WrongSize")) rfl O.Jk rfl) au)))))) au))))
 (aF (dJ (mO PySem.F.plainAttrs_list PySem.F.slot_list_append PySem.F.type_list_append d8 (pv 1) (aj jm au))))
 bu)
 (aA (cD (jj (bc vW rfl T.bI boot_isinstance (aj (pv 0) (aj (eQ (v:=.ref (Tb.cl "Locked")) rfl O.U7 rfl) au))))
 (aF (dJ (mO PySem.F.plainAttrs_list PySem.F.slot_list_append PySem.F.type_list_append d8 (pv 1) (aj jm au))))
 bu)
 (aA (cD (jj (bc vW rfl T.bI boot_isinstance (aj (pv 0) (aj (eQ (v:=.ref (Tb.cl "NoArrow")) rfl O.Ql rfl) au))))
 (aF (dJ (mO PySem.F.plainAttrs_list PySem.F.slot_list_append PySem.F.type_list_append d8 (pv 1) (aj jm au))))
 bu)
 (aA (cD (jj (bc vW rfl T.bI boot_isinstance (aj (pv 0) (aj (eQ (v:=.ref (Tb.cl "NoName")) rfl O.U6 rfl) au))))
 (aF (dJ (mO PySem.F.plainAttrs_list PySem.F.slot_list_append PySem.F.type_list_append d8 (pv 1) (aj jm au))))
 bu)
 (aA (cD (rQ (jj (bc vW rfl T.bI boot_isinstance (aj (pv 0) (aj (ph rfl O.Ez (by kernel_rfl)) au)))))
 (aF (dJ (mO PySem.F.plainAttrs_list PySem.F.slot_list_append PySem.F.type_list_append d8 (pv 1) (aj jm au))))
 bu)
 (aF (bK (pv 1)))))))))),
  _root_.A.runN (N:=["_law_e", "_law_some"]) (M:=Mo [1]) (aK (mX 1 rfl (gZ aO))
 (aK (cV (qX (AE.p (Vk (Cs:=[Tb.cl "NoLabel", Tb.cl "NoNet", Tb.cl "NoRow", Tb.cl "NoSuch", Tb.cl "NoText", Tb.cl "NoTie"]) rfl (by simp) Kt.gm)))
 (fP 1 rfl mZ)
 bw)
 (aK (cV (qX (AE.p (Vk (Cs:=[Tb.cl "NoWord", Tb.cl "Ring", Tb.cl "Twice", Tb.cl "Unlike", Tb.cl "WrongSize"]) rfl (by simp) Kt.iM)))
 (fP 1 rfl mZ)
 bw)
 (aK (cV (qX (AE.p (NK rfl (.own _) Kt.Tz)))
 (fP 1 rfl mZ)
 bw)
 (aK (cV (qX (AE.p (NK rfl (.own _) Kt.Pj)))
 (fP 1 rfl mZ)
 bw)
 (aK (cV (qX (AE.p (NK rfl (.own _) Kt.Tw)))
 (fP 1 rfl mZ)
 bw)
 (aK (cV (sS (qX (AE.p (NK rfl (.blt _) Kt.Fw))))
 (fP 1 rfl mZ)
 bw)
 (mD 1 rfl)))))))) (by decide) h⟩)
abbrev rJ:Stmt:=top 48
theorem vq:bG ["_law_net_here", "_law_tail", "_law_head", "_law_kinds_here", "_law_e"] ["_law_net_here", "_law_tail", "_law_head"] (aQ rJ):=⟨rfl,rfl,rfl,by decide +kernel,rfl,by decide +kernel,by decide +kernel⟩
theorem Es{f:Addr}{fd:FuncData}(F:nZ K "_law_refused" "_law_refused" rJ f fd)(T:Txt mg)(O:Own mg base)(Kt:Kit K)  (oH:nM P w K mg base (BL P w) 7 "net_turned" ["net", "tail", "head"] (Xy Tb.cl cC))(u6:aax P w K mg base 1 "_law_kinds" ["_law_e"] (yC fU)):cY P w K mg base dH 8 f fd ["_law_net_here", "_law_tail", "_law_head"] (lE cW) :=
 F.ok vq (fun vs H Q E h=>qR h) (fun cdv A outer s H vs Q E hr h=>by
  have nd:=vq.nd
  have hu:=eV hr
  have bY:=hr.units
  have Ah:=hr.mono (show 7≤_ by decide)
  have Il:=fun ea:Addr=>(hr.mono (show 1≤_ by decide)).abU (.ref ea)
  exact⟨_,(aA (bH (i:=3) nd rfl (Or.inl rfl) (dO au))
 (aA (Y5 (i:=4) rfl rfl rfl nd rfl rfl rfl O.Gn Kt.Fe
 (V3 (RC rfl oH Ah rfl (aj (pv 0) (aj (pv 1) (aj (pv 2) au)))))
 (fun ea=>(aF (bH (i:=3) nd rfl (Or.inl rfl) (V8 (E:=fun _ _ _=>False) u6 (Il ea) rfl (aj (pv 4) au))))))
 (aF (bK (pv 3))))),
  _root_.A.qL (N:=["_law_net_here", "_law_tail", "_law_head", "_law_kinds_here", "_law_e"]) (M:=Mo []) (aK (bO 3 rfl (AE.nv (gZ aO)))
 (aK (aam (cs:=["NoName", "NoArrow", "Locked"]) rfl
 (Xc (aD (AE.w (ak 0 rfl)) (aD (AE.w (ak 1 rfl)) (aD (AE.w (ak 2 rfl)) bj))))
 (bO 3 rfl (AE.nv (jN (aD (aak 4 rfl) bj)))))
 (dj (AE.w (ak 3 rfl))))) (by decide) h⟩)
abbrev pU:Stmt:=top 50
theorem uo:bG ["_law_net_here", "_law_tail", "_law_head", "_law_due", "_law_found"] ["_law_net_here", "_law_tail", "_law_head"] (aQ pU):=⟨rfl,rfl,rfl,by decide +kernel,rfl,by decide +kernel,by decide +kernel⟩
theorem Bs{f:Addr}{fd:FuncData}(F:nZ K "_law_question" "_law_question" pU f fd)(T:Txt mg)(my:nM P w K mg base dH 7 "net_turned" ["net", "tail", "head"] (lE iB))(jy:∀ n,nM P w K mg base dH (n+1) "_law_alike" ["_law_found", "_law_due"] (lE (cj n)))(tD:nM P w K mg base dH 2 "_law_covered" ["_law_arrows"] (yC jt))(tu:nM P w K mg base dH 1 "_law_flipped" ["_law_arrows", "_law_arrow"] (yC lq))(u5:nM P w K mg base dH 1 "_law_sorted" ["_law_names", "_law_arrows"] (lE mR))(lD:nM P w K mg base dH 8 "_law_refused" ["_law_net_here", "_law_tail", "_law_head"] (lE cW)):cY P w K mg base dH 9 f fd ["_law_net_here", "_law_tail", "_law_head"] (lE fK) :=
 F.ok uo (fun vs H Q E h=>qR h) (fun cdv A outer s H vs Q E hr h=>by
  have nd:=uo.nd
  have hu:=eV hr
  have bY:=hr.units
  have uv:=hr.mono (show 7≤_ by decide)
  have qi:=hr.mono (show (4+1)≤_ by decide)
  have FN:=hr.mono (show 2≤_ by decide)
  have FJ:=hr.mono (show 1≤_ by decide)
  have Ik:=hr.mono (show 1≤_ by decide)
  have qg:=hr.mono (show 8≤_ by decide)
  exact⟨_,(aA (cD (PW.pt (pw_or (bF (fJ bY) (pv 1) (cO bN (pv 0) aH (fun _ _=>rfl)) rfl) (pw_or1 (bF (fJ bY) (pv 2) (cO bN (pv 0) aH (fun _ _=>rfl)) rfl))))
 (aF (bK (nA (jX bY) (bz lD qg rfl bQ (aj (pv 0) (aj (pv 1) (aj (pv 2) au)))) (dO (aj jm au)) (cF _))))
 bu)
 (aA (cD (bF (fJ bY) (cZ (aj (pv 1) (aj (pv 2) au))) (cO bN (pv 0) aH (fun _ _=>rfl)) rfl)
 (aF (bK (nA (jX bY) (bz lD qg rfl bQ (aj (pv 0) (aj (pv 1) (aj (pv 2) au)))) (dO (aj jm au)) (cF _))))
 bu)
 (aA (cD (bF (fJ bY) (cZ (aj (pv 1) (aj (pv 2) au))) (bz tD FN rfl bQ (aj (dm qu rfl T.lK boot_list (aj (cO bN (pv 0) aH (fun _ _=>rfl)) au)) au)) rfl)
 (aF (bK (nA (jX bY) (bz lD qg rfl bQ (aj (pv 0) (aj (pv 1) (aj (pv 2) au)))) (dO (aj jm au)) (cF _))))
 bu)
 (aA (bH (i:=3) nd rfl (Or.inl rfl) (bz u5 Ik rfl bQ (aj (cO bN (pv 0) aH (fun _ _=>rfl)) (aj (bz tu FJ rfl bQ (aj (dm qu rfl T.lK boot_list (aj (cO bN (pv 0) aH (fun _ _=>rfl)) au)) (aj (cZ (aj (pv 1) (aj (pv 2) au))) au))) au))))
 (aA (bH (i:=4) nd rfl (Or.inl rfl) (bz my uv rfl bQ (aj (pv 0) (aj (pv 1) (aj (pv 2) au)))))
 (aF (bK (J5 (bz (jy 4) qi rfl bQ (aj (pv 4) (aj (pv 3) au))) (J4 (bz (jy 4) qi rfl bQ (aj (bz my uv rfl bQ (aj (pv 3) (aj (pv 2) (aj (pv 1) au)))) (aj (pv 0) au)))))))))))),
  _root_.A.qL (N:=["_law_net_here", "_law_tail", "_law_head", "_law_due", "_law_found"]) (M:=Mo []) (aK (cV (Nv (bC (AE.p (aC jL (AE.p (ak 1 rfl)) (AE.p (aC gB (AE.p (ak 0 rfl)) (AE.p aM)))))) (bC (AE.p (aC jL (AE.p (ak 2 rfl)) (AE.p (aC gB (AE.p (ak 0 rfl)) (AE.p aM)))))))
 (dj (AE.w (aC xm (AE.p (bR (aD (AE.w (ak 0 rfl)) (aD (AE.w (ak 1 rfl)) (aD (AE.w (ak 2 rfl)) bj))))) (AE.np (gZ (aB mZ aO))))))
 bw)
 (aK (cV (bC (AE.p (aC jL (AE.p (iJ (aB (ak 1 rfl) (aB (ak 2 rfl) aO)))) (AE.p (aC gB (AE.p (ak 0 rfl)) (AE.p aM))))))
 (dj (AE.w (aC xm (AE.p (bR (aD (AE.w (ak 0 rfl)) (aD (AE.w (ak 1 rfl)) (aD (AE.w (ak 2 rfl)) bj))))) (AE.np (gZ (aB mZ aO))))))
 bw)
 (aK (cV (bC (AE.p (aC jL (AE.p (iJ (aB (ak 1 rfl) (aB (ak 2 rfl) aO)))) (AE.np (jN (aD (AW.nv (AE.w (iT lK (aB (AE.p (aC gB (AE.p (ak 0 rfl)) (AE.p aM))) aO)))) bj))))))
 (dj (AE.w (aC xm (AE.p (bR (aD (AE.w (ak 0 rfl)) (aD (AE.w (ak 1 rfl)) (aD (AE.w (ak 2 rfl)) bj))))) (AE.np (gZ (aB mZ aO))))))
 bw)
 (aK (bO 3 rfl (bR (aD (AE.w (aC gB (AE.p (ak 0 rfl)) (AE.p aM))) (aD (AW.nv (AE.w (jN (aD (AW.nv (AE.w (iT lK (aB (AE.p (aC gB (AE.p (ak 0 rfl)) (AE.p aM))) aO)))) (aD (AE.w (iJ (aB (ak 1 rfl) (aB (ak 2 rfl) aO)))) bj))))) bj))))
 (aK (bO 4 rfl (bR (aD (AE.w (ak 0 rfl)) (aD (AE.w (ak 1 rfl)) (aD (AE.w (ak 2 rfl)) bj)))))
 (dj (AE.w (Vl (AE.p (bR (aD (AE.w (ak 4 rfl)) (aD (AE.w (ak 3 rfl)) bj)))) (bR (aD (AE.w (bR (aD (AE.w (ak 3 rfl)) (aD (AE.w (ak 2 rfl)) (aD (AE.w (ak 1 rfl)) bj))))) (aD (AE.w (ak 0 rfl)) bj))))))))))) (by decide) h⟩)
abbrev Rg:Stmt:=top 51
theorem Rf:bG ["_law_script", "_law_net_here", "_law_draw", "_law_pair_here"] ["_law_script"] (aQ Rg):=⟨rfl,rfl,rfl,by decide +kernel,rfl,by decide +kernel,by decide +kernel⟩
theorem Zk{f:Addr}{fd:FuncData}(F:nZ K "law" "law" Rg f fd)(T:Txt mg)(GP:nM P w K mg base dH 2 "_law_net" ["_law_script", "_law_most"] (lE pB))(oG:nM P w K mg base dH 2 "_law_questions" ["_law_script", "_law_many"] (yC gj))(Bl:nM P w K mg base dH 2 "_law_pair" ["_law_net_here", "_law_draw"] (yC pA))(qC:nM P w K mg base dH 9 "_law_question" ["_law_net_here", "_law_tail", "_law_head"] (lE fK)):cY P w K mg base dH 10 f fd ["_law_script"] (lE wQ) :=
 F.ok Rf (fun vs H Q E h=>qR h) (fun cdv A outer s H vs Q E hr h=>by
  have nd:=Rf.nd
  have hu:=eV hr
  have bY:=hr.units
  have TY:=hr.mono (show 2≤_ by decide)
  have Ag:=hr.mono (show 2≤_ by decide)
  have Pr:=hr.mono (show 2≤_ by decide)
  have Bw:=hr.mono (show 9≤_ by decide)
  exact⟨_,(aA (bH (i:=1) nd rfl (Or.inl rfl) (bz GP TY rfl bQ (aj (pv 0) (aj aH au))))
 (aA (jF PassesOwn.never rfl (eY (bz oG Ag rfl bQ (aj (pv 0) (aj aH au)))) (bf (i:=2) nd rfl (Or.inl rfl))
 (aA (bH (i:=3) nd rfl (Or.inl rfl) (bz Bl Pr rfl bQ (aj (pv 1) (aj (pv 2) au))))
 (aF (cD (rQ (jj (bz qC Bw rfl bQ (aj (pv 1) (aj (cO bN (pv 3) aH (fun _ _=>rfl)) (aj (cO bN (pv 3) aH (fun _ _=>rfl)) au))))))
 (aF (bK uq))
 bu))))
 (aF (bK uq)))),
  _root_.A.qL (N:=["_law_script", "_law_net_here", "_law_draw", "_law_pair_here"]) (M:=Mo []) (aK (bO 1 rfl (bR (aD (AE.w (ak 0 rfl)) (aD (AE.w aM) bj))))
 (aK (j9 (K:=K) (tg:=(.n 2)) (qx (AE.nv (jN (aD (AE.w (ak 0 rfl)) (aD (AE.w aM) bj))))) (by decide)
 (aK (bO 3 rfl (AE.nv (jN (aD (AE.w (ak 1 rfl)) (aD (AE.w (ak 2 rfl)) bj)))))
 (cV (sS (qX (AE.p (bR (aD (AE.w (ak 1 rfl)) (aD (AE.w (aC gB (AE.p (ak 3 rfl)) (AE.p aM))) (aD (AE.w (aC gB (AE.p (ak 3 rfl)) (AE.p aM))) bj)))))))
 (dj (AE.w BK))
 bw)))
 (dj (AE.w BK)))) (by decide) h⟩)
end
end Jv
namespace L2
open PySem PySem.Spec PyProof.Rows
theorem jW{K:PySem.W.Frag}{h:Heap}{mg:Str→Option Value}{y:Str}{D:Addr}{bb:List Value}{nw:String}(X:K.In h)(G:h.Ns mainGlobals mg)(a:PySem.W.nsIn K mainGlobals y=some (some (.ref D)))(t:PySem.W.excIn K D bb nw=true):OwnCls y D bb nw mg h:=by
 refine⟨PySem.W.mg_of X G a,?_⟩
 simp only[PySem.W.excIn] at t
 split at t
 case h_2=>cases t
 case h_1 d1 c1 s1 e1 =>
  split at t
  case h_2=>cases t
  case h_1 D' m1 p0 p1 p2 p3 b1 p5 em es =>
   obtain⟨n1,bs,mr,N1,qn,hd,sn,sb,ab,co,de⟩:=c1
   obtain⟨l1⟩:=s1
   dsimp only at em es t
   subst em
   subst es
   have t1:=Bool.and_eq_true_iff.mp t
   have t2:=Bool.and_eq_true_iff.mp t1.1
   have t3:=Bool.and_eq_true_iff.mp t2.1
   have t4:=Bool.and_eq_true_iff.mp t3.1
   have t5:=Bool.and_eq_true_iff.mp t4.1
   have u1:=beq_iff_eq.mp t5.1
   have u2:=beq_iff_eq.mp t5.2
   have u3:de=false:=by simpa using t4.2
   subst u1 u2 u3
   exact⟨m1,N1,n1,qn,bs,hd,sn,sb,ab,co,d1,p0,p1,p2,p3,p5,h.nsMap N1,X _ _ e1,.of_isNs (PySem.W.isNs_of_in X t2.2),PySem.W.nsMap_none_of_in X t2.2 (beq_iff_eq.mp t1.2),PySem.W.tail_of_in X t3.2⟩
theorem wU{R:String→Bool→Prop}:∀ x k,(fun c=>([]:List (String×Bool)).lookup c) x=some k→R x k:=fun _ _ h=>nomatch h
theorem dX{n:String}{b:Bool}{l:List (String×Bool)}{R:String→Bool→Prop}(h:R n b)(t:∀ x k,(fun c=>l.lookup c) x=some k→R x k):∀ x k,(fun c=>((n,b)::l).lookup c) x=some k→R x k:=by
 intro x k e
 simp only[List.lookup] at e
 split at e
 ·rename_i q
  cases e
  rw[beq_iff_eq.mp q];exact h
 ·exact t x k e
theorem Zu{R:Addr→Prop}{cl:String→Addr}:∀ C,(∃ c∈([]:List String),C=cl c)→R C:=fun C ⟨c,h,_⟩=>nomatch h
theorem Fd{n:String}{l:List String}{R:Addr→Prop}{cl:String→Addr}(h:R (cl n))(t:∀ C,(∃ c∈l,C=cl c)→R C):∀ C,(∃ c∈n::l,C=cl c)→R C:=fun C ⟨c,hc,e⟩=>by
 cases hc with
 | head=>rw[e];exact h
 | tail _ k=>exact t C ⟨c,k,e⟩
theorem qY.ac4{P:Program}{w:World}{K:PySem.W.Frag}{mg:Str→Option Value}{CX:GQ}{k:Nat}{x p:Str}{st:Stmt}{sp:Sp}{fa c T:Addr}(F:qY K mg x st [p])(hm:mg x=some (.ref fa))(h:∀ base,K.In base→base.Ns mainGlobals mg→BM mg base→PySem.W.CodeHd base c T→∀ f fd,nZ K x x st f fd→cY P w K mg base CX k f fd [p] sp) :
 ∃ fd:FuncData,(∀ (s:Shared) (u:Value),BindsTo s fd ⟨[u],[]⟩ [(p,u)])∧∀ base:Heap,K.In base→base.Ns mainGlobals mg→BM mg base→PySem.W.CodeHd base c T→cY P w K mg base CX k fa fd [p] sp:=by
 obtain⟨f,fd,h1,h2,h3,h5,h4⟩:=F.ex
 rw[h1] at hm;cases hm
 exact⟨fd,fun s u=>h5 s [u] rfl,fun base kb nb b1 b2=>h base kb nb b1 b2 _ fd h4⟩
theorem adu{P:Program}{w:World}{K:PySem.W.Frag}{mg:Str→Option Value}{base:Heap}{CX:GQ}{lv:Nat→Nat}{x:Str}{st:Stmt}{ps:List Str}{sp:Nat→Sp}(F:qY K mg x st ps)
 (h:∀ f fd,nZ K x x st f fd→(∀ n,cY P w K mg base CX (lv n) f fd ps (sp n)→nM P w K mg base CX (lv n) x ps (sp n))→∀ n,cY P w K mg base CX (lv n) f fd ps (sp n)) (n:Nat):nM P w K mg base CX (lv n) x ps (sp n):=by
 obtain⟨f,fd,h1,h2,h3,_,h4⟩:=F.ex
 have self:∀ n,cY P w K mg base CX (lv n) f fd ps (sp n)→nM P w K mg base CX (lv n) x ps (sp n):=fun n k=>⟨f,fd,h1,h2,h3,k⟩
 exact self n (h f fd h4 self n)
def X4(K:PySem.W.Frag):Bool:=K.all fun p=>match p.2.cls with|.type "list" => false|_=>true
theorem Sy{K:PySem.W.Frag}(h:X4 K=true){a:Addr}{o:Obj}(e:K.lookup a=some o)(c:o.cls=.type "list"):False:=by
 have hm:(a,o)∈K:=by
  clear h
  induction K with
  | nil=>cases e
  | cons p r ih =>
   obtain⟨b,x⟩:=p
   simp only[List.lookup] at e
   split at e
   ·rename_i q;cases e;rw[beq_iff_eq.mp q];exact List.Mem.head _
   ·exact List.Mem.tail _ (ih e)
 have h2:=List.all_eq_true.mp h _ hm
 simp only[c] at h2
 cases h2
end L2
namespace Mi
open PySem
@[simp] theorem gf {α : Type} (a:α):tM (some a)=.ok a:=rfl
@[simp] theorem ZW {α : Type} {c:Prop} [Decidable c] (h:c) (r:Rs α):aN c r=r:=if_pos h
@[simp] theorem kZ (a b:Str):cL (.str a) (.str b)=decide (a=b):=by rw[cL];by_cases h:a=b<;>simp[h]
@[simp] theorem Ht (a b:Int):cL (.int a) (.int b)=decide (a=b):=by rw[cL];by_cases h:a=b<;>simp[h]
@[simp] theorem WQ (x:Str):(D.str x).dep=0:=by simp[D.dep]
@[simp] theorem acI (x:Int):(D.int x).dep=0:=by simp[D.dep]
@[simp] theorem adm (x:Bool):(D.bl x).dep=0:=by simp[D.dep]
@[simp] theorem acG:D.non.dep=0:=by simp[D.dep]
@[simp] theorem acH (ds:List D):(D.lst ds).dep=cH ds+1:=by simp[D.dep]
@[simp] theorem acF (ds:List D):(D.tup ds).dep=cH ds+1:=by simp[D.dep]
@[simp] theorem Z7:cH []=0:=rfl
@[simp] theorem sI (d:D) (r:List D):cH (d::r)=max d.dep (cH r):=by rw[cH]
@[simp] theorem qt:∀ xs:List Str,cH (xs.map D.str)=0
 | []=>rfl
 | x::r=>by rw[List.map_cons,sI,WQ,qt r];rfl
theorem Gw(xs:List Str)(x:Str):((xs.map D.str).any fun e=>cL e (.str x))=decide (x∈xs):=by
 induction xs with
 | nil=>rfl
 | cons y r ih =>
  rw[List.map_cons,List.any_cons,ih,kZ]
  by_cases h:y=x
  ·simp[h]
  ·have h2:¬ x=y:=fun z=>h z.symm
   simp[h,h2]
theorem WY(xs:List Str)(x:Str):Qw (.str x) (.lst (xs.map D.str))=.ok (.bl (decide (x∈xs))):=by
 show aN _ _=_
 rw[ao (by rw[qt];omega),Gw]
theorem uT(xs:List Str)(x:Str):dC (.str x) (.lst (xs.map D.str))=.ok (.bl (!decide (x∈xs))):=by
 show aN _ _=_
 rw[ao (by rw[qt];omega),Gw]
theorem lz(xs:List Str)(x:Str):dC (.str x) (.tup (xs.map D.str))=.ok (.bl (!decide (x∈xs))):=by
 show aN _ _=_
 rw[ao (by rw[qt];omega),Gw]
theorem yL(x y:Str):tX (.str x) (.str y)=.ok (.bl (decide (x=y))):=by
 show aN _ _=_
 rw[ao (by simp),kZ]
theorem WR(x y:Str):GR (.str x) (.str y)=.ok (.bl (!decide (x=y))):=by
 show aN _ _=_
 rw[ao (by simp),kZ]
theorem vU(x y:Int):tX (.int x) (.int y)=.ok (.bl (decide (x=y))):=by
 show aN _ _=_
 rw[ao (by simp),Ht]
theorem WT(x y:Int):GR (.int x) (.int y)=.ok (.bl (!decide (x=y))):=by
 show aN _ _=_
 rw[ao (by simp),Ht]
theorem Js{α : Type}(f:α→Bool)(xs:List α):Gv (xs.map fun x=>D.bl (f x))=some (xs.map f):=by
 induction xs with
 | nil=>rfl
 | cons a r ih=>rw[List.map_cons,Gv,ih];rfl
theorem sU(xs:List Str):mY (xs.map D.str)=some xs:=by
 induction xs with
 | nil=>rfl
 | cons a r ih=>rw[List.map_cons,mY,ih];rfl
theorem WK(n:Nat)(b:S)(a0:W):vP 1 n b [a0]=(b ([some a0]++List.replicate (n - 1) none)).bind yd:=ao rfl
theorem w6(n:Nat)(b:S)(a0 a1:W):vP 2 n b [a0,a1]=(b ([some a0,some a1]++List.replicate (n - 2) none)).bind yd:=ao rfl
theorem K3(n:Nat)(b:S)(a0 a1 a2:W):vP 3 n b [a0,a1,a2]=(b ([some a0,some a1,some a2]++List.replicate (n - 3) none)).bind yd:=ao rfl
theorem ab2(n:Nat)(b:S)(a0:W):Nh 1 n b [a0]=(b ([some a0]++List.replicate (n - 1) none)).bind ql:=ao rfl
theorem K1(n:Nat)(b:S)(a0 a1:W):Nh 2 n b [a0,a1]=(b ([some a0,some a1]++List.replicate (n - 2) none)).bind ql:=ao rfl
theorem abX{α : Type}(r:Rs α):aN (1≤16777216) r=r:=ao (by decide)
theorem Gy(i j:Int):di (.int i) (.int j)=.ok (.int (i+j)):=rfl
theorem Gx(i j:Str):di (.str i) (.str j)=aN (i.length+j.length≤16777216) (.ok (.str (i++j))):=rfl
theorem Li(i j:List D):di (.lst i) (.lst j)=aN (i.length+j.length≤16777216) (.ok (.lst (i++j))):=rfl
theorem YL(i j:Int):yx (.int i) (.int j)=.ok (.int (i - j)):=rfl
theorem SQ(i j:Int):cQ (.int i) (.int j)=aN (vG i j) (.ok (.int (i * j))):=rfl
theorem div_ii(i j:Int):dD (.int i) (.int j)=aN (vH j) (.ok (.int (i / j))):=rfl
theorem lH(i j:Int):bT (.int i) (.int j)=aN (0 < j) (.ok (.int (i % j))):=rfl
theorem Te(i j:Int):Bx (.int i) (.int j)=.ok (.bl (decide (i < j))):=rfl
theorem abW(i j:Int):dGt (.int i) (.int j)=.ok (.bl (decide (j < i))):=rfl
theorem M6(x:D):Aw x .non=.ok (.bl (!Ii x)):=rfl
theorem abz:Ii .non=true:=rfl
theorem aby(x:Str):Ii (.str x)=false:=rfl
theorem Tp(ds:List D):iR [.lst ds]=.ok (.int ds.length):=rfl
theorem abL(ds:List D):iR [.tup ds]=.ok (.int ds.length):=rfl
theorem abM(z:Str):iR [.str z]=aN (z.length≤16777216) (.ok (.int z.length)):=rfl
theorem Zv(i j:Int):xn [.int i,.int j]=.ok (.int (max i j)):=rfl
theorem S6(i j:Int):BJ [.int i,.int j]=.ok (.int (min i j)):=rfl
theorem Yn(ds:List D):Qm [.lst ds]=(tM (Gv ds)).bind fun bs=>.ok (.bl (bs.all id)):=rfl
theorem Vx(ds:List D):qw [.lst ds]=.ok (.tup ds):=rfl
theorem Rb(z:Str)(lo hi:Option Int):JC (.str z) lo hi=aN (z.length≤16777216) (.ok (.str (j7 z lo hi))):=rfl
theorem Wv(ds:List D):Ge (.lst ds)=.ok ds:=rfl
theorem Fx(ds:List D):Ge (.tup ds)=.ok ds:=rfl
theorem yo(b:Bool):asB (.bl b)=.ok b:=rfl
theorem Dl(b:Int):asI (.int b)=.ok b:=rfl
theorem Jr(x:D):asD (.d x)=.ok x:=rfl
theorem Xg(x:D):Vh (.d x)=aN (X8 x=true) (.ok x):=rfl
theorem abk(i:Nat)(d:D)(e:Mi.Env):(Tg.n i).put d e=.ok (e.set i (some (.d d))):=rfl
theorem all_cons(i:Nat)(is:List Nat)(d:D)(ds:List D)(e:Mi.Env):uE (i::is) (d::ds) e=uE is ds (e.set i (some (.d d))):=rfl
theorem Ze(w:W):yd (.rt w)=.ok w:=rfl
theorem Zf(e:Mi.Env):yd (.nx e)=.ok (.d .non):=rfl
theorem Wc(w:W):ql (.rt w)=.ok w:=rfl
theorem aG{f:D→D→Rs D}{a b:E}{e:Mi.Env}{x y:D}{z:Rs D}(ha:a e=.ok x)(hb:b e=.ok y)(h:f x y=z):m2 f a b e=z:=by
 unfold m2;rw[ha,az,hb,az,h]
theorem aL{s t:S}{e e':Mi.Env}(h:s e=.ok (.nx e')):aY s t e=t e':=by unfold aY;rw[h];rfl
theorem rD{s t:S}{e:Mi.Env}{w:W}(h:s e=.ok (.rt w)):aY s t e=.ok (.rt w):=by unfold aY;rw[h];rfl
theorem bD{i:Nat}{a:E}{e:Mi.Env}{d:D}(h:a e=.ok d):bW i a e=.ok (.nx (e.set i (some (.d d)))):=by unfold bW;rw[h];rfl
theorem fH{a:EW}{e:Mi.Env}{w:W}(h:a e=.ok w):dF a e=.ok (.rt w):=by unfold dF;rw[h];rfl
theorem cA{a:E}{e:Mi.Env}{d:D}(h:a e=.ok d):wD a e=.ok (.d d):=by unfold wD;rw[h];rfl
theorem ju{c:C}{s t:S}{e:Mi.Env}(h:c e=.ok true):iy c s t e=s e:=by unfold iy;rw[h];rfl
theorem dM{c:C}{s t:S}{e:Mi.Env}(h:c e=.ok false):iy c s t e=t e:=by unfold iy;rw[h];rfl
theorem cU{a:E}{e:Mi.Env}{b:Bool}(h:a e=.ok (.bl b)):cB a e=.ok b:=by unfold cB;rw[h];rfl
theorem fB{ρ : List (Option Nat)}{it:I}{tg:Tg}{c:C}{a:E}{e:Mi.Env}{xs ys:List D}(h:it e=.ok xs)(hl:xs.length≤16777216)(hc:eX tg c a (qG ρ e) xs=.ok ys):fL ρ it tg c a e=.ok (.lst ys):=by
 unfold fL;rw[h,az,ao hl,hc,az]
theorem nW{a:E}{e:Mi.Env}{n:Int}(h:a e=.ok (.int n))(hr:okR n):iD a e=.ok (dB 0 n):=by
 unfold iD;rw[h,az,Dl,az,ao hr]
theorem j5{it:I}{tg:Tg}{b:S}{e:Mi.Env}{xs:List D}(h:it e=.ok xs):m7 it tg b e=qj tg b xs e:=by unfold m7;rw[h];rfl
theorem gU{a:E}{e:Mi.Env}{x:D}{xs:List D}(h:a e=.ok x)(hx:Ge x=.ok xs):rY a e=.ok xs:=by unfold rY;rw[h,az,hx]
theorem t8{i:Nat}{a:E}{e:Mi.Env}{d:D}{ds:List D}(h:a e=.ok d)(hg:getL e i=.ok ds)(hl:ds.length < 16777216):bV i a e=.ok (.nx (putL e i (ds++[d]))):=by
 unfold bV;rw[h,az,hg,az,ao hl]
theorem iI{f:List D→Rs D}{a:E}{e:Mi.Env}{x:D}(h:a e=.ok x):mN f [a] e=f [x]:=by unfold mN;rw[iZ,h];rfl
theorem HJ{f:List D→Rs D}{a b:E}{e:Mi.Env}{x y:D}(h:a e=.ok x)(h':b e=.ok y):mN f [a,b] e=f [x,y]:=by unfold mN;rw[iZ,h,az,iZ,h'];rfl
theorem Wn{a:E}{e:Mi.Env}{x:D}(h:a e=.ok x):mN gq [a] e=.ok (.lst [x]):=by
 rw[iI h]
 exact ao (by simp)
theorem oO{a b:E}{e:Mi.Env}{x y:D}(h:a e=.ok x)(h':b e=.ok y):mN dTup [a,b] e=.ok (.tup [x,y]):=by
 rw[HJ h h']
 exact ao (by simp)
theorem CW{f:Fn}{a:EW}{e:Mi.Env}{x:W}{d:D}(h:a e=.ok x)(hf:f [x]=.ok (.d d)):aZ f [a] e=.ok d:=by unfold aZ qF;rw[bM,h];simp only[az,bM,hf,Jr]
theorem call2{f:Fn}{a b:EW}{e:Mi.Env}{x y:W}{d:D}(h:a e=.ok x)(h':b e=.ok y)(hf:f [x,y]=.ok (.d d)):aZ f [a,b] e=.ok d:=by unfold aZ qF;rw[bM,h,az,bM,h'];simp only[az,bM,hf,Jr]
theorem CV{f:Fn}{a b c:EW}{e:Mi.Env}{x y z:W}{d:D}(h:a e=.ok x)(h':b e=.ok y)(h'':c e=.ok z)(hf:f [x,y,z]=.ok (.d d)):aZ f [a,b,c] e=.ok d:=by unfold aZ qF;rw[bM,h,az,bM,h',az,bM,h''];simp only[az,bM,hf,Jr]
theorem fM{α : Type}{tg:Tg}{c:C}{a:E}{e:Mi.Env}(f g:α→D)(p:α→Bool):∀ (xs:List α),(∀ x∈xs,∃ e1,tg.put (f x) e=.ok e1∧c e1=.ok (p x)∧(p x=true→a e1=.ok (g x)))→eX tg c a e (xs.map f)=.ok ((xs.filter p).map g)
 | [],_=>rfl
 | x::r,h=>by
  obtain⟨e1,h1,h2,h3⟩:=h x List.mem_cons_self
  have ih:=fM (tg:=tg) (c:=c) (a:=a) (e:=e) f g p r fun y hy=>h y (List.mem_cons_of_mem _ hy)
  rw[List.map_cons,eX,h1,az,h2,az]
  cases hp:p x with
  | true=>rw[if_pos rfl,h3 hp,az,ih,az,List.filter_cons_of_pos hp];rfl
  | false=>rw[if_neg Bool.false_ne_true,ih,List.filter_cons_of_neg (by rw[hp];exact Bool.false_ne_true)]
theorem kO{tg:Tg}{body:S}(Inv:Nat→Mi.Env→Prop):∀ (xs:List D) (k:Nat),(∀ i x e,xs[i]? = some x→Inv (k+i) e→∃ e1 e2,tg.put x e=.ok e1∧body e1=.ok (.nx e2)∧Inv (k+i+1) e2)→∀ e,Inv k e→∃ e',qj tg body xs e=.ok (.nx e')∧Inv (k+xs.length) e'
 | [],k,_,e,h=>⟨e,rfl,h⟩
 | x::r,k,hs,e,h=>by
  obtain⟨e1,e2,h1,h2,h3⟩:=hs 0 x e rfl h
  obtain⟨e',h4,h5⟩:=kO Inv r (k+1) (fun i y e hy hi=>by
   have:=hs (i+1) y e (by simpa using hy) (by rw[show k+(i+1)=k+1+i by omega];exact hi)
   rw[show k+(i+1)+1=k+1+i+1 by omega] at this
   exact this) e2 h3
  refine⟨e',?_,by rw[List.length_cons,show k+(r.length+1)=k+1+r.length by omega];exact h5⟩
  rw[qj,h1,az,h2,az]
  exact h4
theorem Ip{α : Type}{tg:Tg}{body:S}{e:Mi.Env}{w:Out}(f:α→D)(st:Option α→Mi.Env)(p:α→Bool)(out:α→Out):∀ (xs:List α) (o:Option α),
 (∀ x∈xs,∀ o,∃ e1,tg.put (f x) (st o)=.ok e1∧body e1=.ok (if p x=true then out x else .nx (st (some x)))) →
 (∀ x∈xs,p x=true→∃ w,out x=.rt w) →
 qj tg body (xs.map f) (st o)=.ok (match xs.find? p with|some x=>out x|none=>.nx (st (xs.getLast?.or o)))
 | [],o,_,_=>by cases o<;>rfl
 | x::r,o,h,ho=>by
  obtain⟨e1,h1,h2⟩:=h x List.mem_cons_self o
  rw[List.map_cons,qj,h1,az,h2,az]
  cases hp:p x with
  | true =>
   obtain⟨w,hw⟩:=ho x List.mem_cons_self hp
   rw[List.find?_cons_of_pos hp]
   simp only[if_true,hw]
  | false =>
   rw[List.find?_cons_of_neg (by rw[hp];exact Bool.false_ne_true)]
   have ih:=Ip (e:=e) (w:=w) f st p out r (some x) (fun y hy=>h y (List.mem_cons_of_mem _ hy)) fun y hy=>ho y (List.mem_cons_of_mem _ hy)
   simp only[Bool.false_eq_true,if_false]
   rw[ih]
   have:(r.getLast?.or (some x))=((x::r).getLast?.or o):=by
    cases r with
    | nil=>rfl
    | cons y t=>simp[List.getLast?_cons]
   rw[this]
end Mi
namespace Mr
open PySem Mi
abbrev Ar:=Str×Str
def pairD(p:Ar):D:=.tup [.str p.1,.str p.2]
def gh(names:List Str):D:=.tup (names.map D.str)
def Lf(aa:List Ar):D:=.tup (aa.map pairD)
def bx(names:List Str)(aa:List Ar):D:=.tup [gh names,Lf aa]
def aP(xs:List Str):D:=.lst (xs.map D.str)
theorem at0{α : Type}(a:α)(r:List α):v7 (a::r) 0=some a:=by simp[v7,Bv]
theorem at1{α : Type}(a b:α)(r:List α):v7 (a::b::r) 1=some b:=by
 unfold v7 Bv
 rw[if_pos (by decide),if_pos (by simp only[List.length_cons];omega)];rfl
theorem ZM(names:List Str)(aa:List Ar):dU (bx names aa) (.int 0)=.ok (gh names):=by
 unfold bx dU
 simp[at0]
theorem ix1(names:List Str)(aa:List Ar):dU (bx names aa) (.int 1)=.ok (Lf aa):=by
 unfold bx dU
 simp[at1]
theorem wK{names asked:List Str}(h:∀ x∈asked,x∈names):bh [.d (gh names),.d (aP asked)]=.ok (.d .non):=by
 have key:∀ (xs:List Str) (o:Option W),(∀ x∈xs,x∈names)→∃ o',qj (.n 2) (iy (cB (m2 dC (mV 2) (mV 0))) ji bB) (xs.map D.str) [some (.d (gh names)),some (.d (aP asked)),o]=.ok (.nx [some (.d (gh names)),some (.d (aP asked)),o']):=by
  intro xs
  induction xs with
  | nil=>exact fun o _=>⟨o,rfl⟩
  | cons x r ih =>
   intro o hx
   obtain⟨o',e⟩:=ih (some (.d (.str x))) fun y hy=>hx y (List.mem_cons_of_mem _ hy)
   refine⟨o',?_⟩
   rw[List.map_cons,qj]
   have:x∈names:=hx x List.mem_cons_self
   simp only[gh,abk,List.set_cons_succ,List.set_cons_zero,iy,cB,m2,mV,bB,az,List.getElem?_cons_succ,List.getElem?_cons_zero,lz,this,decide_true,Bool.not_true,yo,Bool.false_eq_true,if_false]
   exact e
 obtain⟨o',e⟩:=key asked none h
 unfold aP at e
 unfold bh mW
 rw[w6]
 simp only[m7,rY,mV,aP,Nat.reduceSub,List.replicate_succ,List.replicate_zero,List.cons_append,List.nil_append,List.getElem?_cons_succ,List.getElem?_cons_zero,az,Wv,e,Zf]
def bA(aa:List Ar)(x:Str):List Str:=(aa.filter fun p=>decide (p.2=x)).map (·.1)
theorem xg{names:List Str}{aa:List Ar}{x:Str}(hx:x∈names)(hl:aa.length≤64):cI [.d (bx names aa),.d (.str x)]=.ok (.d (.tup ((bA aa x).map D.str))):=by
 have hr:=wK (names:=names) (asked:=[x]) (by simpa using hx)
 unfold cI ym
 rw[w6]
 have hc:eX (.t [1,2]) (cB (m2 tX (mV 2) (mV 0))) (mV 1) [some (.d (.str x)),none,none] (aa.map pairD)=.ok ((aa.filter fun p=>decide (p.2=x)).map fun p=>D.str p.1) :=
  fM pairD (fun p=>D.str p.1) (fun p=>decide (p.2=x)) aa fun p _=>⟨[some (.d (.str x)),some (.d (.str p.1)),some (.d (.str p.2))],rfl,by simp only[cB,m2,mV,List.getElem?_cons_succ,List.getElem?_cons_zero,az,yL,yo],fun _=>by simp only[mV,List.getElem?_cons_succ,List.getElem?_cons_zero]⟩
 have hg:aN (([D.str x]:List D).length≤16777216) (Rs.ok (D.lst [D.str x]))=.ok (.lst [.str x]):=ao (by simp)
 unfold aP at hr
 have hp:qG [some 1,none,none] [some (W.d (bx names aa)),some (W.d (D.str x))]=[some (.d (.str x)),none,none]:=rfl
 simp only[List.length_cons,List.length_nil,Nat.zero_add,abX] at hg
 simp only[List.map_cons,List.map_nil,aY,rP,aZ,qF,bM,wD,m2,mV,Nat.reduceSub,List.replicate_zero,List.cons_append,List.nil_append,List.getElem?_cons_zero,mC,az,ZM,mN,iZ,List.getElem?_cons_succ,gq,List.length_cons,List.length_nil,Nat.zero_add,abX,dF] at hr ⊢
 rw[hr]
 simp only[az,Jr,fL,rY,m2,mV,mC,List.getElem?_cons_zero,ix1,Lf,Fx,hp]
 rw[ao (by rw[List.length_map];omega),hc]
 simp only[az,Vx,Ze,bA,List.map_map]
 rfl
def ready(aa:List Ar)(told:List Str)(x:Str):Bool:=!decide (x∈told) && (bA aa x).all fun y=>decide (y∈told)
def nxt(names:List Str)(aa:List Ar)(told:List Str):Option Str:=names.find? (ready aa told)
def Hw:Option Str→D
 | some x=>.str x
 | none=>.non
theorem Ov(x:Str):Hw (some x)=.str x:=rfl
theorem Ow:Hw none=.non:=rfl
theorem j6{aa:List Ar}{x:Str}(hl:aa.length≤64):(bA aa x).length≤64:=by
 unfold bA
 rw[List.length_map]
 exact Nat.le_trans (List.length_filter_le _ _) hl
theorem Ak{names:List Str}{aa:List Ar}(hl:aa.length≤64)(told:List Str):cX [.d (bx names aa),.d (aP told)]=.ok (.d (Hw (nxt names aa told))):=by
 unfold cX uz
 rw[w6]
 have step:∀ x∈names,∀ o:Option Str,∃ e1,(Tg.n 2).put (D.str x) [some (.d (bx names aa)),some (.d (aP told)),o.map fun y=>W.d (.str y)]=.ok e1 ∧
  (iy (uf (cB (m2 dC (mV 2) (mV 1))) (cB (mN Qm [(fL [some 1,none] (rY (aZ cI [(wD (mV 0)),(wD (mV 2))])) (.n 1) jA (m2 Qw (mV 1) (mV 0)))]))) (dF (wD (mV 2))) bB) e1 =
   .ok (if ready aa told x=true then .rt (.d (.str x)) else .nx [some (.d (bx names aa)),some (.d (aP told)),(some x).map fun y=>W.d (.str y)]):=by
  intro x hx o
  refine⟨[some (.d (bx names aa)),some (.d (aP told)),some (.d (.str x))],rfl,?_⟩
  have hc:eX (.n 1) jA (m2 Qw (mV 1) (mV 0)) [some (.d (aP told)),none] ((bA aa x).map D.str)=.ok (((bA aa x).filter fun _=>true).map fun y=>D.bl (decide (y∈told))) :=
   fM D.str (fun y=>D.bl (decide (y∈told))) (fun _=>true) _ fun y _=>⟨[some (.d (aP told)),some (.d (.str y))],rfl,rfl,fun _=>by simp only[m2,mV,aP,List.getElem?_cons_succ,List.getElem?_cons_zero,az,WY]⟩
  have hf:((bA aa x).filter fun _=>true)=bA aa x:=List.filter_eq_self.mpr fun _ _=>rfl
  rw[hf] at hc
  have hp:qG [some 1,none] [some (W.d (bx names aa)),some (W.d (aP told)),some (W.d (D.str x))]=[some (.d (aP told)),none]:=rfl
  have hn:dC (.str x) (aP told)=.ok (.bl (!decide (x∈told))):=uT told x
  simp only[iy,uf,cB,m2,mV,List.getElem?_cons_succ,List.getElem?_cons_zero,az,hn,yo,mN,iZ,dF,wD,bB]
  unfold ready
  cases hm:decide (x∈told) with
  | true=>rfl
  | false =>
   simp only[Bool.not_false,fL,rY,aZ,qF,bM,wD,mV,List.getElem?_cons_zero,az,List.getElem?_cons_succ,xg hx hl,Jr,Fx,hp,if_true]
   rw[ao (by rw[List.length_map];have:=j6 (x:=x) hl;omega),hc]
   simp only[az,Yn,Js,gf,List.all_map,yo,Bool.true_and]
   have:(List.all (bA aa x) (id ∘ fun y=>decide (y∈told)))=(bA aa x).all fun y=>decide (y∈told):=rfl
   rw[this]
   cases (bA aa x).all fun y=>decide (y∈told)<;>rfl
 have hf:=Ip (e:=[]) (w:=.rt (.d .non)) D.str (fun o=>[some (.d (bx names aa)),some (.d (aP told)),o.map fun y=>W.d (.str y)]) (ready aa told) (fun x=>.rt (.d (.str x))) names none step fun x _ _=>⟨_,rfl⟩
 simp only[Option.map_none] at hf
 simp only[aY,m7,rY,m2,mV,Nat.reduceSub,List.replicate_succ,List.replicate_zero,List.cons_append,List.nil_append,List.getElem?_cons_zero,mC,az,ZM,gh,Fx,hf,dF,wD]
 unfold nxt
 cases names.find? (ready aa told) with
 | none=>rfl
 | some x=>rfl
structure Qp(names:List Str)(aa:List Ar):Prop where
 nd:names.Nodup
 pos:1≤names.length
 le:names.length≤8
 al:aa.length≤64
 tl:∀ p∈aa,p.1∈names
 rk:∃ r:Str→Int,∀ p∈aa,r p.1 < r p.2
theorem jo{aa:List Ar}{x y:Str}:y∈bA aa x↔(y,x)∈aa:=by
 unfold bA
 constructor
 ·intro h
  obtain⟨p,hp,rfl⟩:=List.mem_map.mp h
  obtain⟨h1,h2⟩:=List.mem_filter.mp hp
  have:p.2=x:=by simpa using h2
  rw[← this];exact h1
 ·intro h
  exact List.mem_map.mpr ⟨(y,x),List.mem_filter.mpr ⟨h,by simp⟩,rfl⟩
theorem Kq{α : Type}(f:α→Int):∀ (l:List α),l≠[]→∃ x∈l,∀ y∈l,f x≤f y
 | [],h=>absurd rfl h
 | [a],_=>⟨a,by simp,by simp⟩
 | a::b::r,_=>by
  obtain⟨x,hx,hm⟩:=Kq f (b::r) (by simp)
  by_cases h:f a≤f x
  ·refine⟨a,List.mem_cons_self,fun y hy=>?_⟩
   rcases List.mem_cons.mp hy with rfl|hy
   ·exact Int.le_refl _
   ·exact Int.le_trans h (hm y hy)
  ·refine⟨x,List.mem_cons_of_mem _ hx,fun y hy=>?_⟩
   rcases List.mem_cons.mp hy with rfl|hy
   ·omega
   ·exact hm y hy
theorem Qp.next{names:List Str}{aa:List Ar}(N:Qp names aa){told:List Str}(h:∃ x∈names,x∉told):∃ x,nxt names aa told=some x∧x∈names∧x∉told:=by
 obtain⟨r,hr⟩:=N.rk
 obtain⟨x0,h1,h2⟩:=h
 obtain⟨x,hx,hm⟩:=Kq r (names.filter fun x=>!decide (x∈told)) (fun z=>by
  have:x0∈names.filter fun x=>!decide (x∈told):=List.mem_filter.mpr ⟨h1,by simpa using h2⟩
  rw[z] at this;cases this)
 obtain⟨hx1,hx2⟩:=List.mem_filter.mp hx
 have hx2:x∉told:=by simpa using hx2
 have rd:ready aa told x=true:=by
  unfold ready
  rw[Bool.and_eq_true]
  refine⟨by simpa using hx2,List.all_eq_true.mpr fun y hy=>?_⟩
  have hy:=jo.mp hy
  by_cases hyt:y∈told
  ·simpa using hyt
  ·have:=hm y (List.mem_filter.mpr ⟨N.tl _ hy,by simpa using hyt⟩)
   have:=hr _ hy
   have:r y < r x:=this
   omega
 unfold nxt
 cases hf:names.find? (ready aa told) with
 | none=>exact absurd rd (by simpa using List.find?_eq_none.mp hf x hx1)
 | some z =>
  have hz:=List.find?_some hf
  refine⟨z,rfl,List.mem_of_find?_eq_some hf,fun hzt=>?_⟩
  unfold ready at hz
  rw[Bool.and_eq_true] at hz
  simp[hzt] at hz
def ord(names:List Str)(aa:List Ar):Nat→List Str
 | 0=>[]
 | k+1=>match nxt names aa (ord names aa k) with
  | some x=>ord names aa k++[x]
  | none=>ord names aa k
theorem eZ{α : Type}[DecidableEq α]:∀ {l m:List α},l.Nodup→(∀ x∈l,x∈m)→l.length≤m.length
 | [],_,_,_=>Nat.zero_le _
 | a::l,m,nd,h=>by
  have nd:=List.nodup_cons.mp nd
  have:l.length≤(m.erase a).length:=eZ nd.2 fun x hx=>(List.mem_erase_of_ne (fun z:x=a=>nd.1 (z ▸ hx))).mpr (h x (List.mem_cons_of_mem _ hx))
  have hm:=h a List.mem_cons_self
  rw[List.length_erase_of_mem hm] at this
  have:0 < m.length:=List.length_pos_of_mem hm
  rw[List.length_cons];omega
theorem Qp.Ep{names:List Str}{aa:List Ar}(N:Qp names aa):∀ k,k≤names.length→(ord names aa k).length=k∧(ord names aa k).Nodup∧(∀ x∈ord names aa k,x∈names)
 | 0,_=>⟨rfl,List.nodup_nil,by simp[ord]⟩
 | k+1,h=>by
  obtain⟨h1,h2,h3⟩:=N.Ep k (by omega)
  have ex:∃ x∈names,x∉ord names aa k:=by
   refine Classical.byContradiction fun z=>?_
   have hall:∀ x∈names,x∈ord names aa k:=fun x hx=>Classical.byContradiction fun y=>z ⟨x,hx,y⟩
   have:=eZ N.nd hall
   omega
  obtain⟨x,hx,hm,hn⟩:=N.next ex
  rw[ord,hx]
  refine⟨by simp[h1],?_,fun y hy=>?_⟩
  ·rw[List.nodup_append]
   refine⟨h2,by simp,fun a ha b hb=>?_⟩
   have:b=x:=by simpa using hb
   subst this
   exact fun z=>hn (z ▸ ha)
  ·rcases List.mem_append.mp hy with hy|hy
   ·exact h3 y hy
   ·have:y=x:=by simpa using hy
    rw[this];exact hm
theorem Qp.Su{names:List Str}{aa:List Ar}(N:Qp names aa){k:Nat}(h:k < names.length):∃ x,nxt names aa (ord names aa k)=some x∧ord names aa (k+1)=ord names aa k++[x]:=by
 obtain⟨h1,h2,h3⟩:=N.Ep k (by omega)
 have ex:∃ x∈names,x∉ord names aa k:=by
  refine Classical.byContradiction fun z=>?_
  have hall:∀ x∈names,x∈ord names aa k:=fun x hx=>Classical.byContradiction fun y=>z ⟨x,hx,y⟩
  have:=eZ N.nd hall
  omega
 obtain⟨x,hx,_⟩:=N.next ex
 exact⟨x,hx,by rw[ord,hx]⟩
theorem Qp.Ml{names:List Str}{aa:List Ar}(N:Qp names aa):∀ x∈names,x∈ord names aa names.length:=fun x hx=>by
 obtain⟨h1,h2,h3⟩:=N.Ep names.length (Nat.le_refl _)
 refine Classical.byContradiction fun z=>?_
 have:(x::ord names aa names.length).length≤names.length:=eZ (List.nodup_cons.mpr ⟨z,h2⟩) fun y hy=>by
  rcases List.mem_cons.mp hy with rfl|hy
  ·exact hx
  ·exact h3 y hy
 rw[List.length_cons] at this
 omega
theorem Qp.Sv{names:List Str}{aa:List Ar}(N:Qp names aa):nxt names aa (ord names aa names.length)=none:=by
 unfold nxt
 refine List.find?_eq_none.mpr fun x hx=>?_
 unfold ready
 simp[N.Ml x hx]
theorem M9(o:Option Str):X8 (Hw o)=true:=by cases o<;>simp[Hw,X8]
theorem KD{names:List Str}{aa:List Ar}(N:Qp names aa):pC [.d (bx names aa)]=.ok (.d (aP (ord names aa names.length))):=by
 have fr:=fun told=>Ak (names:=names) N.al told
 have fr':∀ told:List Str,cX [.d (bx names aa),.d (.lst (told.map D.str))]=.ok (.d (Hw (nxt names aa told))):=fr
 have key:∀ (j k:Nat),k+j=names.length→∃ o,jV (cB (m2 Aw (mV 2) (mC .non))) (aY (bV 1 (mV 2)) (bW 2 (rW cX [(wD (mV 0)),(wD (mV 1))]))) (j+92)
  [some (.d (bx names aa)),some (.d (aP (ord names aa k))),some (.d (Hw (nxt names aa (ord names aa k))))]=.ok (.nx [some (.d (bx names aa)),some (.d (aP (ord names aa names.length))),o]):=by
  intro j
  induction j with
  | zero =>
   intro k hk
   obtain rfl:k=names.length:=by omega
   refine⟨some (.d .non),?_⟩
   rw[jV,N.Sv]
   simp only[cB,m2,mV,Ow,List.getElem?_cons_succ,List.getElem?_cons_zero,mC,az,M6,abz,Bool.not_true,yo,aY,bV,getL,putL,List.set_cons_succ,List.set_cons_zero,bW,rW,qF,bM,wD,Bool.false_eq_true,if_false]
  | succ j ih =>
   intro k hk
   obtain⟨x,hx,e⟩:=N.Su (k:=k) (by omega)
   obtain⟨o,ho⟩:=ih (k+1) (by omega)
   refine⟨o,?_⟩
   have hl:=(N.Ep k (by omega)).1
   have hg:((ord names aa k).map D.str).length < 16777216:=by rw[List.length_map,hl];have:=N.le;omega
   have hs:D.lst ((ord names aa k).map D.str++[D.str x])=aP (ord names aa (k+1)):=by rw[e,aP,List.map_append];rfl
   rw[show j+1+92=(j+92)+1 by omega,jV,hx]
   simp only[cB,m2,mV,aP,Ov,List.getElem?_cons_succ,List.getElem?_cons_zero,mC,az,M6,aby,Bool.not_false,yo,aY,bV,getL,putL,List.set_cons_succ,List.set_cons_zero,ao hg,hs,bW,rW,qF,bM,wD,fr',Xg,ao (M9 _),if_true]
   exact ho
 obtain⟨o,ho⟩:=key names.length 0 (by omega)
 unfold pC Dk
 rw[ab2]
 have hw:∀ (c:C) (b:S) (e e':Mi.Env) (n m:Nat),jV c b n e=.ok (.nx e')→jV c b (n+m) e=.ok (.nx e'):=by
  intro c b e e' n m
  induction n generalizing e with
  | zero=>intro h;cases h
  | succ n ih =>
   intro h
   rw[show n+1+m=(n+m)+1 by omega,jV]
   rw[jV] at h
   revert h
   cases c e with
   | ok k =>
    cases k with
    | false=>exact id
    | true =>
     simp only[az,if_true]
     cases b e with
     | ok o' =>
      cases o' with
      | nx e2=>exact ih _
      | ct e2=>exact ih _
      | bk e2=>exact id
      | rt w=>exact id
     | ex x=>exact id
     | no=>exact id
   | ex x=>exact id
   | no=>exact id
 have ho:=hw _ _ _ _ _ (8 - names.length) ho
 rw[show names.length+92+(8 - names.length)=100 by have:=N.le;omega] at ho
 have f0:=fr []
 have h0:aP []=D.lst []:=rfl
 rw[h0] at f0
 have hg0:aN (([]:List D).length≤16777216) (Rs.ok (D.lst []))=.ok (.lst []):=ao (by simp)
 simp only[List.length_nil] at hg0
 have ho:jV (cB (m2 Aw (mV 2) (mC .non))) (aY (bV 1 (mV 2)) (bW 2 (rW cX [(wD (mV 0)),(wD (mV 1))]))) 100 [some (.d (bx names aa)),some (.d (.lst [])),some (.d (Hw (nxt names aa [])))]=.ok (.nx [some (.d (bx names aa)),some (.d (aP (ord names aa names.length))),o]):=ho
 simp only[aY,bW,J0,mN,iZ,gq,az,hg0,List.length_nil,List.cons_append,List.nil_append,List.replicate_succ,List.replicate_zero,Nat.reduceSub,List.set_cons_zero,List.set_cons_succ,rW,qF,bM,wD,mV,List.getElem?_cons_zero,List.getElem?_cons_succ,f0,Vh,ao (M9 _),List.map_cons,List.map_nil]
 rw[ho]
 rfl
end Mr
namespace Mr
open PySem Mi
theorem zL:∀ xs ys:List Str,jT (xs.map D.str) (ys.map D.str)=decide (xs=ys)
 | [],[]=>rfl
 | [],_::_=>rfl
 | _::_,[]=>rfl
 | x::xs,y::ys=>by
  rw[List.map_cons,List.map_cons,jT,kZ,zL xs ys]
  by_cases h1:x=y<;>by_cases h2:xs=ys<;>simp[h1,h2]
end Mr
namespace My
def wl:List Nat:=[101,116,97,111,105,110,115,104,114,100,108,117,99,109,102,119,121,112,118,98,103,107,113,106,120,122]
def qd(n:Int):Nat:=wl.getD (n % 26).toNat 0
def jB(c:Int):List Nat:=(List.range 8).map fun (k:Nat)=>qd (c / (4+3 * (k:Int)))
def jP(c:Int)(n:Nat):List Nat:=(List.range n).map fun (k:Nat)=>qd (c / 32+5 * (k:Int)+(k:Int) * (k:Int))
def words(c:Int)(many:Nat):List (List Nat) :=
 if c % 4 < 2 then
  if c % 4=0 then (List.range many).map fun (k:Nat)=>(jB c).take (k+1)
  else (List.range many).map fun (k:Nat)=>(jB c).drop (7 - k)
 else
  (List.range many).map fun (k:Nat)=>(jP c (c / 4 % 8).toNat).take (c / 256 % (c / 4 % 8+1)).toNat++[qd (c / 7+5 * (k:Int))]++(jP c (c / 4 % 8).toNat).drop (c / 256 % (c / 4 % 8+1)).toNat
def Gz(x:List Nat):Prop:=1≤x.length∧x.length≤8∧∀ c∈x,97≤c∧c≤122
theorem JM:∀ c∈wl,97≤c∧c≤122:=by decide
theorem aaJ:wl.Nodup:=by decide
theorem DP:wl.length=26:=by decide
theorem z7(n:Int):qd n∈wl:=by
 unfold qd
 have h1:=Int.emod_nonneg n (b:=26) (by decide)
 have h2:=Int.emod_lt_of_pos n (b:=26) (by decide)
 have h3:(n % 26).toNat < wl.length:=by rw[DP];omega
 rw[List.getD_eq_getElem?_getD,List.getElem?_eq_getElem h3]
 exact List.getElem_mem h3
theorem Tf{n m:Int}(h:qd n=qd m):n % 26=m % 26:=by
 unfold qd at h
 have h1:=Int.emod_nonneg n (b:=26) (by decide)
 have h2:=Int.emod_lt_of_pos n (b:=26) (by decide)
 have h3:(n % 26).toNat < wl.length:=by rw[DP];omega
 have h1':=Int.emod_nonneg m (b:=26) (by decide)
 have h2':=Int.emod_lt_of_pos m (b:=26) (by decide)
 have h3':(m % 26).toNat < wl.length:=by rw[DP];omega
 rw[List.getD_eq_getElem?_getD,List.getElem?_eq_getElem h3,List.getD_eq_getElem?_getD,List.getElem?_eq_getElem h3'] at h
 have:=(List.getElem_inj aaJ).mp h
 omega
theorem gr(c:Int):(jB c).length=8:=by simp[jB]
theorem mz(c:Int)(n:Nat):(jP c n).length=n:=by simp[jP]
theorem BR(c:Int):∀ x∈jB c,97≤x∧x≤122:=fun x hx=>by
 obtain⟨k,_,rfl⟩:=List.mem_map.mp hx
 exact JM _ (z7 _)
theorem BP(c:Int)(n:Nat):∀ x∈jP c n,97≤x∧x≤122:=fun x hx=>by
 obtain⟨k,_,rfl⟩:=List.mem_map.mp hx
 exact JM _ (z7 _)
theorem oK(c:Int)(many:Nat):(words c many).length=many:=by
 unfold words;split<;>(try split)<;>simp
theorem lG{α : Type}(f:Nat→α)(n:Nat)(h:∀ i j,i < n→j < n→f i=f j→i=j):((List.range n).map f).Nodup:=by
 induction n with
 | zero=>simp
 | succ n ih =>
  rw[List.range_succ,List.map_append,List.map_singleton]
  rw[List.nodup_append]
  refine⟨ih fun i j hi hj=>h i j (by omega) (by omega),by simp,fun a ha b hb=>?_⟩
  obtain⟨i,hi,rfl⟩:=List.mem_map.mp ha
  have hi:=List.mem_range.mp hi
  have hb:b=f n:=by simpa using hb
  subst hb
  intro e
  have:=h i n (by omega) (by omega) e
  omega
theorem q9(c:Int)(many:Nat)(hm:many≤8):(words c many).Nodup:=by
 unfold words
 split
 ·split
  ·refine lG _ _ fun i j hi hj e=>?_
   have:=congrArg List.length e
   rw[List.length_take,List.length_take,gr] at this
   omega
  ·refine lG _ _ fun i j hi hj e=>?_
   have:=congrArg List.length e
   rw[List.length_drop,List.length_drop,gr] at this
   omega
 ·refine lG _ _ fun i j hi hj e=>?_
  rw[List.append_assoc,List.append_assoc] at e
  have e1:=List.append_cancel_left e
  have e2:=List.append_cancel_right e1
  have e3:qd (c / 7+5 * (i:Int))=qd (c / 7+5 * (j:Int)):=by simpa using e2
  have:=Tf e3
  omega
theorem fW(c:Int)(many:Nat)(hm:many≤8):∀ x∈words c many,Gz x:=by
 unfold words
 split
 ·split
  ·intro x hx
   obtain⟨k,hk,rfl⟩:=List.mem_map.mp hx
   have hk:=List.mem_range.mp hk
   refine⟨by rw[List.length_take,gr];omega,by rw[List.length_take,gr];omega,fun y hy=>BR c y (List.mem_of_mem_take hy)⟩
  ·intro x hx
   obtain⟨k,hk,rfl⟩:=List.mem_map.mp hx
   have hk:=List.mem_range.mp hk
   refine⟨by rw[List.length_drop,gr];omega,by rw[List.length_drop,gr];omega,fun y hy=>BR c y (List.mem_of_mem_drop hy)⟩
 ·intro x hx
  obtain⟨k,hk,rfl⟩:=List.mem_map.mp hx
  have h1:=Int.emod_nonneg (c / 4) (b:=8) (by decide)
  have h2:=Int.emod_lt_of_pos (c / 4) (b:=8) (by decide)
  have h3:=Int.emod_nonneg (c / 256) (b:=c / 4 % 8+1) (by omega)
  have h4:=Int.emod_lt_of_pos (c / 256) (b:=c / 4 % 8+1) (by omega)
  have hl:((jP c (c / 4 % 8).toNat).take (c / 256 % (c / 4 % 8+1)).toNat++[qd (c / 7+5 * (k:Int))]++(jP c (c / 4 % 8).toNat).drop (c / 256 % (c / 4 % 8+1)).toNat).length=(c / 4 % 8).toNat+1:=by
   rw[List.length_append,List.length_append,List.length_take,List.length_drop,mz];simp;omega
  refine⟨by rw[hl];omega,by rw[hl];omega,fun y hy=>?_⟩
  rcases List.mem_append.mp hy with hy|hy
  ·rcases List.mem_append.mp hy with hy|hy
   ·exact BP c _ y (List.mem_of_mem_take hy)
   ·have:y=qd (c / 7+5 * (k:Int)):=by simpa using hy
    subst this;exact JM _ (z7 _)
  ·exact BP c _ y (List.mem_of_mem_drop hy)
end My
namespace Mi
open PySem
def S'(l:List Nat):Str:=⟨l.toArray⟩
theorem yP(l:List Nat):(S' l).cps.toList=l:=rfl
theorem lM(l:List Nat):(S' l).length=l.length:=by simp[S',Str.length]
theorem Q9{x y:Str}(h:x.cps.toList=y.cps.toList):x=y:=by
 obtain⟨a⟩:=x
 obtain⟨b⟩:=y
 have h:a.toList=b.toList:=h
 rw[Array.toList_inj.mp h]
theorem aat{l m:List Nat}(h:S' l=S' m):l=m:=by
 have:=congrArg (fun x:Str=>x.cps.toList) h
 simpa [S'] using this
theorem aau(l m:List Nat):S' l++S' m=S' (l++m):=by
 show (⟨l.toArray++m.toArray⟩ : Str)=⟨(l++m).toArray⟩
 simp
theorem z9:∀ l:List Str,(Str.join "" l).cps.toList=l.flatMap (·.cps.toList)
 | []=>by simp[Str.join,Str.empty]
 | [x]=>by simp[Str.join]
 | x::y::r=>by
  have ih:=z9 (y::r)
  have e:Str.join "" (x::y::r)=x ++ "" ++ Str.join "" (y::r):=rfl
  have e2:("" : Str).cps.toList=[]:=by decide +kernel
  rw[e]
  show ((x.cps++("" : Str).cps)++(Str.join "" (y::r)).cps).toList=_
  rw[Array.toList_append,Array.toList_append,e2,ih]
  simp
theorem join_ones(l:List Nat):Str.join "" (l.map fun x=>S' [x])=S' l:=by
 refine Q9 ?_
 rw[z9,yP]
 induction l with
 | nil=>rfl
 | cons a r ih=>rw[List.map_cons,List.flatMap_cons,ih];rfl
theorem Up{α : Type}(xs:List α)(k:Nat):uU xs none (some (k:Int))=xs.take k:=by
 show (xs.drop 0).take ((if (k:Int) < 0 then ((k:Int)+(xs.length:Int)).toNat else min (k:Int).toNat xs.length) - 0)=_
 rw[if_neg (by omega),List.drop_zero,Nat.sub_zero,Int.toNat_natCast]
 rcases Nat.le_total k xs.length with h|h
 ·rw[Nat.min_eq_left h]
 ·rw[Nat.min_eq_right h,List.take_of_length_le (Nat.le_refl _),List.take_of_length_le h]
theorem Uo{α : Type}(xs:List α)(k:Nat):uU xs (some (k:Int)) none=xs.drop k:=by
 show (xs.drop (if (k:Int) < 0 then ((k:Int)+(xs.length:Int)).toNat else min (k:Int).toNat xs.length)).take (xs.length - (if (k:Int) < 0 then ((k:Int)+(xs.length:Int)).toNat else min (k:Int).toNat xs.length))=_
 rw[if_neg (by omega),Int.toNat_natCast]
 rcases Nat.le_total k xs.length with h|h
 ·rw[Nat.min_eq_left h]
  exact List.take_of_length_le (by rw[List.length_drop];exact Nat.le_refl _)
 ·rw[Nat.min_eq_right h,List.drop_of_length_le (Nat.le_refl _),List.drop_of_length_le h];simp
theorem yg(l:List Nat)(k:Nat):j7 (S' l) none (some (k:Int))=S' (l.take k):=by
 unfold j7;rw[yP,Up];rfl
theorem yf(l:List Nat)(k:Nat):j7 (S' l) (some (k:Int)) none=S' (l.drop k):=by
 unfold j7;rw[yP,Uo];rfl
def dq:Str := "etaoinshrdlucmfwypvbgkqjxz"
theorem Kv:dq.cps.toList=My.wl:=by decide +kernel
theorem O4:dq.length≤16777216:=by decide +kernel
theorem Nx{α : Type}{xs:List α}{i:Int}(h0:0≤i)(h1:i < xs.length)(d:α):v7 xs i=some (xs.getD i.toNat d):=by
 unfold v7 Bv
 rw[if_pos h0,if_pos h1]
 have h3:i.toNat < xs.length:=by omega
 show xs[i.toNat]? = _
 rw[List.getD_eq_getElem?_getD,List.getElem?_eq_getElem h3];rfl
theorem Xe(n:Int):v7 dq.cps.toList (n % 26)=some (My.qd n):=by
 rw[Kv]
 have h1:=Int.emod_nonneg n (b:=26) (by decide)
 have h2:=Int.emod_lt_of_pos n (b:=26) (by decide)
 exact Nx h1 (by rw[My.DP];omega) 0
theorem vM{cs:List Int}{i:Int}(h0:0≤i)(h1:i < cs.length):dU (.lst (cs.map D.int)) (.int i)=.ok (.int (cs.getD i.toNat 0)):=by
 show tM (v7 (cs.map D.int) i)=_
 rw[Nx h0 (by rw[List.length_map];exact h1) (.int 0),gf]
 have h3:i.toNat < cs.length:=by omega
 rw[List.getD_eq_getElem?_getD,List.getElem?_map,List.getD_eq_getElem?_getD,List.getElem?_eq_getElem h3];rfl
theorem yJ{cs:List Str}{i:Int}(h0:0≤i)(h1:i < cs.length):dU (.lst (cs.map D.str)) (.int i)=.ok (.str (cs.getD i.toNat Str.empty)):=by
 show tM (v7 (cs.map D.str) i)=_
 rw[Nx h0 (by rw[List.length_map];exact h1) (.str Str.empty),gf]
 have h3:i.toNat < cs.length:=by omega
 rw[List.getD_eq_getElem?_getD,List.getElem?_map,List.getD_eq_getElem?_getD,List.getElem?_eq_getElem h3];rfl
theorem uQ(n:Nat):dB 0 (n:Int)=(List.range n).map fun (k:Nat)=>D.int (k:Int):=by
 unfold dB
 rw[show ((n:Int) - 0).toNat=n by omega]
 exact List.map_congr_left fun k _=>by rw[Int.zero_add]
theorem gW(n:Nat):(dB 0 (n:Int)).length=n:=by rw[uQ];simp
theorem uR{n i:Nat}{x:D}(h:(dB 0 (n:Int))[i]? = some x):i < n∧x=.int (i:Int):=by
 rw[uQ,List.getElem?_map] at h
 cases hr:(List.range n)[i]? with
 | none=>rw[hr] at h;cases h
 | some k =>
  rw[hr] at h
  obtain⟨h1,h2⟩:=List.getElem?_eq_some_iff.mp hr
  rw[List.getElem_range] at h2
  subst h2
  rw[List.length_range] at h1
  exact⟨h1,(Option.some.inj h).symm⟩
theorem j8{tg:Tg}{a:E}{e:Mi.Env}(g:Nat→D)(n:Nat)(h:∀ k < n,∃ e1,tg.put (.int (k:Int)) e=.ok e1∧a e1=.ok (g k)):eX tg jA a e (dB 0 (n:Int))=.ok ((List.range n).map g):=by
 rw[uQ,fM (fun (k:Nat)=>D.int (k:Int)) g (fun _=>true) (List.range n) fun k hk=>?_]
 ·rw[List.filter_eq_self.mpr fun _ _=>rfl]
 ·obtain⟨e1,h1,h2⟩:=h k (List.mem_range.mp hk)
  exact⟨e1,h1,rfl,fun _=>h2⟩
theorem tL{i:Int}(h0:-1000≤i)(h1:i≤1000):okR i:=by unfold okR;omega
theorem kI{i j:Int}(h0:-(2 ^ 64) < i)(h1:i < 2 ^ 64):vG i j:=.inl ⟨h0,h1⟩
theorem yE{i j:Int}(h0:-(2 ^ 64) < j)(h1:j < 2 ^ 64):vG i j:=.inr ⟨h0,h1⟩
theorem c7{j:Int}(h0:0 < j)(h1:j < 2 ^ 64):vH j:=by
 refine⟨h0,?_⟩
 have h2:j.natAbs < 2 ^ 64:=by omega
 have h3:j.natAbs≠0:=by omega
 have:=(Nat.log2_lt h3).mpr h2
 omega
end Mi
namespace Mr
open PySem Mi
open My (words jB jP qd gr mz oK q9)
theorem Av(n:Int):dU (.str dq) (.int (n % 26))=.ok (.str (S' [qd n])):=by
 show aN _ _=_
 rw[ao O4,Xe];rfl
theorem Aa(l:List Nat)(h:l.length≤8):Nq (.str "") (.lst (l.map fun x=>D.str (S' [x])))=.ok (.str (S' l)):=by
 show (tM (mY (l.map fun x=>D.str (S' [x])))).bind _=_
 have e:l.map (fun x=>D.str (S' [x]))=(l.map fun x=>S' [x]).map D.str:=by rw[List.map_map];rfl
 rw[e,sU,gf,az,ao ?_,join_ones]
 have h1:((l.map fun x=>S' [x]).map (·.length)).sum=l.length:=by
  clear h e
  induction l with
  | nil=>rfl
  | cons a r ih=>rw[List.map_cons,List.map_cons,List.sum_cons,ih,lM,List.length_cons];simp;omega
 have h2:("" : Str).length=0:=by decide +kernel
 rw[h1,h2];omega
theorem st1(c:Int)(k:Nat)(d32:vH 32)(m5:vG 5 (k:Int))(mk:vG (k:Int) k):(m2 di (m2 di (m2 dD (mV 1) (mC (.int 32))) (m2 cQ (mC (.int 5)) (mV 2))) (m2 cQ (mV 2) (mV 2))) [some (.d (.str dq)),some (.d (.int c)),some (.d (.int k))]=.ok (.int (c / 32+5 * (k:Int)+(k:Int) * (k:Int))) :=
 (aG (aG (aG rfl rfl (ao d32)) (aG rfl rfl (ao m5)) rfl) (aG rfl rfl (ao mk)) rfl)
theorem st2(c:Int)(e:Mi.Env)(a:E)(h:a e=.ok (.int c))(h0:e[0]? = some (some (.d (.str dq)))):m2 dU (mV 0) (m2 bT a (mC (.int 26))) e=.ok (.str (S' [qd c])) :=
 aG (x:=.str dq) (by unfold mV;rw[h0]) (aG h rfl (ao (by decide))) (Av _)
theorem R7{k n:Nat}(h:k < n)(h8:n < 8):vG (k:Int) k:=kI (by omega) (by omega)
theorem size_of(c:Int):∃ n:Nat,c / 4 % 8=(n:Int)∧n < 8:=by
 have z1:=Int.emod_nonneg (c / 4) (b:=8) (by decide)
 have z2:=Int.emod_lt_of_pos (c / 4) (b:=8) (by decide)
 exact⟨(c / 4 % 8).toNat,by omega,by omega⟩
theorem at_of(c:Int)(n:Nat):∃ t:Nat,c / 256 % ((n:Int)+1)=(t:Int)∧t≤n:=by
 have z3:=Int.emod_nonneg (c / 256) (b:=(n:Int)+1) (by omega)
 have z4:=Int.emod_lt_of_pos (c / 256) (b:=(n:Int)+1) (by omega)
 exact⟨(c / 256 % ((n:Int)+1)).toNat,by omega,by omega⟩
theorem QL(c:Int)(m:Nat)(hm:m≤8):pq [.d (.int c),.d (.int (m:Int))]=.ok (.d (aP ((words c m).map S'))):=by
 unfold pq Dh
 rw[K1]
 have hr8:okR 8:=tL (by decide) (by decide)
 have hrm:okR (m:Int):=tL (by omega) (by omega)
 have hl0:(PySem.Str.ofString "etaoinshrdlucmfwypvbgkqjxz")=dq:=rfl
 have g4:∀ r:Rs D,aN ((0:Int) < 4) r=r:=fun r=>ao (by decide)
 have g26:∀ r:Rs D,aN ((0:Int) < 26) r=r:=fun r=>ao (by decide)
 have g8:∀ r:Rs D,aN ((0:Int) < 8) r=r:=fun r=>ao (by decide)
 by_cases c1:c % 4 < 2
 ·have Ye:eX (.n 2) jA (m2 dU (mV 0) (m2 bT (m2 dD (mV 1) (m2 di (mC (.int 4)) (m2 cQ (mC (.int 3)) (mV 2)))) (mC (.int 26)))) [some (.d (.str dq)),some (.d (.int c)),none] (dB 0 8)=.ok ((jB c).map fun x=>D.str (S' [x])):=by
   have:=j8 (tg:=.n 2) (a:=m2 dU (mV 0) (m2 bT (m2 dD (mV 1) (m2 di (mC (.int 4)) (m2 cQ (mC (.int 3)) (mV 2)))) (mC (.int 26)))) (e:=[some (.d (.str dq)),some (.d (.int c)),none]) (fun k=>D.str (S' [qd (c / (4+3 * (k:Int)))])) 8 fun k hk=>⟨[some (.d (.str dq)),some (.d (.int c)),some (.d (.int k))],rfl,by
    simp only[m2,mV,List.getElem?_cons_zero,List.getElem?_cons_succ,mC,az,SQ]
    rw[ao (kI (by decide) (by decide))]
    simp only[az,Gy,div_ii]
    rw[ao (c7 (by omega) (by omega))]
    simp only[az,lH,g26,Av]⟩
   rw[show ((8:Nat):Int)=8 from rfl] at this
   rw[this]
   unfold jB
   rw[List.map_map];rfl
  have hp:qG [some 2,some 0,none] [some (.d (.int c)),some (.d (.int (m:Int))),some (.d (.str dq)),none,none,none,none]=[some (.d (.str dq)),some (.d (.int c)),none]:=rfl
  have hj:=Aa (jB c) (by rw[gr];omega)
  have hw8:(dB 0 8).length≤16777216:=by rw[show (8:Int)=((8:Nat):Int) from rfl,gW];omega
  have hwm:(dB 0 (m:Int)).length≤16777216:=by rw[gW];omega
  by_cases c2:c % 4=0
  ·have hc:eX (.n 1) jA (pD JC (mV 0) none (some (m2 di (mV 1) (mC (.int 1))))) [some (.d (.str (S' (jB c)))),none] (dB 0 (m:Int))=.ok ((words c m).map fun l=>D.str (S' l)):=by
    rw[j8 (fun k=>D.str (S' ((jB c).take (k+1)))) m fun k hk=>⟨[some (.d (.str (S' (jB c)))),some (.d (.int k))],rfl,by
     simp only[pD,mV,List.getElem?_cons_zero,pF,m2,List.getElem?_cons_succ,mC,az,Gy,Dl,Rb]
     rw[ao (by rw[lM,gr];omega),show (k:Int)+1=((k+1:Nat):Int) by omega,yg]⟩]
    unfold words
    rw[if_pos c1,if_pos c2,List.map_map];rfl
   have hp2:∀ z,qG [some 3,none] [some (.d (.int c)),some (.d (.int (m:Int))),some (.d (.str dq)),some z,none,none,none]=[some z,none]:=fun _=>rfl
   have hmod:cB (m2 Bx (m2 bT (mV 0) (mC (.int 4))) (mC (.int 2))) [some (.d (.int c)),some (.d (.int (m:Int))),some (.d (.str dq)),none,none,none,none]=.ok true :=
    cU ((aG (aG rfl rfl (g4 _)) rfl rfl).trans (by rw[Te,decide_eq_true c1]))
   have T3:cB (m2 tX (m2 bT (mV 0) (mC (.int 4))) (mC (.int 0))) [some (.d (.int c)),some (.d (.int (m:Int))),some (.d (.str dq)),some (.d (.str (S' (jB c)))),none,none,none]=.ok true :=
    cU ((aG (aG rfl rfl (g4 _)) rfl rfl).trans (by rw[vU,decide_eq_true c2]))
   show Rs.bind _ ql=_
   rw[aL (e':=[some (.d (.int c)),some (.d (.int (m:Int))),some (.d (.str dq)),none,none,none,none]) (bD rfl)]
   refine(congrArg (fun r=>Rs.bind r ql) (rD (w:=.d (aP ((words c m).map S'))) ?_)).trans rfl
   rw[ju hmod,aL (e':=[some (.d (.int c)),some (.d (.int (m:Int))),some (.d (.str dq)),some (.d (.str (S' (jB c)))),none,none,none]) (bD (aG rfl (fB (nW rfl hr8) hw8 Ye) hj))]
   rw[rD ((ju T3).trans (fH (cA (fB (nW rfl hrm) hwm hc))))]
   rw[aP,List.map_map]
   rfl
  ·have hc:eX (.n 1) jA (pD JC (mV 0) (some (m2 yx (mC (.int 7)) (mV 1))) none) [some (.d (.str (S' (jB c)))),none] (dB 0 (m:Int))=.ok ((words c m).map fun l=>D.str (S' l)):=by
    rw[j8 (fun k=>D.str (S' ((jB c).drop (7 - k)))) m fun k hk=>⟨[some (.d (.str (S' (jB c)))),some (.d (.int k))],rfl,by
     simp only[pD,mV,List.getElem?_cons_zero,pF,m2,mC,List.getElem?_cons_succ,az,YL,Dl,Rb]
     rw[ao (by rw[lM,gr];omega),show (7:Int) - (k:Int)=((7 - k:Nat):Int) by omega,yf]⟩]
    unfold words
    rw[if_pos c1,if_neg c2,List.map_map];rfl
   have hp2:∀ z,qG [some 3,none] [some (.d (.int c)),some (.d (.int (m:Int))),some (.d (.str dq)),some z,none,none,none]=[some z,none]:=fun _=>rfl
   have hmod:cB (m2 Bx (m2 bT (mV 0) (mC (.int 4))) (mC (.int 2))) [some (.d (.int c)),some (.d (.int (m:Int))),some (.d (.str dq)),none,none,none,none]=.ok true :=
    cU ((aG (aG rfl rfl (g4 _)) rfl rfl).trans (by rw[Te,decide_eq_true c1]))
   have T3:cB (m2 tX (m2 bT (mV 0) (mC (.int 4))) (mC (.int 0))) [some (.d (.int c)),some (.d (.int (m:Int))),some (.d (.str dq)),some (.d (.str (S' (jB c)))),none,none,none]=.ok false :=
    cU ((aG (aG rfl rfl (g4 _)) rfl rfl).trans (by rw[vU,decide_eq_false c2]))
   show Rs.bind _ ql=_
   rw[aL (e':=[some (.d (.int c)),some (.d (.int (m:Int))),some (.d (.str dq)),none,none,none,none]) (bD rfl)]
   refine(congrArg (fun r=>Rs.bind r ql) (rD (w:=.d (aP ((words c m).map S'))) ?_)).trans rfl
   rw[ju hmod,aL (e':=[some (.d (.int c)),some (.d (.int (m:Int))),some (.d (.str dq)),some (.d (.str (S' (jB c)))),none,none,none]) (bD (aG rfl (fB (nW rfl hr8) hw8 Ye) hj))]
   rw[aL (dM T3),fH (cA (fB (nW rfl hrm) hwm hc))]
   rw[aP,List.map_map]
   rfl
 ·obtain⟨n,hn,hn8⟩:=size_of c
  obtain⟨t,ht,ht8⟩:=at_of c n
  have hrn:okR (n:Int):=tL (by omega) (by omega)
  have d4:vH 4:=c7 (by decide) (by decide)
  have d32:vH 32:=c7 (by decide) (by decide)
  have adp:vH 256:=c7 (by decide) (by decide)
  have d7:vH 7:=c7 (by decide) (by decide)
  have abS:eX (.n 2) jA (m2 dU (mV 0) (m2 bT (m2 di (m2 di (m2 dD (mV 1) (mC (.int 32))) (m2 cQ (mC (.int 5)) (mV 2))) (m2 cQ (mV 2) (mV 2))) (mC (.int 26)))) [some (.d (.str dq)),some (.d (.int c)),none] (dB 0 (n:Int))=.ok ((jP c n).map fun x=>D.str (S' [x])):=by
   rw[j8 (fun k=>D.str (S' [qd (c / 32+5 * (k:Int)+(k:Int) * (k:Int))])) n fun k hk=>⟨[some (.d (.str dq)),some (.d (.int c)),some (.d (.int k))],rfl,by
    exact st2 _ _ _ (st1 c k d32 (kI (by decide) (by decide)) (R7 hk hn8)) rfl⟩]
   unfold jP
   rw[List.map_map];rfl
  have hp:qG [some 2,some 0,none] [some (.d (.int c)),some (.d (.int (m:Int))),some (.d (.str dq)),none,some (.d (.int (n:Int))),none,none]=[some (.d (.str dq)),some (.d (.int c)),none]:=rfl
  have hj:=Aa (jP c n) (by rw[mz];omega)
  have hwn:(dB 0 (n:Int)).length≤16777216:=by rw[gW];omega
  have hwm:(dB 0 (m:Int)).length≤16777216:=by rw[gW];omega
  have hc:eX (.n 4) jA (m2 di (m2 di (pD JC (mV 0) none (some (mV 2))) (m2 dU (mV 1) (m2 bT (m2 di (m2 dD (mV 3) (mC (.int 7))) (m2 cQ (mC (.int 5)) (mV 4))) (mC (.int 26))))) (pD JC (mV 0) (some (mV 2)) none))
   [some (.d (.str (S' (jP c n)))),some (.d (.str dq)),some (.d (.int (t:Int))),some (.d (.int c)),none] (dB 0 (m:Int))=.ok ((words c m).map fun l=>D.str (S' l)):=by
   rw[j8 (fun k=>D.str (S' ((jP c n).take t++[qd (c / 7+5 * (k:Int))]++(jP c n).drop t))) m fun k hk=>⟨[some (.d (.str (S' (jP c n)))),some (.d (.str dq)),some (.d (.int (t:Int))),some (.d (.int c)),some (.d (.int k))],rfl,by
    have gS:∀ r:Rs D,aN ((S' (jP c n)).length≤16777216) r=r:=fun r=>ao (by rw[lM,mz];omega)
    have gM:∀ r:Rs D,aN (vG 5 (k:Int)) r=r:=fun r=>ao (kI (by decide) (by decide))
    simp only[m2,pD,mV,List.getElem?_cons_zero,pF,List.getElem?_cons_succ,az,Dl,Rb,yg,gS,mC,div_ii,ao d7,SQ,gM,Gy,lH,g26,Av,Gx,yf]
    rw[ao (by rw[lM,lM,List.length_take,mz];simp;omega)]
    simp only[aau,az,Gx]
    rw[ao (by rw[lM,lM,List.length_append,List.length_take,List.length_drop,mz];simp;omega)]⟩]
   unfold words
   rw[if_neg c1,List.map_map,hn,ht]
   rfl
  have hmod:cB (m2 Bx (m2 bT (mV 0) (mC (.int 4))) (mC (.int 2))) [some (.d (.int c)),some (.d (.int (m:Int))),some (.d (.str dq)),none,none,none,none]=.ok false :=
   cU ((aG (aG rfl rfl (g4 _)) rfl rfl).trans (by rw[Te,decide_eq_false c1]))
  show Rs.bind _ ql=_
  rw[aL (e':=[some (.d (.int c)),some (.d (.int (m:Int))),some (.d (.str dq)),none,none,none,none]) (bD rfl)]
  rw[aL (dM hmod)]
  rw[aL (e':=[some (.d (.int c)),some (.d (.int (m:Int))),some (.d (.str dq)),none,some (.d (.int (n:Int))),none,none]) (bD (d:=.int (n:Int)) ((aG (aG rfl rfl (ao d4)) rfl (g8 _)).trans (by rw[hn])))]
  rw[aL (e':=[some (.d (.int c)),some (.d (.int (m:Int))),some (.d (.str dq)),none,some (.d (.int (n:Int))),some (.d (.str (S' (jP c n)))),none]) (bD (aG rfl (fB (nW rfl hrn) hwn abS) hj))]
  rw[aL (e':=[some (.d (.int c)),some (.d (.int (m:Int))),some (.d (.str dq)),none,some (.d (.int (n:Int))),some (.d (.str (S' (jP c n)))),some (.d (.int (t:Int)))]) (bD (d:=.int (t:Int)) ((aG (aG rfl rfl (ao adp)) (aG rfl rfl rfl) (ao (by omega))).trans (by rw[ht])))]
  rw[fH (cA (fB (nW rfl hrm) hwm hc))]
  simp only[az,Wc,aP,List.map_map]
  rfl
end Mr
namespace Mr
open PySem Mi
open My (words oK q9)
theorem VM(n:Nat)(h:n≤8):okR (n:Int):=tL (by omega) (by omega)
theorem J3{ls:List Int}{z:Int}(h0:0≤z)(h1:z < ls.length)(hl:ls.length≤100):Ma (ls.map D.int) z=.ok (.int (ls.getD z.toNat 0),(ls.eraseIdx z.toNat).map D.int):=by
 have h3:z.toNat < ls.length:=by omega
 unfold Ma
 rw[ao (by omega),show Bv (ls.map D.int).length z=some z.toNat by
  unfold Bv
  rw[if_pos h0,if_pos (by rw[List.length_map];exact h1)],gf,az,List.getElem?_map,List.getElem?_eq_getElem h3,List.getD_eq_getElem?_getD,List.getElem?_eq_getElem h3]
 show Rs.ok (D.int ls[z.toNat],(ls.map D.int).eraseIdx z.toNat)=_
 have:∀ (l:List Int) (k:Nat),(l.map D.int).eraseIdx k=(l.eraseIdx k).map D.int:=by
  intro l
  induction l with
  | nil=>intro k;rfl
  | cons a r ih =>
   intro k
   cases k with
   | zero=>rfl
   | succ k=>rw[List.map_cons,List.eraseIdx_cons_succ,ih k];rfl
 rw[this];rfl
theorem Ti(e:Mi.Env):mN gq [] e=.ok (.lst []):=by
 show aN (([]:List D).length≤16777216) (Rs.ok (D.lst []))=_
 exact ao (by simp)
end Mr
namespace Mr
open PySem Mi
theorem JW{ls:List Int}{z v:Int}(h0:0≤z)(h1:z < ls.length):∃ j,Bv (ls.map D.int).length z=some j∧(ls.map D.int).set j (.int v)=(ls.set j v).map D.int:=by
 refine⟨z.toNat,?_,?_⟩
 ·unfold Bv
  rw[if_pos h0,if_pos (by rw[List.length_map];exact h1)]
 ·rw[List.map_set]
theorem YW{i:Nat}{k a:E}{e:Mi.Env}{ls:List Int}{z v:Int}(ha:a e=.ok (.int v))(hk:k e=.ok (.int z))(hg:getL e i=.ok (ls.map D.int))(h0:0≤z)(h1:z < ls.length):∃ ls':List Int,ls'.length=ls.length∧pW i k a e=.ok (.nx (putL e i (ls'.map D.int))):=by
 obtain⟨j,hj,hs⟩:=JW (v:=v) h0 h1
 refine⟨ls.set j v,by simp,?_⟩
 unfold pW
 rw[ha,az,hk,az,Dl,az,hg,az,hj,gf,az,hs]
end Mr
namespace Mr
open PySem Mi
abbrev Ix:=Nat×Nat
def iC(p q:Ix):Prop:=p.1 < q.1∨(p.1=q.1∧p.2 < q.2)
def nth(names:List Str)(i:Nat):Str:=names.getD i Str.empty
def arrOf(names:List Str)(p:Ix):Ar:=(nth names p.1,nth names p.2)
structure m6(names:List Str)(A:List Ix)(r:Nat→Int):Prop where
 nd:names.Nodup
 pos:1≤names.length
 le:names.length≤8
 m8:A.Pairwise iC
 all:∀ p∈A,p.1 < names.length∧p.2 < names.length∧r p.1 < r p.2
 al:A.length≤64
theorem lV{names:List Str}{i:Nat}(h:i < names.length):nth names i∈names:=by
 unfold nth
 rw[List.getD_eq_getElem?_getD,List.getElem?_eq_getElem h]
 exact List.getElem_mem h
theorem jH{names:List Str}(nd:names.Nodup){i j:Nat}(hi:i < names.length)(hj:j < names.length)(h:nth names i=nth names j):i=j:=by
 unfold nth at h
 rw[List.getD_eq_getElem?_getD,List.getElem?_eq_getElem hi,List.getD_eq_getElem?_getD,List.getElem?_eq_getElem hj] at h
 exact(List.getElem_inj nd).mp h
theorem Sw{names:List Str}{x:Str}(h:x∈names):∃ i,i < names.length∧nth names i=x:=by
 obtain⟨i,hi,e⟩:=List.getElem_of_mem h
 refine⟨i,hi,?_⟩
 unfold nth
 rw[List.getD_eq_getElem?_getD,List.getElem?_eq_getElem hi];exact e
theorem m6.kJ{names:List Str}{A:List Ix}{r:Nat→Int}(N:m6 names A r):Qp names (A.map (arrOf names)):=by
 refine⟨N.nd,N.pos,N.le,by rw[List.length_map];exact N.al,fun p hp=>?_,fun x=>r (names.idxOf x),fun p hp=>?_⟩
 ·obtain⟨q,hq,rfl⟩:=List.mem_map.mp hp
  exact lV (N.all q hq).1
 ·obtain⟨q,hq,rfl⟩:=List.mem_map.mp hp
  obtain⟨h1,h2,h3⟩:=N.all q hq
  have key:∀ i,i < names.length→names.idxOf (nth names i)=i:=fun i hi=>by
   have hm:=lV hi
   have hl:names.idxOf (nth names i) < names.length:=List.idxOf_lt_length_of_mem hm
   refine jH N.nd hl hi ?_
   have h4:names[names.idxOf (nth names i)]=nth names i:=List.getElem_idxOf hl
   show names.getD (names.idxOf (nth names i)) Str.empty=_
   rw[List.getD_eq_getElem?_getD,List.getElem?_eq_getElem hl]
   exact h4
  show r (names.idxOf (nth names q.1)) < r (names.idxOf (nth names q.2))
  rw[key _ h1,key _ h2];exact h3
def good(m:Nat)(r:Nat→Int)(A:List Ix)(j k:Nat):Prop:=A.Pairwise iC∧(∀ p∈A,p.1 < m∧p.2 < m∧r p.1 < r p.2∧(p.1 < j∨(p.1=j∧p.2 < k)))∧A.length≤8 * j+k
theorem good.skip{m:Nat}{r:Nat→Int}{A:List Ix}{j k:Nat}(h:good m r A j k):good m r A j (k+1) :=
 ⟨h.1,fun p hp=>⟨(h.2.1 p hp).1,(h.2.1 p hp).2.1,(h.2.1 p hp).2.2.1,by have:=(h.2.1 p hp).2.2.2;omega⟩,by have:=h.2.2;omega⟩
theorem good.add{m:Nat}{r:Nat→Int}{A:List Ix}{j k:Nat}(h:good m r A j k)(hj:j < m)(hk:k < m)(hr:r j < r k):good m r (A++[(j,k)]) j (k+1):=by
 refine⟨List.pairwise_append.mpr ⟨h.1,List.pairwise_singleton _ _,fun p hp q hq=>?_⟩,fun p hp=>?_,by rw[List.length_append];have:=h.2.2;simp;omega⟩
 ·have:q=(j,k):=by simpa using hq
  subst this
  have:=(h.2.1 p hp).2.2.2
  exact this
 ·rcases List.mem_append.mp hp with hp|hp
  ·exact(h.skip.2.1 p hp)
  ·have:p=(j,k):=by simpa using hp
   subst this
   exact⟨hj,hk,hr,.inr ⟨rfl,by omega⟩⟩
theorem good.next{m:Nat}{r:Nat→Int}{A:List Ix}{j k:Nat}(h:good m r A j k)(hk:k≤8):good m r A (j+1) 0 :=
 ⟨h.1,fun p hp=>⟨(h.2.1 p hp).1,(h.2.1 p hp).2.1,(h.2.1 p hp).2.2.1,by have:=(h.2.1 p hp).2.2.2;omega⟩,by have:=h.2.2;omega⟩
def uV(names:List Str)(A:List Ix):D:=.lst ((A.map (arrOf names)).map pairD)
theorem YF{a:Int}(h0:0≤a)(h1:a < 8):-(2 ^ 64) < a∧a < 2 ^ 64∧0≤a * (a - 1) / 2∧a * (a - 1) / 2≤21:=by
 have:a=0∨a=1∨a=2∨a=3∨a=4∨a=5∨a=6∨a=7:=by omega
 rcases this with h|h|h|h|h|h|h|h<;>subst h<;>decide
end Mr
namespace Mr
open PySem Mi
open My (words oK q9)
theorem tY(ns:List Int)(k:Nat)(hk:k≤100):∃ c:Int,dR [.d (.lst (ns.map D.int)),.d (.int (k:Int))]=.ok (.d (.int c)):=by
 unfold dR Jg
 rw[w6]
 have hl:mN iR [mV 0] [some (.d (.lst (ns.map D.int))),some (.d (.int (k:Int))),none]=.ok (.int (ns.length:Int)):=by show Rs.ok (D.int ((ns.map D.int).length:Int))=_;rw[List.length_map]
 have c1:cB (m2 Bx (mV 1) (mN iR [(mV 0)])) [some (.d (.lst (ns.map D.int))),some (.d (.int (k:Int))),none]=.ok (decide ((k:Int) < (ns.length:Int))):=cU (aG rfl hl rfl)
 by_cases h:(k:Int) < (ns.length:Int)
 ·rw[decide_eq_true h] at c1
  exact⟨_,by
   rw[show ([some (W.d (.lst (ns.map D.int))),some (.d (.int (k:Int)))]++List.replicate (3 - 2) none)=[some (.d (.lst (ns.map D.int))),some (.d (.int (k:Int))),none] from rfl]
   rw[rD ((ju c1).trans (fH (cA (aG rfl rfl (vM (by omega) h)))))];rfl⟩
 ·rw[decide_eq_false h] at c1
  have s1:bW 2 (m2 di (mC (.int 30011)) (m2 cQ (m2 cQ (mC (.int 709)) (mV 1)) (mV 1))) [some (.d (.lst (ns.map D.int))),some (.d (.int (k:Int))),none]=.ok (.nx [some (.d (.lst (ns.map D.int))),some (.d (.int (k:Int))),some (.d (.int (30011+709 * (k:Int) * (k:Int))))]) :=
   bD (aG rfl (aG (aG rfl rfl (ao (kI (by decide) (by decide)))) rfl (ao (yE (by omega) (by omega)))) rfl)
  have hl2:mN iR [mV 0] [some (.d (.lst (ns.map D.int))),some (.d (.int (k:Int))),some (.d (.int (30011+709 * (k:Int) * (k:Int))))]=.ok (.int (ns.length:Int)):=by show Rs.ok (D.int ((ns.map D.int).length:Int))=_;rw[List.length_map]
  have c2:cB (m2 dGt (mN iR [(mV 0)]) (mC (.int 0))) [some (.d (.lst (ns.map D.int))),some (.d (.int (k:Int))),some (.d (.int (30011+709 * (k:Int) * (k:Int))))]=.ok (decide ((0:Int) < (ns.length:Int))):=cU (aG hl2 rfl rfl)
  by_cases h0:(0:Int) < (ns.length:Int)
  ·rw[decide_eq_true h0] at c2
   refine⟨_,by
    rw[show ([some (W.d (.lst (ns.map D.int))),some (.d (.int (k:Int)))]++List.replicate (3 - 2) none)=[some (.d (.lst (ns.map D.int))),some (.d (.int (k:Int))),none] from rfl]
    rw[aL ((dM c1).trans rfl),aL s1,aL ((ju c2).trans (bD (aG rfl (aG (aG (aG rfl rfl (vM (by decide) h0)) rfl (ao (by decide))) (aG (aG (aG rfl rfl (ao (kI (by omega) (by omega)))) (aG rfl rfl (ao (kI (by decide) (by decide)))) rfl) rfl rfl) (ao (kI ?_ ?_))) rfl)))]
    rfl⟩
   ·have:=Int.emod_nonneg (ns.getD (0:Int).toNat 0) (b:=99991) (by decide);omega
   ·have:=Int.emod_lt_of_pos (ns.getD (0:Int).toNat 0) (b:=99991) (by decide);omega
  ·rw[decide_eq_false h0] at c2
   exact⟨_,by
    rw[show ([some (W.d (.lst (ns.map D.int))),some (.d (.int (k:Int)))]++List.replicate (3 - 2) none)=[some (.d (.lst (ns.map D.int))),some (.d (.int (k:Int))),none] from rfl]
    rw[aL ((dM c1).trans rfl),aL s1,aL ((dM c2).trans rfl)]
    rfl⟩
theorem Oo(d:Int)(m:Nat)(hm:m≤8):∃ rs:List Int,lg [.d (.int d),.d (.int (m:Int))]=.ok (.d (.lst (rs.map D.int)))∧rs.length=m:=by
 unfold lg yh
 rw[K1]
 have hw:(dB 0 (m:Int)).length≤16777216:=by rw[gW];omega
 have hc:eX (.n 0) jA (mV 0) [none] (dB 0 (m:Int))=.ok ((List.range m).map fun (k:Nat)=>D.int (k:Int)) :=
  j8 (fun k=>D.int (k:Int)) m fun k _=>⟨[some (.d (.int k))],rfl,rfl⟩
 have hr:((List.range m).map fun (k:Nat)=>D.int (k:Int))=((List.range m).map fun (k:Nat)=>(k:Int)).map D.int:=by rw[List.map_map];rfl
 rw[hr] at hc
 obtain⟨e',h1,h2⟩:=kO (tg:=.n 5) (body:=aY (bW 4 (m2 bT (m2 di (m2 di (m2 cQ (mV 4) (mC (.int 48271))) (m2 cQ (mC (.int 7)) (mV 5))) (mC (.int 1))) (mC (.int 2147483647)))) (pX 3 2 (m2 bT (m2 dD (mV 4) (mC (.int 32))) (mN iR [(mV 2)]))))
  (fun i e=>∃ (x:Int) (ls rs:List Int) (o:Option W),e=[some (.d (.int d)),some (.d (.int (m:Int))),some (.d (.lst (ls.map D.int))),some (.d (.lst (rs.map D.int))),some (.d (.int x)),o]∧ls.length+i=m∧rs.length=i) (dB 0 (m:Int)) 0 (fun i x e hx ⟨x0,ls,rs,o,he,hl,hrs⟩=>by
   obtain⟨hi,rfl⟩:=uR hx
   subst he
   rw[Nat.zero_add] at hl hrs
   have hpos:(0:Int) < (ls.length:Int):=by omega
   obtain⟨y,hy⟩ : ∃ y,y=(x0 * 48271+7 * (i:Int)+1) % 2147483647:=⟨_,rfl⟩
   have z1:=Int.emod_nonneg (y / 32) (b:=(ls.length:Int)) (by omega)
   have z2:=Int.emod_lt_of_pos (y / 32) hpos
   refine⟨[some (.d (.int d)),some (.d (.int (m:Int))),some (.d (.lst (ls.map D.int))),some (.d (.lst (rs.map D.int))),some (.d (.int x0)),some (.d (.int (i:Int)))],[some (.d (.int d)),some (.d (.int (m:Int))),some (.d (.lst ((ls.eraseIdx (y / 32 % (ls.length:Int)).toNat).map D.int))),some (.d (.lst ((rs++[ls.getD (y / 32 % (ls.length:Int)).toNat 0]).map D.int))),some (.d (.int y)),some (.d (.int (i:Int)))],rfl,?_,y,ls.eraseIdx (y / 32 % (ls.length:Int)).toNat,rs++[ls.getD (y / 32 % (ls.length:Int)).toNat 0],some (.d (.int (i:Int))),rfl,?_,?_⟩
   ·have h0:m2 bT (m2 dD (mV 4) (mC (.int 32))) (mN iR [(mV 2)]) [some (.d (.int d)),some (.d (.int (m:Int))),some (.d (.lst (ls.map D.int))),some (.d (.lst (rs.map D.int))),some (.d (.int y)),some (.d (.int (i:Int)))]=.ok (.int (y / 32 % (ls.length:Int))) :=
     aG (x:=.int (y / 32)) (y:=.int (ls.length:Int)) (aG rfl rfl (ao (c7 (by decide) (by decide)))) (by show Rs.ok (D.int ((ls.map D.int).length:Int))=_;rw[List.length_map]) (ao hpos)
    rw[aL (e':=[some (.d (.int d)),some (.d (.int (m:Int))),some (.d (.lst (ls.map D.int))),some (.d (.lst (rs.map D.int))),some (.d (.int y)),some (.d (.int (i:Int)))])]
    ·unfold pX
     rw[h0]
     simp only[az,Dl,getL,List.getElem?_cons_succ,List.getElem?_cons_zero,J3 z1 z2 (by omega),putL,List.set_cons_succ,List.set_cons_zero]
     rw[ao (by rw[List.length_map];omega),List.map_append]
     rfl
    ·rw[hy]
     exact bD (aG (aG (aG (aG rfl rfl (ao (yE (by decide) (by decide)))) (aG rfl rfl (ao (kI (by decide) (by decide)))) rfl) rfl rfl) rfl (ao (by decide)))
   ·rw[List.length_eraseIdx_of_lt (by omega)];omega
   ·rw[List.length_append,hrs];simp) [some (.d (.int d)),some (.d (.int (m:Int))),some (.d (.lst (((List.range m).map fun (k:Nat)=>(k:Int)).map D.int))),some (.d (.lst [])),some (.d (.int (d % 2147483647))),none] ⟨_,_,[],none,rfl,by simp,rfl⟩
 obtain⟨d2,ls,rs,o,he,hl,hrs⟩:=h2
 subst he
 rw[gW,Nat.zero_add] at hl hrs
 refine⟨rs,?_,hrs⟩
 rw[aL (e':=[some (.d (.int d)),some (.d (.int (m:Int))),some (.d (.lst (((List.range m).map fun (k:Nat)=>(k:Int)).map D.int))),none,none,none]) (bD (fB (nW rfl (VM m hm)) hw hc))]
 rw[aL (e':=[some (.d (.int d)),some (.d (.int (m:Int))),some (.d (.lst (((List.range m).map fun (k:Nat)=>(k:Int)).map D.int))),some (.d (.lst [])),none,none]) (bD (Ti _))]
 rw[aL (e':=[some (.d (.int d)),some (.d (.int (m:Int))),some (.d (.lst (((List.range m).map fun (k:Nat)=>(k:Int)).map D.int))),some (.d (.lst [])),some (.d (.int (d % 2147483647))),none]) (bD (aG rfl rfl (ao (by decide))))]
 rw[aL ((j5 (nW rfl (VM m hm))).trans h1)]
 rfl
end Mr
namespace Mr
open PySem Mi
open My (words oK q9)
theorem Uv(ns:List Int){e:Mi.Env}{j k:Nat}(hj:j < 8)(hk:k < 8)(e0:mV 0 e=.ok (.lst (ns.map D.int)))(e7:mV 7 e=.ok (.int (j:Int)))(e8:mV 8 e=.ok (.int (k:Int))):∃ c:Int,(aZ dR [(wD (mV 0)),(wD (m2 di (m2 di (mC (.int 4)) (m2 dD (m2 cQ (mN xn [(mV 7),(mV 8)]) (m2 yx (mN xn [(mV 7),(mV 8)]) (mC (.int 1)))) (mC (.int 2)))) (mN BJ [(mV 7),(mV 8)])))]) e=.ok (.int c):=by
 have hx:mN xn [(mV 7),(mV 8)] e=.ok (.int (max (j:Int) (k:Int))):=(HJ e7 e8).trans (Zv _ _)
 have hn:mN BJ [(mV 7),(mV 8)] e=.ok (.int (min (j:Int) (k:Int))):=(HJ e7 e8).trans (S6 _ _)
 obtain⟨t1,t2,t3,t4⟩:=YF (a:=max (j:Int) (k:Int)) (by omega) (by omega)
 obtain⟨z,hz⟩ : ∃ z:Nat,4+max (j:Int) (k:Int) * (max (j:Int) (k:Int) - 1) / 2+min (j:Int) (k:Int)=(z:Int):=⟨(4+max (j:Int) (k:Int) * (max (j:Int) (k:Int) - 1) / 2+min (j:Int) (k:Int)).toNat,by omega⟩
 obtain⟨c,hc⟩:=tY ns z (by omega)
 refine⟨c,call2 (cA e0) (cA (aG (aG rfl (aG (aG hx (aG hx rfl rfl) (ao (kI t1 t2))) rfl (ao (c7 (by decide) (by decide)))) rfl) hn rfl)) ?_⟩
 rw[hz];exact hc
theorem SM(ns:List Int)(hi:Nat)(h0:1≤hi)(h2:hi≤8) :
 ∃ names A r,pB [.d (.lst (ns.map D.int)),.d (.int (hi:Int))]=.ok (.d (bx names (A.map (arrOf names))))∧m6 names A r∧∃ (c:Int) (m:Nat),m≤8∧names=(words c m).map S':=by
 obtain⟨c0,hc0⟩:=tY ns 0 (by decide)
 obtain⟨c1,hc1⟩:=tY ns 1 (by decide)
 obtain⟨c2,hc2⟩:=tY ns 2 (by decide)
 obtain⟨c3,hc3⟩:=tY ns 3 (by decide)
 have hw:(0:Int) < (hi:Int):=by omega
 have q1:=Int.emod_nonneg c0 (b:=(hi:Int)) (by omega)
 have q2:=Int.emod_lt_of_pos c0 hw
 obtain⟨m,hm⟩ : ∃ m:Nat,1+c0 % (hi:Int)=(m:Int):=⟨(1+c0 % (hi:Int)).toNat,by omega⟩
 have hm1:1≤m:=by omega
 have hm2:m≤hi:=by omega
 have hm8:m≤8:=by omega
 obtain⟨names,hnm⟩ : ∃ names,names=(words c1 m).map S':=⟨_,rfl⟩
 have hn:=QL c1 m hm8
 rw[← hnm] at hn
 have hnl:names.length=m:=by rw[hnm,List.length_map];exact oK c1 m
 have hnd:names.Nodup:=by rw[hnm];exact List.Pairwise.map _ (fun a b h z=>h (aat z)) (q9 _ _ hm8)
 obtain⟨rs,hr,hrl⟩:=Oo c2 m hm8
 have q3:=Int.emod_nonneg c3 (b:=6) (by decide)
 have q4:=Int.emod_lt_of_pos c3 (b:=6) (by decide)
 obtain⟨th,hth⟩ : ∃ th,dU (.lst ([4,1,2,3,2,3].map D.int)) (.int (c3 % 6))=.ok (.int th):=⟨_,vM q3 (by simp;omega)⟩
 have hrx:∀ i:Nat,i < m→dU (.lst (rs.map D.int)) (.int (i:Int))=.ok (.int (rs.getD i 0)):=fun i hi=>by
  have:=vM (cs:=rs) (i:=(i:Int)) (by omega) (by omega)
  rwa [Int.toNat_natCast] at this
 have hnx:∀ i:Nat,i < m→dU (aP names) (.int (i:Int))=.ok (.str (nth names i)):=fun i hi=>by
  have:=yJ (cs:=names) (i:=(i:Int)) (by omega) (by omega)
  rwa [Int.toNat_natCast] at this
 have inner:∀ (j:Nat) (A:List Ix) (o8 o9:Option W),j < m→good m (fun i=>rs.getD i 0) A j 0→∃ (A':List Ix) (p8 p9:Option W),qj (.n 8) (aY (bW 9 (aZ dR [(wD (mV 0)),(wD (m2 di (m2 di (mC (.int 4)) (m2 dD (m2 cQ (mN xn [(mV 7),(mV 8)]) (m2 yx (mN xn [(mV 7),(mV 8)]) (mC (.int 1)))) (mC (.int 2)))) (mN BJ [(mV 7),(mV 8)])))])) (iy (uf (cB (m2 Bx (m2 dU (mV 4) (mV 7)) (m2 dU (mV 4) (mV 8)))) (cB (m2 Bx (m2 bT (m2 dD (m2 bT (m2 cQ (mV 9) (mC (.int 48271))) (mC (.int 2147483647))) (mC (.int 16))) (mC (.int 4))) (mV 5)))) (bV 6 (mN dTup [(m2 dU (mV 3) (mV 7)),(m2 dU (mV 3) (mV 8))])) bB)) (dB 0 (m:Int)) [some (.d (.lst (ns.map D.int))),some (.d (.int (hi:Int))),some (.d (.int (m:Int))),some (.d (aP names)),some (.d (.lst (rs.map D.int))),some (.d (.int th)),some (.d (uV names A)),some (.d (.int (j:Int))),o8,o9]=.ok (.nx [some (.d (.lst (ns.map D.int))),some (.d (.int (hi:Int))),some (.d (.int (m:Int))),some (.d (aP names)),some (.d (.lst (rs.map D.int))),some (.d (.int th)),some (.d (uV names A')),some (.d (.int (j:Int))),p8,p9])∧good m (fun i=>rs.getD i 0) A' (j+1) 0:=by
  intro j A o8 o9 hj hg
  obtain⟨e',f1,A',p8,p9,he,hg'⟩:=kO (tg:=.n 8) (body:=(aY (bW 9 (aZ dR [(wD (mV 0)),(wD (m2 di (m2 di (mC (.int 4)) (m2 dD (m2 cQ (mN xn [(mV 7),(mV 8)]) (m2 yx (mN xn [(mV 7),(mV 8)]) (mC (.int 1)))) (mC (.int 2)))) (mN BJ [(mV 7),(mV 8)])))])) (iy (uf (cB (m2 Bx (m2 dU (mV 4) (mV 7)) (m2 dU (mV 4) (mV 8)))) (cB (m2 Bx (m2 bT (m2 dD (m2 bT (m2 cQ (mV 9) (mC (.int 48271))) (mC (.int 2147483647))) (mC (.int 16))) (mC (.int 4))) (mV 5)))) (bV 6 (mN dTup [(m2 dU (mV 3) (mV 7)),(m2 dU (mV 3) (mV 8))])) bB))) (fun k e=>∃ (A:List Ix) (o8 o9:Option W),e=[some (.d (.lst (ns.map D.int))),some (.d (.int (hi:Int))),some (.d (.int (m:Int))),some (.d (aP names)),some (.d (.lst (rs.map D.int))),some (.d (.int th)),some (.d (uV names A)),some (.d (.int (j:Int))),o8,o9]∧good m (fun i=>rs.getD i 0) A j k)
   (dB 0 (m:Int)) 0 (fun k x e hx ⟨A,o8,o9,he,hg⟩=>by
    obtain⟨hk,rfl⟩:=uR hx
    subst he
    rw[Nat.zero_add] at hg
    obtain⟨c,hc⟩:=Uv ns (e:=[some (.d (.lst (ns.map D.int))),some (.d (.int (hi:Int))),some (.d (.int (m:Int))),some (.d (aP names)),some (.d (.lst (rs.map D.int))),some (.d (.int th)),some (.d (uV names A)),some (.d (.int (j:Int))),some (.d (.int (k:Int))),o9]) (j:=j) (k:=k) (by omega) (by omega) rfl rfl rfl
    have c1:cB (m2 Bx (m2 dU (mV 4) (mV 7)) (m2 dU (mV 4) (mV 8))) [some (.d (.lst (ns.map D.int))),some (.d (.int (hi:Int))),some (.d (.int (m:Int))),some (.d (aP names)),some (.d (.lst (rs.map D.int))),some (.d (.int th)),some (.d (uV names A)),some (.d (.int (j:Int))),some (.d (.int (k:Int))),some (.d (.int c))]=.ok (decide (rs.getD j 0 < rs.getD k 0)):=cU (aG (aG rfl rfl (hrx j hj)) (aG rfl rfl (hrx k hk)) rfl)
    have c2:cB (m2 Bx (m2 bT (m2 dD (m2 bT (m2 cQ (mV 9) (mC (.int 48271))) (mC (.int 2147483647))) (mC (.int 16))) (mC (.int 4))) (mV 5)) [some (.d (.lst (ns.map D.int))),some (.d (.int (hi:Int))),some (.d (.int (m:Int))),some (.d (aP names)),some (.d (.lst (rs.map D.int))),some (.d (.int th)),some (.d (uV names A)),some (.d (.int (j:Int))),some (.d (.int (k:Int))),some (.d (.int c))]=.ok (decide (c * 48271 % 2147483647 / 16 % 4 < th)):=cU (aG (aG (aG (aG (aG rfl rfl (ao (yE (by decide) (by decide)))) rfl (ao (by decide))) rfl (ao (c7 (by decide) (by decide)))) rfl (ao (by decide))) rfl rfl)
    by_cases hb:rs.getD j 0 < rs.getD k 0∧c * 48271 % 2147483647 / 16 % 4 < th
    ·refine⟨[some (.d (.lst (ns.map D.int))),some (.d (.int (hi:Int))),some (.d (.int (m:Int))),some (.d (aP names)),some (.d (.lst (rs.map D.int))),some (.d (.int th)),some (.d (uV names A)),some (.d (.int (j:Int))),some (.d (.int (k:Int))),o9],[some (.d (.lst (ns.map D.int))),some (.d (.int (hi:Int))),some (.d (.int (m:Int))),some (.d (aP names)),some (.d (.lst (rs.map D.int))),some (.d (.int th)),some (.d (uV names (A++[(j,k)]))),some (.d (.int (j:Int))),some (.d (.int (k:Int))),some (.d (.int c))],rfl,?_,A++[(j,k)],some (.d (.int (k:Int))),some (.d (.int c)),rfl,by rw[Nat.zero_add];exact hg.add hj hk hb.1⟩
     rw[aL (e':=[some (.d (.lst (ns.map D.int))),some (.d (.int (hi:Int))),some (.d (.int (m:Int))),some (.d (aP names)),some (.d (.lst (rs.map D.int))),some (.d (.int th)),some (.d (uV names A)),some (.d (.int (j:Int))),some (.d (.int (k:Int))),some (.d (.int c))]) (bD hc)]
     rw[ju (by unfold uf;rw[c1,az,decide_eq_true hb.1,if_pos rfl,c2,decide_eq_true hb.2])]
     rw[t8 (d:=pairD (nth names j,nth names k)) (ds:=(A.map (arrOf names)).map pairD) (oO (aG rfl rfl (hnx j hj)) (aG rfl rfl (hnx k hk))) rfl (by rw[List.length_map,List.length_map];have:=hg.2.2;omega)]
     show Rs.ok (Out.nx [_,_,_,_,_,_,some (W.d (D.lst ((A.map (arrOf names)).map pairD++[pairD (nth names j,nth names k)]))),_,_,_])=_
     rw[uV,List.map_append,List.map_append];rfl
    ·refine⟨[some (.d (.lst (ns.map D.int))),some (.d (.int (hi:Int))),some (.d (.int (m:Int))),some (.d (aP names)),some (.d (.lst (rs.map D.int))),some (.d (.int th)),some (.d (uV names A)),some (.d (.int (j:Int))),some (.d (.int (k:Int))),o9],[some (.d (.lst (ns.map D.int))),some (.d (.int (hi:Int))),some (.d (.int (m:Int))),some (.d (aP names)),some (.d (.lst (rs.map D.int))),some (.d (.int th)),some (.d (uV names A)),some (.d (.int (j:Int))),some (.d (.int (k:Int))),some (.d (.int c))],rfl,?_,A,some (.d (.int (k:Int))),some (.d (.int c)),rfl,by rw[Nat.zero_add];exact hg.skip⟩
     rw[aL (e':=[some (.d (.lst (ns.map D.int))),some (.d (.int (hi:Int))),some (.d (.int (m:Int))),some (.d (aP names)),some (.d (.lst (rs.map D.int))),some (.d (.int th)),some (.d (uV names A)),some (.d (.int (j:Int))),some (.d (.int (k:Int))),some (.d (.int c))]) (bD hc)]
     rw[dM (by
      unfold uf
      rw[c1,az]
      by_cases hb1:rs.getD j 0 < rs.getD k 0
      ·rw[decide_eq_true hb1,if_pos rfl,c2,decide_eq_false fun z=>hb ⟨hb1,z⟩]
      ·rw[decide_eq_false hb1,if_neg Bool.false_ne_true])]
     rfl) _ ⟨A,o8,o9,rfl,hg⟩
  subst he
  rw[gW,Nat.zero_add] at hg'
  exact⟨A',p8,p9,f1,hg'.next hm8⟩
 obtain⟨e',f1,A,p7,p8,p9,he,hg⟩:=kO (tg:=.n 7) (body:=(m7 (iD (mV 2)) (.n 8) (aY (bW 9 (aZ dR [(wD (mV 0)),(wD (m2 di (m2 di (mC (.int 4)) (m2 dD (m2 cQ (mN xn [(mV 7),(mV 8)]) (m2 yx (mN xn [(mV 7),(mV 8)]) (mC (.int 1)))) (mC (.int 2)))) (mN BJ [(mV 7),(mV 8)])))])) (iy (uf (cB (m2 Bx (m2 dU (mV 4) (mV 7)) (m2 dU (mV 4) (mV 8)))) (cB (m2 Bx (m2 bT (m2 dD (m2 bT (m2 cQ (mV 9) (mC (.int 48271))) (mC (.int 2147483647))) (mC (.int 16))) (mC (.int 4))) (mV 5)))) (bV 6 (mN dTup [(m2 dU (mV 3) (mV 7)),(m2 dU (mV 3) (mV 8))])) bB)))) (fun j e=>∃ (A:List Ix) (o7 o8 o9:Option W),e=[some (.d (.lst (ns.map D.int))),some (.d (.int (hi:Int))),some (.d (.int (m:Int))),some (.d (aP names)),some (.d (.lst (rs.map D.int))),some (.d (.int th)),some (.d (uV names A)),o7,o8,o9]∧good m (fun i=>rs.getD i 0) A j 0)
  (dB 0 (m:Int)) 0 (fun j x e hx ⟨A,o7,o8,o9,he,hg⟩=>by
   obtain⟨hj,rfl⟩:=uR hx
   subst he
   rw[Nat.zero_add] at hg
   obtain⟨A',p8,p9,f1,hg'⟩:=inner j A o8 o9 hj hg
   exact⟨_,_,rfl,(j5 (nW rfl (VM m hm8))).trans f1,A',_,p8,p9,rfl,by rw[Nat.zero_add];exact hg'⟩)
  [some (.d (.lst (ns.map D.int))),some (.d (.int (hi:Int))),some (.d (.int (m:Int))),some (.d (aP names)),some (.d (.lst (rs.map D.int))),some (.d (.int th)),some (.d (.lst [])),none,none,none] ⟨[],none,none,none,rfl,List.Pairwise.nil,fun p hp=>absurd hp (by simp),Nat.zero_le _⟩
 subst he
 rw[gW,Nat.zero_add] at hg
 refine⟨names,A,fun i=>rs.getD i 0,?_,⟨hnd,by omega,by omega,hg.1,fun p hp=>?_,by have:=hg.2.2;omega⟩,c1,m,hm8,hnm⟩
 ·unfold pB Di
  rw[w6]
  rw[show ((0:Nat):Int)=0 from rfl] at hc0
  rw[show ((1:Nat):Int)=1 from rfl] at hc1
  rw[show ((2:Nat):Int)=2 from rfl] at hc2
  rw[show ((3:Nat):Int)=3 from rfl] at hc3
  rw[aL (e':=[some (.d (.lst (ns.map D.int))),some (.d (.int (hi:Int))),some (.d (.int (m:Int))),none,none,none,none,none,none,none]) (bD (d:=.int (m:Int)) ((aG rfl (aG (call2 rfl rfl hc0) rfl (ao hw)) rfl).trans (by rw[Gy,hm])))]
  rw[aL (e':=[some (.d (.lst (ns.map D.int))),some (.d (.int (hi:Int))),some (.d (.int (m:Int))),some (.d (aP names)),none,none,none,none,none,none]) (bD (call2 (cA (call2 rfl rfl hc1)) rfl hn))]
  rw[aL (e':=[some (.d (.lst (ns.map D.int))),some (.d (.int (hi:Int))),some (.d (.int (m:Int))),some (.d (aP names)),some (.d (.lst (rs.map D.int))),none,none,none,none,none]) (bD (call2 (cA (call2 rfl rfl hc2)) rfl hr))]
  have hl6:mN gq [(mC (.int 4)),(mC (.int 1)),(mC (.int 2)),(mC (.int 3)),(mC (.int 2)),(mC (.int 3))] [some (.d (.lst (ns.map D.int))),some (.d (.int (hi:Int))),some (.d (.int (m:Int))),some (.d (aP names)),some (.d (.lst (rs.map D.int))),none,none,none,none,none]=.ok (.lst ([4,1,2,3,2,3].map D.int)):=by
   show aN (([4,1,2,3,2,3].map D.int).length≤16777216) _=_
   exact ao (by simp)
  rw[aL (e':=[some (.d (.lst (ns.map D.int))),some (.d (.int (hi:Int))),some (.d (.int (m:Int))),some (.d (aP names)),some (.d (.lst (rs.map D.int))),some (.d (.int th)),none,none,none,none]) (bD (aG hl6 (aG (call2 rfl rfl hc3) rfl (ao (by decide))) hth))]
  rw[aL (e':=[some (.d (.lst (ns.map D.int))),some (.d (.int (hi:Int))),some (.d (.int (m:Int))),some (.d (aP names)),some (.d (.lst (rs.map D.int))),some (.d (.int th)),some (.d (.lst [])),none,none,none]) (bD (Ti _))]
  rw[aL ((j5 (nW rfl (VM m hm8))).trans f1)]
  rw[fH (cA (oO (x:=gh names) (y:=Lf (A.map (arrOf names))) (iI (x:=aP names) rfl) (iI (x:=uV names A) rfl)))]
  rfl
 ·obtain⟨a,b,c,_⟩:=hg.2.1 p hp
  exact⟨by omega,by omega,c⟩
end Mr
namespace Mr
open PySem Mi
theorem Nj:∀ {ds:List D} {k i:Nat} {x:D},(pK k ds)[i]? = some x→∃ d,ds[i]? = some d∧x=.tup [.int ((k+i:Nat):Int),d]
 | [],_,_,_,h=>by simp[pK] at h
 | d::r,k,0,x,h=>by simp[pK] at h;exact⟨d,rfl,by rw[← h];simp⟩
 | d::r,k,i+1,x,h=>by
  obtain⟨d',h1,h2⟩:=Nj (ds:=r) (k:=k+1) (i:=i) (x:=x) (by simpa [pK] using h)
  exact⟨d',by simpa using h1,by rw[h2,show k+1+i=k+(i+1) by omega]⟩
end Mr
namespace Mr
open PySem Mi
inductive Rch(aa:List Ar)(x:Str):Str→Prop
 | refl:Rch aa x x
 | step {y z:Str}:Rch aa x y→(y,z)∈aa→Rch aa x z
end Mr
namespace Mr
open PySem Mi
noncomputable def rch (aa:List Ar) (x y:Str):Bool:=@decide (Rch aa x y) (Classical.propDecidable _)
noncomputable def adw (names:List Str) (aa:List Ar) (x:Str):List Str:=names.filter (rch aa x)
def PJ(fs:List Str):W:=.dk (fs.map fun y=>((Sum.inr y:Ky),D.bl true))
theorem acS(fs:List Str)(y:Str):(Bm (fs.map fun y=>((Sum.inr y:Ky),D.bl true)) (Sum.inr y)).isSome=decide (y∈fs):=by
 unfold Bm
 induction fs with
 | nil=>rfl
 | cons a r ih =>
  rw[List.map_cons,List.find?_cons]
  by_cases h:a=y
  ·subst h;simp
  ·rw[decide_eq_false (fun z:(Sum.inr a:Ky)=Sum.inr y=>h (Sum.inr.inj z))]
   simp only[ih]
   rw[decide_eq_decide]
   exact⟨fun z=>List.mem_cons_of_mem _ z,fun z=>by
    rcases List.mem_cons.mp z with z|z
    ·exact absurd z.symm h
    ·exact z⟩
theorem ab7{i:Nat}{k:E}{e:Mi.Env}{fs:List Str}{y:Str}(hk:k e=.ok (.str y))(hw:wV i e=.ok (PJ fs)):Fg i k e=.ok (.bl (decide (y∈fs))):=by
 unfold Fg;rw[hk,az,hw,az,← acS];rfl
theorem Z5{i:Nat}{k:E}{e:Mi.Env}{fs:List Str}{y:Str}(hk:k e=.ok (.str y))(hw:wV i e=.ok (PJ fs))(hn:y∉fs)(hl:fs.length≤1000):ni i k (mC (.bl true)) e=.ok (.nx (e.set i (some (PJ (fs++[y]))))):=by
 unfold ni
 have h1:Z8 (PJ fs) (.str y) (.bl true)=.ok (PJ (fs++[y])):=by
  show aN ((fs.map fun y=>((Sum.inr y:Ky),D.bl true)).length < 16777216) ((tM (PL (.str y))).bind fun k=>Rs.ok (W.dk (Mi.putK k (.bl true) (fs.map fun y=>((Sum.inr y:Ky),D.bl true)))))=_
  rw[ao (by rw[List.length_map];omega)]
  show Rs.ok (W.dk (Mi.putK (Sum.inr y:Ky) (.bl true) (fs.map fun y=>((Sum.inr y:Ky),D.bl true))))=_
  unfold Mi.putK
  rw[if_neg (by
   rw[List.any_map,Bool.not_eq_true,List.any_eq_false]
   intro z hz
   simp only[Function.comp,decide_eq_true_eq]
   exact fun q=>hn (Sum.inr.inj q ▸ hz))]
  unfold PJ
  rw[List.map_append];rfl
 show (k e).bind _=_
 rw[hk,az,hw,az,h1];rfl
end Mr
namespace Mr
open PySem Mi
noncomputable def hb (names:List Str) (aa:List Ar) (held:List Str) (x:Str):Bool:=(adw names aa x).any fun y=>decide (y∈held)
end Mr
namespace Mr
open PySem Mi
abbrev Tr3:=Str×Str×Str
theorem Jt(aa:List Ar)(p:Ar):((aa.map pairD).any fun e=>cL e (pairD p))=decide (p∈aa):=by
 induction aa with
 | nil=>rfl
 | cons q r ih =>
  rw[List.map_cons,List.any_cons,ih]
  have:cL (pairD q) (pairD p)=decide (q=p):=by
   unfold pairD
   rw[cL,jT,jT,jT,kZ,kZ]
   obtain⟨a,b⟩:=q
   obtain⟨c,d⟩:=p
   by_cases h1:a=c<;>by_cases h2:b=d<;>simp[h1,h2]
  rw[this]
  by_cases h:q=p
  ·simp[h]
  ·have h2:¬ p=q:=fun z=>h z.symm
   simp[h,h2]
theorem tV:∀ aa:List Ar,cH (aa.map pairD)≤1
 | []=>by simp
 | p::r=>by
  have:=tV r
  rw[List.map_cons,sI]
  have h:(pairD p).dep=1:=by simp[pairD]
  omega
end Mr
namespace Mr
open PySem Mi
def ye(a:Ar)(aa:List Ar):List Ar:=aa.map fun p=>if p=a then (p.2,p.1) else p
theorem vJ{aa:List Ar}{a p:Ar}(ha:a∈aa):p∈ye a aa↔(p∈aa∧p≠a)∨p=(a.2,a.1):=by
 unfold ye
 rw[List.mem_map]
 constructor
 ·rintro ⟨q,hq,e⟩
  by_cases z:q=a
  ·rw[if_pos z] at e;exact .inr (by rw[← e,z])
  ·rw[if_neg z] at e;exact .inl ⟨e ▸ hq,e ▸ z⟩
 ·rintro (⟨h1,h2⟩|e)
  ·exact⟨p,h1,if_neg h2⟩
  ·exact⟨a,ha,by rw[if_pos rfl,e]⟩
def hds(aa:List Ar)(l:List Str):List Str:=(aa.filter fun p=>decide (p.1∈l)).map (·.2)
theorem Fb{aa:List Ar}{l:List Str}{x:Str}:x∈hds aa l↔∃ t,(t,x)∈aa∧t∈l:=by
 unfold hds
 rw[List.mem_map]
 constructor
 ·rintro ⟨⟨t,h⟩,hq,rfl⟩
  obtain⟨h1,h2⟩:=List.mem_filter.mp hq
  exact⟨t,h1,by simpa using h2⟩
 ·rintro ⟨t,h1,h2⟩
  exact⟨(t,x),List.mem_filter.mpr ⟨h1,by simpa using h2⟩,rfl⟩
def nxl(aa:List Ar)(l:List Str):List Str:=l.filter fun x=>decide (x∈hds aa l)
def Fj(names:List Str)(aa:List Ar):Nat→List Str
 | 0=>names
 | k+1=>nxl aa (Fj names aa k)
def rnd(names:List Str)(aa:List Ar):Bool:=decide (0 < (Fj names aa names.length).length)
def Rk(aa:List Ar):Prop:=∃ r:Str→Int,∀ p∈aa,r p.1 < r p.2
theorem Zn{aa:List Ar}(R:Rk aa){l:List Str}(h:l≠[]):(nxl aa l).length < l.length:=by
 obtain⟨r,hr⟩:=R
 obtain⟨x,hx,hm⟩:=Kq r l h
 have hn:x∉hds aa l:=fun z=>by
  obtain⟨t,h1,h2⟩:=Fb.mp z
  have:=hr _ h1
  have:=hm t h2
  simp only at *
  omega
 exact List.length_filter_lt_length_iff_exists.mpr ⟨x,hx,by simpa using hn⟩
theorem Mx{names:List Str}{aa:List Ar}(R:Rk aa):∀ k,(Fj names aa k).length≤names.length - k
 | 0=>Nat.le_refl _
 | k+1=>by
  have ih:=Mx (names:=names) R k
  by_cases h:Fj names aa k=[]
  ·rw[Fj,h];simp[nxl]
  ·have:=Zn R h
   rw[Fj];omega
theorem YZ{names:List Str}{aa:List Ar}(R:Rk aa):rnd names aa=false:=by
 have:=Mx (names:=names) R names.length
 unfold rnd
 rw[decide_eq_false_iff_not];omega
theorem Wo{names:List Str}{aa:List Ar}{k:Nat}{x:Str}(h:x∈Fj names aa (k+1)):x∈Fj names aa k:=(List.mem_filter.mp h).1
theorem H9{names:List Str}{aa:List Ar}(hin:∀ p∈aa,p.1∈names∧p.2∈names){t h:Str}(a:(t,h)∈aa):∀ k,t∈Fj names aa k→h∈Fj names aa k∧h∈Fj names aa (k+1)
 | 0,ht=>by
  have h0:h∈Fj names aa 0:=(hin _ a).2
  exact⟨h0,List.mem_filter.mpr ⟨h0,by simpa using Fb.mpr ⟨t,a,ht⟩⟩⟩
 | k+1,ht=>by
  have ih:=(H9 hin a k (Wo ht)).2
  exact⟨ih,List.mem_filter.mpr ⟨ih,by simpa using Fb.mpr ⟨t,a,ht⟩⟩⟩
theorem Xz{names:List Str}{aa:List Ar}(hin:∀ p∈aa,p.1∈names∧p.2∈names)(h:rnd names aa=false):Rk aa:=by
 have he:∀ x,x∉Fj names aa names.length:=fun x hx=>by
  have:=List.length_pos_of_mem hx
  unfold rnd at h
  rw[decide_eq_false_iff_not] at h
  exact h this
 refine⟨fun x=>(((List.range names.length).filter fun k=>decide (x∈Fj names aa k)).length:Nat),fun p hp=>?_⟩
 obtain⟨t,b⟩:=p
 have key:(0::((List.range names.length).filter fun k=>decide (t∈Fj names aa k)).map (· + 1)).length≤((List.range names.length).filter fun k=>decide (b∈Fj names aa k)).length:=by
  refine eZ ?_ ?_
  ·refine List.nodup_cons.mpr ⟨fun z=>by obtain⟨y,_,e⟩:=List.mem_map.mp z;omega,?_⟩
   have nd:=(List.nodup_range (n:=names.length)).filter (p:=fun k=>decide (t∈Fj names aa k))
   refine List.pairwise_map.mpr (nd.imp fun z e=>z (by omega))
  ·intro y hy
   have hb:b∈names:=(hin _ hp).2
   have pos:=List.length_pos_of_mem hb
   rcases List.mem_cons.mp hy with rfl|hy
   ·exact List.mem_filter.mpr ⟨List.mem_range.mpr pos,decide_eq_true (show b∈Fj names aa 0 from hb)⟩
   ·obtain⟨k,hk,rfl⟩:=List.mem_map.mp hy
    obtain⟨k1,k2⟩:=List.mem_filter.mp hk
    have k2:t∈Fj names aa k:=by simpa using k2
    have k3:=(H9 hin hp k k2).2
    have k1:=List.mem_range.mp k1
    have:k+1≠names.length:=fun e=>he b (e ▸ k3)
    exact List.mem_filter.mpr ⟨List.mem_range.mpr (by omega),by simpa using k3⟩
 simp only[List.length_cons,List.length_map] at key ⊢
 omega
def GX(aa:List Ar)(a m b:Str):Bool:=(decide ((a,m)∈aa) && decide ((b,m)∈aa)) && !(decide ((a,b)∈aa) || decide ((b,a)∈aa))
theorem IV(aa:List Ar)(a m b:Str):GX aa a m b=GX aa b m a:=by
 unfold GX
 rw[Bool.and_comm (decide ((a,m)∈aa)),Bool.or_comm (decide ((a,b)∈aa))]
theorem W2{aa:List Ar}{a m b:Str}:GX aa a m b=true↔(a,m)∈aa∧(b,m)∈aa∧¬ (a,b)∈aa∧¬ (b,a)∈aa:=by
 unfold GX
 simp[and_assoc]
def Gg(names:List Str)(aa:List Ar):List Tr3 :=
 (List.range names.length).flatMap fun k=>names.flatMap fun m=>((names.drop (k+1)).filter fun b=>GX aa (nth names k) m b).map fun b=>(nth names k,m,b)
theorem HR{names:List Str}{aa:List Ar}{a m b:Str}:(a,m,b)∈Gg names aa↔∃ k,k < names.length∧a=nth names k∧m∈names∧b∈names.drop (k+1)∧GX aa a m b=true:=by
 unfold Gg
 simp only[List.mem_flatMap,List.mem_map,List.mem_filter,List.mem_range,Prod.mk.injEq]
 constructor
 ·rintro ⟨k,hk,m',hm,b',⟨hb,hc⟩,rfl,rfl,rfl⟩
  exact⟨k,hk,rfl,hm,hb,hc⟩
 ·rintro ⟨k,hk,rfl,hm,hb,hc⟩
  exact⟨k,hk,m,hm,b,⟨hb,hc⟩,rfl,rfl,rfl⟩
theorem fZ{α β : Type}{f g:α→List β}:∀ {l:List α},(∀ x∈l,f x=g x)→l.flatMap f=l.flatMap g
 | [],_=>rfl
 | x::r,h=>by rw[List.flatMap_cons,List.flatMap_cons,h x List.mem_cons_self,fZ fun y hy=>h y (List.mem_cons_of_mem _ hy)]
theorem Sx{names:List Str}{i j:Nat}(h:i < j)(hj:j < names.length):nth names j∈names.drop (i+1):=by
 refine List.mem_iff_getElem?.mpr ⟨j - (i+1),?_⟩
 rw[List.getElem?_drop,show i+1+(j - (i+1))=j by omega]
 unfold nth
 rw[List.getD_eq_getElem?_getD,List.getElem?_eq_getElem hj];rfl
theorem WM{names:List Str}(nd:names.Nodup){k:Nat}(hk:k < names.length){b:Str}(hb:b∈names.drop (k+1)):b∈names∧nth names k≠b:=by
 obtain⟨i,hi⟩:=List.mem_iff_getElem?.mp hb
 rw[List.getElem?_drop] at hi
 have hl:k+1+i < names.length:=by
  rcases Nat.lt_or_ge (k+1+i) names.length with z|z
  ·exact z
  ·rw[List.getElem?_eq_none z] at hi;cases hi
 have e:b=nth names (k+1+i):=by
  unfold nth
  rw[List.getD_eq_getElem?_getD,hi];rfl
 rw[e]
 exact⟨lV hl,fun z=>by have:=jH nd hk hl z;omega⟩
theorem Us{names:List Str}(nd:names.Nodup){A B:List Ar}:Gg names A=Gg names B↔∀ a∈names,∀ m∈names,∀ b∈names,a≠b→GX A a m b=GX B a m b:=by
 constructor
 ·intro e
  have key:∀ i j m,i < j→j < names.length→m∈names→GX A (nth names i) m (nth names j)=GX B (nth names i) m (nth names j):=fun i j m hij hj hm=>by
   have one:∀ {A B:List Ar},Gg names A=Gg names B→GX A (nth names i) m (nth names j)=true→GX B (nth names i) m (nth names j)=true:=fun e h=>by
    have:=HR.mpr ⟨i,by omega,rfl,hm,Sx hij hj,h⟩
    rw[e] at this
    obtain⟨_,_,_,_,_,h⟩:=HR.mp this
    exact h
   cases ha:GX A (nth names i) m (nth names j) with
   | true=>exact(one e ha).symm
   | false=>cases hb:GX B (nth names i) m (nth names j) with
    | true=>exact absurd (one e.symm hb) (by rw[ha];exact Bool.false_ne_true)
    | false=>rfl
  intro a ha m hm b hb hne
  obtain⟨i,hi,rfl⟩:=Sw ha
  obtain⟨j,hj,rfl⟩:=Sw hb
  rcases Nat.lt_trichotomy i j with z|z|z
  ·exact key i j m z hj hm
  ·exact absurd (by rw[z]) hne
  ·rw[IV,IV B];exact key j i m z hi hm
 ·intro h
  unfold Gg
  refine fZ fun k hk=>fZ fun m hm=>?_
  have hk:=List.mem_range.mp hk
  congr 1
  refine List.filter_congr fun b hb=>?_
  obtain⟨h1,h2⟩:=WM nd hk hb
  exact h _ (lV hk) m hm b h1 h2
theorem vV{aa:List Ar}{t h:Str}:dI (bA aa h) (bA aa t++[t])=true↔∀ x,(x,h)∈aa↔(x,t)∈aa∨x=t:=by
 unfold dI
 simp only[Bool.and_eq_true,List.all_eq_true,decide_eq_true_eq,List.mem_append,List.mem_singleton,jo]
 constructor
 ·rintro ⟨h1,h2⟩ x
  exact⟨h1 x,h2 x⟩
 ·intro z
  exact⟨fun x=>(z x).mp,fun x=>(z x).mpr⟩
theorem QS{names:List Str}{aa:List Ar}(nd:names.Nodup)(hin:∀ p∈aa,p.1∈names∧p.2∈names)(R:Rk aa){t h:Str}(ha:(t,h)∈aa) :
 dI (bA aa h) (bA aa t++[t])=(!rnd names (ye (t,h) aa) && decide (Gg names (ye (t,h) aa)=Gg names aa)):=by
 obtain⟨r,hr⟩:=id R
 have hth:t≠h:=fun e=>by have:=hr _ ha;simp only[e] at this;omega
 have mf:∀ p:Ar,p∈ye (t,h) aa↔(p∈aa∧p≠(t,h))∨p=(h,t):=fun p=>vJ ha
 have adg:∀ p∈ye (t,h) aa,p.1∈names∧p.2∈names:=fun p hp=>by
  rcases (mf p).mp hp with z|z
  ·exact hin p z.1
  ·rw[z];exact⟨(hin _ ha).2,(hin _ ha).1⟩
 have abA:(h,t)∉aa:=fun z=>by have:=hr _ z;have:=hr _ ha;simp only at *;omega
 have tn:=(hin _ ha).1
 have hn:=(hin _ ha).2
 have tie:∀ a b,((a,b)∈ye (t,h) aa∨(b,a)∈ye (t,h) aa)↔((a,b)∈aa∨(b,a)∈aa):=fun a b=>by
  rw[mf,mf]
  constructor
  ·rintro ((⟨z,_⟩|z)|(⟨z,_⟩|z))
   ·exact .inl z
   ·cases z;exact .inr ha
   ·exact .inr z
   ·cases z;exact .inl ha
  ·rintro (z|z)
   ·by_cases e:(a,b)=(t,h)
    ·cases e;exact .inr (.inr rfl)
    ·exact .inl (.inl ⟨z,e⟩)
   ·by_cases e:(b,a)=(t,h)
    ·cases e;exact .inl (.inr rfl)
    ·exact .inr (.inl ⟨z,e⟩)
 have P0:∀ A a m b,GX A a m b=true↔((a,m)∈A∧(b,m)∈A)∧¬ ((a,b)∈A∨(b,a)∈A):=fun A a m b=>by
  rw[W2,not_or,and_assoc]
 apply Bool.eq_iff_iff.mpr
 rw[vV,Bool.and_eq_true,Bool.not_eq_true',decide_eq_true_eq,Us nd]
 constructor
 ·intro cov
  constructor
  ·refine YZ ⟨fun x=>if x=h then 2 * r t - 1 else 2 * r x,fun p hp=>?_⟩
   obtain⟨a,b⟩:=p
   rcases (mf _).mp hp with ⟨z1,z2⟩|z
   ·have ab:=hr _ z1
    simp only at ab ⊢
    by_cases e1:a=h
    ·subst e1
     have e2:b≠a:=fun e=>by rw[e] at ab;omega
     rw[if_pos rfl,if_neg e2]
     have:=hr _ ha;simp only at this;omega
    ·rw[if_neg e1]
     by_cases e2:b=h
     ·subst e2
      rw[if_pos rfl]
      rcases (cov a).mp z1 with y|y
      ·have:=hr _ y;simp only at this;omega
      ·subst y;exact absurd rfl z2
     ·rw[if_neg e2];omega
   ·cases z
    show (if h=h then 2 * r t - 1 else 2 * r h) < (if t=h then 2 * r t - 1 else 2 * r t)
    rw[if_pos rfl,if_neg hth];omega
  ·intro a _ m _ b _ hab
   apply Bool.eq_iff_iff.mpr
   rw[P0,P0,tie a b]
   constructor
   ·rintro ⟨⟨z1,z2⟩,z3⟩
    refine⟨?_,z3⟩
    rcases (mf _).mp z1 with ⟨y1,_⟩|y
    ·rcases (mf _).mp z2 with ⟨y2,_⟩|y
     ·exact⟨y1,y2⟩
     ·cases y
      exact absurd (.inl ((cov a).mpr (.inl y1))) z3
    ·cases y
     rcases (mf _).mp z2 with ⟨y2,_⟩|y
     ·exact absurd (.inr ((cov b).mpr (.inl y2))) z3
     ·cases y;exact absurd rfl hab
   ·rintro ⟨⟨z1,z2⟩,z3⟩
    refine⟨⟨?_,?_⟩,z3⟩
    ·rw[mf]
     by_cases e:(a,m)=(t,h)
     ·cases e
      rcases (cov b).mp z2 with y|y
      ·exact absurd (.inr y) z3
      ·exact absurd y.symm hab
     ·exact .inl ⟨z1,e⟩
    ·rw[mf]
     by_cases e:(b,m)=(t,h)
     ·cases e
      rcases (cov a).mp z1 with y|y
      ·exact absurd (.inl y) z3
      ·exact absurd y hab
     ·exact .inl ⟨z2,e⟩
 ·rintro ⟨acy,same⟩ x
  obtain⟨r',hr'⟩:=Xz adg acy
  constructor
  ·intro z
   by_cases e:x=t
   ·exact .inr e
   ·refine .inl ?_
    by_cases q:(x,t)∈aa
    ·exact q
    ·exfalso
     by_cases q2:(t,x)∈aa
     ·have z1:=hr' (x,h) ((mf _).mpr (.inl ⟨z,fun y=>by cases y;exact e rfl⟩))
      have z2:=hr' (h,t) ((mf _).mpr (.inr rfl))
      have hx:x≠h:=fun y=>by subst y;have:=hr _ z;simp only at this;omega
      have z3:=hr' (t,x) ((mf _).mpr (.inl ⟨q2,fun y=>by cases y;exact hx rfl⟩))
      simp only at *;omega
     ·have c1:GX aa x h t=true:=(P0 _ _ _ _).mpr ⟨⟨z,ha⟩,fun y=>y.elim q q2⟩
      rw[← same x (hin _ z).1 h hn t tn e] at c1
      have c2:=((P0 _ _ _ _).mp c1).1.2
      rcases (mf _).mp c2 with ⟨_,y⟩|y
      ·exact y rfl
      ·cases y;exact hth rfl
  ·rintro (z|rfl)
   ·by_cases q:(x,h)∈aa
    ·exact q
    ·exfalso
     have hx:x≠h:=fun y=>by subst y;exact abA z
     by_cases q2:(h,x)∈aa
     ·have:=hr _ z;have:=hr _ ha;have:=hr _ q2
      simp only at *;omega
     ·have zt:(x,t)∈ye (t,h) aa:=(mf _).mpr (.inl ⟨z,fun y=>by cases y;exact hth rfl⟩)
      have c1:GX (ye (t,h) aa) x t h=true:=(P0 _ _ _ _).mpr ⟨⟨zt,(mf _).mpr (.inr rfl)⟩,fun y=>((tie x h).mp y).elim q q2⟩
      rw[same x (hin _ z).1 t tn h hn hx] at c1
      exact abA ((P0 _ _ _ _).mp c1).1.2
   ·exact ha
end Mr
namespace Mr
open PySem Mi
end Mr
namespace Mr
open PySem Mi
end Mr
namespace Mr
open PySem Mi
def tie(aa:List Ar)(a b:Str):Bool:=decide ((a,b)∈aa) || decide ((b,a)∈aa)
end Mr
namespace Mr
open PySem Mi
end Mr
namespace Mr
open PySem Mi
theorem xu(n:Nat)(x:Str):cj (n+1) [.d (.str x),.d (.str x)]=.ok (.d (.bl true)):=by
 show vP 2 4 (pL (cj n)) _=_
 unfold pL
 rw[w6]
 have c0:Uy (cB (m1 (yN ["str"]) (mV 1))) (cB (m1 (yN ["int"]) (mV 1))) [some (.d (.str x)),some (.d (.str x)),none,none]=.ok true:=rfl
 have c1:Uy (cB (m2 GR (m1 (yN ["bool"]) (mV 0)) (m1 (yN ["bool"]) (mV 1)))) (cB (m2 GR (m1 (yN ["str"]) (mV 0)) (m1 (yN ["str"]) (mV 1)))) [some (.d (.str x)),some (.d (.str x)),none,none]=.ok false:=rfl
 have c2:Ku (m1 (yN ["int", "str"]) (mV 0)) (m2 tX (mV 0) (mV 1)) [some (.d (.str x)),some (.d (.str x)),none,none]=.ok (.bl true):=by
  show m2 tX (mV 0) (mV 1) [some (.d (.str x)),some (.d (.str x)),none,none]=_
  exact(aG rfl rfl rfl).trans ((yL x x).trans (by rw[decide_eq_true rfl]))
 exact(congrArg (fun r=>Rs.bind r yd) (rD ((ju c0).trans ((aL ((dM c1).trans rfl)).trans (fH (cA c2)))))).trans rfl
theorem zY{a:E}{e:Mi.Env}(h:a e=.ok (.bl true)):qW (cB a) e=.ok false:=by unfold qW;rw[cU h];rfl
end Mr
namespace Mr
open PySem Mi
theorem Nr{a b:C}{e:Mi.Env}{p q:Bool}(ha:a e=.ok p)(hb:p=true→b e=.ok q):uf a b e=.ok (p && q):=by
 unfold uf;rw[ha,az]
 cases p with
 | true=>rw[if_pos rfl,hb rfl];rfl
 | false=>rfl
theorem aad{a b:C}{e:Mi.Env}{p q:Bool}(ha:a e=.ok p)(hb:p=false→b e=.ok q):Uy a b e=.ok (p || q):=by
 unfold Uy;rw[ha,az]
 cases p with
 | true=>rfl
 | false=>rw[if_neg Bool.false_ne_true,hb rfl];rfl
theorem W5{a:C}{e:Mi.Env}{p:Bool}(ha:a e=.ok p):qW a e=.ok (!p):=by unfold qW;rw[ha];rfl
theorem Mw{a b:E}{e:Mi.Env}{p q:Bool}(ha:a e=.ok (.bl p))(hb:p=true→b e=.ok (.bl q)):Ku a b e=.ok (.bl (p && q)):=by
 unfold Ku;rw[ha,az,yo,az]
 cases p with
 | true=>rw[if_pos rfl,hb rfl];rfl
 | false=>rfl
theorem aap{i:Nat}{c:C}{a:E}{e:Mi.Env}{ds:List D}{d:D}{p:Bool}(hc:c e=.ok p)(ha:p=true→a e=.ok d)(hg:getL e i=.ok ds)(hl:ds.length+(if p then [d] else []).length≤16777216)(hs:e.set i (some (.d (.lst ds)))=e) :
 iy c (bV i a) bB e=.ok (.nx (putL e i (ds++if p then [d] else []))):=by
 cases p with
 | true=>rw[ju hc,t8 (ha rfl) hg (by simp at hl;omega)];rfl
 | false =>
  rw[dM hc]
  simp only[Bool.false_eq_true,if_false,List.append_nil,putL]
  rw[hs];rfl
theorem YS{f:D→Option Int→Option Int→Rs D}{a b:E}{e:Mi.Env}{x:D}{i:Int}(h:a e=.ok x)(h':b e=.ok (.int i)):pD f a (some b) none e=f x (some i) none:=by unfold pD;rw[h,az,show pF (some b) e=.ok (some i) from by rw[pF,h'];rfl];rfl
theorem YQ{f:D→Option Int→Option Int→Rs D}{a b:E}{e:Mi.Env}{x:D}{i:Int}(h:a e=.ok x)(h':b e=.ok (.int i)):pD f a none (some b) e=f x none (some i):=by unfold pD;rw[h,az,show pF (some b) e=.ok (some i) from by rw[pF,h'];rfl];rfl
theorem vO{α : Type}{tg:Tg}{body:S}(f:α→D)(g:α→List D)(St:List D→Mi.Env→Prop):∀ (xs:List α) (acc:List D) (e:Mi.Env),acc.length+(xs.flatMap g).length≤16777216→St acc e →
 (∀ x∈xs,∀ acc e,acc.length+(g x).length≤16777216→St acc e→∃ e1 e2,tg.put (f x) e=.ok e1∧body e1=.ok (.nx e2)∧St (acc++g x) e2) →
 ∃ e',qj tg body (xs.map f) e=.ok (.nx e')∧St (acc++xs.flatMap g) e'
 | [],acc,e,_,h,_=>⟨e,rfl,by simpa using h⟩
 | x::r,acc,e,hl,h,hs=>by
  rw[List.flatMap_cons,List.length_append] at hl
  obtain⟨e1,e2,h1,h2,h3⟩:=hs x List.mem_cons_self acc e (by omega) h
  obtain⟨e',h4,h5⟩:=vO f g St r (acc++g x) e2 (by rw[List.length_append];omega) h3 fun y hy=>hs y (List.mem_cons_of_mem _ hy)
  refine⟨e',?_,by rw[List.flatMap_cons,← List.append_assoc];exact h5⟩
  rw[List.map_cons,qj,h1,az,h2,az]
  exact h4
theorem sH{α β : Type}(p:α→Bool)(f:α→β):∀ l:List α,(l.flatMap fun x=>if p x then [f x] else [])=(l.filter p).map f
 | []=>rfl
 | x::r=>by
  rw[List.flatMap_cons,sH p f r]
  cases h:p x with
  | true=>rw[List.filter_cons_of_pos h];rfl
  | false=>rw[List.filter_cons_of_neg (by rw[h];exact Bool.false_ne_true)];rfl
theorem qb{α β γ : Type}(f:β→γ)(g:α→List β):∀ l:List α,(l.flatMap g).map f=l.flatMap fun x=>(g x).map f
 | []=>rfl
 | x::r=>by rw[List.flatMap_cons,List.map_append,qb f g r,List.flatMap_cons]
theorem Ir{α β : Type}{g:α→List β}{m:Nat}:∀ {l:List α},(∀ x∈l,(g x).length≤m)→(l.flatMap g).length≤l.length * m
 | [],_=>by simp
 | x::r,h=>by
  have ih:=Ir (l:=r) fun y hy=>h y (List.mem_cons_of_mem _ hy)
  have h1:=h x List.mem_cons_self
  rw[List.flatMap_cons,List.length_append,List.length_cons,Nat.add_mul]
  omega
theorem Ck(p q:Ar):cL (pairD p) (pairD q)=decide (p=q):=by
 obtain⟨a,b⟩:=p
 obtain⟨c,d⟩:=q
 unfold pairD
 rw[cL,jT,jT,jT,kZ,kZ]
 by_cases h:a=c<;>by_cases k:b=d<;>simp[h,k]
theorem Ul(p q:Ar):tX (pairD p) (pairD q)=.ok (.bl (decide (p=q))):=by
 unfold tX
 rw[ao (by simp[pairD]),Ck]
def jz(aa:List Ar):D:=.lst (aa.map pairD)
theorem PN(aa:List Ar)(p:Ar):Qw (pairD p) (jz aa)=.ok (.bl (decide (p∈aa))):=by
 show aN _ _=_
 rw[ao (Nat.le_trans (tV aa) (by decide)),Jt]
theorem vR(aa:List Ar)(p:Ar):dC (pairD p) (jz aa)=.ok (.bl (!decide (p∈aa))):=by
 show aN _ _=_
 rw[ao (Nat.le_trans (tV aa) (by decide)),Jt]
theorem abl(x y:D)(k:Bool):dU (.lst [x,y]) (.int (if k then 1 else 0))=.ok (if k then y else x):=by
 cases k
 ·show tM (v7 [x,y] 0)=_
  rw[at0];rfl
 ·show tM (v7 [x,y] 1)=_
  rw[at1];rfl
theorem K4{aa:List Ar}{a:Ar}(hl:aa.length≤100):lq [.d (jz aa),.d (pairD a)]=.ok (.d (jz (ye a aa))):=by
 unfold lq yj
 rw[K1]
 have hc:eX (.n 1) jA (m2 dU (mN gq [(mV 1),(mN dTup [(m2 dU (mV 1) (mC (.int 1))),(m2 dU (mV 1) (mC (.int 0)))])]) (mN aaj [(m2 tX (mV 1) (mV 0))])) [some (.d (pairD a)),none] (aa.map pairD)=.ok ((aa.filter fun _=>true).map fun p=>pairD (if p=a then (p.2,p.1) else p)) :=
  fM pairD (fun p=>pairD (if p=a then (p.2,p.1) else p)) (fun _=>true) aa fun p _=>⟨[some (.d (pairD a)),some (.d (pairD p))],rfl,rfl,fun _=>by
   have i0:dU (pairD p) (.int 0)=.ok (.str p.1):=by unfold pairD dU;simp only[at0];rfl
   have i1:dU (pairD p) (.int 1)=.ok (.str p.2):=by unfold pairD dU;simp only[at1];rfl
   refine(aG ((HJ rfl (oO (aG rfl rfl i1) (aG rfl rfl i0))).trans (ao (by simp))) ((iI (aG rfl rfl (Ul p a))).trans rfl) (abl _ _ (decide (p=a)))).trans ?_
   by_cases h:p=a<;>simp[h,pairD]⟩
 have hm:=fB (ρ:=[some 1,none]) (e:=[some (.d (jz aa)),some (.d (pairD a))]) (gU (a:=mV 0) (x:=jz aa) rfl rfl) (by rw[List.length_map];omega) hc
 rw[show ([some (W.d (jz aa)),some (W.d (pairD a))]++List.replicate (2 - 2) none)=[some (W.d (jz aa)),some (W.d (pairD a))] from rfl]
 rw[fH (cA hm)]
 show Rs.ok (W.d (.lst _))=_
 unfold jz ye
 rw[List.filter_eq_self.mpr (fun _ _=>rfl),List.map_map];rfl
end Mr
namespace Mr
open PySem Mi
def cov(aa:List Ar)(p:Ar):Bool:=dI (bA aa p.2) (bA aa p.1++[p.1])
theorem Uw{names:List Str}{aa:List Ar}(hl:aa.length≤64){p:Ar}(h1:p.1∈names)(h2:p.2∈names):dw [.d (bx names aa),.d (.str p.1),.d (.str p.2)]=.ok (.d (.bl (cov aa p))):=by
 unfold dw qJ
 rw[K3]
 have l1:=j6 (x:=p.1) hl
 have l2:=j6 (x:=p.2) hl
 have e1:aZ cI [(wD (mV 0)),(wD (mV 2))] [some (.d (bx names aa)),some (.d (.str p.1)),some (.d (.str p.2))]=.ok (.tup ((bA aa p.2).map D.str)):=call2 rfl rfl (xg h2 hl)
 have e2:aZ cI [(wD (mV 0)),(wD (mV 1))] [some (.d (bx names aa)),some (.d (.str p.1)),some (.d (.str p.2))]=.ok (.tup ((bA aa p.1).map D.str)):=call2 rfl rfl (xg h1 hl)
 have t1:mN dTup [(mV 1)] [some (.d (bx names aa)),some (.d (.str p.1)),some (.d (.str p.2))]=.ok (.tup [.str p.1]):=(iI rfl).trans (ao (by simp))
 have e3:m2 Um (aZ cI [(wD (mV 0)),(wD (mV 1))]) (mN dTup [(mV 1)]) [some (.d (bx names aa)),some (.d (.str p.1)),some (.d (.str p.2))]=.ok (.tup ((bA aa p.1++[p.1]).map D.str)):=by
  refine(aG e2 t1 (ao (by simp only[List.length_map,List.length_cons,List.length_nil];omega))).trans ?_
  rw[List.map_append];rfl
 have e4:Gf (.tup ((bA aa p.2).map D.str)) (.tup ((bA aa p.1++[p.1]).map D.str))=.ok (.bl (cov aa p)):=by
  show ((tM (mY ((bA aa p.2).map D.str))).bind fun xs=>(tM (mY ((bA aa p.1++[p.1]).map D.str))).bind fun ys=>aN (xs.length+1 < 4096∧ys.length+1 < 4096) (Rs.ok (D.bl (dI xs ys))))=_
  rw[sU,sU,gf,az,gf,az]
  exact ao ⟨by omega,by rw[List.length_append];simp;omega⟩
 rw[show ([some (W.d (bx names aa)),some (W.d (.str p.1)),some (W.d (.str p.2))]++List.replicate (3 - 3) none)=[some (W.d (bx names aa)),some (W.d (.str p.1)),some (W.d (.str p.2))] from rfl]
 rw[fH (cA (aG e1 e3 e4))];rfl
end Mr
namespace Mr
open PySem Mi
def m8(names:List Str)(aa:List Ar):List Ar:=names.flatMap fun t=>(names.filter fun h=>decide ((t,h)∈aa)).map fun h=>(t,h)
theorem tQ{names:List Str}{aa:List Ar}{p:Ar}:p∈m8 names aa↔p∈aa∧p.1∈names∧p.2∈names:=by
 obtain⟨a,b⟩:=p
 unfold m8
 simp only[List.mem_flatMap,List.mem_map,List.mem_filter,decide_eq_true_eq,Prod.mk.injEq]
 constructor
 ·rintro ⟨t,ht,h,⟨h1,h2⟩,rfl,rfl⟩
  exact⟨h2,ht,h1⟩
 ·rintro ⟨h1,h2,h3⟩
  exact⟨a,h2,b,⟨h3,h1⟩,rfl,rfl⟩
theorem DY{names:List Str}(hn:names.length≤8)(aa:List Ar):(m8 names aa).length≤64:=by
 unfold m8
 refine Nat.le_trans (Ir (m:=8) fun t _=>?_) (by omega)
 rw[List.length_map]
 exact Nat.le_trans (List.length_filter_le _ _) hn
theorem Od{names:List Str}{aa:List Ar}(hn:names.length≤8):mR [.d (gh names),.d (jz aa)]=.ok (.d (bx names (m8 names aa))):=by
 unfold mR Bc
 rw[w6]
 have ecr:(m8 names aa).map pairD=names.flatMap fun t=>names.flatMap fun h=>if decide ((t,h)∈aa) then [pairD (t,h)] else []:=by
  unfold m8
  rw[qb]
  refine fZ fun t _=>?_
  rw[List.map_map,sH (fun h=>decide ((t,h)∈aa)) (fun h=>pairD (t,h))];rfl
 have adt:((m8 names aa).map pairD).length≤64:=by rw[List.length_map];exact DY hn aa
 rw[ecr] at adt
 obtain⟨e',f1,o3,o4,he⟩:=vO (tg:=.n 3) (body:=(m7 (rY (mV 0)) (.n 4)
 (iy (cB (m2 Qw (mN dTup [(mV 3),(mV 4)]) (mV 1)))
 (bV 2 (mN dTup [(mV 3),(mV 4)]))
 bB)))
  D.str (fun t=>names.flatMap fun h=>if decide ((t,h)∈aa) then [pairD (t,h)] else [])
  (fun acc e=>∃ o3 o4:Option W,e=[some (.d (gh names)),some (.d (jz aa)),some (.d (.lst acc)),o3,o4]) names [] [some (.d (gh names)),some (.d (jz aa)),some (.d (.lst [])),none,none] (by simp only[List.length_nil];omega) ⟨none,none,rfl⟩
  (fun t ht acc e hl ⟨o3,o4,he⟩=>by
   subst he
   obtain⟨e',g1,o4',he'⟩:=vO (tg:=.n 4) (body:=(iy (cB (m2 Qw (mN dTup [(mV 3),(mV 4)]) (mV 1)))
 (bV 2 (mN dTup [(mV 3),(mV 4)]))
 bB))
    D.str (fun h=>if decide ((t,h)∈aa) then [pairD (t,h)] else [])
    (fun acc e=>∃ o4:Option W,e=[some (.d (gh names)),some (.d (jz aa)),some (.d (.lst acc)),some (.d (.str t)),o4]) names acc [some (.d (gh names)),some (.d (jz aa)),some (.d (.lst acc)),some (.d (.str t)),o4] hl ⟨_,rfl⟩
    (fun h hh acc e hl ⟨o4,he⟩=>by
     subst he
     exact⟨[some (.d (gh names)),some (.d (jz aa)),some (.d (.lst acc)),some (.d (.str t)),some (.d (.str h))],putL [some (.d (gh names)),some (.d (jz aa)),some (.d (.lst acc)),some (.d (.str t)),some (.d (.str h))] 2 (acc++if decide ((t,h)∈aa) then [pairD (t,h)] else []),rfl,aap (cU (aG (oO rfl rfl) rfl (PN aa (t,h)))) (fun _=>oO rfl rfl) rfl hl rfl,_,rfl⟩)
   subst he'
   exact⟨[some (.d (gh names)),some (.d (jz aa)),some (.d (.lst acc)),some (.d (.str t)),o4],_,rfl,(j5 (gU (x:=gh names) rfl rfl)).trans g1,_,_,rfl⟩)
 subst he
 rw[aL (e':=[some (.d (gh names)),some (.d (jz aa)),some (.d (.lst [])),none,none]) (bD (Ti _))]
 rw[aL ((j5 (gU (x:=gh names) rfl rfl)).trans f1)]
 rw[fH (cA (oO ((iI (x:=gh names) rfl).trans rfl) ((iI rfl).trans rfl)))]
 rw[List.nil_append,← ecr];rfl
theorem Rk.sub{A B:List Ar}(R:Rk A)(h:∀ p∈B,p∈A):Rk B:=let ⟨r,k⟩:=R;⟨r,fun p hp=>k p (h p hp)⟩
theorem Y6{xs:List Ar}{i:Int}(h0:0≤i)(h1:i < xs.length):∃ p,p∈xs∧dU (jz xs) (.int i)=.ok (pairD p):=by
 have hk:i.toNat < xs.length:=by omega
 refine⟨xs[i.toNat],List.getElem_mem hk,?_⟩
 show tM (v7 (xs.map pairD) i)=_
 unfold v7 Bv
 rw[if_pos h0,List.length_map,if_pos h1]
 show tM ((xs.map pairD)[i.toNat]?)=_
 rw[List.getElem?_map,List.getElem?_eq_getElem hk];rfl
end Mr
namespace Mr
open PySem Mi
theorem G3:∀ ds:List D,pJ ds ds=ds.map fun d=>D.tup [d,d]
 | []=>rfl
 | d::r=>by rw[pJ,G3 r];rfl
def sq(k:Bool)(ds:List D):D:=if k then .lst ds else .tup ds
theorem v5{F:Fn}(k:Bool)(ds:List D)(h:∀ d∈ds,F [.d d,.d d]=.ok (.d (.bl true))):vP 2 4 (pL F) [.d (sq k ds),.d (sq k ds)]=.ok (.d (.bl true)):=by
 unfold pL
 rw[w6]
 have c0:Uy (cB (m1 (yN ["str"]) (mV 1))) (cB (m1 (yN ["int"]) (mV 1))) [some (.d (sq k ds)),some (.d (sq k ds)),none,none]=.ok false:=by cases k<;>rfl
 have c1:Uy (cB (m2 GR (m1 (yN ["list"]) (mV 0)) (m1 (yN ["list"]) (mV 1)))) (qW (cB (m1 (yN ["list", "tuple"]) (mV 0)))) [some (.d (sq k ds)),some (.d (sq k ds)),none,none]=.ok false:=by cases k<;>rfl
 have c2:cB (m2 GR (mN iR [(mV 0)]) (mN iR [(mV 1)])) [some (.d (sq k ds)),some (.d (sq k ds)),none,none]=.ok false:=by
  cases k<;>exact cU ((aG rfl rfl rfl).trans ((WT _ _).trans (by rw[decide_eq_true rfl];rfl)))
 obtain⟨e',f1,o2,o3,he⟩:=kO (tg:=.t [2,3]) (body:=(iy (qW (cB (aZ F [(wD (mV 2)),(wD (mV 3))]))) (dF (wD (mC (.bl false)))) bB))
  (fun i e=>∃ o2 o3:Option W,e=[some (.d (sq k ds)),some (.d (sq k ds)),o2,o3]) (ds.map fun d=>D.tup [d,d]) 0 (fun i d e hi ⟨o2,o3,he⟩=>by
   subst he
   rw[List.getElem?_map] at hi
   obtain⟨x,hx,rfl⟩:=Option.map_eq_some_iff.mp hi
   have ct:qW (cB (aZ F [(wD (mV 2)),(wD (mV 3))])) [some (.d (sq k ds)),some (.d (sq k ds)),some (.d x),some (.d x)]=.ok false:=zY (call2 rfl rfl (h x (List.mem_of_getElem? hx)))
   exact⟨[some (.d (sq k ds)),some (.d (sq k ds)),some (.d x),some (.d x)],_,rfl,(dM ct).trans rfl,_,_,rfl⟩) [some (.d (sq k ds)),some (.d (sq k ds)),none,none] ⟨none,none,rfl⟩
 subst he
 have hit:KH (mV 0) (mV 1) [some (.d (sq k ds)),some (.d (sq k ds)),none,none]=.ok (ds.map fun d=>D.tup [d,d]):=by rw[← G3];cases k<;>rfl
 exact(congrArg (fun r=>Rs.bind r yd) ((aL ((dM c0).trans rfl)).trans ((aL ((dM c1).trans rfl)).trans ((aL ((dM c2).trans rfl)).trans ((aL ((j5 hit).trans f1)).trans (fH (cA rfl))))))).trans rfl
theorem Lh(n:Nat)(p:Ar):cj (n+2) [.d (pairD p),.d (pairD p)]=.ok (.d (.bl true)) :=
 v5 (F:=cj (n+1)) false [.str p.1,.str p.2] fun d hd=>by
  rcases List.mem_cons.mp hd with rfl|hd
  ·exact xu n _
  ·rw[List.mem_singleton.mp hd];exact xu n _
end Mr
namespace Mr
open PySem Mi
theorem vL:∀ a b:List Int,qQ a b=true→qQ b a=true→False
 | [],[],h,_=>by cases h
 | [],_::_,_,h=>by cases h
 | _::_,[],h,_=>by cases h
 | a::r,b::t,h,k=>by
  rw[qQ] at h k
  by_cases e:a=b
  ·subst e
   rw[if_pos (beq_self_eq_true a)] at h k
   exact vL r t h k
  ·rw[if_neg (by simpa using e)] at h
   rw[if_neg (by simpa using Ne.symm e)] at k
   simp at h k;omega
theorem Tn{a b:Int}{r t:List Int}(h:a < b):qQ (a::r) (b::t)=true:=by
 rw[qQ,if_neg (by simp;omega)]
 simpa using h
theorem Wq{a:Int}{r t:List Int}:qQ (a::r) (a::t)=qQ r t:=by
 rw[qQ,if_pos (beq_self_eq_true a)]
section
variable{α : Type}(key:α→List Int)
theorem Cp:∀ {a b:List α},(∀ x,x∈a↔x∈b)→a.Pairwise (fun x y=>qQ (key x) (key y)=true)→b.Pairwise (fun x y=>qQ (key x) (key y)=true)→a=b
 | [],[],_,_,_=>rfl
 | [],y::t,h,_,_=>absurd ((h y).mpr List.mem_cons_self) (by simp)
 | x::r,[],h,_,_=>absurd ((h x).mp List.mem_cons_self) (by simp)
 | x::r,y::t,h,ha,hb=>by
  have ha':=List.pairwise_cons.mp ha
  have hb':=List.pairwise_cons.mp hb
  have e:x=y:=by
   rcases List.mem_cons.mp ((h x).mp List.mem_cons_self) with z|z
   ·exact z
   ·rcases List.mem_cons.mp ((h y).mpr List.mem_cons_self) with z2|z2
    ·exact z2.symm
    ·exact(vL _ _ (hb'.1 x z) (ha'.1 y z2)).elim
  subst e
  have nr:x∉r:=fun z=>vL _ _ (ha'.1 x z) (ha'.1 x z)
  have nt:x∉t:=fun z=>vL _ _ (hb'.1 x z) (hb'.1 x z)
  rw[Cp (a:=r) (b:=t) (fun z=>⟨fun hz=>?_,fun hz=>?_⟩) ha'.2 hb'.2]
  ·rcases List.mem_cons.mp ((h z).mp (List.mem_cons_of_mem _ hz)) with q|q
   ·exact absurd (q ▸ hz) nr
   ·exact q
  ·rcases List.mem_cons.mp ((h z).mpr (List.mem_cons_of_mem _ hz)) with q|q
   ·exact absurd (q ▸ hz) nt
   ·exact q
theorem Ou{kz:List (List Int)}(nd:kz.Nodup):(yt kz kz.length).Perm (List.range kz.length)∧(yt kz kz.length).Pairwise (fun i j=>qQ (kz.getD i []) (kz.getD j [])=true):=by
 have O:=So.Fi nd
 have e:yt kz kz.length=sortI (So.Wm kz) (List.range kz.length):=by
  unfold yt So.Wm
  congr 1
  funext i j
  exact(So.Fl _ _).symm
 rw[e]
 refine⟨So.oW _ _,(So.rC O (fun x hx=>by simpa using hx) List.nodup_range).imp fun {i j} h=>?_⟩
 rw[← So.Fl];exact h
theorem Og[Inhabited α](f:α→D){xs ys:List α}(nd:(xs.map key).Nodup)(hm:∀ a,a∈xs↔a∈ys)(hs:ys.Pairwise fun a b=>qQ (key a) (key b)=true):sortBy (xs.map key) (xs.map f)=ys.map f:=by
 obtain⟨h1,h2⟩:=Ou nd
 rw[List.length_map] at h1 h2
 have lt:∀ i∈yt (xs.map key) xs.length,i < xs.length:=fun i hi=>by simpa using h1.mem_iff.mp hi
 have gd:∀ i,i < xs.length→∀ (β : Type) (g:α→β) (d:β),(xs.map g).getD i d=g (xs.getD i default):=fun i hi β g d=>by simp[hi]
 have e:sortBy (xs.map key) (xs.map f)=((yt (xs.map key) xs.length).map fun i=>xs.getD i default).map f:=by
  unfold sortBy
  rw[List.length_map,List.map_map]
  exact List.map_congr_left fun i hi=>gd i (lt i hi) _ f _
 have e2 : ((yt (xs.map key) xs.length).map fun i => xs.getD i default) = ys := by
  refine Cp key (fun a=>?_) ?_ hs
  ·rw[← hm a,List.mem_map]
   constructor
   ·rintro ⟨i,hi,rfl⟩
    have:=lt i hi
    rw[List.getD_eq_getElem?_getD,List.getElem?_eq_getElem this]
    exact List.getElem_mem this
   ·intro ha
    obtain⟨i,hi,rfl⟩:=List.getElem_of_mem ha
    exact⟨i,h1.mem_iff.mpr (List.mem_range.mpr hi),by simp[hi]⟩
  ·rw[List.pairwise_map]
   refine h2.imp_of_mem fun {i j} hi hj h=>?_
   rw[gd i (lt i hi) _ key,gd j (lt j hj) _ key] at h
   exact h
 rw[e,e2]
end
theorem Jq:∀ l:List Int,Bf (l.map D.int)=some l
 | []=>rfl
 | i::r=>by rw[List.map_cons,Bf,Jq r];rfl
theorem MP{α : Type}{ρ : List Nat}{kf:E}{e:Mi.Env}(f:α→D)(key:α→List Int):∀ {xs:List α},(∀ x∈xs,kf (Ft ρ e (f x))=.ok (.lst ((key x).map D.int)))→pH ρ kf e (xs.map f)=.ok (xs.map key)
 | [],_=>rfl
 | x::r,h=>by
  rw[List.map_cons,pH,h x List.mem_cons_self,az,Jp,Jq,gf,az,MP f key fun y hy=>h y (List.mem_cons_of_mem _ hy)]
  rfl
def ky(names row:List Str):List Int:=row.map fun x=>((names.idxOf x:Nat):Int)
theorem Rm{α : Type}[Inhabited α]{names:List Str}{nx:D}(hq:aan nx=some names)(hn:names.length≤1000)(row:α→List Str){xs ys:List α}(hr:∀ x∈xs,(row x).length≤1000∧∀ y∈row x,y∈names)(h64:xs.length < 64)(nd:(xs.map fun x=>ky names (row x)).Nodup)
 (hm:∀ a,a∈xs↔a∈ys) (hs:ys.Pairwise fun a b=>qQ (ky names (row a)) (ky names (row b))=true) :
 gA [.d nx,.d (.lst (xs.map fun x=>.tup ((row x).map D.str)))]=.ok (.d (.lst (ys.map fun x=>.tup ((row x).map D.str)))):=by
 unfold gA uw
 rw[K1]
 rw[show ([some (W.d nx),some (W.d (.lst (xs.map fun x=>.tup ((row x).map D.str))))]++List.replicate (2 - 2) none)=[some (W.d nx),some (W.d (.lst (xs.map fun x=>.tup ((row x).map D.str))))] from rfl]
 have hk:pH [0] (fL [some 1,none] (rY (mV 0)) (.n 1) jA (m2 Uk (mV 0) (mV 1))) [some (W.d nx),some (W.d (.lst (xs.map fun x=>.tup ((row x).map D.str))))] (xs.map fun x=>.tup ((row x).map D.str))=.ok (xs.map fun x=>ky names (row x)) :=
  MP (fun x=>.tup ((row x).map D.str)) (fun x=>ky names (row x)) fun x hx=>by
   have hc:eX (.n 1) jA (m2 Uk (mV 0) (mV 1)) [some (W.d nx),none] ((row x).map D.str)=.ok (((row x).filter fun _=>true).map fun y=>D.int ((names.idxOf y:Nat):Int)) :=
    fM D.str (fun y=>D.int ((names.idxOf y:Nat):Int)) (fun _=>true) (row x) fun y hy=>⟨[some (W.d nx),some (W.d (.str y))],rfl,rfl,fun _=>aG (x:=nx) (y:=.str y) rfl rfl (by
     show ((tM (aan nx)).bind fun ys=>aN (y∈ys∧ys.length≤1000) (Rs.ok (D.int ((ys.idxOf y:Nat):Int))))=_
     rw[hq,gf,az]
     exact ao ⟨(hr x hx).2 y hy,hn⟩)⟩
   have hm:=fB (ρ:=[some 1,none]) (e:=Ft [0] [some (W.d nx),some (W.d (.lst (xs.map fun x=>.tup ((row x).map D.str))))] (.tup ((row x).map D.str))) (gU (a:=mV 0) (x:=.tup ((row x).map D.str)) rfl rfl) (by rw[List.length_map];have:=(hr x hx).1;omega) hc
   rw[hm,List.filter_eq_self.mpr (fun _ _=>rfl)]
   show Rs.ok (D.lst _)=Rs.ok (D.lst ((ky names (row x)).map D.int))
   unfold ky
   rw[List.map_map];rfl
 have hS:Ff [0] (mV 1) (fL [some 1,none] (rY (mV 0)) (.n 1) jA (m2 Uk (mV 0) (mV 1))) [some (W.d nx),some (W.d (.lst (xs.map fun x=>.tup ((row x).map D.str))))]=.ok (.lst (ys.map fun x=>.tup ((row x).map D.str))):=by
  unfold Ff
  rw[show mV 1 [some (W.d nx),some (W.d (.lst (xs.map fun x=>.tup ((row x).map D.str))))]=.ok (.lst (xs.map fun x=>.tup ((row x).map D.str))) from rfl,az]
  rw[show tW (.lst (xs.map fun x=>.tup ((row x).map D.str)))=.ok (xs.map fun x=>.tup ((row x).map D.str)) from rfl,az,ao (by rw[List.length_map];exact h64),hk,az,ao nd,Og (fun x=>ky names (row x)) _ nd hm hs]
 rw[fH (cA hS)];rfl
end Mr
namespace Mr
open PySem Mi
theorem Nb{names:List Str}(nd:names.Nodup){i:Nat}(hi:i < names.length):names.idxOf (nth names i)=i:=by
 have e:nth names i=names[i]:=by unfold nth;rw[List.getD_eq_getElem?_getD,List.getElem?_eq_getElem hi];rfl
 rw[e];exact nd.idxOf_getElem i hi
theorem Nf{names:List Str}{x y:Str}(hx:x∈names)(hy:y∈names)(h:names.idxOf x=names.idxOf y):x=y:=by
 have h1:=List.getElem_idxOf (List.idxOf_lt_length_iff.mpr hx)
 have h2:=List.getElem_idxOf (List.idxOf_lt_length_iff.mpr hy)
 rw[← h1,← h2]
 congr 1
def tr(t:Tr3):List Str:=[t.1,t.2.1,t.2.2]
theorem HH{α : Type}[DecidableEq α]:∀ {l L:List α},l.Nodup→(∀ x∈l,x∈L)→l.length≤L.length
 | [],_,_,_=>Nat.zero_le _
 | x::r,L,nd,h=>by
  have nd':=List.nodup_cons.mp nd
  have hx:=h x List.mem_cons_self
  have:=HH (l:=r) (L:=L.erase x) nd'.2 fun y hy=>(List.mem_erase_of_ne (fun z:y=x=>nd'.1 (z ▸ hy))).mpr (h y (List.mem_cons_of_mem _ hy))
  rw[List.length_erase_of_mem hx] at this
  have:=List.length_pos_of_mem hx
  rw[List.length_cons];omega
end Mr
namespace Mr
open PySem Mi
theorem O5{a b:E}{e:Mi.Env}{x y:D}(h:a e=.ok x)(h':b e=.ok y):mN gq [a,b] e=.ok (.lst [x,y]):=by
 unfold mN;rw[iZ,h,az,iZ,h',az];rfl
theorem Aq{a:E}{e:Mi.Env}{x:D}(h:a e=.ok x):rP a e=.ok (.nx e):=by unfold rP;rw[h];rfl
end Mr
namespace Mr
open PySem Mi
open My (words Gz fW)
theorem Qn:("abcdefghijklmnopqrstuvwxyz" : Str).cps.toList=(List.range 26).map (· + 97):=by decide +kernel
theorem IW{a b c:E}{e:Mi.Env}{i j k:Int}(ha:a e=.ok (.int i))(hb:b e=.ok (.int j))(hc:c e=.ok (.int k))(h1:i≤j)(h2:j≤k):wR WX WX a b c e=.ok (.bl true):=by
 unfold wR
 rw[ha,az,hb,az]
 show (Rs.ok (D.bl (decide (i≤j)))).bind _=_
 rw[decide_eq_true h1,az,yo,az,if_pos rfl,hc,az]
 show Rs.ok (D.bl (decide (j≤k)))=_
 rw[decide_eq_true h2]
theorem Vv{l:List Nat}(hw:Gz l):d9 [.d (.str (S' l))]=.ok (.d (.bl true)):=by
 unfold d9 Dj
 rw[WK]
 rw[show ([some (W.d (.str (S' l)))]++List.replicate (1 - 1) none)=[some (W.d (.str (S' l)))] from rfl]
 obtain⟨h1,h8,hl⟩:=hw
 have hc:eX (.n 0) jA (m2 Qw (mV 0) (mC (.str "abcdefghijklmnopqrstuvwxyz"))) [none] (l.map fun c=>D.str (S' [c]))=.ok ((l.filter fun _=>true).map fun c=>D.bl ((fun _=>true) c)) :=
  fM (fun c=>D.str (S' [c])) (fun c=>D.bl ((fun _=>true) c)) (fun _=>true) l fun c hcl=>⟨[some (.d (.str (S' [c])))],rfl,rfl,fun _=>aG (x:=.str (S' [c])) rfl rfl (by
   show aN ((S' [c]).length=1) (Rs.ok (D.bl (decide ((S' [c]).cps.getD 0 0∈("abcdefghijklmnopqrstuvwxyz" : Str).cps.toList))))=_
   have hm:(S' [c]).cps.getD 0 0∈("abcdefghijklmnopqrstuvwxyz" : Str).cps.toList:=by
    rw[Qn]
    have:=hl c hcl
    exact List.mem_map.mpr ⟨c - 97,List.mem_range.mpr (by omega),by show c - 97+97=c;omega⟩
   rw[ao (by rw[lM];rfl),decide_eq_true hm])⟩
 rw[List.filter_eq_self.mpr (fun _ _=>rfl)] at hc
 have h2:mN Qm [(fL [none] (rY (mV 0)) (.n 0) jA (m2 Qw (mV 0) (mC (.str "abcdefghijklmnopqrstuvwxyz"))))] [some (W.d (.str (S' l)))]=.ok (.bl true):=by
  refine(iI (fB (ρ:=[none]) (gU (a:=mV 0) (x:=.str (S' l)) rfl rfl) (by rw[List.length_map,yP];omega) hc)).trans ?_
  rw[Yn,Js,gf,az,List.all_map]
  show Rs.ok (D.bl (l.all fun _=>true))=_
  rw[List.all_eq_true.mpr (fun _ _=>rfl)]
 have h3:wR WX WX (mC (.int 1)) (mN iR [(mV 0)]) (mC (.int 8)) [some (W.d (.str (S' l)))]=.ok (.bl true):=IW (j:=((l.length:Nat):Int)) rfl ((iI (x:=.str (S' l)) rfl).trans (by rw[abM,ao (by rw[lM];omega),lM])) rfl (by omega) (by omega)
 rw[fH (cA (Mw h3 fun _=>h2))];rfl
theorem QV{α : Type}{l:List α}(nd:l.Nodup){i:Nat}{x:α}(hx:l[i]? = some x):x∉l.take i:=fun z=>by
 obtain⟨il,hxe⟩:=List.getElem?_eq_some_iff.mp hx
 obtain⟨j,hj⟩:=List.getElem?_of_mem z
 have hj2:=(List.getElem?_eq_some_iff.mp hj).1
 rw[List.length_take] at hj2
 rw[List.getElem?_take_of_lt (by omega)] at hj
 obtain⟨jl,hje⟩:=List.getElem?_eq_some_iff.mp hj
 have:=(List.getElem_inj nd).mp (hje.trans hxe.symm)
 omega
def Tv(p:Ar):List Ky:=[.inr p.1,.inr p.2]
theorem MJ{p q:Ar}(h:Tv p=Tv q):p=q:=by
 obtain⟨a,b⟩:=p
 obtain⟨c,d⟩:=q
 simp only[Tv,List.cons.injEq,Sum.inr.injEq,and_true] at h
 rw[h.1,h.2]
def Ud(ps:List Ar):W:=.dt (ps.map fun p=>(Tv p,D.bl true))
theorem acR(ps:List Ar)(p:Ar):(Bm (ps.map fun p=>(Tv p,D.bl true)) (Tv p)).isSome=decide (p∈ps):=by
 unfold Bm
 induction ps with
 | nil=>rfl
 | cons a r ih =>
  rw[List.map_cons,List.find?_cons]
  by_cases h:a=p
  ·subst h;simp
  ·rw[decide_eq_false (fun z:Tv a=Tv p=>h (MJ z))]
   simp only[ih]
   simp[Ne.symm h]
theorem ab6{i:Nat}{k:E}{e:Mi.Env}{ps:List Ar}{p:Ar}(hk:k e=.ok (pairD p))(hw:wV i e=.ok (Ud ps)):Fg i k e=.ok (.bl (decide (p∈ps))):=by
 unfold Fg;rw[hk,az,hw,az,← acR];rfl
theorem Ue{i:Nat}{k:E}{e:Mi.Env}{ps:List Ar}{p:Ar}(hk:k e=.ok (pairD p))(hw:wV i e=.ok (Ud ps))(hn:p∉ps)(hl:ps.length≤1000):ni i k (mC (.bl true)) e=.ok (.nx (e.set i (some (Ud (ps++[p]))))):=by
 unfold ni
 have h1:Z8 (Ud ps) (pairD p) (.bl true)=.ok (Ud (ps++[p])):=by
  show aN ((ps.map fun p=>(Tv p,D.bl true)).length < 16777216) (Rs.ok (W.dt (Mi.putK (Tv p) (.bl true) (ps.map fun p=>(Tv p,D.bl true)))))=_
  rw[ao (by rw[List.length_map];omega)]
  unfold Mi.putK
  rw[if_neg (by
   rw[List.any_map,Bool.not_eq_true,List.any_eq_false]
   intro z hz
   simp only[Function.comp,decide_eq_true_eq]
   exact fun q=>hn (MJ q ▸ hz))]
  unfold Ud
  rw[List.map_append];rfl
 rw[show mC (.bl true) e=.ok (.bl true) from rfl,az,hk,az,hw,az,h1];rfl
def both(xs:List Ar):List Ar:=xs.flatMap fun p=>[p,(p.2,p.1)]
theorem HS{xs:List Ar}{q:Ar}:q∈both xs↔∃ p∈xs,q=p∨q=(p.2,p.1):=by
 unfold both
 simp[List.mem_flatMap]
theorem UG(xs:List Ar):(both xs).length=2 * xs.length:=by
 induction xs with
 | nil=>rfl
 | cons a r ih=>unfold both at *;rw[List.flatMap_cons,List.length_append,ih];simp;omega
structure Apart(names:List Str)(xs:List Ar):Prop where
 inn:∀ p∈xs,p.1∈names∧p.2∈names
 ZQ:∀ p∈xs,p.1≠p.2
 pw:xs.Pairwise fun p q=>p≠q∧p≠(q.2,q.1)
theorem VR{names:List Str}{aa:List Ar}(N:Qp names aa):iY [.d (bx names aa)]=.ok (.d .non):=by
 unfold iY ux
 rw[WK]
 rw[show ([some (W.d (bx names aa))]++List.replicate (3 - 1) none)=[some (W.d (bx names aa)),none,none] from rfl]
 rw[aL (e':=[some (.d (bx names aa)),some (.d (aP (ord names aa names.length))),none]) (bD (CW rfl (KD N)))]
 have hc:eX (.n 1) (cB (m2 dC (mV 1) (mV 0))) (mV 1) [some (.d (aP (ord names aa names.length))),none] (names.map D.str)=.ok ((names.filter fun x=>!decide (x∈ord names aa names.length)).map D.str) :=
  fM D.str D.str (fun x=>!decide (x∈ord names aa names.length)) names fun x _=>⟨[some (.d (aP (ord names aa names.length))),some (.d (.str x))],rfl,cU (aG rfl rfl (uT _ x)),fun _=>rfl⟩
 rw[List.filter_eq_nil_iff.mpr (fun x hx=>by rw[decide_eq_true (N.Ml x hx)];simp)] at hc
 rw[aL (bD (fB (ρ:=[some 1,none]) (gU (aG (a:=mV 0) (b:=mC (.int 0)) rfl rfl (ZM names aa)) rfl) (by rw[List.length_map];have:=N.le;omega) hc))]
 rw[dM (c:=aac (mV 2)) rfl]
 rfl
end Mr
namespace Mr
open PySem Mi
open My (words Gz fW)
def rw2(p:Ar):List Str:=[p.1,p.2]
theorem m6.sorted{names:List Str}{A:List Ix}{r:Nat→Int}(N:m6 names A r):(A.map (arrOf names)).Pairwise fun p q=>qQ (ky names (rw2 p)) (ky names (rw2 q))=true:=by
 rw[List.pairwise_map]
 refine List.Pairwise.imp_of_mem (fun {p q} hp hq h=>?_) N.m8
 have k:∀ x:Ix,x∈A→ky names (rw2 (arrOf names x))=[((x.1:Nat):Int),((x.2:Nat):Int)]:=fun x hx=>by
  obtain⟨h1,h2,_⟩:=N.all x hx
  show [((names.idxOf (nth names x.1):Nat):Int),((names.idxOf (nth names x.2):Nat):Int)]=_
  rw[Nb N.nd h1,Nb N.nd h2]
 rw[k p hp,k q hq]
 rcases h with h|⟨h1,h2⟩
 ·exact Tn (Int.ofNat_lt.mpr h)
 ·rw[h1,Wq];exact Tn (Int.ofNat_lt.mpr h2)
theorem m6.apart{names:List Str}{A:List Ix}{r:Nat→Int}(N:m6 names A r):Apart names (A.map (arrOf names)):=by
 refine⟨fun p hp=>?_,fun p hp=>?_,?_⟩
 ·obtain⟨q,hq,rfl⟩:=List.mem_map.mp hp
  exact⟨lV (N.all q hq).1,lV (N.all q hq).2.1⟩
 ·obtain⟨q,hq,rfl⟩:=List.mem_map.mp hp
  obtain⟨h1,h2,h3⟩:=N.all q hq
  intro z
  have:=jH N.nd h1 h2 z
  rw[this] at h3;omega
 ·rw[List.pairwise_map]
  refine List.Pairwise.imp_of_mem (fun {p q} hp hq h=>?_) N.m8
  obtain⟨h1,h2,h3⟩:=N.all p hp
  obtain⟨k1,k2,k3⟩:=N.all q hq
  refine⟨fun z=>?_,fun z=>?_⟩
  ·have e1:=jH N.nd h1 k1 (congrArg Prod.fst z)
   have e2:=jH N.nd h2 k2 (congrArg Prod.snd z)
   rcases h with h|⟨_,h⟩<;>omega
  ·have e1:=jH N.nd h1 k2 (congrArg Prod.fst z)
   have e2:=jH N.nd h2 k1 (congrArg Prod.snd z)
   rw[e1,e2] at h3;omega
theorem Apart.perm{names:List Str}{xs ys:List Ar}(P:Apart names ys)(h:xs.Perm ys):Apart names xs :=
 ⟨fun p hp=>P.inn p (h.mem_iff.mp hp),fun p hp=>P.ZQ p (h.mem_iff.mp hp),(h.pairwise_iff (fun {p q} z=>⟨z.1.symm,fun e=>z.2 (by rw[e])⟩)).mpr P.pw⟩
def ab9:List Ix:=((List.range 64).map fun n=>(n / 8,n % 8)).filter fun p=>decide (p.1≠p.2)
theorem Uz:ab9.length=56:=by decide +kernel
theorem m6.few{names:List Str}{A:List Ix}{r:Nat→Int}(N:m6 names A r):A.length≤56:=by
 have nd:A.Nodup:=N.m8.imp fun {p q} h z=>by subst z;rcases h with h|⟨_,h⟩<;>omega
 have:=HH nd (L:=ab9) fun p hp=>by
  obtain⟨h1,h2,h3⟩:=N.all p hp
  have hn:=N.le
  refine List.mem_filter.mpr ⟨List.mem_map.mpr ⟨p.1 * 8+p.2,List.mem_range.mpr (by omega),Prod.ext (by show (p.1 * 8+p.2) / 8=p.1;omega) (by show (p.1 * 8+p.2) % 8=p.2;omega)⟩,?_⟩
  exact decide_eq_true fun z=>by rw[z] at h3;omega
 rw[Uz] at this;exact this
theorem Dm(names:List Str)(aa:List Ar):cj 4 [.d (bx names aa),.d (bx names aa)]=.ok (.d (.bl true)) :=
 v5 (F:=cj 3) false [gh names,Lf aa] fun d hd=>by
  rcases List.mem_cons.mp hd with rfl|hd
  ·exact v5 (F:=cj 2) false (names.map D.str) fun d hd=>by
    obtain⟨x,_,rfl⟩:=List.mem_map.mp hd
    exact xu 1 x
  ·rw[List.mem_singleton.mp hd]
   exact v5 (F:=cj 2) false (aa.map pairD) fun d hd=>by
    obtain⟨p,_,rfl⟩:=List.mem_map.mp hd
    exact Lh 0 p
end Mr
namespace Mr
open PySem Mi
def Sh(x:Str):Prop:=x.length≤100∧∀ c∈x.cps.toList,c < 128
theorem Sh.rep{x:Str}(h:Sh x):(PySem.reprText x).length≤100000:=by
 have h1:=PySem.StrLaws.reprText_len x fun c hc=>Nat.lt_trans (h.2 c hc) (by decide)
 have h2:=h.1
 omega
theorem Jb{c:C}{e:Mi.Env}{b:Bool}(h:c e=.ok b):cP c e=.ok b:=Hg h
theorem Yc{m:I}{e:Mi.Env}{o:List D}(h:m e=.ok o):iP m e=.ok o:=Hg h
theorem zK{c:String}{gs:List (Mi.Env→Bool)}{e:Mi.Env}(h:(gs.all fun g=>g e)=true):rO c gs e=.ex ⟨c,[]⟩:=if_pos h
theorem JX{s t:S}{e:Mi.Env}{z:yp}(h:s e=.ex z):aY s t e=.ex z:=by unfold aY;rw[h];rfl
theorem Qi{f:Fn}{a b:EW}{e:Mi.Env}{x y:W}{z:yp}(h:a e=.ok x)(h':b e=.ok y)(hf:f [x,y]=.ex z):mJ f [a,b] e=.ex z:=by
 unfold mJ
 rw[bM,h,az,bM,h',az,bM,az]
 show ((f [x,y]).bind fun _=>_)=_
 rw[hf];rfl
theorem Qg{f:Fn}{a b c:EW}{e:Mi.Env}{x y w:W}{z:yp}(h:a e=.ok x)(h':b e=.ok y)(h2:c e=.ok w)(hf:f [x,y,w]=.ex z):mJ f [a,b,c] e=.ex z:=by
 unfold mJ
 rw[bM,h,az,bM,h',az,bM,h2,az,bM,az]
 show ((f [x,y,w]).bind fun _=>_)=_
 rw[hf];rfl
theorem Im{i:Nat}{e:Mi.Env}{x:Str}(h:e[i]? = some (some (.d (.str x))))(s:Sh x):gR i e=true:=by
 unfold gR
 rw[h]
 exact decide_eq_true s.rep
abbrev xNo:yp:=⟨"NoName", []⟩
theorem Vr{names asked:List Str}(h:∃ x∈asked,x∉names)(hs:∀ x∈asked,Sh x):bL [.d (gh names),.d (aP asked)]=.ex xNo:=by
 unfold bL iQ
 rw[w6]
 rw[show ([some (W.d (gh names)),some (W.d (aP asked))]++List.replicate (3 - 2) none)=[some (W.d (gh names)),some (W.d (aP asked)),none] from rfl]
 have key:∀ (l:List Str) (o:Option W),(∃ x∈l,x∉names)→(∀ x∈l,Sh x)→qj (.n 2) (iy (cP (cB (m2 dC (mV 2) (mV 0)))) (rO "NoName" [(gR 2),(fun _=>true)]) (sP bB)) (l.map D.str) [some (W.d (gh names)),some (W.d (aP asked)),o]=.ex xNo:=by
  intro l
  induction l with
  | nil=>intro o hx;obtain⟨x,hx,_⟩:=hx;exact nomatch hx
  | cons a r ih =>
   intro o hx hsh
   rw[List.map_cons,qj]
   show (Rs.bind (iy _ _ _ [some (W.d (gh names)),some (W.d (aP asked)),some (.d (.str a))]) _)=_
   have ct:cP (cB (m2 dC (mV 2) (mV 0))) [some (W.d (gh names)),some (W.d (aP asked)),some (.d (.str a))]=.ok (!decide (a∈names)):=Jb (cU (aG rfl rfl (lz names a)))
   by_cases ha:a∈names
   ·rw[decide_eq_true ha] at ct
    rw[dM ct]
    obtain⟨x,hx,hn⟩:=hx
    rcases List.mem_cons.mp hx with rfl|hx
    ·exact absurd ha hn
    ·exact ih _ ⟨x,hx,hn⟩ fun y hy=>hsh y (List.mem_cons_of_mem _ hy)
   ·rw[decide_eq_false ha] at ct
    rw[ju ct,zK (by
     show (gR 2 [some (W.d (gh names)),some (W.d (aP asked)),some (.d (.str a))] && (true && true))=true
     rw[Im rfl (hsh a (List.mem_cons_self ..))];rfl)]
    rfl
 rw[j5 (Yc (gU (a:=mV 1) (x:=aP asked) rfl rfl)),key asked none h hs]
 rfl
theorem JK{names asked:List Str}(h:∀ x∈asked,x∈names):bL [.d (gh names),.d (aP asked)]=.ok (.d .non):=by
 unfold bL iQ
 rw[w6]
 rw[show ([some (W.d (gh names)),some (W.d (aP asked))]++List.replicate (3 - 2) none)=[some (W.d (gh names)),some (W.d (aP asked)),none] from rfl]
 obtain⟨e',f1,o,he⟩:=kO (tg:=.n 2) (body:=(iy (cP (cB (m2 dC (mV 2) (mV 0)))) (rO "NoName" [(gR 2),(fun _=>true)]) (sP bB)))
  (fun i e=>∃ o:Option W,e=[some (W.d (gh names)),some (W.d (aP asked)),o]) (asked.map D.str) 0 (fun i d e hi ⟨o,he⟩=>by
   subst he
   rw[List.getElem?_map] at hi
   obtain⟨x,hx,rfl⟩:=Option.map_eq_some_iff.mp hi
   have ct:cP (cB (m2 dC (mV 2) (mV 0))) [some (W.d (gh names)),some (W.d (aP asked)),some (.d (.str x))]=.ok (!decide (x∈names)):=Jb (cU (aG rfl rfl (lz names x)))
   rw[decide_eq_true (h x (List.mem_of_getElem? hx))] at ct
   exact⟨[some (W.d (gh names)),some (W.d (aP asked)),some (.d (.str x))],_,rfl,(dM ct).trans rfl,_,rfl⟩) [some (W.d (gh names)),some (W.d (aP asked)),none] ⟨none,rfl⟩
 subst he
 rw[j5 (Yc (gU (a:=mV 1) (x:=aP asked) rfl rfl)),f1]
 rfl
abbrev nn:D:=.lst [.str "NoName"]
theorem YC{i:Nat}{cs:List String}{b h:S}{e:Mi.Env}{z:yp}{o:Out}(hb:b e=.ex z)(hc:z.cls∈cs)(hh:h (e.set i (some (.ex z.cls)))=.ok o):Rh i cs b h e=.ok (abr i o):=by
 unfold Rh
 rw[hb]
 show aN _ _=_
 rw[ao hc,hh];rfl
def ue:Str := "zqxjkvbpygfwmucldrhsnioate"
theorem HX:ue.length=26:=by decide +kernel
theorem HW:∀ c∈ue.cps.toList,c < 128:=by decide +kernel
def Hy(c:Nat):Str:=⟨#[c]⟩
def nC:List Str:=ue.cps.toList.map Hy
theorem pG:nC.length=26:=by decide +kernel
theorem Tc:nC.Nodup:=by decide +kernel
theorem S9:∀ x∈nC,x≠Str.empty:=by decide +kernel
theorem Er{c:Nat}(h:c < 128):Sh (Hy c):=⟨by show 1≤100;omega,fun d hd=>by
 have:d∈[c]:=hd
 rw[List.mem_singleton.mp this];exact h⟩
theorem S8:∀ x∈nC,Sh x:=fun x hx=>by
 obtain⟨c,hc,rfl⟩:=List.mem_map.mp hx
 exact Er (HW c hc)
theorem Sh.cat{x y:Str}{k:Nat}(hx:x.length≤50)(hy:y.length≤50)(ax:∀ c∈x.cps.toList,c < 128)(ay:∀ c∈y.cps.toList,c < 128):Sh (x++y):=by
 have e:(x++y).cps.toList=x.cps.toList++y.cps.toList:=by show (x.cps++y.cps).toList=_;rw[Array.toList_append]
 refine⟨?_,fun c hc=>?_⟩
 ·show (x++y).cps.size≤100
  rw[← Array.length_toList,e,List.length_append,Array.length_toList,Array.length_toList]
  have h1:x.cps.size≤50:=hx
  have h2:y.cps.size≤50:=hy
  omega
 ·rw[e] at hc
  rcases List.mem_append.mp hc with h|h
  ·exact ax c h
  ·exact ay c h
theorem Ur{α : Type}(xs:List α)(lo hi:Option Int):(uU xs lo hi).length≤xs.length:=by
 unfold uU
 rw[List.length_take,List.length_drop];omega
theorem Uq{α : Type}{xs:List α}{lo hi:Option Int}{x:α}(h:x∈uU xs lo hi):x∈xs:=List.mem_of_mem_drop (List.mem_of_mem_take h)
theorem Sh.cut{x:Str}(h:Sh x)(lo hi:Option Int):Sh (j7 x lo hi):=by
 refine⟨?_,fun c hc=>h.2 c (Uq (show c∈uU x.cps.toList lo hi from hc))⟩
 show (uU x.cps.toList lo hi).toArray.size≤100
 rw[List.size_toArray]
 have h1:=Ur x.cps.toList lo hi
 have h3:x.cps.toList.length=x.cps.size:=Array.length_toList
 have h2:x.cps.size≤100:=h.1
 omega
theorem Yx:∀ c,c < 128→∀ d∈Unicode.upperOf c,d < 128:=by decide +kernel
theorem Sh.up{x:Str}(h:x.length≤30)(a:∀ c∈x.cps.toList,c < 128):Sh (QQ x):=by
 have hl:(QQ x).length≤3 * x.length:=PyProof.Rows.len_upper x
 refine⟨by omega,fun c hc=>?_⟩
 have hc:c∈(PySem.placed x fun _ c=>Unicode.upperOf c).toList:=hc
 unfold PySem.placed at hc
 rw[Array.mem_toList_iff,Array.mem_flatten] at hc
 obtain⟨b,hb,hcb⟩:=hc
 obtain⟨i,hi,rfl⟩:=Array.mem_mapIdx.mp hb
 exact Yx _ (a _ (by rw[Array.mem_toList_iff];exact Array.getElem_mem hi)) c (by simpa using hcb)
end Mr
namespace Mr
open PySem Mi
open My (words Gz fW)
theorem Zt{a b c d g:E}{e:Mi.Env}{x y z u v:D}(h1:a e=.ok x)(h2:b e=.ok y)(h3:c e=.ok z)(h4:d e=.ok u)(h5:g e=.ok v):mN gq [a,b,c,d,g] e=.ok (.lst [x,y,z,u,v]):=by
 unfold mN
 rw[iZ,h1,az,iZ,h2,az,iZ,h3,az,iZ,h4,az,iZ,h5,az];rfl
theorem abG{f:D→Rs D}{a:E}{e:Mi.Env}{x:D}(h:a e=.ok x):m1 f a e=f x:=by unfold m1;rw[h];rfl
theorem M4{i:Int}(h0:0≤i)(h1:i < 26):∃ c,c < 128∧dU (.str ue) (.int i)=.ok (.str (Hy c)):=by
 have hl:(ue.cps.toList.length:Int)=26:=by
  have:=HX
  rw[Array.length_toList]
  exact congrArg Int.ofNat this
 have hi:i < (ue.cps.toList.length:Int):=by rw[hl];exact h1
 have ha:=Nx (xs:=ue.cps.toList) h0 hi 0
 refine⟨ue.cps.toList.getD i.toNat 0,HW _ ?_,?_⟩
 ·have hn:i.toNat < ue.cps.toList.length:=by omega
  rw[List.getD_eq_getElem?_getD,List.getElem?_eq_getElem hn]
  exact List.getElem_mem hn
 ·show aN _ _=_
  rw[ao (by rw[HX];decide),ha];rfl
theorem rB{names:List Str}(hp:1≤names.length)(h8:names.length≤8)(hs:∀ x∈names,x.length≤8∧∀ c∈x.cps.toList,c < 128)(d:Int):∃ x,cG [.d (aP names),.d (.int d)]=.ok (.d (.str x))∧x∉names∧Sh x:=by
 have q0:=Int.emod_nonneg d (b:=(names.length:Int)) (by omega)
 have q1:=Int.emod_lt_of_pos d (b:=(names.length:Int)) (by omega)
 have hone:=yJ (cs:=names) q0 q1
 obtain⟨one,e1⟩ : ∃ one,one=names.getD (d % (names.length:Int)).toNat Str.empty:=⟨_,rfl⟩
 have mo1:one∈names:=by rw[e1];exact lV (by omega)
 rw[← e1] at hone
 obtain⟨l1,a1⟩:=hs one mo1
 have s1:Sh one:=⟨by omega,a1⟩
 obtain⟨ca,va,xa⟩:=M4 (Int.emod_nonneg (d / 8) (b:=26) (by decide)) (Int.emod_lt_of_pos (d / 8) (b:=26) (by decide))
 obtain⟨cb,vb,xb⟩:=M4 (Int.emod_nonneg (d / 5) (b:=26) (by decide)) (Int.emod_lt_of_pos (d / 5) (b:=26) (by decide))
 have pa:=(Er va).2
 have pb:=(Er vb).2
 have l1':one.length≤50:=by omega
 have o50:∀ c,(Hy c).length≤50:=fun c=>by show 1≤50;omega
 obtain⟨ts,ets⟩ : ∃ ts:List Str,ts=[one++Hy ca,j7 one (some 1) none,j7 one none (some (-1)),Hy cb++one,QQ one]:=⟨_,rfl⟩
 have tsh:∀ x∈ts,Sh x:=fun x hx=>by
  rw[ets] at hx
  simp only[List.mem_cons,List.not_mem_nil,or_false] at hx
  rcases hx with rfl|rfl|rfl|rfl|rfl
  ·exact Sh.cat (k:=0) l1' (o50 _) a1 pa
  ·exact s1.cut _ _
  ·exact s1.cut _ _
  ·exact Sh.cat (k:=0) (o50 _) l1' pb a1
  ·exact Sh.up (by omega) a1
 have ts5:ts.length=5:=by rw[ets];rfl
 obtain⟨fs,efs⟩ : ∃ fs:List Str,fs=(ts++nC).filter fun t=>!decide (t∈names) && !decide (t=("" : Str)):=⟨_,rfl⟩
 have fin:∀ x∈fs,x∉names∧Sh x:=fun x hx=>by
  rw[efs] at hx
  obtain⟨h1,h2⟩:=List.mem_filter.mp hx
  rw[Bool.and_eq_true,Bool.not_eq_true',Bool.not_eq_true'] at h2
  refine⟨of_decide_eq_false h2.1,?_⟩
  rcases List.mem_append.mp h1 with h|h
  ·exact tsh x h
  ·exact S8 x h
 have adY:1≤fs.length:=by
  rcases Nat.eq_zero_or_pos fs.length with h|h
  ·exfalso
   have all:∀ x∈nC,x∈names:=fun x hx=>by
    by_cases hn:x∈names
    ·exact hn
    ·have:x∈fs:=by
      rw[efs]
      refine List.mem_filter.mpr ⟨List.mem_append_right _ hx,?_⟩
      rw[decide_eq_false hn,decide_eq_false (show x≠("" : Str) from S9 x hx)];rfl
     rw[List.length_eq_zero_iff.mp h] at this
     exact nomatch this
   have:=eZ Tc all
   rw[pG] at this;omega
  ·exact h
 have adZ:fs.length≤31:=by
  rw[efs]
  refine Nat.le_trans (List.length_filter_le _ _) ?_
  rw[List.length_append,ts5,pG];decide
 have ac2:0 < min (5:Int) (fs.length:Int):=by omega
 have z0:=Int.emod_nonneg (d / 3) (b:=min (5:Int) (fs.length:Int)) (by omega)
 have z1:=Int.emod_lt_of_pos (d / 3) (b:=min (5:Int) (fs.length:Int)) (by omega)
 have zix:=yJ (cs:=fs) z0 (by omega)
 have zm:fs.getD (d / 3 % min (5:Int) (fs.length:Int)).toNat Str.empty∈fs:=lV (by omega)
 refine⟨fs.getD (d / 3 % min (5:Int) (fs.length:Int)).toNat Str.empty,?_,(fin _ zm).1,(fin _ zm).2⟩
 unfold cG vY
 rw[w6]
 rw[show ([some (W.d (aP names)),some (W.d (.int d))]++List.replicate (5 - 2) none)=[some (W.d (aP names)),some (W.d (.int d)),none,none,none] from rfl]
 have hlen:∀ e:Mi.Env,mV 0 e=.ok (aP names)→mN iR [(mV 0)] e=.ok (.int (names.length:Int)):=fun e h=>(iI h).trans (by unfold aP;rw[Tp,List.length_map])
 rw[aL (e':=[some (W.d (aP names)),some (W.d (.int d)),some (W.d (.str one)),none,none]) (bD (aG rfl (aG rfl (hlen _ rfl) ((lH _ _).trans (ao (by omega)))) hone))]
 rw[aL (e':=[some (W.d (aP names)),some (W.d (.int d)),some (W.d (.str one)),some (W.d (.str ue)),none]) (bD rfl)]
 have dv:∀ (k:Int) (e:Mi.Env),0 < k→k < 2 ^ 64→mV 1 e=.ok (.int d)→m2 bT (m2 dD (mV 1) (mC (.int k))) (mC (.int 26)) e=.ok (.int (d / k % 26)):=fun k e k0 k1 h=>aG (aG h rfl ((div_ii _ _).trans (ao (c7 k0 k1)))) rfl ((lH _ _).trans (ao (by decide)))
 have five:=Zt (e:=[some (W.d (aP names)),some (W.d (.int d)),some (W.d (.str one)),some (W.d (.str ue)),none])
  (aG (a:=mV 2) (b:=m2 dU (mV 3) (m2 bT (m2 dD (mV 1) (mC (.int 8))) (mC (.int 26)))) rfl (aG rfl (dv 8 _ (by decide) (by decide) rfl) xa) ((Gx _ _).trans (ao (by have:=o50 ca;omega))))
  ((YS (f:=JC) (a:=mV 2) (b:=mC (.int 1)) rfl rfl).trans ((Rb _ _ _).trans (ao (by omega))))
  ((YQ (f:=JC) (a:=mV 2) (b:=m1 Z9 (mC (.int 1))) rfl rfl).trans ((Rb _ _ _).trans (ao (by omega))))
  (aG (a:=m2 dU (mV 3) (m2 bT (m2 dD (mV 1) (mC (.int 5))) (mC (.int 26)))) (b:=mV 2) (aG rfl (dv 5 _ (by decide) (by decide) rfl) xb) rfl ((Gx _ _).trans (ao (by have:=o50 cb;omega))))
  ((abG (f:=K5) (a:=mV 2) (x:=.str one) rfl).trans (ao (by have:(QQ one).length≤3 * one.length:=PyProof.Rows.len_upper one;omega)))
 rw[show ([D.str (one++Hy ca),.str (j7 one (some 1) none),.str (j7 one none (some (-1))),.str (Hy cb++one),.str (QQ one)]:List D)=ts.map D.str from by rw[ets];rfl] at five
 rw[aL (e':=[some (W.d (aP names)),some (W.d (.int d)),some (W.d (.str one)),some (W.d (.str ue)),some (W.d (aP ts))]) (bD five)]
 have cl:eX (.n 0) jA (mV 0) [none] (nC.map D.str)=.ok ((nC.filter fun _=>true).map D.str):=fM D.str D.str (fun _=>true) _ fun t _=>⟨[some (.d (.str t))],rfl,rfl,fun _=>rfl⟩
 rw[List.filter_eq_self.mpr (fun _ _=>rfl)] at cl
 have hl5:=fB (ρ:=[none]) (e:=[some (W.d (aP names)),some (W.d (.int d)),some (W.d (.str one)),some (W.d (.str ue)),some (W.d (aP ts))]) (it:=rY (mV 3)) (xs:=nC.map D.str) (gU (a:=mV 3) (x:=.str ue) rfl (by show Rs.ok _=_;unfold nC;rw[List.map_map];rfl)) (by rw[List.length_map,pG];decide) cl
 rw[aL (e':=[some (W.d (aP names)),some (W.d (.int d)),some (W.d (.str one)),some (W.d (.str ue)),some (W.d (aP (ts++nC)))])
  (bD (aG (x:=aP ts) rfl hl5 ((Li _ _).trans ((ao (by rw[List.length_map,List.length_map,ts5,pG];decide)).trans (by unfold aP;rw[List.map_append])))))]
 have cf:eX (.n 1) (uf (cB (m2 dC (mV 1) (mV 0))) (cB (m2 GR (mV 1) (mC (.str ""))))) (mV 1) [some (.d (aP names)),none] ((ts++nC).map D.str)=.ok (((ts++nC).filter fun t=>!decide (t∈names) && !decide (t=("" : Str))).map D.str) :=
  fM D.str D.str _ _ fun t _=>⟨[some (.d (aP names)),some (.d (.str t))],rfl,Nr (cU (aG rfl rfl (uT names t))) fun _=>cU (aG rfl rfl (WR t "")),fun _=>rfl⟩
 rw[← efs] at cf
 rw[aL (e':=[some (W.d (aP names)),some (W.d (.int d)),some (W.d (.str one)),some (W.d (.str ue)),some (W.d (aP fs))])
  (bD (fB (ρ:=[some 0,none]) (gU (a:=mV 4) (x:=aP (ts++nC)) rfl rfl) (by rw[List.length_map,List.length_append,ts5,pG];decide) cf))]
 have hln:∀ e:Mi.Env,mV 4 e=.ok (aP fs)→mN BJ [(mC (.int 5)),(mN iR [(mV 4)])] e=.ok (.int (min (5:Int) (fs.length:Int))):=fun e h=>(HJ rfl ((iI h).trans (by unfold aP;rw[Tp,List.length_map]))).trans (S6 _ _)
 rw[fH (cA (aG (x:=aP fs) rfl (aG (aG rfl rfl ((div_ii _ _).trans (ao (c7 (by decide) (by decide))))) (hln _ rfl) ((lH _ _).trans (ao ac2))) zix))]
 rfl
theorem xT{α : Type}(f:α→Nat):∀ (l m:List α),l.Pairwise (fun a b=>f a < f b)→m.Pairwise (fun a b=>f a < f b)→(∀ x,x∈l↔x∈m)→l=m
 | [],[],_,_,_=>rfl
 | [],b::t,_,_,h=>nomatch (h b).mpr (List.mem_cons_self ..)
 | a::r,[],_,_,h=>nomatch (h a).mp (List.mem_cons_self ..)
 | a::r,b::t,hl,hm,h=>by
  have l1:=List.pairwise_cons.mp hl
  have m1:=List.pairwise_cons.mp hm
  have e:a=b:=by
   rcases List.mem_cons.mp ((h a).mp (List.mem_cons_self ..)) with z|z
   ·exact z
   ·rcases List.mem_cons.mp ((h b).mpr (List.mem_cons_self ..)) with y|y
    ·exact y.symm
    ·have k1:=m1.1 a z
     have k2:=l1.1 b y
     omega
  subst e
  rw[xT f r t l1.2 m1.2 fun x=>⟨fun hx=>by
   rcases List.mem_cons.mp ((h x).mp (List.mem_cons_of_mem _ hx)) with z|z
   ·have:=l1.1 x hx;rw[z] at this;omega
   ·exact z,fun hx=>by
   rcases List.mem_cons.mp ((h x).mpr (List.mem_cons_of_mem _ hx)) with z|z
   ·have:=m1.1 x hx;rw[z] at this;omega
   ·exact z⟩]
end Mr
namespace Mr
open PySem Mi
open My (words Gz fW)
theorem yr{names:List Str}(h1:1≤names.length)(h8:names.length≤8)(nd:names.Nodup)(hw:∀ x∈names,d9 [.d (.str x)]=.ok (.d (.bl true))):dh [.d (gh names)]=.ok (.d .non):=by
 unfold dh lC
 rw[WK]
 obtain⟨e',f1,o2,he⟩:=kO (tg:=.n 2) (body:=(aY (iy (qW (cB (aZ d9 [(wD (mV 2))])))
 ji
 bB)
 (aY (iy (cB (Fg 1 (mV 2)))
 ji
 bB)
 (ni 1 (mV 2) (mC (.bl true))))))
  (fun i e=>∃ o2:Option W,e=[some (.d (gh names)),some (PJ (names.take i)),o2]) (names.map D.str) 0 (fun i d e hi ⟨o2,he⟩=>by
   subst he
   rw[Nat.zero_add]
   rw[List.getElem?_map] at hi
   obtain⟨x,hx,rfl⟩:=Option.map_eq_some_iff.mp hi
   have hn:=QV nd hx
   refine⟨[some (.d (gh names)),some (PJ (names.take i)),some (.d (.str x))],[some (.d (gh names)),some (PJ (names.take (i+1))),some (.d (.str x))],rfl,?_,_,rfl⟩
   rw[aL (e':=[some (.d (gh names)),some (PJ (names.take i)),some (.d (.str x))]) ((dM (zY (CW rfl (hw x (List.mem_of_getElem? hx))))).trans rfl)]
   rw[aL (e':=[some (.d (gh names)),some (PJ (names.take i)),some (.d (.str x))]) ((dM (cU ((ab7 (y:=x) (fs:=names.take i) rfl rfl).trans (by rw[decide_eq_false hn])))).trans rfl)]
   rw[Z5 (y:=x) (fs:=names.take i) rfl rfl hn (by rw[List.length_take];omega)]
   rw[List.take_succ,hx];rfl) [some (.d (gh names)),some (PJ []),none] ⟨none,rfl⟩
 subst he
 rw[show ([some (W.d (gh names))]++List.replicate (3 - 1) none)=[some (W.d (gh names)),none,none] from rfl]
 have hl:mN iR [(mV 0)] [some (W.d (gh names)),none,none]=.ok (.int ((names.length:Nat):Int)):=(iI (x:=gh names) rfl).trans (by show Rs.ok (D.int (((names.map D.str).length:Nat):Int))=_;rw[List.length_map])
 rw[aL ((dM (zY (IW (i:=1) (k:=8) rfl hl rfl (by omega) (by omega)))).trans rfl)]
 rw[aL (e':=[some (.d (gh names)),some (PJ []),none]) rfl]
 rw[j5 (gU (x:=gh names) rfl rfl),f1]
 rfl
theorem yq{names:List Str}{xs:List Ar}(P:Apart names xs)(hl:xs.length≤64):dg [.d (gh names),.d (jz xs)]=.ok (.d .non):=by
 unfold dg lB
 rw[w6]
 obtain⟨e',f1,o3,o4,he⟩:=kO (tg:=.t [3,4]) (body:=(aY (rP (aZ bh [(wD (mV 0)),(wD (mN gq [(mV 3),(mV 4)]))]))
 (aY (iy (cB (m2 tX (mV 3) (mV 4)))
 ji
 bB)
 (aY (iy (cB (Fg 2 (mN dTup [(mV 3),(mV 4)])))
 ji
 bB)
 (aY (ni 2 (mN dTup [(mV 3),(mV 4)]) (mC (.bl true)))
 (ni 2 (mN dTup [(mV 4),(mV 3)]) (mC (.bl true))))))))
  (fun i e=>∃ o3 o4:Option W,e=[some (.d (gh names)),some (.d (jz xs)),some (Ud (both (xs.take i))),o3,o4]) (xs.map pairD) 0 (fun i d e hi ⟨o3,o4,he⟩=>by
   subst he
   rw[Nat.zero_add]
   rw[List.getElem?_map] at hi
   obtain⟨p,hp,rfl⟩:=Option.map_eq_some_iff.mp hi
   have hpm:=List.mem_of_getElem? hp
   have il:=(List.getElem?_eq_some_iff.mp hp).1
   have before:∀ q∈xs.take i,q≠p∧q≠(p.2,p.1):=fun q hq=>by
    obtain⟨j,hj⟩:=List.getElem?_of_mem hq
    have hj2:=(List.getElem?_eq_some_iff.mp hj).1
    rw[List.length_take] at hj2
    rw[List.getElem?_take_of_lt (by omega)] at hj
    obtain⟨jl,hje⟩:=List.getElem?_eq_some_iff.mp hj
    obtain⟨_,hpe⟩:=List.getElem?_eq_some_iff.mp hp
    have:=List.pairwise_iff_getElem.mp P.pw j i jl il (by omega)
    rw[hje,hpe] at this;exact this
   have n1:p∉both (xs.take i):=fun z=>by
    obtain⟨q,hq,e|e⟩:=HS.mp z
    ·exact(before q hq).1 e.symm
    ·exact(before q hq).2 (by rw[e])
   have n2:(p.2,p.1)∉both (xs.take i)++[p]:=fun z=>by
    rcases List.mem_append.mp z with z|z
    ·obtain⟨q,hq,e|e⟩:=HS.mp z
     ·exact(before q hq).2 e.symm
     ·exact(before q hq).1 (by rw[Prod.ext_iff] at e;simp at e;exact Prod.ext e.2.symm e.1.symm)
    ·have:=List.mem_singleton.mp z
     exact P.ZQ p hpm (congrArg Prod.snd this)
   have hb:(both (xs.take i)).length≤200:=by rw[UG,List.length_take];omega
   have hst:bh [.d (gh names),.d (aP [p.1,p.2])]=.ok (.d .non):=wK fun x hx=>by
    rcases List.mem_cons.mp hx with rfl|hx
    ·exact(P.inn p hpm).1
    ·rw[List.mem_singleton.mp hx];exact(P.inn p hpm).2
   refine⟨[some (.d (gh names)),some (.d (jz xs)),some (Ud (both (xs.take i))),some (.d (.str p.1)),some (.d (.str p.2))],[some (.d (gh names)),some (.d (jz xs)),some (Ud (both (xs.take (i+1)))),some (.d (.str p.1)),some (.d (.str p.2))],rfl,?_,_,_,rfl⟩
   rw[aL (Aq (call2 rfl (cA (O5 rfl rfl)) hst))]
   rw[aL ((dM (cU (aG rfl rfl ((yL p.1 p.2).trans (by rw[decide_eq_false (P.ZQ p hpm)]))))).trans rfl)]
   rw[aL ((dM (cU ((ab6 (p:=p) (ps:=both (xs.take i)) (oO rfl rfl) rfl).trans (by rw[decide_eq_false n1])))).trans rfl)]
   rw[aL (Ue (p:=p) (ps:=both (xs.take i)) (oO rfl rfl) rfl n1 (by omega))]
   rw[Ue (p:=(p.2,p.1)) (ps:=both (xs.take i)++[p]) (oO rfl rfl) rfl n2 (by rw[List.length_append];simp;omega)]
   rw[List.take_succ,hp]
   unfold both
   rw[List.flatMap_append,List.append_assoc];rfl) [some (.d (gh names)),some (.d (jz xs)),some (Ud (both [])),none,none] ⟨none,none,rfl⟩
 subst he
 rw[show ([some (W.d (gh names)),some (W.d (jz xs))]++List.replicate (5 - 2) none)=[some (W.d (gh names)),some (W.d (jz xs)),none,none,none] from rfl]
 rw[aL (e':=[some (.d (gh names)),some (.d (jz xs)),some (Ud (both [])),none,none]) rfl]
 rw[j5 (gU (x:=jz xs) rfl rfl),f1]
 rfl
theorem S7{names:List Str}{A:List Ix}{r:Nat→Int}(N:m6 names A r)(hw:∀ x∈names,d9 [.d (.str x)]=.ok (.d (.bl true))){xs:List Ar}(hp:xs.Perm (A.map (arrOf names))) :
 gQ [.d (gh names),.d (jz xs)]=.ok (.d (bx names (A.map (arrOf names)))):=by
 have P:=N.apart.perm hp
 have hl:xs.length≤56:=by rw[hp.length_eq,List.length_map];exact N.few
 unfold gQ Bb
 rw[w6]
 rw[show ([some (W.d (gh names)),some (W.d (jz xs))]++List.replicate (4 - 2) none)=[some (W.d (gh names)),some (W.d (jz xs)),none,none] from rfl]
 rw[aL (Aq (CW rfl (yr N.pos N.le N.nd hw)))]
 rw[aL (Aq (call2 rfl rfl (yq P (by omega))))]
 have hc:eX (.t [0,1]) jA (mN dTup [(mV 0),(mV 1)]) [none,none] (xs.map pairD)=.ok ((xs.filter fun _=>true).map pairD) :=
  fM pairD pairD (fun _=>true) xs fun p _=>⟨[some (.d (.str p.1)),some (.d (.str p.2))],rfl,rfl,fun _=>oO rfl rfl⟩
 rw[List.filter_eq_self.mpr (fun _ _=>rfl)] at hc
 rw[aL (e':=[some (W.d (gh names)),some (W.d (jz xs)),some (W.d (jz xs)),none]) (bD (fB (ρ:=[none,none]) (gU (x:=jz xs) rfl rfl) (by rw[List.length_map];omega) hc))]
 have hs:gA [.d (gh names),.d (jz xs)]=.ok (.d (jz (A.map (arrOf names)))) :=
  Rm (nx:=gh names) (sU names) (by have:=N.le;omega) rw2 (fun p hpx=>⟨by show 2≤1000;omega,fun y hy=>by
   simp only[rw2,List.mem_cons,List.not_mem_nil,or_false] at hy
   rcases hy with rfl|rfl
   ·exact(P.inn p hpx).1
   ·exact(P.inn p hpx).2⟩) (by omega) (by
    show List.Pairwise _ _
    rw[List.pairwise_map]
    refine List.Pairwise.imp_of_mem (fun {p q} hpx hqx h z=>h.1 ?_) P.pw
    simp only[ky,rw2,List.map_cons,List.map_nil,List.cons.injEq,and_true] at z
    exact Prod.ext (Nf (P.inn p hpx).1 (P.inn q hqx).1 (by omega)) (Nf (P.inn p hpx).2 (P.inn q hqx).2 (by omega))) (fun p=>hp.mem_iff) N.sorted
 rw[aL (e':=[some (W.d (gh names)),some (W.d (jz xs)),some (W.d (jz xs)),some (W.d (bx names (A.map (arrOf names))))])
  (bD (oO (x:=gh names) (y:=Lf (A.map (arrOf names))) ((iI (x:=gh names) rfl).trans rfl) ((iI (call2 rfl rfl hs)).trans rfl)))]
 rw[aL (Aq (CW rfl (VR N.kJ)))]
 rw[fH (cA rfl)]
 rfl
end Mr
namespace Mr
open PySem Mi
open My (words Gz fW)
def ixs(names:List Str)(B:List Ar):List Ix:=(List.range names.length).flatMap fun i=>((List.range names.length).filter fun j=>decide ((nth names i,nth names j)∈B)).map fun j=>(i,j)
theorem Cj(names:List Str):(List.range names.length).map (nth names)=names:=by
 refine List.ext_getElem (by rw[List.length_map,List.length_range]) fun i h1 h2=>?_
 rw[List.getElem_map,List.getElem_range]
 unfold nth
 rw[List.getD_eq_getElem?_getD,List.getElem?_eq_getElem h2];rfl
theorem yI(names:List Str)(B:List Ar):(ixs names B).map (arrOf names)=m8 names B:=by
 unfold ixs m8
 rw[qb]
 have e:names.flatMap (fun t=>(names.filter fun h=>decide ((t,h)∈B)).map fun h=>(t,h))=((List.range names.length).map (nth names)).flatMap (fun t=>(names.filter fun h=>decide ((t,h)∈B)).map fun h=>(t,h)):=by rw[Cj]
 rw[e,List.flatMap_map]
 refine fZ fun i _=>?_
 have e2:names.filter (fun h=>decide ((nth names i,h)∈B))=((List.range names.length).map (nth names)).filter (fun h=>decide ((nth names i,h)∈B)):=by rw[Cj]
 rw[e2,List.filter_map,List.map_map,List.map_map]
 rfl
theorem yG{names:List Str}{B:List Ar}{p:Ix}:p∈ixs names B↔p.1 < names.length∧p.2 < names.length∧(nth names p.1,nth names p.2)∈B:=by
 unfold ixs
 rw[List.mem_flatMap]
 constructor
 ·rintro ⟨i,hi,h⟩
  obtain⟨j,hj,rfl⟩:=List.mem_map.mp h
  obtain⟨h1,h2⟩:=List.mem_filter.mp hj
  exact⟨List.mem_range.mp hi,List.mem_range.mp h1,of_decide_eq_true h2⟩
 ·rintro ⟨h1,h2,h3⟩
  exact⟨p.1,List.mem_range.mpr h1,List.mem_map.mpr ⟨p.2,List.mem_filter.mpr ⟨List.mem_range.mpr h2,decide_eq_true h3⟩,rfl⟩⟩
theorem m6.Zm{names:List Str}{B:List Ar}(nd:names.Nodup)(h1:1≤names.length)(h8:names.length≤8)(R:Rk B):∃ r,m6 names (ixs names B) r:=by
 obtain⟨k,hk⟩:=R
 refine⟨fun i=>k (nth names i),nd,h1,h8,?_,fun p hp=>?_,?_⟩
 ·unfold ixs
  rw[List.pairwise_flatMap]
  refine⟨fun i _=>?_,?_⟩
  ·rw[List.pairwise_map]
   refine(List.Pairwise.filter _ List.pairwise_lt_range).imp fun {a b} h=>?_
   exact .inr ⟨rfl,h⟩
  ·refine List.pairwise_lt_range.imp fun {a b} h=>?_
   intro x hx y hy
   obtain⟨j,_,rfl⟩:=List.mem_map.mp hx
   obtain⟨j',_,rfl⟩:=List.mem_map.mp hy
   exact .inl h
 ·obtain⟨a,b,c⟩:=yG.mp hp
  exact⟨a,b,hk _ c⟩
 ·have:=DY h8 B
  rw[← yI,List.length_map] at this
  exact this
theorem uL{α : Type}[DecidableEq α]:∀ {l m:List α},l.Nodup→m.Nodup→(∀ x,x∈l↔x∈m)→l.Perm m
 | [],m,_,_,h=>by
  cases m with
  | nil=>exact .nil
  | cons a r=>exact nomatch (h a).mpr (List.mem_cons_self ..)
 | a::r,m,hl,hm,h=>by
  have l1:=List.nodup_cons.mp hl
  have ha:=(h a).mp (List.mem_cons_self ..)
  have p:=List.perm_cons_erase ha
  refine(List.Perm.cons a (uL l1.2 (hm.erase a) fun x=>?_)).trans p.symm
  rw[hm.mem_erase_iff]
  constructor
  ·exact fun hx=>⟨fun z=>l1.1 (z ▸ hx),(h x).mp (List.mem_cons_of_mem _ hx)⟩
  ·rintro ⟨h1,h2⟩
   rcases List.mem_cons.mp ((h x).mpr h2) with z|z
   ·exact absurd z h1
   ·exact z
theorem Ca{names:List Str}(nd:names.Nodup)(h8:names.length≤8)(B:List Ar):(m8 names B).Nodup:=by
 rw[← yI]
 refine List.pairwise_map.mpr (List.Pairwise.imp_of_mem (R:=iC) (fun {p q} hp hq h z=>?_) ?_)
 ·obtain⟨a,b,_⟩:=yG.mp hp
  obtain⟨c,d,_⟩:=yG.mp hq
  have e1:=jH nd a c (congrArg Prod.fst z)
  have e2:=jH nd b d (congrArg Prod.snd z)
  rcases h with h|⟨_,h⟩<;>omega
 ·unfold ixs
  rw[List.pairwise_flatMap]
  refine⟨fun i _=>?_,?_⟩
  ·rw[List.pairwise_map]
   exact(List.Pairwise.filter _ List.pairwise_lt_range).imp fun {a b} h=>.inr ⟨rfl,h⟩
  ·refine List.pairwise_lt_range.imp fun {a b} h=>?_
   intro x hx y hy
   obtain⟨j,_,rfl⟩:=List.mem_map.mp hx
   obtain⟨j',_,rfl⟩:=List.mem_map.mp hy
   exact .inl h
structure Gd(names:List Str)(aa:List Ar):Prop where
 nd:names.Nodup
 pos:1≤names.length
 le:names.length≤8
 rk:Rk aa
 m8:m8 names aa=aa
 wd:∀ x∈names,d9 [.d (.str x)]=.ok (.d (.bl true))
theorem Gd.inn{names:List Str}{aa:List Ar}(G:Gd names aa):∀ p∈aa,p.1∈names∧p.2∈names:=fun p hp=>by
 rw[← G.m8] at hp
 exact(tQ.mp hp).2
theorem Gd.al{names:List Str}{aa:List Ar}(G:Gd names aa):aa.length≤64:=by
 rw[← G.m8];exact DY G.le _
theorem Gd.nodup{names:List Str}{aa:List Ar}(G:Gd names aa):aa.Nodup:=by
 rw[← G.m8];exact Ca G.nd G.le _
theorem VG{names:List Str}{B:List Ar}:m8 names (m8 names B)=m8 names B:=by
 unfold m8
 refine fZ fun t ht=>?_
 congr 1
 refine List.filter_congr fun h hh=>?_
 rw[decide_eq_decide]
 exact⟨fun z=>(tQ.mp z).1,fun z=>tQ.mpr ⟨z,ht,hh⟩⟩
theorem Gd.of{names:List Str}{B:List Ar}(nd:names.Nodup)(h1:1≤names.length)(h8:names.length≤8)(wd:∀ x∈names,d9 [.d (.str x)]=.ok (.d (.bl true)))(R:Rk B):Gd names (Mr.m8 names B) :=
 ⟨nd,h1,h8,R.sub fun p hp=>(tQ.mp hp).1,VG,wd⟩
theorem Ob{names:List Str}{A B:List Ar}(h:∀ p,p.1∈names→p.2∈names→(p∈A↔p∈B)):m8 names A=m8 names B:=by
 unfold m8
 refine fZ fun t ht=>?_
 congr 1
 refine List.filter_congr fun x hx=>?_
 rw[decide_eq_decide]
 exact h (t,x) ht hx
theorem Gd.made{names:List Str}{aa:List Ar}(G:Gd names aa){xs:List Ar}(hp:xs.Perm aa):gQ [.d (gh names),.d (jz xs)]=.ok (.d (bx names aa)):=by
 obtain⟨r,N⟩:=m6.Zm G.nd G.pos G.le G.rk
 have e:(ixs names aa).map (arrOf names)=aa:=by rw[yI,G.m8]
 have:=S7 N G.wd (xs:=xs) (by rw[e];exact hp)
 rw[e] at this
 exact this
theorem Gd.G8{names:List Str}{aa:List Ar}(G:Gd names aa){t h:Str}(ha:(t,h)∈aa):(h,t)∉aa:=fun z=>by
 obtain⟨k,hk⟩:=G.rk
 have h1:=hk _ ha
 have h2:=hk _ z
 simp only at h1 h2
 omega
theorem Gd.ye{names:List Str}{aa:List Ar}(G:Gd names aa){t h:Str}(ha:(t,h)∈aa)(hc:cov aa (t,h)=true):Gd names (Mr.m8 names (Mr.ye (t,h) aa)):=by
 refine Gd.of G.nd G.pos G.le G.wd (Xz (names:=names) (fun p hp=>?_) ?_)
 ·rcases (vJ ha).mp hp with ⟨h1,_⟩|rfl
  ·exact G.inn p h1
  ·exact⟨(G.inn _ ha).2,(G.inn _ ha).1⟩
 ·have:=QS G.nd G.inn G.rk ha
  rw[show dI (bA aa h) (bA aa t++[t])=true from hc] at this
  have:=this.symm
  rw[Bool.and_eq_true,Bool.not_eq_true'] at this
  exact this.1
theorem Gd.others{names:List Str}{aa:List Ar}(G:Gd names aa){t h:Str}(ha:(t,h)∈aa):((aa.filter fun p=>!decide (p=(t,h)))++[(h,t)]).Perm (Mr.m8 names (Mr.ye (t,h) aa)):=by
 refine uL ?_ (Ca G.nd G.le _) fun p=>?_
 ·rw[List.nodup_append]
  refine⟨G.nodup.filter _,(by simp),fun p hp q hq z=>?_⟩
  rw[List.mem_singleton.mp hq] at z
  rw[z] at hp
  exact G.G8 ha (List.mem_filter.mp hp).1
 ·rw[tQ,vJ ha,List.mem_append,List.mem_filter,List.mem_singleton]
  constructor
  ·rintro (⟨h1,h2⟩|rfl)
   ·exact⟨.inl ⟨h1,fun z=>by rw[decide_eq_true z] at h2;cases h2⟩,G.inn p h1⟩
   ·exact⟨.inr rfl,(G.inn _ ha).2,(G.inn _ ha).1⟩
  ·rintro ⟨⟨h1,h2⟩|rfl,_⟩
   ·exact .inl ⟨h1,by rw[decide_eq_false h2];rfl⟩
   ·exact .inr rfl
theorem Uj(p q:Ar):GR (pairD p) (pairD q)=.ok (.bl (!decide (p=q))):=by
 unfold GR
 rw[ao (by have:=tV [p];simp only[List.map_cons,List.map_nil,sI] at this;omega),Ck]
theorem lY(aa:List Ar)(p:Ar):dC (pairD p) (Lf aa)=.ok (.bl (!decide (p∈aa))):=by
 have h:=vR aa p
 exact h
theorem BX{names:List Str}{aa:List Ar}(G:Gd names aa){t h:Str}(ha:(t,h)∈aa)(hc:cov aa (t,h)=true):iB [.d (bx names aa),.d (.str t),.d (.str h)]=.ok (.d (bx names (m8 names (ye (t,h) aa)))):=by
 have hal:=G.al
 obtain⟨ht,hh⟩:=G.inn _ ha
 unfold iB vX
 rw[K3]
 rw[show ([some (W.d (bx names aa)),some (W.d (.str t)),some (W.d (.str h))]++List.replicate (6 - 3) none)=[some (W.d (bx names aa)),some (W.d (.str t)),some (W.d (.str h)),none,none,none] from rfl]
 rw[aL (e':=[some (W.d (bx names aa)),some (W.d (.str t)),some (W.d (.str h)),some (W.d (gh names)),some (W.d (Lf aa)),none]) rfl]
 have hr:bh [.d (gh names),.d (aP [t,h])]=.ok (.d .non):=wK fun x hx=>by
  rcases List.mem_cons.mp hx with rfl|hx
  ·exact ht
  ·rw[List.mem_singleton.mp hx];exact hh
 rw[aL (Aq (call2 rfl (cA (O5 rfl rfl)) hr))]
 rw[aL ((dM (cU ((aG (oO rfl rfl) rfl (lY aa (t,h))).trans (by rw[decide_eq_true ha];rfl)))).trans rfl)]
 rw[aL ((dM (zY ((CV rfl rfl rfl (Uw hal ht hh)).trans (by rw[hc])))).trans rfl)]
 have cm:eX (.n 2) (cB (m2 GR (mV 2) (mN dTup [(mV 0),(mV 1)]))) (mV 2) [some (.d (.str t)),some (.d (.str h)),none] (aa.map pairD)=.ok ((aa.filter fun p=>!decide (p=(t,h))).map pairD) :=
  fM pairD pairD (fun p=>!decide (p=(t,h))) aa fun p _=>⟨[some (.d (.str t)),some (.d (.str h)),some (.d (pairD p))],rfl,cU (aG rfl (oO rfl rfl) (Uj p (t,h))),fun _=>rfl⟩
 rw[aL (e':=[some (W.d (bx names aa)),some (W.d (.str t)),some (W.d (.str h)),some (W.d (gh names)),some (W.d (Lf aa)),some (W.d (jz (aa.filter fun p=>!decide (p=(t,h)))))])
  (bD (fB (ρ:=[some 1,some 2,none]) (gU (a:=mV 4) (x:=Lf aa) rfl rfl) (by rw[List.length_map];omega) cm))]
 have hl:(aa.filter fun p=>!decide (p=(t,h))).length≤64:=Nat.le_trans (List.length_filter_le _ _) hal
 rw[fH (cA (call2 (x:=.d (gh names)) (y:=.d (jz ((aa.filter fun p=>!decide (p=(t,h)))++[(h,t)]))) rfl (cA (aG (x:=jz (aa.filter fun p=>!decide (p=(t,h)))) rfl (Wn (oO rfl rfl)) ((Li _ _).trans ((ao (by rw[List.length_map];exact Nat.le_trans (Nat.add_le_add_right (Nat.le_trans (List.length_filter_le _ _) hal) _) (by show 64+1≤16777216;decide))).trans (by unfold jz;rw[List.map_append];rfl))))) ((G.ye ha hc).made (G.others ha))))]
 rfl
abbrev xNa:yp:=⟨"NoArrow", []⟩
abbrev xLk:yp:=⟨"Locked", []⟩
theorem JF{names:List Str}{aa:List Ar}{t h:Str}(hn:t∉names∨h∉names)(st:Sh t)(sh:Sh h):cC [.d (bx names aa),.d (.str t),.d (.str h)]=.ex xNo:=by
 unfold cC kW
 rw[K3]
 rw[show ([some (W.d (bx names aa)),some (W.d (.str t)),some (W.d (.str h))]++List.replicate (6 - 3) none)=[some (W.d (bx names aa)),some (W.d (.str t)),some (W.d (.str h)),none,none,none] from rfl]
 rw[aL (e':=[some (W.d (bx names aa)),some (W.d (.str t)),some (W.d (.str h)),some (W.d (gh names)),some (W.d (Lf aa)),none]) rfl]
 rw[JX (Qi (x:=.d (gh names)) (y:=.d (aP [t,h])) rfl (cA (O5 rfl rfl)) (Vr (by
  rcases hn with z|z
  ·exact⟨t,List.mem_cons_self ..,z⟩
  ·exact⟨h,by simp,z⟩) fun z hz=>by
   rcases List.mem_cons.mp hz with rfl|hz
   ·exact st
   ·rw[List.mem_singleton.mp hz];exact sh))]
 rfl
theorem Qh{f:Fn}{a b:EW}{e:Mi.Env}{x y w:W}(h:a e=.ok x)(h':b e=.ok y)(hf:f [x,y]=.ok w):mJ f [a,b] e=.ok (.nx e):=by
 unfold mJ
 rw[bM,h,az,bM,h',az,bM,az]
 show ((f [x,y]).bind fun _=>_)=_
 rw[hf];rfl
theorem u9{names:List Str}{aa:List Ar}{t h:Str}(ht:t∈names)(hh:h∈names)(rest:S) :
 aY (sP (VN (.t [3,4]) (mV 0))) (aY (mJ bL [(wD (mV 3)),(wD (mN gq [(mV 1),(mV 2)]))]) rest) [some (W.d (bx names aa)),some (W.d (.str t)),some (W.d (.str h)),none,none,none] =
  rest [some (W.d (bx names aa)),some (W.d (.str t)),some (W.d (.str h)),some (W.d (gh names)),some (W.d (Lf aa)),none]:=by
 rw[aL (e':=[some (W.d (bx names aa)),some (W.d (.str t)),some (W.d (.str h)),some (W.d (gh names)),some (W.d (Lf aa)),none]) rfl]
 exact aL (Qh (x:=.d (gh names)) (y:=.d (aP [t,h])) rfl (cA (O5 rfl rfl)) (JK fun x hx=>by
  rcases List.mem_cons.mp hx with rfl|hx
  ·exact ht
  ·rw[List.mem_singleton.mp hx];exact hh))
theorem JG{names:List Str}{aa:List Ar}{t h:Str}(ht:t∈names)(hh:h∈names)(hn:(t,h)∉aa)(st:Sh t)(sh:Sh h):cC [.d (bx names aa),.d (.str t),.d (.str h)]=.ex xNa:=by
 unfold cC kW
 rw[K3]
 rw[show ([some (W.d (bx names aa)),some (W.d (.str t)),some (W.d (.str h))]++List.replicate (6 - 3) none)=[some (W.d (bx names aa)),some (W.d (.str t)),some (W.d (.str h)),none,none,none] from rfl]
 rw[u9 ht hh]
 rw[JX ((ju (Jb (cU ((aG (oO rfl rfl) rfl (lY aa (t,h))).trans (by rw[decide_eq_false hn];rfl))))).trans (zK (by
  show (true && (gR 1 _ && (true && (gR 2 _ && true))))=true
  rw[Im (x:=t) rfl st,Im (x:=h) rfl sh];rfl)))]
 rfl
theorem JH{names:List Str}{aa:List Ar}(hal:aa.length≤64){t h:Str}(ht:t∈names)(hh:h∈names)(ha:(t,h)∈aa)(hc:cov aa (t,h)=false)(st:Sh t)(sh:Sh h):cC [.d (bx names aa),.d (.str t),.d (.str h)]=.ex xLk:=by
 unfold cC kW
 rw[K3]
 rw[show ([some (W.d (bx names aa)),some (W.d (.str t)),some (W.d (.str h))]++List.replicate (6 - 3) none)=[some (W.d (bx names aa)),some (W.d (.str t)),some (W.d (.str h)),none,none,none] from rfl]
 rw[u9 ht hh]
 rw[aL ((dM (Jb (cU ((aG (oO rfl rfl) rfl (lY aa (t,h))).trans (by rw[decide_eq_true ha];rfl))))).trans rfl)]
 rw[JX ((ju (Jb ((W5 (cU ((CV rfl rfl rfl (Uw hal ht hh)).trans (by rw[hc])))).trans rfl))).trans (zK (by
  show (true && (gR 1 _ && (true && (gR 2 _ && (true && true)))))=true
  rw[Im (x:=t) rfl st,Im (x:=h) rfl sh];rfl)))]
 rfl
end Mr
namespace Mr
open PySem Mi
open My (words Gz fW)
theorem xZ{aa:List Ar}(hl:aa.length≤64)(x:Str):fc [.d (jz aa),.d (.str x)]=.ok (.d (aP (bA aa x))):=by
 unfold fc Bd
 rw[K1]
 rw[show ([some (W.d (jz aa)),some (W.d (.str x))]++List.replicate (2 - 2) none)=[some (W.d (jz aa)),some (W.d (.str x))] from rfl]
 have hc:eX (.t [1,2]) (cB (m2 tX (mV 2) (mV 0))) (mV 1) [some (.d (.str x)),none,none] (aa.map pairD)=.ok ((aa.filter fun p=>decide (p.2=x)).map fun p=>D.str p.1) :=
  fM pairD (fun p=>D.str p.1) (fun p=>decide (p.2=x)) aa fun p _=>⟨[some (.d (.str x)),some (.d (.str p.1)),some (.d (.str p.2))],rfl,cU (aG rfl rfl (yL p.2 x)),fun _=>rfl⟩
 rw[fH (cA (fB (ρ:=[some 1,none,none]) (gU (a:=mV 0) (x:=jz aa) rfl rfl) (by rw[List.length_map];omega) hc))]
 show Rs.ok (W.d (.lst _))=_
 unfold bA aP
 rw[List.map_map];rfl
structure Lk(names:List Str)(aa:List Ar):Prop where
 nd:names.Nodup
 le:names.length≤8
 al:aa.length≤64
 inn:∀ p∈aa,p.1∈names∧p.2∈names
 rk:Rk aa
 nda:aa.Nodup
theorem Gd.lk{names:List Str}{aa:List Ar}(G:Gd names aa):Lk names aa:=⟨G.nd,G.le,G.al,G.inn,G.rk,G.nodup⟩
theorem Lk.qp{names:List Str}{aa:List Ar}(G:Lk names aa)(x:Str):(bA aa x).Nodup:=by
 unfold bA
 refine List.pairwise_map.mpr ((G.nda.filter _).imp_of_mem fun {p q} hp hq h z=>h ?_)
 have h1:=of_decide_eq_true (List.mem_filter.mp hp).2
 have h2:=of_decide_eq_true (List.mem_filter.mp hq).2
 exact Prod.ext z (h1.trans h2.symm)
theorem Lk.j6{names:List Str}{aa:List Ar}(G:Lk names aa)(x:Str):(bA aa x).length≤8 :=
 Nat.le_trans (eZ (G.qp x) fun y hy=>(G.inn _ (jo.mp hy)).1) G.le
theorem Lk.ZQ{names:List Str}{aa:List Ar}(G:Lk names aa)(x:Str):(x,x)∉aa:=fun h=>by
 obtain⟨k,hk⟩:=G.rk
 have:=hk _ h
 simp only at this
 omega
def Gh(aa:List Ar)(p:Ar):Bool:=decide (m9 (bA aa p.2)=m9 (bA aa p.1++[p.1]))
theorem Lk.Gh{names:List Str}{aa:List Ar}(G:Lk names aa)(t h:Str):Mr.Gh aa (t,h)=cov aa (t,h):=by
 have n2:(bA aa t++[t]).Nodup:=by
  rw[List.nodup_append]
  refine⟨G.qp t,(by simp),fun a ha b hb z=>?_⟩
  rw[List.mem_singleton.mp hb] at z
  rw[z] at ha
  exact G.ZQ t (jo.mp ha)
 have mem:∀ x,x∈bA aa t++[t]↔(x,t)∈aa∨x=t:=fun x=>by rw[List.mem_append,jo,List.mem_singleton]
 show decide _=dI (bA aa h) (bA aa t++[t])
 cases hs:dI (bA aa h) (bA aa t++[t]) with
 | true =>
  have k:=vV.mp hs
  exact decide_eq_true (Hm.mpr (uL (G.qp h) n2 fun x=>by rw[jo,mem];exact k x))
 | false =>
  refine decide_eq_false fun z=>?_
  have pm:=Hm.mp z
  have:dI (bA aa h) (bA aa t++[t])=true:=vV.mpr fun x=>by rw[← mem,← jo];exact pm.mem_iff
  rw[hs] at this;cases this
theorem Iz(xs ys:List Str):tX (aP xs) (aP ys)=.ok (.bl (decide (xs=ys))):=by
 unfold tX aP
 rw[ao (by simp),cL,zL]
theorem Hk{xs:List Str}(h:xs.length < 64):sO [aP xs]=.ok (aP (m9 xs)):=by
 show (tM (mY (xs.map D.str))).bind _=_
 rw[sU,gf,az]
 exact ao h
theorem K6{names:List Str}{aa:List Ar}(G:Lk names aa):jt [.d (jz aa)]=.ok (.d (jz (aa.filter (cov aa)))):=by
 have hal:=G.al
 unfold jt yl
 rw[ab2]
 rw[show ([some (W.d (jz aa))]++List.replicate (4 - 1) none)=[some (W.d (jz aa)),none,none,none] from rfl]
 have efl:(aa.flatMap fun p=>if Mr.Gh aa p=true then [pairD p] else [])=(aa.filter (cov aa)).map pairD:=by
  rw[sH (Mr.Gh aa) pairD]
  congr 1
  exact List.filter_congr fun p _=>G.Gh p.1 p.2
 have hfl:(aa.flatMap fun p=>if Mr.Gh aa p=true then [pairD p] else []).length≤64:=by
  rw[efl,List.length_map];exact Nat.le_trans (List.length_filter_le _ _) hal
 obtain⟨e',f1,o2,o3,he⟩:=vO (tg:=.t [2,3]) (body:=(iy (cB (m2 tX (mN sO [(aZ fc [(wD (mV 0)),(wD (mV 3))])]) (mN sO [(m2 di (aZ fc [(wD (mV 0)),(wD (mV 2))]) (mN gq [(mV 2)]))])))
 (bV 1 (mN dTup [(mV 2),(mV 3)]))
 bB))
  pairD (fun p=>if Mr.Gh aa p=true then [pairD p] else [])
  (fun acc e=>∃ o2 o3:Option W,e=[some (.d (jz aa)),some (.d (.lst acc)),o2,o3]) aa [] [some (.d (jz aa)),some (.d (.lst [])),none,none] (by simp only[List.length_nil];omega) ⟨none,none,rfl⟩
  (fun p hp acc e hl ⟨o2,o3,he⟩=>by
   subst he
   have l2:=G.j6 p.2
   have l1:=G.j6 p.1
   have hc:cB (m2 tX (mN sO [(aZ fc [(wD (mV 0)),(wD (mV 3))])]) (mN sO [(m2 di (aZ fc [(wD (mV 0)),(wD (mV 2))]) (mN gq [(mV 2)]))])) [some (.d (jz aa)),some (.d (.lst acc)),some (.d (.str p.1)),some (.d (.str p.2))]=.ok (Mr.Gh aa p) :=
    cU (aG ((iI (call2 rfl rfl (xZ hal p.2))).trans (Hk (by omega)))
     ((iI (x:=aP (bA aa p.1++[p.1])) (aG (call2 rfl rfl (xZ hal p.1)) (Wn rfl) ((Li _ _).trans ((ao (by rw[List.length_map];simp only[List.length_cons,List.length_nil];omega)).trans (by unfold aP;rw[List.map_append];rfl))))).trans (Hk (by rw[List.length_append];simp only[List.length_cons,List.length_nil];omega)))
     (Iz _ _))
   cases hk:Mr.Gh aa p with
   | false =>
    rw[hk] at hc
    rw[if_neg Bool.false_ne_true,List.append_nil]
    exact⟨[some (.d (jz aa)),some (.d (.lst acc)),some (.d (.str p.1)),some (.d (.str p.2))],_,rfl,(dM hc).trans rfl,_,_,rfl⟩
   | true =>
    rw[hk] at hc
    rw[hk,if_pos rfl] at hl
    rw[if_pos rfl]
    refine⟨[some (.d (jz aa)),some (.d (.lst acc)),some (.d (.str p.1)),some (.d (.str p.2))],[some (.d (jz aa)),some (.d (.lst (acc++[pairD p]))),some (.d (.str p.1)),some (.d (.str p.2))],rfl,?_,_,_,rfl⟩
    exact(ju hc).trans (t8 (oO rfl rfl) rfl (by simp only[List.length_cons,List.length_nil] at hl;omega)))
 subst he
 rw[aL (e':=[some (.d (jz aa)),some (.d (.lst [])),none,none]) (bD (Ti _))]
 rw[aL ((j5 (gU (a:=mV 0) (x:=jz aa) rfl rfl)).trans f1)]
 unfold jz
 rw[← efl];rfl
theorem O9:fU [.ex "NoName"]=.ok (.d (.lst [.str "NoName"])):=by rfl
theorem Pa:fU [.ex "NoArrow"]=.ok (.d (.lst [.str "NoArrow"])):=by rfl
theorem Pb:fU [.ex "Locked"]=.ok (.d (.lst [.str "Locked"])):=by rfl
theorem Y0{kJ t h:D}{c:String}{v:D}(hb:cC [.d kJ,.d t,.d h]=.ex ⟨c,[]⟩)(hc:c∈["NoName", "NoArrow", "Locked"])(hk:fU [.ex c]=.ok (.d v)):cW [.d kJ,.d t,.d h]=.ok (.d v):=by
 unfold cW uy
 rw[K3]
 rw[show ([some (W.d kJ),some (W.d t),some (W.d h)]++List.replicate (5 - 3) none)=[some (W.d kJ),some (W.d t),some (W.d h),none,none] from rfl]
 rw[aL (e':=[some (W.d kJ),some (W.d t),some (W.d h),some (W.d (.lst [])),none]) (bD (Ti _))]
 have hh:=bD (i:=3) (CW (f:=fU) (a:=wV 4) (e:=[some (W.d kJ),some (W.d t),some (W.d h),some (W.d (.lst [])),some (.ex c)]) rfl hk)
 rw[aL (e':=[some (W.d kJ),some (W.d t),some (W.d h),some (W.d v),none]) (YC (z:=⟨c,[]⟩) (o:=.nx [some (W.d kJ),some (W.d t),some (W.d h),some (W.d v),some (.ex c)]) (Qg rfl rfl rfl hb) hc hh)]
 rw[fH (cA rfl)]
 rfl
theorem Gd.back{names:List Str}{aa:List Ar}(G:Gd names aa){t h:Str}(ha:(t,h)∈aa)(hc:cov aa (t,h)=true) :
 (h,t)∈Mr.m8 names (Mr.ye (t,h) aa)∧cov (Mr.m8 names (Mr.ye (t,h) aa)) (h,t)=true∧Mr.m8 names (Mr.ye (h,t) (Mr.m8 names (Mr.ye (t,h) aa)))=aa:=by
 obtain⟨ht,hh⟩:=G.inn _ ha
 have ne:t≠h:=fun z=>G.lk.ZQ t (by rw[← z] at ha;exact ha)
 have mem:∀ p:Ar,p∈Mr.m8 names (Mr.ye (t,h) aa)↔(p∈aa∧p≠(t,h))∨p=(h,t):=fun p=>by
  rw[tQ,vJ ha]
  constructor
  ·exact fun z=>z.1
  ·rintro (z|rfl)
   ·exact⟨.inl z,G.inn p z.1⟩
   ·exact⟨.inr rfl,hh,ht⟩
 have m1:(h,t)∈Mr.m8 names (Mr.ye (t,h) aa):=(mem _).mpr (.inr rfl)
 have k:=vV.mp (show dI (bA aa h) (bA aa t++[t])=true from hc)
 refine⟨m1,vV.mpr fun x=>?_,?_⟩
 ·rw[mem,mem,k x]
  constructor
  ·rintro (⟨h1,_⟩|z)
   ·refine .inl (.inl ⟨.inl h1,fun z=>G.lk.ZQ t ?_⟩)
    have e:x=t:=congrArg Prod.fst z
    have h1:(x,t)∈aa:=h1
    rw[e] at h1;exact h1
   ·exact .inr (congrArg Prod.fst z)
  ·rintro ((⟨h1|h1,h2⟩|z)|z)
   ·exact .inl ⟨h1,fun z=>ne (congrArg Prod.snd z)⟩
   ·exact absurd (by rw[h1]) h2
   ·exact absurd (congrArg Prod.snd z).symm ne
   ·exact .inr (by rw[z])
 ·rw[← G.m8]
  conv=>rhs;rw[G.m8]
  rw[G.m8]
  refine Eq.trans (Ob (B:=aa) fun p h1 h2=>?_) G.m8
  rw[vJ m1,mem]
  constructor
  ·rintro (⟨⟨z,_⟩|z,h2⟩|rfl)
   ·exact z
   ·exact absurd z h2
   ·exact ha
  ·intro z
   by_cases hp:p=(t,h)
   ·exact .inr hp
   ·exact .inl ⟨.inl ⟨z,hp⟩,fun y=>by rw[y] at z;exact G.G8 ha z⟩
theorem Eh{names:List Str}{aa:List Ar}(G:Gd names aa){t h:Str}(st:Sh t)(sh:Sh h):fK [.d (bx names aa),.d (.str t),.d (.str h)]=.ok (.d (.bl true)):=by
 have ret:∀ {c:String} {x:Str},cW [.d (bx names aa),.d (.str t),.d (.str h)]=.ok (.d (.lst [.str x]))→(dF (wD (m2 tX (aZ cW [(wD (mV 0)),(wD (mV 1)),(wD (mV 2))]) (mN gq [(mC (.str x))])))) [some (W.d (bx names aa)),some (W.d (.str t)),some (W.d (.str h)),none,none]=.ok (.rt (.d (.bl true))):=fun {c x} hr =>
  fH (cA ((aG (CV rfl rfl rfl hr) (Wn rfl) (Iz [x] [x])).trans (by rw[decide_eq_true rfl])))
 unfold fK sJ
 rw[K3]
 rw[show ([some (W.d (bx names aa)),some (W.d (.str t)),some (W.d (.str h))]++List.replicate (5 - 3) none)=[some (W.d (bx names aa)),some (W.d (.str t)),some (W.d (.str h)),none,none] from rfl]
 have c1:=aad (cU (aG (a:=mV 1) (b:=m2 dU (mV 0) (mC (.int 0))) (e:=[some (W.d (bx names aa)),some (W.d (.str t)),some (W.d (.str h)),none,none]) rfl (aG rfl rfl (ZM names aa)) (lz names t))) fun _=>cU (aG (a:=mV 2) (b:=m2 dU (mV 0) (mC (.int 0))) rfl (aG rfl rfl (ZM names aa)) (lz names h))
 by_cases hn:t∉names∨h∉names
 ·have e:((!decide (t∈names)) || (!decide (h∈names)))=true:=by
   rcases hn with z|z
   ·rw[decide_eq_false z];rfl
   ·rw[decide_eq_false z];simp
  rw[e] at c1
  rw[rD ((ju c1).trans (ret (c := "") (Y0 (JF hn st sh) (by simp) O9)))]
  rfl
 ·have ht:t∈names:=Classical.byContradiction fun z=>hn (.inl z)
  have hh:h∈names:=Classical.byContradiction fun z=>hn (.inr z)
  rw[decide_eq_true ht,decide_eq_true hh] at c1
  rw[aL ((dM c1).trans rfl)]
  have c2:=cU (aG (a:=mN dTup [(mV 1),(mV 2)]) (b:=m2 dU (mV 0) (mC (.int 1))) (e:=[some (W.d (bx names aa)),some (W.d (.str t)),some (W.d (.str h)),none,none]) (oO rfl rfl) (aG rfl rfl (ix1 names aa)) (lY aa (t,h)))
  by_cases ha:(t,h)∈aa
  ·rw[decide_eq_true ha] at c2
   rw[aL ((dM c2).trans rfl)]
   have c3:=cU (aG (a:=mN dTup [(mV 1),(mV 2)]) (b:=aZ jt [(wD (mN Be [(m2 dU (mV 0) (mC (.int 1)))]))]) (e:=[some (W.d (bx names aa)),some (W.d (.str t)),some (W.d (.str h)),none,none]) (oO rfl rfl) (CW (cA ((iI (aG rfl rfl (ix1 names aa))).trans rfl)) (K6 G.lk)) (vR _ (t,h)))
   cases hc:cov aa (t,h) with
   | false =>
    rw[decide_eq_false (fun z=>by have:=(List.mem_filter.mp z).2;rw[hc] at this;cases this)] at c3
    rw[rD ((ju c3).trans (ret (c := "") (Y0 (JH G.al ht hh ha hc st sh) (by simp) Pb)))]
    rfl
   | true =>
    rw[decide_eq_true (List.mem_filter.mpr ⟨ha,hc⟩)] at c3
    rw[aL ((dM c3).trans rfl)]
    obtain⟨b1,b2,b3⟩:=G.back ha hc
    have tb:=BX (G.ye ha hc) b1 b2
    rw[b3] at tb
    have tt:=BX G ha hc
    generalize hN:m8 names (ye (t,h) aa)=B at tb tt
    have hs:=Od (names:=names) (aa:=ye (t,h) aa) G.le
    rw[hN] at hs
    rw[aL (e':=[some (W.d (bx names aa)),some (W.d (.str t)),some (W.d (.str h)),some (W.d (bx names B)),none])
     (bD (call2 (x:=.d (gh names)) (cA (aG rfl rfl (ZM names aa))) (cA (call2 (x:=.d (jz aa)) (y:=.d (pairD (t,h))) (cA ((iI (aG rfl rfl (ix1 names aa))).trans rfl)) (cA (oO rfl rfl)) (K4 (by have:=G.al;omega)))) hs))]
    rw[aL (e':=[some (W.d (bx names aa)),some (W.d (.str t)),some (W.d (.str h)),some (W.d (bx names B)),some (W.d (bx names B))]) (bD (CV rfl rfl rfl tt))]
    rw[fH (cA (Mw (call2 (x:=.d (bx names B)) (y:=.d (bx names B)) rfl rfl (Dm names B)) fun _=>call2 (x:=.d (bx names aa)) (y:=.d (bx names aa)) (cA (CV rfl rfl rfl tb)) rfl (Dm names aa)))]
    rfl
  ·rw[decide_eq_false ha] at c2
   rw[rD ((ju c2).trans (ret (c := "") (Y0 (JG ht hh ha st sh) (by simp) Pa)))]
   rfl
end Mr
namespace Mr
open PySem Mi
open My (words Gz fW)
theorem Bp(ns:List Int)(m:Nat)(h1:1≤m)(hm:m≤8):∃ qs:List Int,gj [.d (.lst (ns.map D.int)),.d (.int (m:Int))]=.ok (.d (.lst (qs.map D.int))):=by
 obtain⟨c,hc⟩:=tY ns 39 (by decide)
 rw[show ((39:Nat):Int)=39 from rfl] at hc
 unfold gj qI
 rw[K1]
 obtain⟨xs,hxs⟩ : ∃ xs:List Int,uU (ns.map D.int) (some 40) (some 63)=xs.map D.int:=⟨uU ns (some 40) (some 63),by unfold uU;simp only[List.length_map,List.map_drop,List.map_take]⟩
 obtain⟨e',f1,ls,o3,o4,o5,he,hls⟩:=kO (tg:=.t [3,4]) (body:=(iy (cB (m2 Bx (mV 3) (m2 yx (mV 1) (mC (.int 1)))))
 (bV 2 (m2 bT (mV 4) (mC (.int 2147483647))))
 (aY (bW 5 (m2 bT (mV 3) (mV 1)))
 (pW 2 (mV 5) (m2 bT (m2 di (m2 cQ (m2 dU (mV 2) (mV 5)) (mC (.int 48271))) (mV 4)) (mC (.int 2147483647)))))))
  (fun i e=>∃ (ls:List Int) (o3 o4 o5:Option W),e=[some (.d (.lst (ns.map D.int))),some (.d (.int (m:Int))),some (.d (.lst (ls.map D.int))),o3,o4,o5]∧ls.length=min (i+1) m) (pK 0 (xs.map D.int)) 0 (fun i x e hx ⟨ls,o3,o4,o5,he,hls⟩=>by
   obtain⟨d,hd,rfl⟩:=Nj hx
   subst he
   rw[Nat.zero_add] at hls ⊢
   obtain⟨v,rfl⟩ : ∃ v:Int,d=.int v:=by
    obtain⟨v,_,rfl⟩:=List.mem_map.mp (List.mem_of_getElem? hd);exact⟨v,rfl⟩
   have ct:cB (m2 Bx (mV 3) (m2 yx (mV 1) (mC (.int 1)))) [some (.d (.lst (ns.map D.int))),some (.d (.int (m:Int))),some (.d (.lst (ls.map D.int))),some (.d (.int (i:Int))),some (.d (.int v)),o5]=.ok (decide ((i:Int) < (m:Int) - 1)):=cU (aG rfl (aG rfl rfl rfl) rfl)
   by_cases hb:(i:Int) < (m:Int) - 1
   ·rw[decide_eq_true hb] at ct
    refine⟨[some (.d (.lst (ns.map D.int))),some (.d (.int (m:Int))),some (.d (.lst (ls.map D.int))),some (.d (.int (i:Int))),some (.d (.int v)),o5],[some (.d (.lst (ns.map D.int))),some (.d (.int (m:Int))),some (.d (.lst ((ls++[v % 2147483647]).map D.int))),some (.d (.int (i:Int))),some (.d (.int v)),o5],rfl,?_,ls++[v % 2147483647],_,_,_,rfl,by rw[List.length_append,hls];simp;omega⟩
    rw[ju ct,t8 (d:=.int (v % 2147483647)) (ds:=ls.map D.int) (aG rfl rfl (ao (by decide))) rfl (by rw[List.length_map];omega)]
    rw[List.map_append];rfl
   ·rw[decide_eq_false hb] at ct
    have z0:=Int.emod_nonneg (i:Int) (b:=(m:Int)) (by omega)
    have z1:=Int.emod_lt_of_pos (i:Int) (b:=(m:Int)) (by omega)
    have hk:∀ e:Mi.Env,mV 3 e=.ok (.int (i:Int))→mV 1 e=.ok (.int (m:Int))→m2 bT (mV 3) (mV 1) e=.ok (.int ((i:Int) % (m:Int))):=fun e a b=>aG a b (ao (by omega))
    have hix:dU (.lst (ls.map D.int)) (.int ((i:Int) % (m:Int)))=.ok (.int (ls.getD ((i:Int) % (m:Int)).toNat 0)):=vM z0 (by omega)
    have hv:m2 bT (m2 di (m2 cQ (m2 dU (mV 2) (mV 5)) (mC (.int 48271))) (mV 4)) (mC (.int 2147483647)) [some (.d (.lst (ns.map D.int))),some (.d (.int (m:Int))),some (.d (.lst (ls.map D.int))),some (.d (.int (i:Int))),some (.d (.int v)),some (.d (.int ((i:Int) % (m:Int))))]=.ok (.int ((ls.getD ((i:Int) % (m:Int)).toNat 0 * 48271+v) % 2147483647)) :=
     aG (aG (aG (aG rfl rfl hix) rfl (ao (yE (by decide) (by decide)))) rfl rfl) rfl (ao (by decide))
    obtain⟨ls',hl',hs⟩:=YW (i:=2) (k:=mV 5) (e:=[some (.d (.lst (ns.map D.int))),some (.d (.int (m:Int))),some (.d (.lst (ls.map D.int))),some (.d (.int (i:Int))),some (.d (.int v)),some (.d (.int ((i:Int) % (m:Int))))]) (ls:=ls) hv rfl rfl z0 (by omega)
    refine⟨[some (.d (.lst (ns.map D.int))),some (.d (.int (m:Int))),some (.d (.lst (ls.map D.int))),some (.d (.int (i:Int))),some (.d (.int v)),o5],[some (.d (.lst (ns.map D.int))),some (.d (.int (m:Int))),some (.d (.lst (ls'.map D.int))),some (.d (.int (i:Int))),some (.d (.int v)),some (.d (.int ((i:Int) % (m:Int))))],rfl,?_,ls',_,_,_,rfl,by omega⟩
    rw[dM ct,aL (e':=[some (.d (.lst (ns.map D.int))),some (.d (.int (m:Int))),some (.d (.lst (ls.map D.int))),some (.d (.int (i:Int))),some (.d (.int v)),some (.d (.int ((i:Int) % (m:Int))))]) (bD (hk _ rfl rfl))]
    exact hs) [some (.d (.lst (ns.map D.int))),some (.d (.int (m:Int))),some (.d (.lst ([c % 2147483647].map D.int))),none,none,none] ⟨[c % 2147483647],none,none,none,rfl,by simp;omega⟩
 subst he
 refine⟨ls,?_⟩
 rw[aL (e':=[some (.d (.lst (ns.map D.int))),some (.d (.int (m:Int))),some (.d (.lst ([c % 2147483647].map D.int))),none,none,none]) (bD (Wn (aG (call2 rfl rfl hc) rfl (ao (by decide)))))]
 have hit:TX (pD JC (mV 0) (some (mC (.int 40))) (some (mC (.int 63)))) [some (.d (.lst (ns.map D.int))),some (.d (.int (m:Int))),some (.d (.lst ([c % 2147483647].map D.int))),none,none,none]=.ok (pK 0 (xs.map D.int)):=by
  rw[← hxs];rfl
 rw[aL ((j5 hit).trans f1)]
 rfl
theorem ixA{xs:List Ar}{i:Int}(h0:0≤i)(h1:i < xs.length):∃ p,p∈xs∧dU (Lf xs) (.int i)=.ok (pairD p):=Y6 h0 h1
theorem Wb{names:List Str}{aa:List Ar}(G:Gd names aa)(hs:∀ x∈names,x.length≤8∧∀ c∈x.cps.toList,c < 128)(d:Int):∃ a b,Sh a∧Sh b∧pA [.d (bx names aa),.d (.int d)]=.ok (.d (aP [a,b])):=by
 have sh:∀ x∈names,Sh x:=fun x hx=>⟨by have:=(hs x hx).1;omega,(hs x hx).2⟩
 have hp:=G.pos
 have ln:∀ e:Mi.Env,mV 2 e=.ok (aP names)→mN iR [(mV 2)] e=.ok (.int (names.length:Int)):=fun e h=>(iI h).trans (by unfold aP;rw[Tp,List.length_map])
 have dv:∀ (k:Int) (e:Mi.Env),0 < k→k < 2 ^ 64→mV 1 e=.ok (.int d)→m2 dD (mV 1) (mC (.int k)) e=.ok (.int (d / k)):=fun k e k0 k1 h=>aG h rfl ((div_ii _ _).trans (ao (c7 k0 k1)))
 have ix:∀ i:Int,∃ x,x∈names∧dU (aP names) (.int (i % (names.length:Int)))=.ok (.str x):=fun i=>by
  have q0:=Int.emod_nonneg i (b:=(names.length:Int)) (by omega)
  have q1:=Int.emod_lt_of_pos i (b:=(names.length:Int)) (by omega)
  exact⟨_,lV (names:=names) (i:=(i % (names.length:Int)).toNat) (by omega),yJ (cs:=names) q0 q1⟩
 obtain⟨a0,ma0,ha0⟩:=ix d
 obtain⟨b0,mb0,hb0⟩:=ix (d / 8)
 have E:∀ a b:Str,Mi.Env:=fun a b=>[some (W.d (bx names aa)),some (W.d (.int d)),some (W.d (aP names)),some (W.d (aP [a,b]))]
 obtain⟨a1,b1,sa1,sb1,t1⟩ : ∃ a1 b1,Sh a1∧Sh b1∧(iy (uf (cB (m2 tX (m2 bT (m2 dD (mV 1) (mC (.int 64))) (mC (.int 2))) (mC (.int 1)))) (cB (m2 dGt (mN iR [(m2 dU (mV 0) (mC (.int 1)))]) (mC (.int 0)))))
 (bW 3 (mN Be [(m2 dU (m2 dU (mV 0) (mC (.int 1))) (m2 bT (m2 dD (mV 1) (mC (.int 128))) (mN iR [(m2 dU (mV 0) (mC (.int 1)))])))]))
 bB) [some (W.d (bx names aa)),some (W.d (.int d)),some (W.d (aP names)),some (W.d (aP [a0,b0]))]=.ok (.nx [some (W.d (bx names aa)),some (W.d (.int d)),some (W.d (aP names)),some (W.d (aP [a1,b1]))]):=by
  have la:mN iR [(m2 dU (mV 0) (mC (.int 1)))] [some (W.d (bx names aa)),some (W.d (.int d)),some (W.d (aP names)),some (W.d (aP [a0,b0]))]=.ok (.int (aa.length:Int)):=(iI (aG rfl rfl (ix1 names aa))).trans (by unfold Lf;rw[abL,List.length_map])
  have ct:=Nr (q:=decide ((0:Int) < (aa.length:Int))) (cU (aG (b:=mC (.int 1)) (aG (b:=mC (.int 2)) (dv 64 [some (W.d (bx names aa)),some (W.d (.int d)),some (W.d (aP names)),some (W.d (aP [a0,b0]))] (by decide) (by decide) rfl) rfl ((lH _ _).trans (ao (by decide)))) rfl (vU (d / 64 % 2) 1))) fun _=>cU (aG (b:=mC (.int 0)) la rfl (abW _ _))
  cases hk:(decide (d / 64 % 2=1) && decide ((0:Int) < (aa.length:Int))) with
  | false =>
   rw[hk] at ct
   exact⟨a0,b0,sh _ ma0,sh _ mb0,(dM ct).trans rfl⟩
  | true =>
   rw[hk] at ct
   have hpos:(0:Int) < (aa.length:Int):=of_decide_eq_true (Bool.and_eq_true_iff.mp hk).2
   obtain⟨p,mp,hx⟩:=ixA (xs:=aa) (Int.emod_nonneg (d / 128) (b:=(aa.length:Int)) (by omega)) (Int.emod_lt_of_pos (d / 128) hpos)
   refine⟨p.1,p.2,sh _ (G.inn p mp).1,sh _ (G.inn p mp).2,(ju ct).trans ?_⟩
   exact bD ((iI (aG (aG rfl rfl (ix1 names aa)) (aG (dv 128 _ (by decide) (by decide) rfl) la ((lH _ _).trans (ao hpos))) hx)).trans rfl)
 obtain⟨s7,hs7,n7,sh7⟩:=rB G.pos G.le hs (d / 7)
 obtain⟨a2,b2,sa2,sb2,t2⟩ : ∃ a2 b2,Sh a2∧Sh b2∧(iy (cB (m2 tX (m2 bT (m2 dD (mV 1) (mC (.int 4096))) (mC (.int 6))) (mC (.int 1))))
 (pW 3 (m2 bT (m2 dD (mV 1) (mC (.int 5))) (mC (.int 2))) (aZ cG [(wD (mV 2)),(wD (m2 dD (mV 1) (mC (.int 7))))]))
 bB) [some (W.d (bx names aa)),some (W.d (.int d)),some (W.d (aP names)),some (W.d (aP [a1,b1]))]=.ok (.nx [some (W.d (bx names aa)),some (W.d (.int d)),some (W.d (aP names)),some (W.d (aP [a2,b2]))]):=by
  have ct:=cU (aG (b:=mC (.int 1)) (aG (b:=mC (.int 6)) (dv 4096 [some (W.d (bx names aa)),some (W.d (.int d)),some (W.d (aP names)),some (W.d (aP [a1,b1]))] (by decide) (by decide) rfl) rfl ((lH _ _).trans (ao (by decide)))) rfl (vU (d / 4096 % 6) 1))
  cases hk:decide (d / 4096 % 6=1) with
  | false =>
   rw[hk] at ct
   exact⟨a1,b1,sa1,sb1,(dM ct).trans rfl⟩
  | true =>
   rw[hk] at ct
   have hv:aZ cG [(wD (mV 2)),(wD (m2 dD (mV 1) (mC (.int 7))))] [some (W.d (bx names aa)),some (W.d (.int d)),some (W.d (aP names)),some (W.d (aP [a1,b1]))]=.ok (.str s7):=call2 (x:=.d (aP names)) rfl (cA (dv 7 _ (by decide) (by decide) rfl)) hs7
   have hi:m2 bT (m2 dD (mV 1) (mC (.int 5))) (mC (.int 2)) [some (W.d (bx names aa)),some (W.d (.int d)),some (W.d (aP names)),some (W.d (aP [a1,b1]))]=.ok (.int (d / 5 % 2)):=aG (dv 5 _ (by decide) (by decide) rfl) rfl ((lH _ _).trans (ao (by decide)))
   have z0:=Int.emod_nonneg (d / 5) (b:=2) (by decide)
   have z1:=Int.emod_lt_of_pos (d / 5) (b:=2) (by decide)
   rcases (by omega:d / 5 % 2=0∨d / 5 % 2=1) with z|z
   ·rw[z] at hi
    refine⟨s7,b1,sh7,sb1,(ju ct).trans ?_⟩
    unfold pW
    rw[hv,az,hi,az];rfl
   ·rw[z] at hi
    refine⟨a1,s7,sa1,sh7,(ju ct).trans ?_⟩
    unfold pW
    rw[hv,az,hi,az];rfl
 obtain⟨s9,hs9,n9,sh9⟩:=rB G.pos G.le hs (d / 9)
 obtain⟨s11,ada,n11,acU⟩:=rB G.pos G.le hs (d / 11)
 obtain⟨a3,b3,sa3,sb3,t3⟩ : ∃ a3 b3,Sh a3∧Sh b3∧(iy (cB (m2 tX (m2 bT (m2 dD (mV 1) (mC (.int 4096))) (mC (.int 6))) (mC (.int 2))))
 (bW 3 (mN gq [(aZ cG [(wD (mV 2)),(wD (m2 dD (mV 1) (mC (.int 9))))]),(aZ cG [(wD (mV 2)),(wD (m2 dD (mV 1) (mC (.int 11))))])]))
 bB) [some (W.d (bx names aa)),some (W.d (.int d)),some (W.d (aP names)),some (W.d (aP [a2,b2]))]=.ok (.nx [some (W.d (bx names aa)),some (W.d (.int d)),some (W.d (aP names)),some (W.d (aP [a3,b3]))]):=by
  have ct:=cU (aG (b:=mC (.int 2)) (aG (b:=mC (.int 6)) (dv 4096 [some (W.d (bx names aa)),some (W.d (.int d)),some (W.d (aP names)),some (W.d (aP [a2,b2]))] (by decide) (by decide) rfl) rfl ((lH _ _).trans (ao (by decide)))) rfl (vU (d / 4096 % 6) 2))
  cases hk:decide (d / 4096 % 6=2) with
  | false =>
   rw[hk] at ct
   exact⟨a2,b2,sa2,sb2,(dM ct).trans rfl⟩
  | true =>
   rw[hk] at ct
   exact⟨s9,s11,sh9,acU,(ju ct).trans (bD (O5 (call2 (x:=.d (aP names)) rfl (cA (dv 9 _ (by decide) (by decide) rfl)) hs9) (call2 (x:=.d (aP names)) rfl (cA (dv 11 _ (by decide) (by decide) rfl)) ada)))⟩
 refine⟨a3,b3,sa3,sb3,?_⟩
 unfold pA Je
 rw[K1]
 rw[show ([some (W.d (bx names aa)),some (W.d (.int d))]++List.replicate (4 - 2) none)=[some (W.d (bx names aa)),some (W.d (.int d)),none,none] from rfl]
 rw[aL (e':=[some (W.d (bx names aa)),some (W.d (.int d)),some (W.d (aP names)),none]) (bD ((iI (aG rfl rfl (ZM names aa))).trans rfl))]
 rw[aL (e':=[some (W.d (bx names aa)),some (W.d (.int d)),some (W.d (aP names)),some (W.d (aP [a0,b0]))])
  (bD (O5 (aG (x:=aP names) rfl (aG rfl (ln _ rfl) ((lH _ _).trans (ao (by omega)))) ha0) (aG (x:=aP names) rfl (aG (dv 8 _ (by decide) (by decide) rfl) (ln _ rfl) ((lH _ _).trans (ao (by omega)))) hb0)))]
 rw[aL t1,aL t2,aL t3]
 rfl
theorem m6.gd{names:List Str}{A:List Ix}{r:Nat→Int}(N:m6 names A r)(hw:∀ x∈names,d9 [.d (.str x)]=.ok (.d (.bl true))):Gd names (A.map (arrOf names)):=by
 refine⟨N.nd,N.pos,N.le,N.kJ.rk,?_,hw⟩
 rw[← yI]
 congr 1
 refine(xT (fun p:Ix=>p.1 * 8+p.2) _ _ ?_ ?_ fun p=>?_)
 ·unfold ixs
  have h8:=N.le
  rw[List.pairwise_flatMap]
  refine⟨fun i _=>?_,?_⟩
  ·rw[List.pairwise_map]
   refine(List.Pairwise.filter _ List.pairwise_lt_range).imp fun {a b} h=>?_
   show i * 8+a < i * 8+b
   omega
  ·refine List.pairwise_lt_range.imp fun {a b} h=>?_
   intro x hx y hy
   obtain⟨j,hj,rfl⟩:=List.mem_map.mp hx
   obtain⟨j',_,rfl⟩:=List.mem_map.mp hy
   have:=List.mem_range.mp (List.mem_filter.mp hj).1
   show a * 8+j < b * 8+j'
   omega
 ·refine N.m8.imp_of_mem fun {p q} hp hq h=>?_
  have h1:=(N.all p hp).2.1
  have h8:=N.le
  rcases h with h|⟨e,h⟩
  ·show p.1 * 8+p.2 < q.1 * 8+q.2
   omega
  ·show p.1 * 8+p.2 < q.1 * 8+q.2
   omega
 ·rw[yG]
  constructor
  ·rintro ⟨h1,h2,h3⟩
   obtain⟨q,hq,e⟩:=List.mem_map.mp h3
   have e1:=jH N.nd (N.all q hq).1 h1 (congrArg Prod.fst e)
   have e2:=jH N.nd (N.all q hq).2.1 h2 (congrArg Prod.snd e)
   have:q=p:=Prod.ext e1 e2
   rw[← this];exact hq
  ·exact fun h=>⟨(N.all p h).1,(N.all p h).2.1,List.mem_map.mpr ⟨p,h,rfl⟩⟩
theorem ur(ns:List Int)(hl:ns.length≤63):wQ [.d (.lst (ns.map D.int))]=.ok (.d (.bl true)):=by
 obtain⟨names,A,r,ZS,IN,cw,mw,hm8,hnm⟩:=SM ns 8 (by decide) (by decide)
 rw[show ((8:Nat):Int)=8 from rfl] at ZS
 have hs:∀ x∈names,x.length≤8∧∀ c∈x.cps.toList,c < 128:=fun x hx=>by
  rw[hnm] at hx
  obtain⟨l,hl,rfl⟩:=List.mem_map.mp hx
  obtain⟨h1,h2,h3⟩:=fW cw mw hm8 l hl
  exact⟨by rw[lM];exact h2,fun c hc=>by have:=h3 c hc;omega⟩
 have hw:∀ x∈names,d9 [.d (.str x)]=.ok (.d (.bl true)):=fun x hx=>by
  rw[hnm] at hx
  obtain⟨l,hl,rfl⟩:=List.mem_map.mp hx
  exact Vv (fW cw mw hm8 l hl)
 have G:=IN.gd hw
 generalize A.map (arrOf names)=aa at ZS G
 obtain⟨qs,hq⟩:=Bp ns 6 (by decide) (by decide)
 rw[show ((6:Nat):Int)=6 from rfl] at hq
 unfold wQ Dg
 rw[WK]
 rw[show ([some (W.d (.lst (ns.map D.int)))]++List.replicate (4 - 1) none)=[some (W.d (.lst (ns.map D.int))),none,none,none] from rfl]
 rw[aL (e':=[some (.d (.lst (ns.map D.int))),some (.d (bx names aa)),none,none]) (bD (call2 rfl rfl ZS))]
 obtain⟨e',f1,o2,o3,he⟩:=kO (tg:=.n 2) (body:=(aY (bW 3 (aZ pA [(wD (mV 1)),(wD (mV 2))]))
 (iy (qW (cB (aZ fK [(wD (mV 1)),(wD (m2 dU (mV 3) (mC (.int 0)))),(wD (m2 dU (mV 3) (mC (.int 1))))])))
 (dF (wD (mC (.bl false))))
 bB)))
  (fun i e=>∃ o2 o3:Option W,e=[some (.d (.lst (ns.map D.int))),some (.d (bx names aa)),o2,o3]) (qs.map D.int) 0 (fun i x e hi ⟨o2,o3,he⟩=>by
   subst he
   rw[List.getElem?_map] at hi
   obtain⟨d,hd,rfl⟩:=Option.map_eq_some_iff.mp hi
   obtain⟨a,b,sa,sb,hp⟩:=Wb G hs d
   refine⟨[some (.d (.lst (ns.map D.int))),some (.d (bx names aa)),some (.d (.int d)),o3],[some (.d (.lst (ns.map D.int))),some (.d (bx names aa)),some (.d (.int d)),some (.d (aP [a,b]))],rfl,?_,_,_,rfl⟩
   rw[aL (e':=[some (.d (.lst (ns.map D.int))),some (.d (bx names aa)),some (.d (.int d)),some (.d (aP [a,b]))]) (bD (call2 rfl rfl hp))]
   exact(dM (zY (CV (x:=.d (bx names aa)) (y:=.d (.str a)) (z:=.d (.str b)) rfl (cA (aG (x:=aP [a,b]) rfl rfl rfl)) (cA (aG (x:=aP [a,b]) rfl rfl rfl)) (Eh G sa sb)))).trans rfl) _ ⟨none,none,rfl⟩
 subst he
 rw[aL ((j5 (gU (call2 rfl rfl hq) rfl)).trans f1)]
 rw[fH (cA rfl)]
 rfl
end Mr
namespace Jv
open PySem L2 PyProof.Rows
abbrev cN:Addr:=242
abbrev tN:Addr:=238
instance aR:A.fQ:=⟨[(tN,Wt "sorted_rows")],fun c=>if c = "ArrowError" then 29 else if c = "WrongSize" then 42 else if c = "NoWord" then 54 else if c = "Twice" then 66 else if c = "NoName" then 78 else if c = "Ring" then 97 else if c = "Unlike" then 109 else if c = "NoArrow" then 121 else if c = "Locked" then 133 else if c = "NoTie" then 145 else if c = "NoSuch" then 157 else if c = "NoNet" then 176 else if c = "NoText" then 188 else if c = "NoRow" then 200 else if c = "NoLabel" then 212 else 0⟩
theorem walk{l:PySem.W.OpenLaw}{q:Program}{loose:List Str}{XP:(Str→Option Value)→Heap→Prop}{YP:World→Heap→Prop}{d:DefRec}{K:Params→PySem.W.Frag}(hn:l.most=some 63)(hdf:d.params.defaults=[])
 (hY:∀ (w:World) (h:Heap),YP w h→(K w.params).In h) (hL:∀ w:World,X4 (K w.params)=true) (hK:∀ w:World,(K w.params).lookup tN=none) (hrec:∃ d,(recsOf q).find? (fun e=>e.name == ("sorted_rows" : Str))=some d) (htab:∀ w:World,PySem.W.tabIn (K w.params) "sorted_rows" = some (cN,tN))
 (F:∀ (w:World) (mg:Str→Option Value) (fa:Addr) (h:Heap),(K w.params).In h→h.Ns mainGlobals mg→mg d.name=some (.ref fa) →
  ∃ fd:FuncData,(∀ (s:Shared) (u:Value),BindsTo s fd ⟨[u],[]⟩ [("_law_script", u)])∧∀ base:Heap,(K w.params).In base→base.Ns mainGlobals mg→BM mg base→PySem.W.CodeHd base cN tN→cY l.prog w (K w.params) mg base dH 10 fa fd ["_law_script"] A.Hj) :
 PySem.W.WalkO q loose XP YP l.row.toRowW d [] (fun f vs=>PySem.call f vs) :=
 L2.QM (x := "_law_script") (dn := "sorted_rows") (qn:=Wt "sorted_rows") (k:=10) rfl hn hdf ⟨rfl,by decide,by decide⟩ hY (fun w a o e c=>Sy (hL w) e c) hK hrec htab F
theorem YB{K:PySem.W.Frag}{h:Heap}{mg:Str→Option Value}(X:K.In h)(G:h.Ns mainGlobals mg)(Du:PySem.W.nsIn K mainGlobals "len" = some none)(v9:PySem.W.nsIn K mainGlobals "range" = some none)(Dt:PySem.W.nsIn K mainGlobals "max" = some none)(Ds:PySem.W.nsIn K mainGlobals "min" = some none)(v8:PySem.W.nsIn K mainGlobals "tuple" = some none)(yQ:PySem.W.nsIn K mainGlobals "list" = some none)(mG:PySem.W.nsIn K mainGlobals "isinstance" = some none)(Dy:PySem.W.nsIn K mainGlobals "all" = some none)(Dw:PySem.W.nsIn K mainGlobals "any" = some none)(yR:PySem.W.nsIn K mainGlobals "bool" = some none)(Dq:PySem.W.nsIn K mainGlobals "str" = some none)(Dv:PySem.W.nsIn K mainGlobals "int" = some none)(Dp:PySem.W.nsIn K mainGlobals "zip" = some none)(nO:PySem.W.nsIn K mainGlobals "enumerate" = some none)(uA:PySem.W.nsIn K mainGlobals "sorted" = some none)(pP:PySem.W.nsIn K mainGlobals "reversed" = some none)(Dr:PySem.W.nsIn K mainGlobals "set" = some none){xU:Tok}(qZ:PySem.W.nsIn K mainGlobals "LETTERS" = some (some (.str "abcdefghijklmnopqrstuvwxyz" xU))){oR:Tok}(jU:PySem.W.nsIn K mainGlobals "MOST_LETTERS" = some (some (.int 8 oR))){rn:Tok}(mF:PySem.W.nsIn K mainGlobals "MOST_NAMES" = some (some (.int 8 rn))):Txt mg :=
 ⟨PySem.W.mg_none_of X G Du,PySem.W.mg_none_of X G v9,PySem.W.mg_none_of X G Dt,PySem.W.mg_none_of X G Ds,PySem.W.mg_none_of X G v8,PySem.W.mg_none_of X G yQ,PySem.W.mg_none_of X G mG,PySem.W.mg_none_of X G Dy,PySem.W.mg_none_of X G Dw,PySem.W.mg_none_of X G yR,PySem.W.mg_none_of X G Dq,PySem.W.mg_none_of X G Dv,PySem.W.mg_none_of X G Dp,PySem.W.mg_none_of X G nO,PySem.W.mg_none_of X G uA,PySem.W.mg_none_of X G pP,PySem.W.mg_none_of X G Dr,⟨xU,PySem.W.mg_of X G qZ⟩,⟨oR,PySem.W.mg_of X G jU⟩,⟨rn,PySem.W.mg_of X G mF⟩⟩
structure acp(K:PySem.W.Frag):Prop where
 pQ:PySem.W.nsIn K mainGlobals "ArrowError" = some (some (.ref (aR.cl "ArrowError")))
 q8:PySem.W.nsIn K mainGlobals "WrongSize" = some (some (.ref (aR.cl "WrongSize")))
 yU:PySem.W.nsIn K mainGlobals "NoWord" = some (some (.ref (aR.cl "NoWord")))
 Dz:PySem.W.nsIn K mainGlobals "Twice" = some (some (.ref (aR.cl "Twice")))
 yX:PySem.W.nsIn K mainGlobals "NoName" = some (some (.ref (aR.cl "NoName")))
 QB:PySem.W.nsIn K mainGlobals "Ring" = some (some (.ref (aR.cl "Ring")))
 yS:PySem.W.nsIn K mainGlobals "Unlike" = some (some (.ref (aR.cl "Unlike")))
 wj:PySem.W.nsIn K mainGlobals "NoArrow" = some (some (.ref (aR.cl "NoArrow")))
 yZ:PySem.W.nsIn K mainGlobals "Locked" = some (some (.ref (aR.cl "Locked")))
 DG:PySem.W.nsIn K mainGlobals "NoTie" = some (some (.ref (aR.cl "NoTie")))
 yW:PySem.W.nsIn K mainGlobals "NoSuch" = some (some (.ref (aR.cl "NoSuch")))
 Lr:PySem.W.nsIn K mainGlobals "NoNet" = some (some (.ref (aR.cl "NoNet")))
 yV:PySem.W.nsIn K mainGlobals "NoText" = some (some (.ref (aR.cl "NoText")))
 DK:PySem.W.nsIn K mainGlobals "NoRow" = some (some (.ref (aR.cl "NoRow")))
 wg:PySem.W.nsIn K mainGlobals "NoLabel" = some (some (.ref (aR.cl "NoLabel")))
 DN:PySem.W.excIn K (aR.cl "ArrowError") [.type "ValueError", .type "Exception", .type "BaseException", .type "object"] "ValueError.__new__" = true
 G5:PySem.W.excIn K (aR.cl "WrongSize") [.type "ValueError", .type "Exception", .type "BaseException", .type "object"] "ValueError.__new__" = true
 QD:PySem.W.excIn K (aR.cl "NoWord") [.type "ValueError", .type "Exception", .type "BaseException", .type "object"] "ValueError.__new__" = true
 Vs:PySem.W.excIn K (aR.cl "Twice") [.type "ValueError", .type "Exception", .type "BaseException", .type "object"] "ValueError.__new__" = true
 QH:PySem.W.excIn K (aR.cl "NoName") [.type "ValueError", .type "Exception", .type "BaseException", .type "object"] "ValueError.__new__" = true
 QC:PySem.W.excIn K (aR.cl "Unlike") [.type "ValueError", .type "Exception", .type "BaseException", .type "object"] "ValueError.__new__" = true
 N7:PySem.W.excIn K (aR.cl "NoArrow") [.type "ValueError", .type "Exception", .type "BaseException", .type "object"] "ValueError.__new__" = true
 QJ:PySem.W.excIn K (aR.cl "Locked") [.type "ValueError", .type "Exception", .type "BaseException", .type "object"] "ValueError.__new__" = true
 Vt:PySem.W.excIn K (aR.cl "NoTie") [.type "ValueError", .type "Exception", .type "BaseException", .type "object"] "ValueError.__new__" = true
 QG:PySem.W.excIn K (aR.cl "NoSuch") [.type "ValueError", .type "Exception", .type "BaseException", .type "object"] "ValueError.__new__" = true
 QF:PySem.W.excIn K (aR.cl "NoText") [.type "ValueError", .type "Exception", .type "BaseException", .type "object"] "ValueError.__new__" = true
 Vu:PySem.W.excIn K (aR.cl "NoRow") [.type "ValueError", .type "Exception", .type "BaseException", .type "object"] "ValueError.__new__" = true
 N6:PySem.W.excIn K (aR.cl "NoLabel") [.type "ValueError", .type "Exception", .type "BaseException", .type "object"] "ValueError.__new__" = true
 v_:PySem.W.nsIn K mainGlobals "ValueError" = some none
theorem Zc{K:PySem.W.Frag}{h:Heap}{mg:Str→Option Value}(X:K.In h)(G:h.Ns mainGlobals mg)(z:acp K):Own mg h :=
 ⟨jW X G z.pQ z.DN,jW X G z.q8 z.G5,jW X G z.yU z.QD,jW X G z.Dz z.Vs,jW X G z.yX z.QH,jW X G z.yS z.QC,jW X G z.wj z.N7,jW X G z.yZ z.QJ,jW X G z.DG z.Vt,jW X G z.yW z.QG,jW X G z.yV z.QF,jW X G z.DK z.Vu,jW X G z.wg z.N6,PySem.W.mg_of X G z.pQ,PySem.W.mg_of X G z.q8,PySem.W.mg_of X G z.yU,PySem.W.mg_of X G z.Dz,PySem.W.mg_of X G z.yX,PySem.W.mg_of X G z.QB,PySem.W.mg_of X G z.yS,PySem.W.mg_of X G z.wj,PySem.W.mg_of X G z.yZ,PySem.W.mg_of X G z.DG,PySem.W.mg_of X G z.yW,PySem.W.mg_of X G z.Lr,PySem.W.mg_of X G z.yV,PySem.W.mg_of X G z.DK,PySem.W.mg_of X G z.wg,PySem.W.mg_none_of X G z.v_⟩
structure adB(K:PySem.W.Frag):Prop where
 h0:PySem.W.kitOne K (.ref (aR.cl "Locked")) (.type "ValueError")=some true
 h1:PySem.W.kitOne K (.ref (aR.cl "NoArrow")) (.type "ValueError")=some true
 h2:PySem.W.kitOne K (.ref (aR.cl "NoName")) (.type "ValueError")=some true
 h3:PySem.W.kitOne K (.ref (aR.cl "Locked")) (.ref (aR.cl "NoName"))=some false
 h4:PySem.W.kitOne K (.ref (aR.cl "NoArrow")) (.ref (aR.cl "NoName"))=some false
 h5:PySem.W.kitOne K (.ref (aR.cl "NoName")) (.ref (aR.cl "NoName"))=some true
 h6:PySem.W.kitOne K (.ref (aR.cl "Locked")) (.ref (aR.cl "NoArrow"))=some false
 h7:PySem.W.kitOne K (.ref (aR.cl "NoArrow")) (.ref (aR.cl "NoArrow"))=some true
 h8:PySem.W.kitOne K (.ref (aR.cl "NoName")) (.ref (aR.cl "NoArrow"))=some false
 h9:PySem.W.kitOne K (.ref (aR.cl "Locked")) (.ref (aR.cl "Locked"))=some true
 h10:PySem.W.kitOne K (.ref (aR.cl "NoArrow")) (.ref (aR.cl "Locked"))=some false
 h11:PySem.W.kitOne K (.ref (aR.cl "NoName")) (.ref (aR.cl "Locked"))=some false
 h12:PySem.W.kitAny K (.ref (aR.cl "Locked")) (([aR.cl "NoWord", aR.cl "Ring", aR.cl "Twice", aR.cl "Unlike", aR.cl "WrongSize"]:List Addr).map .ref)=some false
 h13:PySem.W.kitAny K (.ref (aR.cl "NoArrow")) (([aR.cl "NoWord", aR.cl "Ring", aR.cl "Twice", aR.cl "Unlike", aR.cl "WrongSize"]:List Addr).map .ref)=some false
 h14:PySem.W.kitAny K (.ref (aR.cl "NoName")) (([aR.cl "NoWord", aR.cl "Ring", aR.cl "Twice", aR.cl "Unlike", aR.cl "WrongSize"]:List Addr).map .ref)=some false
 h15:PySem.W.kitAny K (.ref (aR.cl "Locked")) (([aR.cl "NoLabel", aR.cl "NoNet", aR.cl "NoRow", aR.cl "NoSuch", aR.cl "NoText", aR.cl "NoTie"]:List Addr).map .ref)=some false
 h16:PySem.W.kitAny K (.ref (aR.cl "NoArrow")) (([aR.cl "NoLabel", aR.cl "NoNet", aR.cl "NoRow", aR.cl "NoSuch", aR.cl "NoText", aR.cl "NoTie"]:List Addr).map .ref)=some false
 h17:PySem.W.kitAny K (.ref (aR.cl "NoName")) (([aR.cl "NoLabel", aR.cl "NoNet", aR.cl "NoRow", aR.cl "NoSuch", aR.cl "NoText", aR.cl "NoTie"]:List Addr).map .ref)=some false
 h18:PySem.W.exmOne K (.ref (aR.cl "Locked")) (.ref (aR.cl "ArrowError"))=some true
 h19:PySem.W.exmOne K (.ref (aR.cl "NoArrow")) (.ref (aR.cl "ArrowError"))=some true
 h20:PySem.W.exmOne K (.ref (aR.cl "NoName")) (.ref (aR.cl "ArrowError"))=some true
theorem ZC{K:PySem.W.Frag}(lu:kj K (aR.cl "Locked"))(jw:kj K (aR.cl "NoArrow"))(lr:kj K (aR.cl "NoName"))(z:adB K):Kit K :=
 ⟨(dX ⟨lr,z.h2⟩ (dX ⟨jw,z.h1⟩ (dX ⟨lu,z.h0⟩ wU))),(dX ⟨lr,z.h5⟩ (dX ⟨jw,z.h4⟩ (dX ⟨lu,z.h3⟩ wU))),(dX ⟨lr,z.h8⟩ (dX ⟨jw,z.h7⟩ (dX ⟨lu,z.h6⟩ wU))),(dX ⟨lr,z.h11⟩ (dX ⟨jw,z.h10⟩ (dX ⟨lu,z.h9⟩ wU))),(dX ⟨lr,z.h14⟩ (dX ⟨jw,z.h13⟩ (dX ⟨lu,z.h12⟩ wU))),(dX ⟨lr,z.h17⟩ (dX ⟨jw,z.h16⟩ (dX ⟨lu,z.h15⟩ wU))),(Fd z.h20 (Fd z.h19 (Fd z.h18 Zu)))⟩
theorem aaq{l:PySem.W.OpenLaw}{w:World}{K:PySem.W.Frag}{mg:Str→Option Value}{fa:Addr}(hfa:mg "law" = some (.ref fa))(T:Txt mg)(OK:acp K)(Kt:Kit K)(Bk:qY K mg "_law_cell" zG ["_law_script", "_law_k"])(xG:qY K mg "_law_words" wA ["_law_cell_here", "_law_many"])(xH:qY K mg "_law_ranks" wB ["_law_cell_here", "_law_many"])(GJ:qY K mg "_law_net" Ef ["_law_script", "_law_most"])(ou:qY K mg "_law_questions" nR ["_law_script", "_law_many"])(qy:qY K mg "_law_stranger" pR ["_law_names", "_law_cell_here"])(Bj:qY K mg "_law_pair" zF ["_law_net_here", "_law_draw"])(n6:Xo K mg "sorted_rows" nP ["names", "rows"] cN)(xM:qY K mg "is_word" wG ["text"])(ig:qY K mg "refuse_wrong_names" gK ["names"])(f9:qY K mg "refuse_strangers" fX ["names", "asked"])(ie:qY K mg "refuse_wrong_pairs" gJ ["names", "arrows"])(sY:qY K mg "elders_of" rN ["net", "name"])(oA:qY K mg "first_ready" nU ["net", "told"])(xN:qY K mg "in_turn" wH ["net"])(oh:qY K mg "refuse_ring" nQ ["net"])(uY:qY K mg "net_made" uF ["names", "arrows"])(lN:qY K mg "can_be_turned" lF ["net", "tail", "head"])(mq:qY K mg "net_turned" lQ ["net", "tail", "head"])(xK:qY K mg "_law_alike" wF ["_law_found", "_law_due"])(u0:qY K mg "_law_elders" uH ["_law_arrows", "_law_name"])(sX:qY K mg "_law_covered" rM ["_law_arrows"])(sW:qY K mg "_law_flipped" rK ["_law_arrows", "_law_arrow"])(uZ:qY K mg "_law_sorted" uG ["_law_names", "_law_arrows"])(xJ:qY K mg "_law_kinds" wC ["_law_e"])(sV:qY K mg "_law_refused" rJ ["_law_net_here", "_law_tail", "_law_head"])(qz:qY K mg "_law_question" pU ["_law_net_here", "_law_tail", "_law_head"])(Vo:qY K mg "law" Rg ["_law_script"]) :
 ∃ fd:FuncData,(∀ (s:Shared) (u:Value),BindsTo s fd ⟨[u],[]⟩ [("_law_script", u)])∧∀ base:Heap,K.In base→base.Ns mainGlobals mg→BM mg base→PySem.W.CodeHd base cN tN→cY l.prog w K mg base dH 10 fa fd ["_law_script"] A.Hj :=
 qY.ac4 Vo hfa fun base kb nb hB hC f fd F=>by
  have O:Own mg base:=Zc kb nb OK
  have jb:=Bk.cal (P:=l.prog) (w:=w) (base:=base) (CX:=dH) fun f fd F=>O1 F T
  have xO:=xG.cal (P:=l.prog) (w:=w) (base:=base) (CX:=dH) fun f fd F=>Ka F T
  have xP:=xH.cal (P:=l.prog) (w:=w) (base:=base) (CX:=dH) fun f fd F=>Kc F T
  have GP:=GJ.cal (P:=l.prog) (w:=w) (base:=base) (CX:=dH) fun f fd F=>R6 F T jb xO xP
  have oG:=ou.cal (P:=l.prog) (w:=w) (base:=base) (CX:=dH) fun f fd F=>zU F T jb
  have jO:=qy.cal (P:=l.prog) (w:=w) (base:=base) (CX:=dH) fun f fd F=>Br F T
  have Bl:=Bj.cal (P:=l.prog) (w:=w) (base:=base) (CX:=dH) fun f fd F=>OJ F T jO
  have oE:=n6.cal (P:=l.prog) (w:=w) (base:=base) (CX:=dH) fun f fd F=>zR F T hB hC (List.mem_singleton.mpr rfl)
  have xQ:=xM.cal (P:=l.prog) (w:=w) (base:=base) (CX:=dH) fun f fd F=>Kf F T
  have iu:=ig.cal (P:=l.prog) (w:=w) (base:=base) (CX:=dH) fun f fd F=>qO F T xQ
  have bJ:=f9.cal (P:=l.prog) (w:=w) (base:=base) (CX:=dH) fun f fd F=>ud F T
  have iU:=f9.cal (P:=l.prog) (w:=w) (base:=base) (CX:=BL l.prog w) fun f fd F=>rT F T O
  have ir:=ie.cal (P:=l.prog) (w:=w) (base:=base) (CX:=dH) fun f fd F=>qM F T bJ
  have iw:=sY.cal (P:=l.prog) (w:=w) (base:=base) (CX:=dH) fun f fd F=>Ew F T bJ
  have kY:=oA.cal (P:=l.prog) (w:=w) (base:=base) (CX:=dH) fun f fd F=>zW F T iw
  have xR:=xN.cal (P:=l.prog) (w:=w) (base:=base) (CX:=dH) fun f fd F=>Kg F T kY
  have oF:=oh.cal (P:=l.prog) (w:=w) (base:=base) (CX:=dH) fun f fd F=>zT F T xR
  have km:=uY.cal (P:=l.prog) (w:=w) (base:=base) (CX:=dH) fun f fd F=>Hz F T oE iu ir oF
  have eO:=lN.cal (P:=l.prog) (w:=w) (base:=base) (CX:=dH) fun f fd F=>wN F T iw
  have my:=mq.cal (P:=l.prog) (w:=w) (base:=base) (CX:=dH) fun f fd F=>Bq F T km bJ eO
  have oH:=mq.cal (P:=l.prog) (w:=w) (base:=base) (CX:=BL l.prog w) fun f fd F=>zX F T O km eO iU
  have jy:=adu (P:=l.prog) (w:=w) (base:=base) (CX:=dH) xK fun f fd F self=>zV F T self
  have qD:=u0.cal (P:=l.prog) (w:=w) (base:=base) (CX:=dH) fun f fd F=>HD F T
  have tD:=sX.cal (P:=l.prog) (w:=w) (base:=base) (CX:=dH) fun f fd F=>Eu F T qD
  have tu:=sW.cal (P:=l.prog) (w:=w) (base:=base) (CX:=dH) fun f fd F=>Et F T
  have u5:=uZ.cal (P:=l.prog) (w:=w) (base:=base) (CX:=dH) fun f fd F=>HB F T
  have u6:=xJ.adv (P:=l.prog) (w:=w) (base:=base) fun f fd F=>Ke F T O Kt
  have lD:=sV.cal (P:=l.prog) (w:=w) (base:=base) (CX:=dH) fun f fd F=>Es F T O Kt oH u6
  have qC:=qz.cal (P:=l.prog) (w:=w) (base:=base) (CX:=dH) fun f fd F=>Bs F T my jy tD tu u5 lD
  exact A.Zy (Zk F T GP oG Bl qC) fun ns hl=>by first|exact Mr.ur ns|exact Mr.ur ns hl
end Jv
namespace PySem.W.Fast
def tw2262300069323058208 := 0
def tw2982391218876120320 := 0
def tw11976933745714877824 := 0
def tw11607117757967181280 := 0
def tw1445014325284917824 := 0
def tw1503369086644780640 := 0
def tw3427939245334348416 := 0
def tw14345694062575144704 := 0
def tw2255065301505055584 := 0
def tw13234181905048365984 := 0
def tw4397517054766063584 := 0
def tw5786779827924221920 := 0
def tw15458629296225597697 := 0
def tw17297673821878311649 := 0
def tw10125168687996141634 := 0
def tw12042659993967754338 := 0
def tw494615168071457922 := 0
def tw17778101932711128194 := 0
def tw1113675141156619522 := 0
def tw12877250271616639298 := 0
def tw17095978903022025602 := 0
def tw3498963598484709282 := 0
def tw8091130708516305890 := 0
def tw18098096556007914531 := 0
def tw10588029344906708067 := 0
def tw11839790323627832515 := 0
def tw7977313148720654755 := 0
def tw12251958758781212099 := 0
def tw2734367929689423395 := 0
def tw17265546783139604067 := 0
def tw12328160619872244323 := 0
def tw10720531342691885827 := 0
def tw3678183435789511491 := 0
def tw9844332872365849571 := 0
def tw4181941909828688900 := 0
def tw7306100003500982276 := 0
def tw17956628104893714564 := 0
def tw13015829160817252484 := 0
def tw9228584901559165220 := 0
def tw10953737304285598148 := 0
def tw7706850822626173444 := 0
def tw17220121463111543300 := 0
def tw17240033465331518084 := 0
def tw14445805852513151748 := 0
def tw12505386158111972196 := 0
def tw5914705707723270020 := 0
def tw11370713418385864741 := 0
def tw5738440796313961637 := 0
def tw15175557394600347909 := 0
def tw13149423674148794661 := 0
def tw18325769223848114469 := 0
def tw3864819968838322757 := 0
def tw16431071117620852421 := 0
def tw9905664746783615717 := 0
def tw9199463528116683493 := 0
def tw10691223309647598341 := 0
def tw17842857226557887237 := 0
def tw1214637225270056805 := 0
def tw14683091741855295397 := 0
def tw6179188295724319782 := 0
def tw13622515433330036806 := 0
def tw802126725208634598 := 0
def tw11592834724250573030 := 0
def tw14500306151571839270 := 0
def tw2186051953749252422 := 0
def tw2879793140136988998 := 0
def tw5692428601032491366 := 0
def tw7970306063962720710 := 0
def tw3590082818977141318 := 0
def tw12562792003969997574 := 0
def tw2369597334843194214 := 0
def tw17469496746697881639 := 0
def tw9143762644392728743 := 0
def tw17118636763619915623 := 0
def tw3816161627809174503 := 0
def tw15822182821754471528 := 0
def tw3426263978247443624 := 0
def tw6526251768146225416 := 0
def tw13295528206130616616 := 0
def tw17942876852249281864 := 0
def tw17805815338507151752 := 0
def tw2726312777495237032 := 0
def tw3528438576402830824 := 0
def tw3809846212662882856 := 0
def tw662437161758446633 := 0
def tw14210343629255255113 := 0
def tw819699236650679529 := 0
def tw2880087454218570281 := 0
def tw254485635314210377 := 0
def tw13632842668946341481 := 0
def tw9288395442774021001 := 0
def tw7509502361021015082 := 0
def tw6656537735540510922 := 0
def tw9762513550800219338 := 0
def tw16756353770160301386 := 0
def tw1071761437999165834 := 0
def tw16683622408396636618 := 0
def tw817029242913186346 := 0
def tw13371141083720560170 := 0
def tw16161571487762385706 := 0
def tw10599530002199238474 := 0
def tw14212099869362997194 := 0
def tw12436123498983163850 := 0
def tw12112935297237083082 := 0
def tw3516882535519511563 := 0
def tw12790317519571936331 := 0
def tw8563847964554810507 := 0
def tw9999311865335115979 := 0
def tw4051125233873795339 := 0
def tw9196699555938131275 := 0
def tw5871542551048487371 := 0
def tw7159630712378903083 := 0
def tw2799446313539054379 := 0
def tw4261872374476162060 := 0
def tw1649684023632230412 := 0
def tw16627543243029561548 := 0
def tw1172930575804915980 := 0
def tw13911956666122158444 := 0
def tw1415128107820163468 := 0
def tw12854535746191794828 := 0
def tw1783051079647543116 := 0
def tw10954459327419664364 := 0
def tw16516704577260847117 := 0
def tw15250720930172242189 := 0
def tw6194453833366595021 := 0
def tw11874178750876983821 := 0
def tw4854763239635019469 := 0
def tw16707631086804395789 := 0
def tw5691194108059315053 := 0
def tw9401523884587167790 := 0
def tw8570412551027151086 := 0
def tw4052531435961258382 := 0
def tw17314196373562384910 := 0
def tw10493120224789810798 := 0
def tw783813163479928494 := 0
def tw8470803894189944782 := 0
def tw9529549725841063918 := 0
def tw9124037613354064975 := 0
def tw5283004342409881775 := 0
def tw5538077653534392591 := 0
def tw3658438505493811663 := 0
def tw12178155122190722575 := 0
def tw16335678697091628591 := 0
def tw5806085420691419695 := 0
def tw14176828358421915247 := 0
def tw9640647328978893423 := 0
def tw781411427052365455 := 0
def tw2472080307140700847 := 0
def tw6605391480136879855 := 0
def tw17227537178787032047 := 0
def tw13158233234533713168 := 0
def tw17285758283786615248 := 0
def tw4272514757587995120 := 0
def tw11273247088034269872 := 0
def tw5314043383289375440 := 0
def tw12710241970611838704 := 0
def tw18011524084446567184 := 0
def tw14343980622063637456 := 0
def tw12967524744459091985 := 0
def tw9109254846603416593 := 0
def tw6779664557664461841 := 0
def tw13453630506111183953 := 0
def tw11901100026893588657 := 0
def tw3716068826252102865 := 0
def tw7614423203971854705 := 0
def tw12942470822244760945 := 0
def tw8613041548555210129 := 0
def tw10112317427389456785 := 0
def tw8012108163032585649 := 0
def tw7260857543663730321 := 0
def tw3597828401660561265 := 0
def tw16769974060423136145 := 0
def tw5188173725328860049 := 0
def tw3378580683670138930 := 0
def tw3578781929417776850 := 0
def tw15961562160907187154 := 0
def tw4762789590462433363 := 0
def tw753043199860086131 := 0
def tw3242660308596183699 := 0
def tw2347717789190297748 := 0
def tw5707296362683824468 := 0
def tw1071852342334408052 := 0
def tw17649074527204244916 := 0
def tw4869548480775381524 := 0
def tw3379481686015055476 := 0
def tw16643121859842296500 := 0
def tw11086398284896478932 := 0
def tw4409012442526349108 := 0
def tw12424229149881724820 := 0
def tw13853972417503220692 := 0
def tw11950162569800244309 := 0
def tw10605943181358480533 := 0
def tw1860657176044875029 := 0
def tw9630255582369865173 := 0
def tw15977787513279113781 := 0
def tw10015043100697624213 := 0
def tw16623115737944317813 := 0
def tw12383692916127507574 := 0
def tw15140443467029832854 := 0
def tw17766172901725952246 := 0
def tw13655574371903289750 := 0
def tw3585138203204416918 := 0
def tw2480923349182544919 := 0
def tw6298889956482920503 := 0
def tw5980540616253811927 := 0
def tw18104956676298979575 := 0
def tw1868122262995818967 := 0
def tw13020833004346145431 := 0
def tw9780223403164139287 := 0
def tw4465496452918027095 := 0
def tw9582676218249866167 := 0
def tw17127258305275183160 := 0
def tw7701876043739552952 := 0
def tw10351265678914397400 := 0
def tw578617666109480184 := 0
def tw9617983781973756408 := 0
def tw2374132077656915480 := 0
def tw17069378695193259608 := 0
def tw148137304805929560 := 0
def tw5798344441638229848 := 0
def tw9081011956763839416 := 0
def tw15568745527358392345 := 0
def tw15031492124474629241 := 0
def tw11801813864346880153 := 0
def tw18029723147821742521 := 0
def tw18180312808065067098 := 0
def tw12582287695140430138 := 0
def tw15766984518967605594 := 0
def tw12707781881672752538 := 0
def tw16817558868026407322 := 0
def tw18050919175560097274 := 0
def tw11340233334300615514 := 0
def tw16123106973378519930 := 0
def tw722312323438605210 := 0
def tw8247844346483614682 := 0
def tw3058762338134757403 := 0
def tw14623298543950185595 := 0
def tw6303094644117855387 := 0
def tw11618745859500785243 := 0
def tw16825461254700417723 := 0
def tw4956557045528696539 := 0
def tw1587855582712245083 := 0
def tw7526614722719560699 := 0
def tw13337454540233904156 := 0
def tw6900293826829442108 := 0
def tw8668306944379251900 := 0
def tw11247694939803470012 := 0
def tw8078837569940566300 := 0
def tw53932570620597660 := 0
def tw7620026359695421980 := 0
def tw17446230408714034748 := 0
def tw8728605156938839644 := 0
def tw16753425453448779420 := 0
def tw14604957097293240092 := 0
def tw10240463556076963612 := 0
def tw3553442180269083580 := 0
def tw8122352234609283229 := 0
def tw8096755349033864349 := 0
def tw966860935852202205 := 0
def tw953246987753235677 := 0
def tw10821762246365988349 := 0
def tw471118536091832989 := 0
def tw11193163890689315549 := 0
def tw16948095200765186845 := 0
def tw3556435200742167357 := 0
def tw11110318211126888317 := 0
def tw11542098417953246077 := 0
def tw17896741073144577917 := 0
def tw12796440054085527485 := 0
def tw3529935512163793853 := 0
def tw18284205531198408637 := 0
def tw12236644295453478909 := 0
def tw9664418249710150653 := 0
def tw10444493135925700734 := 0
def tw1269278600663917822 := 0
def tw13866676328722287902 := 0
def tw8191239009535501726 := 0
def tw5338137635173253566 := 0
def tw17280702864985034206 := 0
def tw9364717846459292254 := 0
def tw7992822002500863806 := 0
def tw15942655935519582142 := 0
def tw213555889658743999 := 0
def tw9495307596138513663 := 0
def tw339687748986467583 := 0
def tw230027529670030815 := 0
def tw782123453611768287 := 0
def tw1812061368167176799 := 0
def tw14396601251004638079 := 0
def tw15807344891907329023 := 0
end PySem.W.Fast
open PySem PySem.W PyProof.Rows
set_option maxRecDepth 100000 in
set_option maxHeartbeats 0 in
theorem PySem.Challenge.cw_arrowfind_k31_turned_and_refused_holds : PySem.Challenge.rw_arrowfind_k31_turned_and_refused.Holds := by
 w_on;o_law;k_head;(case hw=>w_witness2)
 k_fill
 refine Jv.walk (l:=PySem.Challenge.rw_arrowfind_k31_turned_and_refused) rfl rfl (fun w h Y=>PySem.W.km_in_of Y) ?L ?K ⟨_,rfl⟩ ?H ?F
 case L =>
  intro w
  kernel_rfl
 case K =>
  intro w
  kernel_rfl
 case H =>
  intro w
  kernel_rfl
 case F =>
  intro w mg fa h KX G hmg
  refine' Jv.aaq hmg ?T ?O ?Kt ?Bk ?xG ?xH ?GJ ?ou ?qy ?Bj ?n6 ?xM ?ig ?f9 ?ie ?sY ?oA ?xN ?oh ?uY ?lN ?mq ?xK ?u0 ?sX ?sW ?uZ ?xJ ?sV ?qz ?Vo
  case T =>
   refine' Jv.YB KX G ?Du ?v9 ?Dt ?Ds ?v8 ?yQ ?mG ?Dy ?Dw ?yR ?Dq ?Dv ?Dp ?nO ?uA ?pP ?Dr ?qZ ?jU ?mF
   (case Du=>k_is)
   (case v9=>k_is)
   (case Dt=>k_is)
   (case Ds=>k_is)
   (case v8=>k_is)
   (case yQ=>k_is)
   (case mG=>k_is)
   (case Dy=>k_is)
   (case Dw=>k_is)
   (case yR=>k_is)
   (case Dq=>k_is)
   (case Dv=>k_is)
   (case Dp=>k_is)
   (case nO=>k_is)
   (case uA=>k_is)
   (case pP=>k_is)
   (case Dr=>k_is)
   (case qZ=>k_is)
   (case jU=>k_is)
   (case mF=>k_is)
  case O =>
   constructor
   (case pQ=>kernel_rfl)
   (case q8=>kernel_rfl)
   (case yU=>kernel_rfl)
   (case Dz=>kernel_rfl)
   (case yX=>kernel_rfl)
   (case QB=>kernel_rfl)
   (case yS=>kernel_rfl)
   (case wj=>kernel_rfl)
   (case yZ=>kernel_rfl)
   (case DG=>kernel_rfl)
   (case yW=>kernel_rfl)
   (case Lr=>kernel_rfl)
   (case yV=>kernel_rfl)
   (case DK=>kernel_rfl)
   (case wg=>kernel_rfl)
   all_goals kernel_rfl
  case Kt =>
   refine' Jv.ZC ?lu ?jw ?lr ?z
   (case lu=>constructor<;>kernel_rfl)
   (case jw=>constructor<;>kernel_rfl)
   (case lr=>constructor<;>kernel_rfl)
   (case z=>constructor<;>kernel_rfl)
  case Bk =>
   refine' L2.cR KX G (fun _ _ _ _ _ _ us hl=>match us,hl with|[_,_],_=>rfl) ?a ?l ?c ?k
   (case a=>k_is);(case l=>k_is);(case c=>k_is);(case k=>k_is)
  case xG =>
   refine' L2.cR KX G (fun _ _ _ _ _ _ us hl=>match us,hl with|[_,_],_=>rfl) ?a ?l ?c ?k
   (case a=>k_is);(case l=>k_is);(case c=>k_is);(case k=>k_is)
  case xH =>
   refine' L2.cR KX G (fun _ _ _ _ _ _ us hl=>match us,hl with|[_,_],_=>rfl) ?a ?l ?c ?k
   (case a=>k_is);(case l=>k_is);(case c=>k_is);(case k=>k_is)
  case GJ =>
   refine' L2.cR KX G (fun _ _ _ _ _ _ us hl=>match us,hl with|[_,_],_=>rfl) ?a ?l ?c ?k
   (case a=>k_is);(case l=>k_is);(case c=>k_is);(case k=>k_is)
  case ou =>
   refine' L2.cR KX G (fun _ _ _ _ _ _ us hl=>match us,hl with|[_,_],_=>rfl) ?a ?l ?c ?k
   (case a=>k_is);(case l=>k_is);(case c=>k_is);(case k=>k_is)
  case qy =>
   refine' L2.cR KX G (fun _ _ _ _ _ _ us hl=>match us,hl with|[_,_],_=>rfl) ?a ?l ?c ?k
   (case a=>k_is);(case l=>k_is);(case c=>k_is);(case k=>k_is)
  case Bj =>
   refine' L2.cR KX G (fun _ _ _ _ _ _ us hl=>match us,hl with|[_,_],_=>rfl) ?a ?l ?c ?k
   (case a=>k_is);(case l=>k_is);(case c=>k_is);(case k=>k_is)
  case n6 =>
   refine' L2.WL (c:=Jv.cN) KX G (fun _ _ _ _ _ _ us hl=>match us,hl with|[_,_],_=>rfl) ?a ?l ?c ?k
   (case a=>k_is);(case l=>k_is);(case c=>k_is);(case k=>k_is)
  case xM =>
   refine' L2.cR KX G (fun _ _ _ _ _ _ us hl=>match us,hl with|[_],_=>rfl) ?a ?l ?c ?k
   (case a=>k_is);(case l=>k_is);(case c=>k_is);(case k=>k_is)
  case ig =>
   refine' L2.cR KX G (fun _ _ _ _ _ _ us hl=>match us,hl with|[_],_=>rfl) ?a ?l ?c ?k
   (case a=>k_is);(case l=>k_is);(case c=>k_is);(case k=>k_is)
  case f9 =>
   refine' L2.cR KX G (fun _ _ _ _ _ _ us hl=>match us,hl with|[_,_],_=>rfl) ?a ?l ?c ?k
   (case a=>k_is);(case l=>k_is);(case c=>k_is);(case k=>k_is)
  case ie =>
   refine' L2.cR KX G (fun _ _ _ _ _ _ us hl=>match us,hl with|[_,_],_=>rfl) ?a ?l ?c ?k
   (case a=>k_is);(case l=>k_is);(case c=>k_is);(case k=>k_is)
  case sY =>
   refine' L2.cR KX G (fun _ _ _ _ _ _ us hl=>match us,hl with|[_,_],_=>rfl) ?a ?l ?c ?k
   (case a=>k_is);(case l=>k_is);(case c=>k_is);(case k=>k_is)
  case oA =>
   refine' L2.cR KX G (fun _ _ _ _ _ _ us hl=>match us,hl with|[_,_],_=>rfl) ?a ?l ?c ?k
   (case a=>k_is);(case l=>k_is);(case c=>k_is);(case k=>k_is)
  case xN =>
   refine' L2.cR KX G (fun _ _ _ _ _ _ us hl=>match us,hl with|[_],_=>rfl) ?a ?l ?c ?k
   (case a=>k_is);(case l=>k_is);(case c=>k_is);(case k=>k_is)
  case oh =>
   refine' L2.cR KX G (fun _ _ _ _ _ _ us hl=>match us,hl with|[_],_=>rfl) ?a ?l ?c ?k
   (case a=>k_is);(case l=>k_is);(case c=>k_is);(case k=>k_is)
  case uY =>
   refine' L2.cR KX G (fun _ _ _ _ _ _ us hl=>match us,hl with|[_,_],_=>rfl) ?a ?l ?c ?k
   (case a=>k_is);(case l=>k_is);(case c=>k_is);(case k=>k_is)
  case lN =>
   refine' L2.cR KX G (fun _ _ _ _ _ _ us hl=>match us,hl with|[_,_,_],_=>rfl) ?a ?l ?c ?k
   (case a=>k_is);(case l=>k_is);(case c=>k_is);(case k=>k_is)
  case mq =>
   refine' L2.cR KX G (fun _ _ _ _ _ _ us hl=>match us,hl with|[_,_,_],_=>rfl) ?a ?l ?c ?k
   (case a=>k_is);(case l=>k_is);(case c=>k_is);(case k=>k_is)
  case xK =>
   refine' L2.cR KX G (fun _ _ _ _ _ _ us hl=>match us,hl with|[_,_],_=>rfl) ?a ?l ?c ?k
   (case a=>k_is);(case l=>k_is);(case c=>k_is);(case k=>k_is)
  case u0 =>
   refine' L2.cR KX G (fun _ _ _ _ _ _ us hl=>match us,hl with|[_,_],_=>rfl) ?a ?l ?c ?k
   (case a=>k_is);(case l=>k_is);(case c=>k_is);(case k=>k_is)
  case sX =>
   refine' L2.cR KX G (fun _ _ _ _ _ _ us hl=>match us,hl with|[_],_=>rfl) ?a ?l ?c ?k
   (case a=>k_is);(case l=>k_is);(case c=>k_is);(case k=>k_is)
  case sW =>
   refine' L2.cR KX G (fun _ _ _ _ _ _ us hl=>match us,hl with|[_,_],_=>rfl) ?a ?l ?c ?k
   (case a=>k_is);(case l=>k_is);(case c=>k_is);(case k=>k_is)
  case uZ =>
   refine' L2.cR KX G (fun _ _ _ _ _ _ us hl=>match us,hl with|[_,_],_=>rfl) ?a ?l ?c ?k
   (case a=>k_is);(case l=>k_is);(case c=>k_is);(case k=>k_is)
  case xJ =>
   refine' L2.cR KX G (fun _ _ _ _ _ _ us hl=>match us,hl with|[_],_=>rfl) ?a ?l ?c ?k
   (case a=>k_is);(case l=>k_is);(case c=>k_is);(case k=>k_is)
  case sV =>
   refine' L2.cR KX G (fun _ _ _ _ _ _ us hl=>match us,hl with|[_,_,_],_=>rfl) ?a ?l ?c ?k
   (case a=>k_is);(case l=>k_is);(case c=>k_is);(case k=>k_is)
  case qz =>
   refine' L2.cR KX G (fun _ _ _ _ _ _ us hl=>match us,hl with|[_,_,_],_=>rfl) ?a ?l ?c ?k
   (case a=>k_is);(case l=>k_is);(case c=>k_is);(case k=>k_is)
  case Vo =>
   refine' L2.cR KX G (fun _ _ _ _ _ _ us hl=>match us,hl with|[_],_=>rfl) ?a ?l ?c ?k
   (case a=>k_is);(case l=>k_is);(case c=>k_is);(case k=>k_is)
