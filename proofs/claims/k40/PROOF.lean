import PyProof.Rows.All
import Wide.All
import OpenK.AllK
import Wide.FinOn
import Lean
import PyProof.EqAt
import PyProof.EqKinds
import PyProof.TupleCall
import PySem.Str
import PyProof.NeKinds
import PyProof.Draws
import PyProof.EnumMake
import PyProof.ZipIter
import KE.KSortTup
import KE.KLam
import PyProof.Rows.SortStr
import PyProof.Rows.FactsT3
import PyProof.StrOps2
import KE.KDictList
import KE.KRevIter
import PyProof.CollectIter
import PyProof.TupleOfGen
import PyProof.StrLawsRepr
import PyProof.Rows.StrCase
import PySem.Challenge.RW_arrowfind_k40_reasons_walked
set_option maxRecDepth 100000
set_option maxHeartbeats 4000000
set_option Elab.async false
set_option linter.all false
namespace L2
open PySem PySem.Spec PyProof.Rows
abbrev Key:=Sum Int Str
def Ak:Key→Value→Bool
 | .inl k,v=>Value.isInt k v
 | .inr x,v=>Value.isStrOf x v
def aaf(w:World):Key→Int
 | .inl k=>hashInt k
 | .inr x=>hashStr w x
theorem dR:∀ {k:Key} {v:Value},Ak k v=true→(∃ i t,k=Sum.inl i∧v=Value.int i t)∨(∃ x t,k=Sum.inr x∧v=Value.str x t)
 | .inl i,v,h=>by
  obtain⟨t,e⟩:=Value.isInt_shape (k:=i) (v:=v) h
  exact .inl ⟨i,t,rfl,e⟩
 | .inr x,v,h=>by
  obtain⟨t,e⟩:=Value.isStrOf_shape (x:=x) (v:=v) h
  exact .inr ⟨x,t,rfl,e⟩
theorem Lh(i:Int)(t:Tok):Ak (.inl i) (.int i t)=true:=by simp[Ak,Value.isInt]
theorem Lg(x:Str)(t:Tok):Ak (.inr x) (.str x t)=true:=by simp[Ak,Value.isStrOf]
theorem Ww(a b:Int):decide ((Sum.inl a:Key)=Sum.inl b)=(a == b):=by
 by_cases e:a=b
 ·subst e;simp
 ·have h:¬ (Sum.inl a:Key)=Sum.inl b:=fun q=>e (Sum.inl.inj q)
  rw[decide_eq_false h]
  exact(beq_eq_false_iff_ne.mpr e).symm
theorem Wt(a b:Str):decide ((Sum.inr a:Key)=Sum.inr b)=decide (a=b):=by
 by_cases e:a=b
 ·subst e;simp
 ·have h:¬ (Sum.inr a:Key)=Sum.inr b:=fun q=>e (Sum.inr.inj q)
  rw[decide_eq_false h,decide_eq_false e]
theorem Wv(a:Int)(b:Str):decide ((Sum.inl a:Key)=Sum.inr b)=false:=decide_eq_false (fun q=>nomatch q)
theorem Wu(a:Str)(b:Int):decide ((Sum.inr a:Key)=Sum.inl b)=false:=decide_eq_false (fun q=>nomatch q)
def fU(prog:Program)(w:World):PySem.KeyKind prog w Key where
 is:=Ak
 hash:=aaf w
 inj:=fun v a b ha hb=>by
  rcases dR ha with ⟨i,t,rfl,rfl⟩|⟨x,t,rfl,rfl⟩
  ·rcases dR hb with ⟨j,u,rfl,e⟩|⟨y,u,rfl,e⟩
   ·injection e with e1 _;rw[e1]
   ·exact nomatch e
  ·rcases dR hb with ⟨j,u,rfl,e⟩|⟨y,u,rfl,e⟩
   ·exact nomatch e
   ·injection e with e1 _;rw[e1]
 byValue:=fun k v h=>by
  rcases dR h with ⟨i,t,rfl,rfl⟩|⟨x,t,rfl,rfl⟩<;>rfl
 pyHash:=fun hv h=>by
  rcases dR hv with ⟨i,t,rfl,rfl⟩|⟨x,t,rfl,rfl⟩
  ·exact wpAny_pyHash_int h
  ·exact wpAny_pyHash_str h
 eqBool:=fun hu hv h=>by
  rcases dR hu with ⟨i,t,rfl,rfl⟩|⟨x,t,rfl,rfl⟩
  ·rcases dR hv with ⟨j,u,rfl,rfl⟩|⟨y,u,rfl,rfl⟩
   ·rw[Ww] at h;exact wpAny_eqBool_int h
   ·rw[Wv] at h;exact SeqAt.EqAt.int_str i t y u _ _ _ _ h
  ·rcases dR hv with ⟨j,u,rfl,rfl⟩|⟨y,u,rfl,rfl⟩
   ·rw[Wu] at h;exact SeqAt.EqAt.str_int x t j u _ _ _ _ h
   ·rw[Wt] at h;exact wpAny_eqBool_str h
 «strs»:=fun k x t v h=>by
  rcases dR h with ⟨i,u,rfl,e⟩|⟨y,u,rfl,e⟩
  ·exact nomatch e
  ·injection e with e1 _
   subst e1
   cases v<;>rfl
theorem Fg(prog:Program)(w:World)(i:Int)(t:Tok):(fU prog w).is (.inl i) (.int i t)=true:=Lh i t
theorem Ff(prog:Program)(w:World)(x:Str)(t:Tok):(fU prog w).is (.inr x) (.str x t)=true:=Lg x t
end L2
namespace L2
open PySem PySem.Spec PyProof.Rows
inductive V where
 | non|bl (b:Bool)|int (i:Int)|str (x:Str)|byt (b:Array UInt8)|flt (b:UInt64)|ref (a:Addr)|ty (n:String)
 deriving DecidableEq
def RelV:V→Value→Prop
 | .non,u=>u=Value.none
 | .bl b,u=>u=Value.bool b
 | .int i,u=>∃ t,u=Value.int i t
 | .str x,u=>∃ t,u=Value.str x t
 | .byt b,u=>∃ t,u=Value.bytes b t
 | .flt b,u=>∃ t,u=Value.float b t
 | .ref a,u=>u=Value.ref a
 | .ty n,u=>u=Value.type n
abbrev Vals:List V→List Value→Prop:=Paired RelV
theorem Vals.length{xs:List V}{us:List Value}(r:Vals xs us):xs.length=us.length:=Paired.length r
theorem Vals.get:∀ {xs:List V} {us:List Value} {i:Nat} {x:V},Vals xs us→xs[i]? = some x→∃ u,us[i]? = some u∧RelV x u
 | _,_,_,_,.nil,e=>by simp at e
 | _,_,0,_,.cons r _,e=>by simp at e;subst e;exact⟨_,rfl,r⟩
 | _,_,i+1,x,.cons _ t,e=>by
  obtain⟨u,h1,h2⟩:=Vals.get (i:=i) (x:=x) t (by simpa using e)
  exact⟨u,by simpa using h1,h2⟩
theorem Vals.append:∀ {xs ys:List V} {us ws:List Value},Vals xs us→Vals ys ws→Vals (xs++ys) (us++ws)
 | _,_,_,_,.nil,s=>s
 | _,_,_,_,.cons r t,s=>.cons r (Vals.append t s)
theorem Vals.take:∀ {xs:List V} {us:List Value} (n:Nat),Vals xs us→Vals (xs.take n) (us.take n)
 | _,_,0,_=>.nil
 | _,_,_+1,.nil=>.nil
 | _,_,n+1,.cons r t=>.cons r (Vals.take n t)
theorem Vals.drop:∀ {xs:List V} {us:List Value} (n:Nat),Vals xs us→Vals (xs.drop n) (us.drop n)
 | _,_,0,r=>r
 | _,_,_+1,.nil=>.nil
 | _,_,n+1,.cons _ t=>Vals.drop n t
def Ji:Option V→Option Value→Prop
 | some v,some u=>RelV v u
 | none,none=>True
 | _,_=>False
def KV{κ : Type}:List (κ×V)→List (κ×Value)→Prop:=Paired fun (p:κ×V) (q:κ×Value)=>p.1=q.1∧RelV p.2 q.2
def kV:Key→V
 | .inl i=>.int i
 | .inr x=>.str x
def Jg(h:Heap)(a:Addr)(its:Array Value):Prop:=∃ o,h.get? a=some o∧o.cls=.type "tuple" ∧ o.dict=none∧∃ n,o.data=.seq its n
theorem Jg.tup{h:Heap}{a:Addr}{its:Array Value}(x:Jg h a its):IsTup h a its:=let ⟨o,e,c,_,d⟩:=x;⟨o,e,c,d⟩
theorem Jg.new(h:Heap)(its:Array Value):Jg (h.push { cls:=.type "tuple", data:=.seq its }) h.objs.size its:=⟨_,Heap.get?_push_size _ rfl,rfl,rfl,_,rfl⟩
inductive HO where
 /-- a list -/
 | lst (xs:List V)
 /-- a tuple (never changes) -/
 | tup (xs:List V)
 /-- a dict whose keys are ints and texts;one whose keys are tuples of ints and texts (the empty one is both) -/
 | dK (kvs:List (Key×V))|dT (kvs:List (List Key×V))
 /-- a set of ints: its members,its size -/
 | set (S:Int→Bool) (n:Nat)
 /-- an instance of the class at C,its dict at dx,its attributes -/
 | ins (C dx:Addr) (fs:List (Str×V))
 /-- the dict of the instance at x -/
 | own (x:Addr)
 /-- the dict of an exception -/
 | xd (fs:List (Str×V))
 /-- a bound method,f of x -/
 | met (f x:Addr)
 /-- a range object lo,lo+1,.. below hi -/
 | rng (lo hi:Int)
 /-- a thing that is known to the object (the script;a dict while a loop walks it): read,never written while it is so -/
 | frz (o:Obj) (u:HO)
 /-- a code object's table -/
 | tbl (w:Str) (ps:Array Value)
 /-- any other thing,by what is true of its one object (a def of one's own: aa6 a S n:=HO.ext fun h=>..) -/
 | ext (φ : Heap→Prop)
abbrev Hp:=Addr→Option HO
def upd(H:Hp)(a:Addr)(o:HO):Hp:=fun b=>if b=a then some o else H b
theorem aP{H:Hp}{a:Addr}{o:HO}:upd H a o a=some o:=by unfold upd;rw[if_pos rfl]
theorem aH{H:Hp}{a b:Addr}{o:HO}(h:b≠a):upd H a o b=H b:=by unfold upd;rw[if_neg h]
theorem YL{H:Hp}{a b:Addr}{o u:HO}(h:H a=some o)(h':H b=some u)(d:o≠u):a≠b:=by
 intro e;subst e;rw[h] at h';exact d (Option.some.inj h')
theorem aQ{H:Hp}{a b:Addr}{o:HO}(h:H a=some o)(h':H b=none):a≠b:=by
 intro e;subst e;rw[h] at h';cases h'
section
variable(P:Program)(w:World)
def cu(H:Hp)(h:Heap)(a:Addr):HO→Prop
 | .lst xs=>xs.length≤sizeLine∧∃ (its:List Value) (n:Nat),Vals xs its∧h.get? a=some { cls:=.type "list", data:=.seq its.toArray n }
 | .tup xs=>xs.length≤sizeLine∧∃ its:List Value,Vals xs its∧Jg h a its.toArray
 | .dK kvs=>kvs.length≤sizeLine∧(a == sysModules)=false∧∃ vs,KV kvs vs∧h.DictOf (fU P w) a vs
 | .dT kvs=>kvs.length≤sizeLine∧(a == sysModules)=false∧∃ xs:List (List Key×Addr×Value),
  Paired (fun (p:List Key×V) (q:List Key×Addr×Value)=>p.1=q.1∧H q.2.1=some (.tup (p.1.map kV))∧RelV p.2 q.2.2) kvs xs ∧
  ∃ o es ep,h.get? a=some o∧o.ExactDict∧o.data=.dict es ep∧es.toList=xs.map (entryOfKey (tupleKind (fU P w)))∧(xs.map (·.1)).Nodup
 | .set S n=>h.SetOf (intKind P w) a S n
 | .ins C dx fs=>H dx=some (.own a)∧fs.length≤1000∧dx≠a∧h.get? a=some (PySem.W.instObj C dx) ∧
  ∃ mA,h.Ns1 dx mA∧(∀ f,Ji (fs.lookup f) (mA f))∧PySem.Within mA (fs.map (·.1))
 | .own _=>∃ o,h.get? a=some o
 | .xd fs=>∃ mA,h.Ns1 a mA∧∀ f,Ji (fs.lookup f) (mA f)
 | .rng lo hi=>∃ t u v,h.get? a=some { cls:=.type "range", data:=.fields #[.int lo t,.int hi u,.int 1 v] }
 | .frz o u=>h.get? a=some o∧cu H h a u
 | .tbl _ ps=>h.get? a=some { cls:=.none,data:=.fields ps }
 | .met f x=>h.get? a=some (PySem.W.methodObj (.ref f) (.ref x))
 | .ext φ=>φ h∧(∃ o,h.get? a=some o)∧∀ h1 h2:Heap,φ h1→(∀ o,h1.get? a=some o→h2.get? a=some o)→φ h2
def qX(H:Hp)(h:Heap):Prop:=∀ a o,H a=some o→cu P w H h a o
end
section
variable{P:Program}{w:World}{H H':Hp}{h h':Heap}{a:Addr}{o:HO}
theorem cu.lt(x:cu P w H h a o):a < h.objs.size:=by
 cases o with
 | lst xs=>obtain⟨_,_,_,_,e⟩:=x;exact Heap.lt_size e
 | tup xs=>obtain⟨_,_,_,p⟩:=x;exact p.tup.lt
 | dK kvs=>obtain⟨_,_,_,_,o,_,_,e,_⟩:=x;exact Heap.lt_size e
 | dT kvs=>obtain⟨_,_,_,_,o,_,_,e,_⟩:=x;exact Heap.lt_size e
 | set S n=>obtain⟨o,_,_,_,e,_⟩:=x;exact Heap.lt_size e
 | ins C dx fs=>obtain⟨_,_,_,e,_⟩:=x;exact Heap.lt_size e
 | own y=>obtain⟨_,e⟩:=x;exact Heap.lt_size e
 | xd fs=>obtain⟨_,⟨_,_,_,e,_⟩,_⟩:=x;exact Heap.lt_size e
 | rng lo hi=>obtain⟨_,_,_,e⟩:=x;exact Heap.lt_size e
 | frz ob u=>obtain⟨e,_⟩:=x;exact Heap.lt_size e
 | tbl w ps=>exact Heap.lt_size (show h.get? a=some _ from x)
 | met f y=>exact Heap.lt_size (show h.get? a=some _ from x)
 | ext φ=>obtain⟨_,⟨_,e⟩,_⟩:=x;exact Heap.lt_size e
theorem Paired.Wn{α β : Type}{F G:α→β→Prop}:∀ {l₁:List α} {l₂:List β},Paired F l₁ l₂→(∀ a b,F a b→G a b)→Paired G l₁ l₂
 | _,_,.nil,_=>.nil
 | _,_,.cons r t,f=>.cons (f _ _ r) (Paired.Wn t f)
theorem cu.stay(x:cu P w H h a o)(k:∀ b u,(b=a∨H b=some (.own a))→h.get? b=some u→h'.get? b=some u)
 (ho:∀ b,H b=some (.own a)→H' b=some (.own a)) (ht:∀ b xs,H b=some (.tup xs)→H' b=some (.tup xs)):cu P w H' h' a o:=by
 induction o with
 | lst xs=>obtain⟨z,its,n,r,e⟩:=x;exact⟨z,its,n,r,k _ _ (.inl rfl) e⟩
 | tup xs=>obtain⟨z,its,r,ob,e,c⟩:=x;exact⟨z,its,r,ob,k _ _ (.inl rfl) e,c⟩
 | dK kvs=>obtain⟨z,y,vs,r,ob,es,ep,e,c⟩:=x;exact⟨z,y,vs,r,ob,es,ep,k _ _ (.inl rfl) e,c⟩
 | dT kvs =>
  obtain⟨z,y,xs,r,ob,es,ep,e,c⟩:=x
  exact⟨z,y,xs,Paired.Wn r fun p q z=>⟨z.1,ht _ _ z.2.1,z.2.2⟩,ob,es,ep,k _ _ (.inl rfl) e,c⟩
 | set S n=>obtain⟨ob,es,ep,t,e,c⟩:=x;exact⟨ob,es,ep,t,k _ _ (.inl rfl) e,c⟩
 | ins C dx fs =>
  obtain⟨d,z,ne,e,mA,⟨od,es,ep,e2,c⟩,r⟩:=x
  exact⟨ho _ d,z,ne,k _ _ (.inl rfl) e,mA,⟨od,es,ep,k _ _ (.inr d) e2,c⟩,r⟩
 | own y=>obtain⟨ob,e⟩:=x;exact⟨ob,k _ _ (.inl rfl) e⟩
 | xd fs=>obtain⟨mA,⟨od,es,ep,e,c⟩,r⟩:=x;exact⟨mA,⟨od,es,ep,k _ _ (.inl rfl) e,c⟩,r⟩
 | rng lo hi=>obtain⟨t,u,v,e⟩:=x;exact⟨t,u,v,k _ _ (.inl rfl) e⟩
 | frz ob u ih=>obtain⟨e,q⟩:=x;exact⟨k _ _ (.inl rfl) e,ih q⟩
 | tbl w ps =>
  have e:h.get? a=some { cls:=.none,data:=.fields ps }:=x
  show h'.get? a=some { cls:=.none,data:=.fields ps }
  exact k a _ (.inl rfl) e
 | met f y =>
  have e:h.get? a=some (PySem.W.methodObj (.ref f) (.ref y)):=x
  show h'.get? a=some (PySem.W.methodObj (.ref f) (.ref y))
  exact k a _ (.inl rfl) e
 | ext φ=>obtain⟨p,⟨o,e⟩,st⟩:=x;exact⟨st _ _ p fun o q=>k _ _ (.inl rfl) q,⟨o,k _ _ (.inl rfl) e⟩,st⟩
theorem qX.lt(x:qX P w H h)(e:H a=some o):a < h.objs.size:=(x a o e).lt
theorem qX.fresh(x:qX P w H h)(e:h.objs.size≤a):H a=none:=by
 cases q:H a with
 | none=>rfl
 | some u=>exact absurd (Nat.lt_of_lt_of_le (x.lt q) e) (Nat.lt_irrefl _)
theorem qX.kept(x:qX P w H h)(k:∀ b u,h.get? b=some u→h'.get? b=some u):qX P w H h':=fun a o e =>
 (x a o e).stay (fun b u _ q=>k b u q) (fun _ q=>q) fun _ _ q=>q
theorem qX.laid(x:qX P w H h)(k:∀ b u,h.get? b=some u→h'.get? b=some u)(hp:h.objs.size≤a)(new:cu P w (upd H a o) h' a o):qX P w (upd H a o) h':=fun b u e=>by
 have hn:=x.fresh hp
 by_cases hb:b=a
 ·subst hb;rw[aP] at e;cases e;exact new
 ·rw[aH hb] at e
  exact(x b u e).stay (fun c v _ q=>k c v q) (fun c q=>by rw[aH (aQ q hn)];exact q) fun c xs q=>by rw[aH (aQ q hn)];exact q
end
def Rd(H:Hp)(a:Addr)(u:HO):Prop:=H a=some u∨∃ o,H a=some (.frz o u)
theorem Rd.ok{P:Program}{w:World}{H:Hp}{h:Heap}{a:Addr}{u:HO}(r:Rd H a u)(x:qX P w H h):cu P w H h a u:=by
 rcases r with r|⟨o,r⟩
 ·exact x a u r
 ·obtain⟨_,q⟩:=x a _ r
  exact q
def Zr:Option HO→Prop
 | some (.lst _)=>True
 | some (.dK _)=>True
 | some (.dT _)=>True
 | some (.set _ _)=>True
 | some (.ins _ _ _)=>True
 | some (.ext _)=>True
 | _=>False
section
variable{P:Program}{w:World}{H:Hp}{h h':Heap}{x e:Addr}{o':HO}
theorem qX.write(ok:qX P w H h)(mu:Zr (H x))(he:e=x∨H e=some (.own x))(k:∀ b u,b≠e→h.get? b=some u→h'.get? b=some u)(heo:∃ u,h'.get? e=some u)
 (new:cu P w (upd H x o') h' x o'):qX P w (upd H x o') h':=fun b u q=>by
 have YK:∀ c y,H c=some (.own y)→c≠x:=fun c y r z=>by subst z;rw[r] at mu;exact mu
 have Z9:∀ c xs,H c=some (.tup xs)→c≠x:=fun c xs r z=>by subst z;rw[r] at mu;exact mu
 by_cases hb:b=x
 ·subst hb;rw[aP] at q;cases q;exact new
 ·rw[aH hb] at q
  by_cases hbe:b=e
  ·have q':H b=some (.own x):=by
    rcases he with z|z
    ·exact absurd (hbe.trans z) hb
    ·rw[hbe];exact z
   rw[q] at q';cases q'
   obtain⟨v,hv⟩:=heo
   exact⟨v,by rw[hbe];exact hv⟩
  ·refine(ok b u q).stay (fun c v hc r=>k c v ?_ r) (fun c r=>by rw[aH (YK c b r)];exact r) fun c xs r=>by rw[aH (Z9 c xs r)];exact r
   rcases hc with rfl|hc
   ·exact hbe
   ·rintro rfl
    rcases he with z|z
    ·exact YK c b hc z
    ·rw[hc] at z;cases z;exact hb rfl
end
structure Un(fs ex:List Addr)(H H':Hp)(h h':Heap):Prop where
 keep:∀ b o,h.get? b=some o→H b=none→b∉fs→b∉ex→h'.get? b=some o
 slot:∀ b o,h.get? b=some o→H b=none→b∈fs→b∉ex→∃ sl,h'.get? b=some { o with slots:=sl }
 free:∀ b o,h.get? b=some o→H b=none→b∉ex→H' b=none
 there:∀ b o,h.get? b=some o→b∉ex→∃ o',h'.get? b=some o'
 tups:∀ b xs,H b=some (.tup xs)→H' b=some (.tup xs)
 zT:∀ b o u,H b=some (.frz o u)→H' b=some (.frz o u)
 zJ:∀ b w ps,H b=some (.tbl w ps)→∃ more,H' b=some (.tbl w (ps++more))
section
variable{fs fs' ex ex':List Addr}{H H1 H2:Hp}{h h1 h2 h':Heap}{a x e:Addr}{o:HO}
theorem Un.any(u:Un fs ex H H1 h h1){b:Addr}{ob:Obj}(q:h.get? b=some ob)(n:H b=none)(hx:b∉ex):∃ sl,h1.get? b=some { ob with slots:=sl }:=by
 by_cases hb:b∈fs
 ·exact u.slot b ob q n hb hx
 ·exact⟨ob.slots,u.keep b ob q n hb hx⟩
theorem Un.kept(k:∀ b u,h.get? b=some u→h'.get? b=some u):Un fs ex H H h h' :=
 ⟨fun b ob q _ _ _=>k b ob q,fun b ob q _ _ _=>⟨ob.slots,k b ob q⟩,fun _ _ _ n _=>n,fun b ob q _=>⟨ob,k b ob q⟩,fun _ _ q=>q,fun _ _ _ q=>q,fun _ w ps q=>⟨#[],by rw[q];simp⟩⟩
theorem Un.refl:Un fs ex H H h h:=Un.kept fun _ _ q=>q
theorem Un.laid(k:∀ b u,h.get? b=some u→h'.get? b=some u)(hp:h.objs.size≤a)(hn:H a=none):Un fs ex H (upd H a o) h h' where
 keep:=fun b u q _ _ _=>k b u q
 slot:=fun b u q _ _ _=>⟨u.slots,k b u q⟩
 free:=fun b u q n _=>by rw[aH (Nat.ne_of_lt (Nat.lt_of_lt_of_le (Heap.lt_size q) hp))];exact n
 there:=fun b u q _=>⟨u,k b u q⟩
 tups:=fun b xs q=>by rw[aH (aQ q hn)];exact q
 zT:=fun b u xs q=>by rw[aH (aQ q hn)];exact q
 zJ:=fun b w ps q=>⟨#[],by rw[aH (aQ q hn),q];simp⟩
theorem Un.write(mu:Zr (H x))(he:e=x∨H e=some (.own x))(k:∀ b u,b≠e→h.get? b=some u→h'.get? b=some u)(heo:∃ u,h'.get? e=some u):Un fs ex H (upd H x o) h h':=by
 have hx:∀ b,H b=none→b≠x:=fun b n z=>by subst z;rw[n] at mu;exact mu
 have hb:∀ b,H b=none→b≠e:=fun b n z=>by
  subst z
  rcases he with r|r
  ·exact hx b n r
  ·rw[n] at r;cases r
 have hm:∀ b u,H b=some u→¬ Zr (some u)→b≠x:=fun b u q nm z=>by subst z;rw[q] at mu;exact nm mu
 refine⟨fun b u q n _ _=>k b u (hb b n) q,fun b u q n _ _=>⟨u.slots,k b u (hb b n) q⟩,fun b u q n _=>by rw[aH (hx b n)];exact n,fun b u q _=>?_,
  fun b xs q=>by rw[aH (hm b _ q fun z=>z)];exact q,fun b u xs q=>by rw[aH (hm b _ q fun z=>z)];exact q,fun b w ps q=>⟨#[],by rw[aH (hm b _ q fun z=>z),q];simp⟩⟩
 by_cases hbe:b=e
 ·subst hbe;exact heo
 ·exact⟨u,k b u hbe q⟩
end
def ZD(h:Heap)(H:Hp):List Addr:=(List.range h.objs.size).filter fun a=>(H a).isSome
def yM(h:Heap)(H:Hp):Heap:=PySem.W.hideAll h (ZD h H)
theorem Ls(h:Heap)(H:Hp):(yM h H).objs.size=h.objs.size:=PySem.W.hideAll_size _ _
theorem Qe{h:Heap}{H:Hp}{b:Addr}{o:Obj}(e:h.get? b=some o)(n:H b=none):(yM h H).get? b=some o :=
 PySem.W.hideAll_get _ e fun hm=>by
  have q:(H b).isSome=true:=(List.mem_filter.mp hm).2
  rw[n] at q;simp at q
theorem Sq{h:Heap}{H:Hp}{b:Addr}{o:Obj}(e:(yM h H).get? b=some o):h.get? b=some o∧H b=none:=by
 have e':h.get? b=some o:=PySem.W.of_hideAll (ZD h H) e
 refine⟨e',?_⟩
 cases q:H b with
 | none=>rfl
 | some x =>
  have hm:b∈ZD h H:=List.mem_filter.mpr ⟨List.mem_range.mpr (Heap.lt_size e'),by simp[q]⟩
  have z:(yM h H).get? b=none:=PySem.W.hideAll_none (ZD h H) hm
  rw[z] at e;cases e
end L2
namespace L2
open PySem PySem.Spec PyProof.Rows
structure Mod(K:PySem.W.Frag)(mg:Str→Option Value)(base:Heap):Prop where
 kin:K.In base
 glob:base.Ns mainGlobals mg
 blt:∃ mb,base.Ns builtinsNs mb∧∀ x:Str,x ≠ "__name__" → mb x=bootBuiltins x
 nolimit:base.NoLimit
structure Cx where
 prog:Program
 w:World
 K:PySem.W.Frag
 mg:Str→Option Value
 base:Heap
 A:Around
 N:List Str
 s₀:Shared
 H₀:Hp
 env:Env
 outer:List Env
 stack:List Env
 ex:List Addr
 fn:Str→Bool
 calm:Bool
 pn:List (Addr×Obj)
 xe:Value→Shared→Prop
def frs(l:List Env):List Addr:=l.filterMap (·.frame)
abbrev Cx.fs(X:Cx):List Addr:=frs X.outer
def ZR(sc:Scope)(x:Str):Prop:=sc.names.lookup x=some .local∨sc.names.lookup x=some .cell∨sc.names.lookup x=some .free
def Loc(sc:Scope)(x:Str):Prop:=sc.names.lookup x=some .local∨sc.names.lookup x=some .cell
def Look(env:Env)(h:Heap)(m:Str→Option Value)(x:Str)(u:Value):Prop :=
 (env.kindOf x=some .local∧m x=some u)∨((env.kindOf x=some .cell∨env.kindOf x=some .free)∧∃ c,env.cells.lookup x=some c∧h.IsCell c (some u))
structure Cx.Ok(X:Cx):Prop where
 mod:Mod X.K X.mg X.base
 kind:X.env.scope.kind=.function
 glob:X.env.globals=mainGlobals
 blt:X.env.builtins=builtinsNs
 above:X.s₀.heap.objs.size≤X.env.locals
 inj:∀ x y c,X.env.cells.lookup x=some c→X.env.cells.lookup y=some c→x=y
 has:∀ x,(X.env.kindOf x=some .cell∨X.env.kindOf x=some .free)→∃ c,X.env.cells.lookup x=some c
 cab:∀ x c,X.fn x=true→X.env.cells.lookup x=some c→X.s₀.heap.objs.size≤c
 hd:X.calm=true→X.A.handled=none
 frames:X.A.frames=some X.stack
 stk:X.stack=X.outer∨(X.stack=X.env::X.outer∧X.env.frame=some X.env.locals)
 exf:∀ b∈X.ex,b≠X.env.locals∧∀ x c,X.env.cells.lookup x=some c→c≠b
 bs:∀ b o,X.base.get? b=some o→X.s₀.heap.get? b=some o∧X.H₀ b=none
 bsz:X.base.objs.size≤X.s₀.heap.objs.size
 O2:∀ b o,X.base.get? b=some o→b∉X.ex
 Tw:∀ b∈X.ex,b∉X.fs
 yN:X.s₀.heap.FunFrames X.base X.outer
 frf:∀ b∈X.fs,X.H₀ b=none
structure Inv(X:Cx)(pins:List (Addr×Obj))(σ : List (Option V))(H:Hp)(s:Shared):Prop where
 ok:X.Ok
 os:s.os=X.s₀.os
 bare:AllBare s.gens
 base:Un X.fs X.ex X.H₀ H X.s₀.heap s.heap
 loc:∃ m,s.heap.Ns X.env.locals m∧∀ (i:Nat) (x:Str) (v:V),X.N[i]? = some x→σ[i]? = some (some v)→ZR X.env.scope x→∃ u,RelV v u∧Look X.env s.heap m x u
 cell:∀ x c,X.env.cells.lookup x=some c→∃ v,s.heap.IsCell c v
 free:H X.env.locals=none
 nR:∀ x c,X.env.cells.lookup x=some c→H c=none
 pin:∀ p∈X.pn++pins,s.heap.get? p.1=some p.2∧H p.1=none∧p.1≠X.env.locals∧p.1∉X.fs∧∀ v,p.2.data≠.cell v
 hok:qX X.prog X.w H s.heap
 len:σ.length=X.N.length
section
variable{X:Cx}{pins:List (Addr×Obj)}{σ : List (Option V)}{H H':Hp}{s:Shared}{h':Heap}
theorem Cx.Ok.aab(ok:X.Ok){b:Addr}{o:Obj}(e:X.base.get? b=some o):b∉X.fs:=fun hb=>by
 have:=(ok.yN.mem hb).1
 rw[e] at this;cases this
theorem Inv.bs(I:Inv X pins σ H s):∀ b o,X.base.get? b=some o→s.heap.get? b=some o∧H b=none:=fun b o e =>
 ⟨I.base.keep b o (I.ok.bs b o e).1 (I.ok.bs b o e).2 (I.ok.aab e) (I.ok.O2 b o e),I.base.free b o (I.ok.bs b o e).1 (I.ok.bs b o e).2 (I.ok.O2 b o e)⟩
theorem Inv.bk(I:Inv X pins σ H s):∀ b o,X.base.get? b=some o→s.heap.get? b=some o:=fun b o e=>(I.bs b o e).1
theorem Inv.mod(I:Inv X pins σ H s):Mod X.K X.mg X.base:=I.ok.mod
theorem Inv.Fq(I:Inv X pins σ H s):X.K.In s.heap:=I.ok.mod.kin.keeps I.bk
theorem Inv.nolimit(I:Inv X pins σ H s):s.heap.NoLimit:=I.ok.mod.nolimit.keeps I.bk
theorem Inv.lt(I:Inv X pins σ H s):X.env.locals < s.heap.objs.size:=let ⟨_,hn,_⟩:=I.loc;hn.lt
theorem Inv.sz(I:Inv X pins σ H s):X.s₀.heap.objs.size≤s.heap.objs.size:=Nat.le_trans I.ok.above (Nat.le_of_lt I.lt)
theorem Inv.aaa(I:Inv X pins σ H s){a:Addr}(h:s.heap.objs.size≤a):a∉X.fs:=fun hb=>by
 obtain⟨_,o,ho,_⟩:=I.ok.yN.mem hb
 exact absurd (Nat.lt_of_lt_of_le (Heap.lt_size ho) (Nat.le_trans I.sz h)) (Nat.lt_irrefl _)
theorem Inv.W3(I:Inv X pins σ H s):∀ x c,X.env.cells.lookup x=some c→c≠X.env.locals:=fun x c e z=>by
 obtain⟨v,o,ho,hd⟩:=I.cell x c e
 obtain⟨m,⟨o',es,ep,ho',hd',_⟩,_⟩:=I.loc
 rw[z,ho'] at ho;cases ho;rw[hd'] at hd;cases hd
theorem Inv.yN(I:Inv X pins σ H s):s.heap.FunFrames X.base X.outer:=by
 have all:∀ (l:List Env),(∀ b∈frs l,b∈X.fs)→X.s₀.heap.FunFrames X.base l→s.heap.FunFrames X.base l:=by
  intro l
  induction l with
  | nil=>intro _ _;trivial
  | cons env r ih =>
   intro hs hl
   obtain⟨hk,⟨L,o,hf,hn,ho,hd⟩,hr⟩:=hl
   have hL:L∈X.fs:=hs L (by unfold frs;rw[List.filterMap_cons,hf];exact List.mem_cons_self)
   obtain⟨sl,e⟩:=I.base.slot L o ho (I.ok.frf L hL) hL fun z=>I.ok.Tw L z hL
   exact⟨hk,⟨L,_,hf,hn,e,hd⟩,ih (fun b hb=>hs b (by unfold frs;rw[List.filterMap_cons,hf];exact List.mem_cons_of_mem _ hb)) hr⟩
 exact all X.outer (fun _ hb=>hb) I.ok.yN
theorem Inv.stack(I:Inv X pins σ H s):s.heap.FunFrames X.base X.stack:=by
 rcases I.ok.stk with e|⟨e,hf⟩
 ·rw[e];exact I.yN
 ·rw[e]
  obtain⟨m,hn,_⟩:=I.loc
  refine .cons (by rw[I.ok.kind];decide) hf hn ?_ I.yN
  exact Heap.get?_none_of_le (Nat.le_trans I.ok.bsz I.ok.above)
theorem Inv.BV(I:Inv X pins σ H s):∀ b∈frs X.stack,b∈X.env.locals::X.fs:=fun b hb=>by
 rcases I.ok.stk with e|⟨e,hf⟩
 ·rw[e] at hb;exact List.mem_cons_of_mem _ hb
 ·rw[e] at hb
  unfold frs at hb
  rw[List.filterMap_cons,hf] at hb
  exact hb
theorem Inv.BW(I:Inv X pins σ H s):∀ b∈frs X.stack,H b=none:=fun b hb=>by
 rcases List.mem_cons.mp (I.BV b hb) with e|hb
 ·rw[e];exact I.free
 ·obtain⟨_,o,ho,_⟩:=I.ok.yN.mem hb
  exact I.base.free b o ho (I.ok.frf b hb) fun z=>I.ok.Tw b z hb
theorem Inv.step{g':Array GenState}{t':Nat}{d':Drawn}{ch:List Addr}(I:Inv X pins σ H s)
 (hch:∀ b∈ch,(b∈X.ex∨X.s₀.heap.objs.size≤b)∧b≠X.env.locals∧(∀ x c,X.env.cells.lookup x=some c→c≠b)∧∀ p∈X.pn++pins,p.1≠b)
 (keep:∀ b o,b≠X.env.locals→b∉X.fs→b∉ch→s.heap.get? b=some o→H b=none→h'.get? b=some o)
 (slot:∀ b o,b≠X.env.locals→b∈X.fs→b∉ch→s.heap.get? b=some o→H b=none→∃ sl,h'.get? b=some { o with slots:=sl }) (free:∀ b o,b∉ch→s.heap.get? b=some o→H b=none→H' b=none)
 (there:∀ b o,b∉ch→s.heap.get? b=some o→∃ o',h'.get? b=some o')
 (tups:∀ b xs,H b=some (.tup xs)→H' b=some (.tup xs)) (zT:∀ b o u,H b=some (.frz o u)→H' b=some (.frz o u)) (zJ:∀ b w ps,H b=some (.tbl w ps)→∃ more,H' b=some (.tbl w (ps++more)))
 (ns:∀ m,s.heap.Ns X.env.locals m→h'.Ns X.env.locals m) (hok:qX X.prog X.w H' h') (hg:AllBare g') :
 Inv X pins σ H' { s with heap:=h',gens:=g',drawn:=d',toks:=t' }:=by
 have neL:∀ b o,X.s₀.heap.get? b=some o→b≠X.env.locals:=fun b o e=>Nat.ne_of_lt (Nat.lt_of_lt_of_le (Heap.lt_size e) I.ok.above)
 have neC:∀ b o,X.s₀.heap.get? b=some o→b∉X.ex→b∉ch:=fun b o e hx hb=>by
  rcases (hch b hb).1 with z|z
  ·exact hx z
  ·exact absurd (Nat.lt_of_lt_of_le (Heap.lt_size e) z) (Nat.lt_irrefl _)
 have cellK:∀ x c,X.env.cells.lookup x=some c→∀ v,s.heap.IsCell c v→h'.IsCell c v:=fun x c e v ⟨o,ho,hd⟩=>by
  have nch:c∉ch:=fun z=>(hch c z).2.2.1 x c e rfl
  by_cases hc:c∈X.fs
  ·obtain⟨sl,q⟩:=slot c o (I.W3 x c e) hc nch ho (I.nR x c e)
   exact⟨_,q,hd⟩
  ·exact⟨o,keep c o (I.W3 x c e) hc nch ho (I.nR x c e),hd⟩
 refine⟨I.ok,I.os,hg,⟨fun b o e n hb hx=>?_,fun b o e n hb hx=>?_,fun b o e n hx=>?_,fun b o e hx=>?_,fun b xs e=>tups b xs (I.base.tups b xs e),fun b o xs e=>zT b o xs (I.base.zT b o xs e),fun b w ps e=>?_⟩,?_,fun x c e=>?_,?_,fun x c e=>?_,fun p hp=>?_,hok,I.len⟩
 ·exact keep b o (neL b o e) hb (neC b o e hx) (I.base.keep b o e n hb hx) (I.base.free b o e n hx)
 ·obtain⟨sl,e1⟩:=I.base.slot b o e n hb hx
  obtain⟨sl',e2⟩:=slot b _ (neL b o e) hb (neC b o e hx) e1 (I.base.free b o e n hx)
  exact⟨sl',e2⟩
 ·obtain⟨o',e1⟩:=I.base.there b o e hx
  exact free b o' (neC b o e hx) e1 (I.base.free b o e n hx)
 ·obtain⟨o',e1⟩:=I.base.there b o e hx
  exact there b o' (neC b o e hx) e1
 ·obtain⟨m1,e1⟩:=I.base.zJ b w ps e
  obtain⟨m2,e2⟩:=zJ b w _ e1
  exact⟨m1++m2,by rw[e2,Array.append_assoc]⟩
 ·obtain⟨m,hn,hl⟩:=I.loc
  refine⟨m,ns m hn,fun i x v e1 e2 e3=>?_⟩
  obtain⟨u,r,l⟩:=hl i x v e1 e2 e3
  refine⟨u,r,?_⟩
  rcases l with l|⟨k,c,e,z⟩
  ·exact .inl l
  ·exact .inr ⟨k,c,e,cellK x c e _ z⟩
 ·obtain⟨v,z⟩:=I.cell x c e
  exact⟨v,cellK x c e v z⟩
 ·obtain⟨m,⟨o,_,_,ho,_⟩,_⟩:=I.loc
  exact free _ o (fun z=>(hch _ z).2.1 rfl) ho I.free
 ·obtain⟨v,o,ho,hd⟩:=I.cell x c e
  exact free c o (fun z=>(hch c z).2.2.1 x c e rfl) ho (I.nR x c e)
 ·obtain⟨e,n,ne,nf,d⟩:=I.pin p hp
  have nch:p.1∉ch:=fun z=>(hch p.1 z).2.2.2 p hp rfl
  exact⟨keep p.1 p.2 ne nf nch e n,free p.1 p.2 nch e n,ne,nf,d⟩
theorem Inv.un{t':Nat}(I:Inv X pins σ H s)(u:Un X.fs [] H H' s.heap h')(hok:qX X.prog X.w H' h'):Inv X pins σ H' { s with heap:=h',toks:=t' }:=by
 obtain⟨m,⟨o,es,ep,ho,r⟩,_⟩:=id I.loc
 obtain⟨sl,hL⟩:=u.any ho I.free (by simp)
 exact I.step (g':=s.gens) (d':=s.drawn) (ch:=[]) (fun _ z=>nomatch z) (fun b o _ hb _ e n=>u.keep b o e n hb (by simp)) (fun b o _ hb _ e n=>u.slot b o e n hb (by simp)) (fun b o _ e n=>u.free b o e n (by simp)) (fun b o _ e=>u.there b o e (by simp)) u.tups u.zT u.zJ (fun m' hm=>by
  obtain⟨o',es',ep',ho',r'⟩:=hm
  rw[ho] at ho';cases ho'
  exact⟨_,es',ep',hL,r'⟩) hok I.bare
theorem Inv.call{g':Array GenState}{t':Nat}{d':Drawn}{ch:List Addr}(I:Inv X pins σ H s)(u:Un (frs X.stack) ch H H' s.heap h')(hok:qX X.prog X.w H' h')(hg:AllBare g')
 (hch:∀ b∈ch,(b∈X.ex∨X.s₀.heap.objs.size≤b)∧b≠X.env.locals∧(∀ x c,X.env.cells.lookup x=some c→c≠b)∧∀ p∈X.pn++pins,p.1≠b) :
 Inv X pins σ H' { s with heap:=h',gens:=g',drawn:=d',toks:=t' }:=by
 obtain⟨m,⟨o,es,ep,ho,r⟩,_⟩:=id I.loc
 obtain⟨sl,hL⟩:=u.any ho I.free fun z=>(hch _ z).2.1 rfl
 exact I.step (ch:=ch) hch (fun b o hL hb hc e n=>u.keep b o e n (fun z=>(List.mem_cons.mp (I.BV b z)).elim hL hb) hc) (fun b o _ _ hc e n=>u.any e n hc) (fun b o hc e n=>u.free b o e n hc) (fun b o hc e=>u.there b o e hc) u.tups u.zT u.zJ (fun m' hm=>by
  obtain⟨o',es',ep',ho',r'⟩:=hm
  rw[ho] at ho';cases ho'
  exact⟨_,es',ep',hL,r'⟩) hok hg
theorem Inv.turned{t':Nat}{it:Addr}(I:Inv X pins σ H s)(k:∀ b o,b≠it→s.heap.get? b=some o→h'.get? b=some o)(hn:H it=none)(hL:it≠X.env.locals)
 (h1:it∈X.ex∨X.s₀.heap.objs.size≤it) (h2:∀ x c,X.env.cells.lookup x=some c→c≠it) (h3:∀ p∈X.pn++pins,p.1≠it):Inv X pins σ H { s with heap:=h',toks:=t' }:=by
 have nit:∀ b u,H b=some u→b≠it:=fun b u e z=>by rw[z,hn] at e;cases e
 refine I.step (g':=s.gens) (d':=s.drawn) (ch:=[it]) (fun b hb=>?_) (fun b o _ _ hc e _=>k b o (fun z=>hc (by simp[z])) e) (fun b o _ _ hc e _=>⟨o.slots,k b o (fun z=>hc (by simp[z])) e⟩) (fun _ _ _ _ n=>n)
  (fun b o hc e=>⟨o,k b o (fun z=>hc (by simp[z])) e⟩) (fun _ _ e=>e) (fun _ _ _ e=>e) (fun b w ps e=>⟨#[],by rw[e];simp⟩) (fun m hm=>?_) (fun b u e=>?_) I.bare
 ·have e:b=it:=by simpa using hb
  subst e
  exact⟨h1,hL,h2,h3⟩
 ·obtain⟨o,es,ep,ho,r⟩:=hm
  exact⟨o,es,ep,k _ o (Ne.symm hL) ho,r⟩
 ·refine(I.hok b u e).stay (fun c v hc q=>k c v ?_ q) (fun _ q=>q) fun _ _ q=>q
  rcases hc with z|z
  ·rw[z];exact nit b u e
  ·exact nit c _ z
theorem Inv.tok(I:Inv X pins σ H s)(t:Nat):Inv X pins σ H { s with toks:=t }:=I.un (h':=s.heap) (t':=t) Un.refl I.hok
theorem Inv.kept{t':Nat}(I:Inv X pins σ H s)(k:∀ b u,s.heap.get? b=some u→h'.get? b=some u):Inv X pins σ H { s with heap:=h',toks:=t' }:=I.un (Un.kept k) (I.hok.kept k)
theorem Inv.laid{a:Addr}{o:HO}{t':Nat}(I:Inv X pins σ H s)(k:∀ b u,s.heap.get? b=some u→h'.get? b=some u)(hp:s.heap.objs.size≤a)(new:cu X.prog X.w (upd H a o) h' a o) :
 Inv X pins σ (upd H a o) { s with heap:=h',toks:=t' }:=I.un (Un.laid k hp (I.hok.fresh hp)) (I.hok.laid k hp new)
theorem Inv.write{x e:Addr}{o:HO}{t':Nat}(I:Inv X pins σ H s)(mu:Zr (H x))(he:e=x∨H e=some (.own x))(k:∀ b u,b≠e→s.heap.get? b=some u→h'.get? b=some u)(heo:∃ u,h'.get? e=some u)
 (new:cu X.prog X.w (upd H x o) h' x o):Inv X pins σ (upd H x o) { s with heap:=h',toks:=t' }:=I.un (Un.write mu he k heo) (I.hok.write mu he k heo new)
theorem Inv.weak{σ':List (Option V)}(I:Inv X pins σ H s)(hl:σ'.length = σ.length)(w:∀ (i:Nat) v,σ'[i]? = some (some v)→σ[i]? = some (some v)):Inv X pins σ' H s :=
 ⟨I.ok,I.os,I.bare,I.base,let ⟨m,hn,hl'⟩:=I.loc;⟨m,hn,fun i x v e1 e2 e3=>hl' i x v e1 (w i v e2) e3⟩,I.cell,I.free,I.nR,I.pin,I.hok,hl.trans I.len⟩
theorem Inv.Cm{Ag:List (Addr×Obj)}(I:Inv X pins σ H s)(h:∀ p∈Ag,s.heap.get? p.1=some p.2∧H p.1=none∧p.1≠X.env.locals∧p.1∉X.fs∧∀ v,p.2.data≠.cell v):Inv X Ag σ H s :=
 ⟨I.ok,I.os,I.bare,I.base,I.loc,I.cell,I.free,I.nR,fun p hp=>(List.mem_append.mp hp).elim (fun z=>I.pin p (List.mem_append_left _ z)) (h p),I.hok,I.len⟩
theorem Fe{N:List Str}(hN:N.Nodup){i j:Nat}{x:Str}(a:N[i]? = some x)(b:N[j]? = some x):i=j:=by
 obtain⟨h1,e1⟩:=List.getElem?_eq_some_iff.mp a
 obtain⟨h2,e2⟩:=List.getElem?_eq_some_iff.mp b
 exact(List.getElem_inj hN).mp (e1.trans e2.symm)
theorem z7{M:Model}{A:Around}{E:Value→Shared→Prop}{i:Nat}{x:Str}{v:V}{u:Value}{Q:Unit→Shared→Prop}(I:Inv X pins σ H s)(hN:X.N.Nodup)(hi:X.N[i]? = some x)(hx:Loc X.env.scope x)(r:RelV v u)
 (h:∀ s',Inv X pins (σ.set i (some v)) H s'→(∃ a,Heap.SameBut a s.heap s'.heap∧(a=X.env.locals∨X.env.cells.lookup x=some a))→Q () s') (hf:X.fn x=true∨X.env.scope.names.lookup x=some .local:=by first|exact .inl rfl|exact .inr rfl|assumption):wpAny M A (storeName X.env x u) Q E s:=by
 obtain⟨m,hn,hl⟩:=id I.loc
 have hcls:(X.env.scope.kind == .class || (X.env.scope.kind == .module && X.env.locals != X.env.globals))=false:=by rw[I.ok.kind];rfl
 have hiσ : i < σ.length:=by rw[I.len];exact(List.getElem?_eq_some_iff.mp hi).1
 have W3:=I.W3
 have tracked:∀ {a:Addr} {h':Heap},(∃ o,s.heap.get? a=some o∧H a=none)→Heap.SameBut a s.heap h'→qX X.prog X.w H h':=fun {a h'} ha hs b ob e=>by
  obtain⟨_,_,hfree⟩:=ha
  refine(I.hok b ob e).stay (fun c w' hc q=>(hs.2 c ?_).trans q) (fun _ q=>q) fun _ _ q=>q
  rintro rfl
  rcases hc with rfl|hc
  ·rw[hfree] at e;cases e
  ·rw[hfree] at hc;cases hc
 rcases hx with hk|hk
 ·refine wpAny_storeName_local hk hn (fun h' hn' hs=>?_) hcls
  obtain⟨oL,_,_,hoL,_⟩:=id hn
  refine h _ ⟨I.ok,I.os,I.bare,⟨fun b o e n hb hx=>?_,fun b o e n hb hx=>?_,I.base.free,fun b o e hx=>?_,I.base.tups,I.base.zT,I.base.zJ⟩,⟨_,hn',fun j y v' e1 e2 e3=>?_⟩,fun y c e=>?_,I.free,I.nR,fun p hp=>?_,tracked ⟨oL,hoL,I.free⟩ hs,by simpa using I.len⟩ ⟨_,hs,.inl rfl⟩
  ·exact(hs.2 b (Nat.ne_of_lt (Nat.lt_of_lt_of_le (Heap.lt_size e) I.ok.above))).trans (I.base.keep b o e n hb hx)
  ·obtain⟨sl,e1⟩:=I.base.slot b o e n hb hx
   exact⟨sl,(hs.2 b (Nat.ne_of_lt (Nat.lt_of_lt_of_le (Heap.lt_size e) I.ok.above))).trans e1⟩
  ·obtain⟨o',e1⟩:=I.base.there b o e hx
   exact⟨o',(hs.2 b (Nat.ne_of_lt (Nat.lt_of_lt_of_le (Heap.lt_size e) I.ok.above))).trans e1⟩
  ·by_cases hj:j=i
   ·subst hj
    rw[hi] at e1;cases e1
    rw[List.getElem?_set_self hiσ] at e2
    cases e2
    exact⟨u,r,.inl ⟨hk,by simp⟩⟩
   ·rw[List.getElem?_set_ne (Ne.symm hj)] at e2
    obtain⟨u',r',q⟩:=hl j y v' e1 e2 e3
    refine⟨u',r',?_⟩
    rcases q with ⟨k,e⟩|⟨k,c,e,z⟩
    ·refine .inl ⟨k,?_⟩
     have:y≠x:=fun e=>hj (Fe hN e1 (e ▸ hi))
     simp[this,e]
    ·exact .inr ⟨k,c,e,z.sameBut hs (W3 y c e)⟩
  ·obtain⟨w',z⟩:=I.cell y c e
   exact⟨w',z.sameBut hs (W3 y c e)⟩
  ·obtain⟨e,n,ne,nf,d⟩:=I.pin p hp
   exact⟨(hs.2 p.1 ne).trans e,n,ne,nf,d⟩
 ·have hfn:X.fn x=true:=by
   rcases hf with z|z
   ·exact z
   ·rw[z] at hk;cases hk
  obtain⟨c,hc⟩:=I.ok.has x (.inl hk)
  obtain⟨w',z⟩:=I.cell x c hc
  refine wpAny_storeName_cell I.ok.kind hk hc z (fun h' hc' hs=>?_)
  obtain⟨oc,hoc,aam⟩:=id z
  refine h { s with heap:=h' } ⟨I.ok,I.os,I.bare,⟨fun b o e n hb hx=>?_,fun b o e n hb hx=>?_,I.base.free,fun b o e hx=>?_,I.base.tups,I.base.zT,I.base.zJ⟩,⟨m,hn.sameBut hs (Ne.symm (W3 x c hc)),fun j y v' e1 e2 e3=>?_⟩,fun y c' e=>?_,I.free,I.nR,fun p hp=>?_,tracked ⟨oc,hoc,I.nR x c hc⟩ hs,by simpa using I.len⟩ ⟨c,hs,.inr hc⟩
  ·exact(hs.2 b (Nat.ne_of_lt (Nat.lt_of_lt_of_le (Heap.lt_size e) (I.ok.cab x c hfn hc)))).trans (I.base.keep b o e n hb hx)
  ·obtain⟨sl,e1⟩:=I.base.slot b o e n hb hx
   exact⟨sl,(hs.2 b (Nat.ne_of_lt (Nat.lt_of_lt_of_le (Heap.lt_size e) (I.ok.cab x c hfn hc)))).trans e1⟩
  ·obtain⟨o',e1⟩:=I.base.there b o e hx
   exact⟨o',(hs.2 b (Nat.ne_of_lt (Nat.lt_of_lt_of_le (Heap.lt_size e) (I.ok.cab x c hfn hc)))).trans e1⟩
  ·by_cases hj:j=i
   ·subst hj
    rw[hi] at e1;cases e1
    rw[List.getElem?_set_self hiσ] at e2
    cases e2
    exact⟨u,r,.inr ⟨.inl hk,c,hc,hc'⟩⟩
   ·rw[List.getElem?_set_ne (Ne.symm hj)] at e2
    obtain⟨u',r',q⟩:=hl j y v' e1 e2 e3
    refine⟨u',r',?_⟩
    rcases q with q|⟨k,c',e,z'⟩
    ·exact .inl q
    ·refine .inr ⟨k,c',e,z'.sameBut hs ?_⟩
     rintro rfl
     exact hj (Fe hN e1 (I.ok.inj _ _ _ e hc ▸ hi))
  ·by_cases hcc:c'=c
   ·subst hcc;exact⟨_,hc'⟩
   ·obtain⟨w2,z2⟩:=I.cell y c' e
    exact⟨w2,z2.sameBut hs hcc⟩
  ·obtain⟨e,n,ne,nf,d⟩:=I.pin p hp
   refine⟨(hs.2 p.1 ?_).trans e,n,ne,nf,d⟩
   intro q
   rw[q,hoc] at e
   have q':oc=p.2:=Option.some.inj e
   exact d w' (by rw[← q'];exact aam)
theorem Eb{M:Model}{A:Around}{E:Value→Shared→Prop}{i:Nat}{x:Str}{v:V}{u:Value}{Q:Unit→Shared→Prop}(I:Inv X pins σ H s)(hN:X.N.Nodup)(hi:X.N[i]? = some x)(hx:Loc X.env.scope x)(r:RelV v u)
 (h:∀ s',Inv X pins (σ.set i (some v)) H s'→Q () s') (hf:X.fn x=true∨X.env.scope.names.lookup x=some .local:=by first|exact .inl rfl|exact .inr rfl|assumption):wpAny M A (storeName X.env x u) Q E s :=
 z7 I hN hi hx r (fun s' I' _=>h s' I') hf
theorem Inv.call'{s':Shared}{ch:List Addr}(I:Inv X pins σ H s)(ho:s'.os=s.os)(u:Un (frs X.stack) ch H H' s.heap s'.heap)(hok:qX X.prog X.w H' s'.heap)(hg:AllBare s'.gens)
 (hch:∀ b∈ch,(b∈X.ex∨X.s₀.heap.objs.size≤b)∧b≠X.env.locals∧(∀ x c,X.env.cells.lookup x=some c→c≠b)∧∀ p∈X.pn++pins,p.1≠b):Inv X pins σ H' s':=by
 obtain⟨h',g',d',t',o'⟩:=s'
 have e:o'=s.os:=ho
 subst e
 exact I.call (g':=g') (t':=t') (d':=d') u hok hg hch
end
abbrev XK:=Value→Option Addr→Hp→Prop
abbrev St:=List (Option V)
abbrev VK:=V→Hp→Prop
abbrev TE:=St→Hp→VK→Prop
abbrev TT:=St→Hp→(Bool→Hp→Prop)→Prop
abbrev TA:=St→Hp→(List V→Hp→Prop)→Prop
structure Ends where
 nx:St→Hp→Prop
 rt:VK
 bk:St→Hp→Prop:=fun _ _=>False
 ct:St→Hp→Prop:=fun _ _=>False
abbrev TS:=Ends→St→Hp→Prop
def EP(X:Cx)(pins:List (Addr×Obj))(σ : St)(Q:VK)(u:Value)(s':Shared):Prop:=∃ v H',Inv X pins σ H' s'∧RelV v u∧Q v H'
def TP(X:Cx)(pins:List (Addr×Obj))(σ : St)(Q:Bool→Hp→Prop)(b:Bool)(s':Shared):Prop:=∃ H',Inv X pins σ H' s'∧Q b H'
def AP(X:Cx)(pins:List (Addr×Obj))(σ : St)(Q:List V→Hp→Prop)(us:List Value)(s':Shared):Prop:=∃ vs H',Inv X pins σ H' s'∧Vals vs us∧Q vs H'
def SP(X:Cx)(pins:List (Addr×Obj))(D:Ends)(f:Flow)(s':Shared):Prop :=
 match f with
 | .next=>∃ σ' H',Inv X pins σ' H' s'∧D.nx σ' H'
 | .brk=>∃ σ' H',Inv X pins σ' H' s'∧D.bk σ' H'
 | .cont=>∃ σ' H',Inv X pins σ' H' s'∧D.ct σ' H'
 | .ret u=>∃ v σ' H',Inv X pins σ' H' s'∧RelV v u∧D.rt v H'
def PE(X:Cx)(e:Expr)(t:TE):Prop :=
 ∀ (pins:List (Addr×Obj)) (s:Shared) (σ : St) (H:Hp) (Q:VK),Inv X pins σ H s→t σ H Q→wpAny (model X.prog X.w) X.A (eval e X.env) (EP X pins σ Q) X.xe s
def PT(X:Cx)(e:Expr)(t:TT):Prop :=
 ∀ (pins:List (Addr×Obj)) (s:Shared) (σ : St) (H:Hp) (Q:Bool→Hp→Prop),Inv X pins σ H s→t σ H Q→wpAny (model X.prog X.w) X.A (isTrue e X.env (eval e X.env)) (TP X pins σ Q) X.xe s
def PW(X:Cx)(e:Expr)(t:TT):Prop :=
 ∀ (whole:Sem Value) (pins:List (Addr×Obj)) (s:Shared) (σ : St) (H:Hp) (Q:Bool→Hp→Prop),Inv X pins σ H s→t σ H Q→wpAny (model X.prog X.w) X.A (isTrue e X.env whole) (TP X pins σ Q) X.xe s
theorem PW.pt{X:Cx}{e:Expr}{t:TT}(h:PW X e t):PT X e t:=h _
def PA(X:Cx)(es:List Expr)(t:TA):Prop :=
 ∀ (pos:Pos) (pins:List (Addr×Obj)) (s:Shared) (σ : St) (H:Hp) (Q:List V→Hp→Prop),Inv X pins σ H s→t σ H Q→wpAny (model X.prog X.w) X.A (spliced (backTo pos (starEach es X.env))) (AP X pins σ Q) X.xe s
def PS(X:Cx)(st:Stmt)(t:TS):Prop :=
 ∀ (pins:List (Addr×Obj)) (s:Shared) (σ : St) (H:Hp) (D:Ends),Inv X pins σ H s→t D σ H→wpAny (model X.prog X.w) X.A (exec st X.env) (SP X pins D) X.xe s
def Km(X:Cx)(st:List Stmt)(t:TS):Prop :=
 ∀ (pins:List (Addr×Obj)) (s:Shared) (σ : St) (H:Hp) (D:Ends),Inv X pins σ H s→t D σ H→wpAny (model X.prog X.w) X.A (execs st X.env) (SP X pins D) X.xe s
theorem eX{α : Type}{t:Sem α}{Q Q':α→Shared→Prop}{M:Model}{A:Around}{E:Value→Shared→Prop}{s:Shared}(h:wpAny M A t Q E s)(hQ:∀ a s,Q a s→Q' a s):wpAny M A t Q' E s:=wpAny_mono h hQ fun _ _ x=>x
end L2
namespace L2
open PySem PySem.Spec PyProof.Rows
section
variable{X:Cx}
def oJ(i:Nat):TE:=fun σ H Q=>∃ v,σ[i]? = some (some v)∧Q v H
def tC(v:V):TE:=fun _ H Q=>Q v H
theorem V5{i:Nat}{x:Str}{pos:Pos}(hN:X.N[i]? = some x)(hv:ZR X.env.scope x)(hd:(x == ("__debug__" : Str))=false:=by decide)(hcd:(x == ("__classdict__" : Str))=false:=by decide):PE X (.Name x pos) (oJ i):=by
 intro pins s σ H Q I h
 obtain⟨v,e,h⟩:=h
 obtain⟨m,hn,hl⟩:=I.loc
 obtain⟨u,r,l⟩:=hl i x v hN e hv
 have fin:EP X pins σ Q u s:=⟨v,H,I,r,h⟩
 rcases l with ⟨hk,hm⟩|⟨hk,c,hc,hcell⟩
 ·exact wpAny_Name (wpAny_loadName_local I.ok.kind hk hn hm fin) hd
 ·rcases hk with hk|hk
  ·exact wpAny_Name (wpAny_loadName_cell I.ok.kind hk hc hcell fin) hd
  ·exact wpAny_Name (wpAny_loadName_free I.ok.kind hk hc hcell fin hcd) hd
theorem aG{i j pos}:PE X (.Constant (.int i) j pos) (tC (.int i)):=fun _ _ _ H _ I h=>wpAny_Constant_int ⟨.int i,H,I.tok _,⟨_,rfl⟩,h⟩
theorem iV{b j pos}:PE X (.Constant (.bool b) j pos) (tC (.bl b)):=fun _ _ _ H _ I h=>Constant_bool ⟨.bl b,H,I,rfl,h⟩
theorem Hr{j pos}:PE X (.Constant .none j pos) (tC .non):=fun _ _ _ H _ I h=>Constant_none ⟨.non,H,I,rfl,h⟩
theorem lg{x j pos}:PE X (.Constant (.str x) j pos) (tC (.str x)):=fun _ _ _ H _ I h=>Calls.Constant_str ⟨.str x,H,I.tok _,⟨_,rfl⟩,h⟩
def Gl(X:Cx)(x:Str):Prop:=X.env.kindOf x=some .globalImplicit
theorem SM{E:Value→Shared→Prop}{pins:List (Addr×Obj)}{s:Shared}{σ : St}{H:Hp}{x:Str}{u:Value}{pos:Pos}{Q:Value→Shared→Prop}(I:Inv X pins σ H s)(hg:Gl X x)(hm:X.mg x=some u)(h:Q u s)
 (hd:(x == ("__debug__" : Str))=false:=by decide):wpAny (model X.prog X.w) X.A (eval (.Name x pos) X.env) Q E s :=
 Calls.Name_function_global I.ok.kind hg (Calls.loadGlobal_global (by rw[I.ok.glob];exact I.mod.glob.keeps I.bk) hm h) hd
theorem vz{E:Value→Shared→Prop}{pins:List (Addr×Obj)}{s:Shared}{σ : St}{H:Hp}{x:Str}{u:Value}{pos:Pos}{Q:Value→Shared→Prop}(I:Inv X pins σ H s)(hg:Gl X x)(hm:X.mg x=none)(hv:bootBuiltins x=some u)(h:Q u s)
 (hn:x ≠ "__name__" := by decide) (hd:(x == ("__debug__" : Str))=false:=by decide):wpAny (model X.prog X.w) X.A (eval (.Name x pos) X.env) Q E s:=by
 obtain⟨mb,h1,h2⟩:=I.mod.blt
 exact Calls.Name_function_global I.ok.kind hg (Calls.loadGlobal_builtin (by rw[I.ok.glob];exact I.mod.glob.keeps I.bk) hm (by rw[I.ok.blt];exact h1.keeps I.bk) ((h2 x hn).trans hv) h) hd
theorem R6{x:Str}{v:V}{u:Value}{pos:Pos}(hg:Gl X x)(hm:X.mg x=none)(hv:bootBuiltins x=some u)(r:RelV v u)(hn:x ≠ "__name__" := by decide)(hd:(x == ("__debug__" : Str))=false:=by decide):PE X (.Name x pos) (tC v) :=
 fun _ _ _ H _ I h=>vz I hg hm hv ⟨v,H,I,r,h⟩ hn hd
variable{a b:Expr}{ta tb:TE}{pos:Pos}
def PC(X:Cx)(op:CmpOp)(a b:Expr)(t:TE):Prop :=
 ∀ (pins:List (Addr×Obj)) (s:Shared) (σ : St) (H:Hp) (Q:VK),Inv X pins σ H s→t σ H Q →
  wpAny (model X.prog X.w) X.A (eval a X.env) (fun v s₁=>wpAny (model X.prog X.w) X.A (eval b X.env) (fun u s₂=>wpAny (model X.prog X.w) X.A (compareOp op v u) (EP X pins σ Q) X.xe s₂) X.xe s₁) X.xe s
def tB(t:TE):TT:=fun σ H Q=>t σ H fun x H1=>∃ c,x=.bl c∧Q c H1
theorem Oj{op:CmpOp}{t:TE}(h:PC X op a b t)(h1:behindInMarks op b=false:=by first|exact O3 _ (by decide) (by decide)|rfl):PE X (.Compare a [op] [b] pos) t:=fun pins s σ H Q I hw=>wpAny_Compare1 (h pins s σ H Q I hw) h1
theorem sX{op:CmpOp}{t:TE}(h:PC X op a b t)(h1:behindInMarks op b=false:=by first|exact O3 _ (by decide) (by decide)|rfl):PT X (.Compare a [op] [b] pos) (tB t):=by
 intro pins s σ H Q I hw
 refine wpAny_isTrue_Compare1 (eX (h pins s σ H _ I hw) fun v s1 h1=>eX h1 fun u s2 h2=>eX h2 fun c s3 ⟨x,H1,I1,r1,q1⟩=>?_) h1
 obtain⟨d,rfl,q⟩:=q1
 cases r1
 exact wpAny_truthy_bool ⟨H1,I1,q⟩
theorem du{e:Expr}{t:TE}(h:PE X e t)(he:∀ whole,isTrue e X.env whole=(do let v ← whole;standAt e.pos;holding [v] (truthy v)):=by intro _;rfl):PT X e (tB t):=by
 intro pins s σ H Q I hw
 refine isTrue_plain (eX (h pins s σ H _ I hw) fun v s1 ⟨x,H1,I1,r1,q1⟩=>?_) (he _)
 obtain⟨d,rfl,q⟩:=q1
 cases r1
 exact wpAny_truthy_bool ⟨H1,I1,q⟩
variable{tA tB':TT}{rest:List Expr}
def X5(t u:TT):TT:=fun σ H Q=>t σ H fun c H1=>if c=true then u σ H1 Q else Q false H1
def tOr(t u:TT):TT:=fun σ H Q=>t σ H fun c H1=>if c=true then Q true H1 else u σ H1 Q
def XN(t:TT):TT:=fun σ H Q=>t σ H fun c H1=>Q (!c) H1
theorem pw_and1(ha:PT X a tA):PW X (.BoolOp .And [a] pos) tA:=by
 intro wh pins s σ H Q I h
 refine isTrue_and (eX (ha pins s σ H Q I h) fun c s1 e=>?_)
 cases c with
 | true=>exact isTrue_and_nil e
 | false=>exact e
theorem pw_or1(ha:PT X a tA):PW X (.BoolOp .Or [a] pos) tA:=by
 intro wh pins s σ H Q I h
 refine isTrue_or (eX (ha pins s σ H Q I h) fun c s1 e=>?_)
 cases c with
 | false=>exact isTrue_or_nil e
 | true=>exact e
theorem pw_and(ha:PT X a tA)(hb:PW X (.BoolOp .And (b::rest) pos) tB'):PW X (.BoolOp .And (a::b::rest) pos) (X5 tA tB'):=by
 intro wh pins s σ H Q I h
 refine isTrue_and (eX (ha pins s σ H _ I h) fun c s1 ⟨H1,I1,q1⟩=>?_)
 cases c with
 | true=>exact hb wh pins s1 σ H1 Q I1 q1
 | false=>exact⟨H1,I1,q1⟩
theorem pw_or(ha:PT X a tA)(hb:PW X (.BoolOp .Or (b::rest) pos) tB'):PW X (.BoolOp .Or (a::b::rest) pos) (tOr tA tB'):=by
 intro wh pins s σ H Q I h
 refine isTrue_or (eX (ha pins s σ H _ I h) fun c s1 ⟨H1,I1,q1⟩=>?_)
 cases c with
 | true=>exact⟨H1,I1,q1⟩
 | false=>exact hb wh pins s1 σ H1 Q I1 q1
theorem iu(ha:PT X a tA):PT X (.UnaryOp .Not a pos) (XN tA):=by
 intro pins s σ H Q I h
 exact isTrue_not (ha pins s σ H (fun c H1=>Q (!c) H1) I h)
def UJ(ta tb:TE):TE:=fun σ H Q=>ta σ H fun x H1=>∃ c,x=.bl c∧if c=true then tb σ H1 Q else Q (.bl false) H1
def XJ(ta tb:TE):TE:=fun σ H Q=>ta σ H fun x H1=>∃ c,x=.bl c∧if c=true then Q (.bl true) H1 else tb σ H1 Q
theorem mG{op}{t:TE}(h:PE X a t):PE X (.BoolOp op [a] pos) t:=fun pins s σ H Q I hw=>BoolOp_one (h pins s σ H Q I hw)
theorem mH(ha:PE X a ta)(hb:PE X (.BoolOp .And (b::rest) pos) tb):PE X (.BoolOp .And (a::b::rest) pos) (UJ ta tb):=by
 intro pins s σ H Q I h
 refine BoolOp_and (eX (ha pins s σ H _ I h) fun v s1 ⟨x,H1,I1,r1,q1⟩=>?_)
 obtain⟨c,rfl,q1⟩:=q1
 cases r1
 refine wpAny_truthy_bool ?_
 cases c with
 | true=>exact hb pins s1 σ H1 Q I1 q1
 | false=>exact⟨.bl false,H1,I1,rfl,q1⟩
theorem Oh(ha:PE X a ta)(hb:PE X (.BoolOp .Or (b::rest) pos) tb):PE X (.BoolOp .Or (a::b::rest) pos) (XJ ta tb):=by
 intro pins s σ H Q I h
 refine BoolOp_or (eX (ha pins s σ H _ I h) fun v s1 ⟨x,H1,I1,r1,q1⟩=>?_)
 obtain⟨c,rfl,q1⟩:=q1
 cases r1
 refine wpAny_truthy_bool ?_
 cases c with
 | false=>exact hb pins s1 σ H1 Q I1 q1
 | true=>exact⟨.bl true,H1,I1,rfl,q1⟩
end
end L2
namespace L2
open PySem PySem.Spec PyProof.Rows
def xm(K:PySem.W.Frag)(H:Hp)(a:Addr)(xs:List V):Prop :=
 Rd H a (.lst xs) ∨
  ∃ (o:Obj) (its:Array Value) (n:Nat),K.lookup a=some o∧o.cls=.type "list" ∧ o.dict=none∧o.data=.seq its n∧its.size≤sizeLine∧Vals xs its.toList
def zr(K:PySem.W.Frag)(H:Hp)(a:Addr)(xs:List V):Prop :=
 Rd H a (.tup xs) ∨
  ∃ (o:Obj) (its:Array Value) (n:Nat),K.lookup a=some o∧o.cls=.type "tuple" ∧ o.data=.seq its n∧its.size≤sizeLine∧Vals xs its.toList
def aaE:Value→Option V
 | .none=>some .non
 | .bool b=>some (.bl b)
 | .int i _=>some (.int i)
 | .str x _=>some (.str x)
 | .bytes b _=>some (.byt b)
 | .float b _=>some (.flt b)
 | .ref a=>some (.ref a)
 | .type n=>some (.ty n)
 | _=>none
theorem RelV.abs{x:V}{u:Value}(r:RelV x u):aaE u=some x:=by
 cases x with
 | non=>cases r;rfl
 | bl _=>cases r;rfl
 | int _=>obtain⟨t,rfl⟩:=r;rfl
 | str _=>obtain⟨t,rfl⟩:=r;rfl
 | byt _=>obtain⟨t,rfl⟩:=r;rfl
 | flt _=>obtain⟨t,rfl⟩:=r;rfl
 | ref _=>cases r;rfl
 | ty _=>cases r;rfl
theorem RelV.inj{x y:V}{u:Value}(r:RelV x u)(q:RelV y u):x=y:=Option.some.inj (r.abs.symm.trans q.abs)
theorem Vals.inj:∀ {xs ys:List V} {us:List Value},Vals xs us→Vals ys us→xs=ys
 | _,_,_,.nil,.nil=>rfl
 | _,_,_,.cons r t,.cons r' t'=>by rw[r.inj r',Vals.inj t t']
section
variable{X:Cx}{pins:List (Addr×Obj)}{σ : St}{H:Hp}{s:Shared}{a:Addr}{xs ys:List V}
theorem Inv.list(I:Inv X pins σ H s)(h:xm X.K H a xs):∃ its:List Value,Vals xs its∧PlainL s.heap a its.toArray∧xs.length≤sizeLine:=by
 rcases h with h|⟨o,its,n,hk,hc,hd,hs,hz,r⟩
 ·obtain⟨z,its,n,r,e⟩:=h.ok I.hok
  exact⟨its,r,⟨_,n,e,rfl,rfl,rfl⟩,z⟩
 ·refine⟨its.toList,r,⟨o,n,I.Fq a o hk,hc,hd,by simpa using hs⟩,?_⟩
  have e:=r.length
  simp only[Array.length_toList] at e
  omega
theorem Inv.tuple(I:Inv X pins σ H s)(h:zr X.K H a xs):∃ its:List Value,Vals xs its∧IsTup s.heap a its.toArray∧xs.length≤sizeLine:=by
 rcases h with h|⟨o,its,n,hk,hc,hs,hz,r⟩
 ·obtain⟨z,its,r,p⟩:=h.ok I.hok
  exact⟨its,r,p.tup,z⟩
 ·refine⟨its.toList,r,⟨o,I.Fq a o hk,hc,n,by simpa using hs⟩,?_⟩
  have e:=r.length
  simp only[Array.length_toList] at e
  omega
theorem Inv.yD(I:Inv X pins σ H s)(h:xm X.K H a xs)(h':xm X.K H a ys):xs=ys:=by
 obtain⟨its,r,⟨o,n,e,_,_,d⟩,_⟩:=I.list h
 obtain⟨its',r',⟨o',n',e',_,_,d'⟩,_⟩:=I.list h'
 rw[e] at e';cases e'
 rw[d] at d'
 injection d' with d1 _
 have:its=its':=by simpa using congrArg Array.toList d1
 subst this
 exact r.inj r'
theorem Inv.uZ(I:Inv X pins σ H s)(h:zr X.K H a xs)(h':zr X.K H a ys):xs=ys:=by
 obtain⟨its,r,⟨o,e,_,n,d⟩,_⟩:=I.tuple h
 obtain⟨its',r',⟨o',e',_,n',d'⟩,_⟩:=I.tuple h'
 rw[e] at e';cases e'
 rw[d] at d'
 injection d' with d1 _
 have:its=its':=by simpa using congrArg Array.toList d1
 subst this
 exact r.inj r'
end
abbrev Cx.wish(X:Cx)(E:Value→Shared→Prop):Cx:={ X with xe:=E }
abbrev Cx.Xp(X:Cx):Cx:=X.wish fun _ _=>False
theorem Cx.Ok.wish{X:Cx}(ok:X.Ok)(E:Value→Shared→Prop):(X.wish E).Ok :=
 ⟨ok.mod,ok.kind,ok.glob,ok.blt,ok.above,ok.inj,ok.has,ok.cab,ok.hd,ok.frames,ok.stk,ok.exf,ok.bs,ok.bsz,ok.O2,ok.Tw,ok.yN,ok.frf⟩
theorem Cx.Ok.pY{X:Cx}{E:Value→Shared→Prop}(ok:(X.wish E).Ok):X.Ok :=
 ⟨ok.mod,ok.kind,ok.glob,ok.blt,ok.above,ok.inj,ok.has,ok.cab,ok.hd,ok.frames,ok.stk,ok.exf,ok.bs,ok.bsz,ok.O2,ok.Tw,ok.yN,ok.frf⟩
section
variable{X:Cx}{pins:List (Addr×Obj)}{σ : St}{H:Hp}{s:Shared}{E:Value→Shared→Prop}
theorem Inv.wish(I:Inv X pins σ H s)(E:Value→Shared→Prop):Inv (X.wish E) pins σ H s:=⟨I.ok.wish E,I.os,I.bare,I.base,I.loc,I.cell,I.free,I.nR,I.pin,I.hok,I.len⟩
theorem Inv.pY(I:Inv (X.wish E) pins σ H s):Inv X pins σ H s:=⟨I.ok.pY,I.os,I.bare,I.base,I.loc,I.cell,I.free,I.nR,I.pin,I.hok,I.len⟩
theorem SP.pY{D:Ends}{f:Flow}{s':Shared}(h:SP (X.wish E) pins D f s'):SP X pins D f s':=by
 cases f with
 | next=>obtain⟨σ',H',I,q⟩:=h;exact⟨σ',H',I.pY,q⟩
 | brk=>obtain⟨σ',H',I,q⟩:=h;exact⟨σ',H',I.pY,q⟩
 | cont=>obtain⟨σ',H',I,q⟩:=h;exact⟨σ',H',I.pY,q⟩
 | ret u=>obtain⟨v,σ',H',I,r,q⟩:=h;exact⟨v,σ',H',I.pY,r,q⟩
theorem Km.Xp{st:List Stmt}{t:TS}(h:Km X.Xp st t):Km X st t:=fun pins s σ H D I hw =>
 wpAny_mono (h pins s σ H D (I.wish _) hw) (fun _ _ q=>q.pY) fun _ _ z=>False.elim z
end
section
variable{X:Cx}{st:Stmt}{rest:List Stmt}{t u:TS}{e:Expr}{te:TE}{pos:Pos}
def UG:TS:=fun D σ H=>D.nx σ H
def XH(t u:TS):TS:=fun D σ H=>t { D with nx:=u D } σ H
theorem bC:Km X [] UG:=fun _ _ σ H _ I h=>wpAny_execs_nil ⟨σ,H,I,h⟩
theorem aF(h1:PS X st t)(h2:Km X rest u):Km X (st::rest) (XH t u):=by
 intro pins s σ H D I h
 refine wpAny_execs_cons (eX (h1 pins s σ H { D with nx:=u D } I h) fun f s1 q=>?_)
 cases f with
 | next =>
  obtain⟨σ',H',I',q⟩:=q
  exact h2 pins s1 σ' H' D I' q
 | ret v=>exact q
 | brk=>exact q
 | cont=>exact q
theorem aK(h1:PS X st t):Km X [st] t:=by
 intro pins s σ H D I h
 refine wpAny_execs_cons (eX (h1 pins s σ H D I h) fun f s1 q=>?_)
 cases f with
 | next=>exact wpAny_execs_nil q
 | ret v=>exact q
 | brk=>exact q
 | cont=>exact q
theorem Inv.quiet{pins:List (Addr×Obj)}{σ : St}{H:Hp}{s:Shared}(I:Inv X pins σ H s):interactive X.env=false:=by simp[interactive,I.ok.kind]
def z6(te:TE):TS:=fun D σ H=>te σ H fun _ H1=>D.nx σ H1
theorem iU(he:PE X e te)(hs:swapsWith e none pos.line X.env=pure false:=by rfl):PS X (.Expr e pos) (z6 te):=by
 intro pins s σ H D I h
 exact wpAny_Expr_any (eX (he pins s σ H _ I h) fun v s1 ⟨x,H1,I1,r1,q1⟩=>⟨σ,H1,I1,q1⟩) I.quiet hs
def G9(te:TE):TS:=fun D σ H=>te σ H D.rt
theorem bw(he:PE X e te):PS X (.Return (some e) pos) (G9 te):=by
 intro pins s σ H D I h
 exact wpAny_Return_some (eX (he pins s σ H _ I h) fun v s1 ⟨x,H1,I1,r1,q1⟩=>⟨x,σ,H1,I1,r1,q1⟩)
def XR(c:TT)(t u:TS):TS:=fun D σ H=>c σ H fun b H1=>if b=true then t D σ H1 else u D σ H1
theorem cZ{c:Expr}{a b:List Stmt}{tc:TT}(hc:PT X c tc)(ha:Km X a t)(hb:Km X b u):PS X (.If c a b pos) (XR tc t u):=by
 intro pins s σ H D I h
 refine wpAny_If (eX (hc pins s σ H _ I h) fun d s1 ⟨H1,I1,q1⟩=>?_)
 cases d with
 | true=>exact ha pins s1 σ H1 D I1 q1
 | false=>exact hb pins s1 σ H1 D I1 q1
def M5:TS:=fun _ _ _=>False
theorem yj:PS X st M5:=fun _ _ _ _ _ _ h=>h.elim
end
abbrev TG:=V→St→Hp→(St→Hp→Prop)→Prop
abbrev Mv:=List V→St→Hp→(St→Hp→Prop)→Prop
def PG(X:Cx)(target:Expr)(t:TG):Prop :=
 ∀ (pins:List (Addr×Obj)) (s:Shared) (σ : St) (H:Hp) (v:V) (u:Value) (Q:St→Hp→Prop),Inv X pins σ H s→RelV v u→t v σ H Q →
  wpAny (model X.prog X.w) X.A (assign target X.env u) (fun _ s'=>∃ σ' H',Inv X pins σ' H' s'∧Q σ' H') X.xe s
def ZV(X:Cx)(ts:List Expr)(t:Mv):Prop :=
 ∀ (pins:List (Addr×Obj)) (s:Shared) (σ : St) (H:Hp) (vs:List V) (us:List Value) (Q:St→Hp→Prop),Inv X pins σ H s→Vals vs us→t vs σ H Q →
  wpAny (model X.prog X.w) X.A (assignInOrder ((assignEach ts X.env).map (·.2)) us) (fun _ s'=>∃ σ' H',Inv X pins σ' H' s'∧Q σ' H') X.xe s
section
variable{X:Cx}{pos:Pos}
def nQ(i:Nat):TG:=fun v σ H Q=>Q (σ.set i (some v)) H
theorem aZ{i:Nat}{x:Str}(hN:X.N.Nodup)(hi:X.N[i]? = some x)(hx:Loc X.env.scope x)(hf:X.fn x=true∨X.env.scope.names.lookup x=some .local:=by first|exact .inl rfl|exact .inr rfl|assumption):PG X (.Name x pos) (nQ i):=by
 intro pins s σ H v u Q I r h
 exact wpAny_assign_Name (Eb I hN hi hx r (fun s' I'=>⟨_,H,I',h⟩) hf)
def Qg:Mv:=fun vs σ H Q=>vs=[]∧Q σ H
def FP(t:TG)(u:Mv):Mv:=fun vs σ H Q=>∃ v r,vs=v::r∧t v σ H fun σ' H'=>u r σ' H' Q
theorem jB:ZV X [] Qg:=by
 intro pins s σ H vs us Q I r h
 obtain⟨e,h⟩:=h
 subst e
 cases r
 exact assignInOrder_nil ⟨σ,H,I,h⟩
theorem cg{e:Expr}{es:List Expr}{t:TG}{u:Mv}(h1:PG X e t)(h2:ZV X es u)
 (hs:(assignEach (e::es) X.env).map (·.2)=assign e X.env::(assignEach es X.env).map (·.2):=by rfl):ZV X (e::es) (FP t u):=by
 intro pins s σ H vs us Q I r h
 obtain⟨v,vr,e1,h⟩:=h
 subst e1
 cases r with
 | cons r rr =>
  rw[hs]
  refine assignInOrder_cons (eX (h1 pins s σ H _ _ _ I r h) fun _ s1 ⟨σ1,H1,I1,q1⟩=>?_)
  exact h2 pins s1 σ1 H1 _ _ Q I1 rr q1
def WM(K:PySem.W.Frag)(n:Nat)(t:Mv):TG:=fun v σ H Q=>∃ a xs,v=.ref a∧zr K H a xs∧xs.length=n∧t xs σ H Q
theorem mF{es:List Expr}{k:Nat}{t:Mv}{n:Nat}(hc:X.calm=true)(h:ZV X es t)
 (hn:(assignEach es X.env).length=n:=by rfl) (hst:(assignEach es X.env).findIdx? (·.1)=none:=by rfl):PG X (.Tuple es k pos) (WM X.K n t):=by
 intro pins s σ H v u Q I r hw
 obtain⟨a,xs,e1,hq,hl,hw⟩:=hw
 subst e1
 cases r
 obtain⟨its,rv,ht,hz⟩:=I.tuple hq
 refine assign_Tuple_tuple (I.ok.hd hc) ht (by simp[hn,← hl,rv.length]) hst fun h' hx=>?_
 have I1:Inv X pins σ H { s with heap:=h' }:=I.kept (t':=s.toks) fun b o e=>hx b o (Nat.ne_of_lt (Heap.lt_size e)) e
 exact h pins _ σ H xs _ Q I1 (by simpa using rv) hw
def Ea(te:TE)(g:TG):TS:=fun D σ H=>te σ H fun x H1=>g x σ H1 D.nx
theorem V1{tg e:Expr}{te:TE}{g:TG}(he:PE X e te)(hg:PG X tg g)(hs:swapsWithSole [tg] e pos.line X.env=pure false:=by rfl)(hw:swappedStores [tg] e X.env=pure none:=by rfl)
 (h1:(assignEach [tg] X.env).map (·.2)=[assign tg X.env]:=by rfl):PS X (.Assign [tg] e pos) (Ea te g):=by
 intro pins s σ H D I h
 refine wpAny_Assign_stores (eX (he pins s σ H _ I h) fun v s1 ⟨x,H1,I1,r1,q1⟩=>?_) hs hw
 rw[h1]
 exact eX (hg pins s1 σ H1 x v _ I1 r1 q1) fun _ s2 q=>q
theorem bM{i:Nat}{x:Str}{e:Expr}{te:TE}{pos':Pos}(hN:X.N.Nodup)(hi:X.N[i]? = some x)(hx:Loc X.env.scope x)(he:PE X e te)(hs:swapsWith e (some (.Name x pos')) pos.line X.env=pure false:=by rfl)(hf:X.fn x=true∨X.env.scope.names.lookup x=some .local:=by first|exact .inl rfl|exact .inr rfl|assumption) :
 PS X (.Assign [.Name x pos'] e pos) (Ea te (nQ i)):=by
 intro pins s σ H D I h
 refine wpAny_Assign_Name (eX (he pins s σ H _ I h) fun v s1 ⟨y,H1,I1,r1,q1⟩=>?_) hs
 exact Eb I1 hN hi hx r1 (fun s2 I2=>⟨_,H1,I2,q1⟩) hf
end
section
variable{X:Cx}{pos:Pos}
def M3(c:TT)(tb:TS):TS:=fun D σ H=>∃ W:Nat→St→Hp→Prop,(∃ m,W m σ H)∧∀ m σ H,W m σ H →
 c σ H fun b H1=>if b=true then ∃ N:St→Hp→Prop,(∀ σ' H',N σ' H'→∃ m',m' < m∧W m' σ' H')∧tb { D with nx:=N,ct:=N,bk:=D.nx } σ H1 else D.nx σ H1
theorem N8{c:Expr}{body:List Stmt}{tc:TT}{tb:TS}(hp:PassesOwn (model X.prog X.w) X.A X.env X.xe)(hc:PT X c tc)(hb:Km X body tb):PS X (.While c body [] pos) (M3 tc tb):=by
 intro pins s σ H D I h
 obtain⟨W,⟨m0,w0⟩,turn⟩:=h
 refine wpAny_While (codeAny_whileLoop (fun n s'=>∃ σ' H',Inv X pins σ' H' s'∧W n σ' H') ?_ m0 ⟨σ,H,I,w0⟩)
 rintro n s1 ⟨σ1,H1,I1,w1⟩
 refine wpAny_passesOwn hp (eX (hc pins s1 σ1 H1 _ I1 (turn n σ1 H1 w1)) fun b s2 ⟨H2,I2,q2⟩=>?_)
 cases b with
 | true =>
  obtain⟨N,hN,q2⟩:=q2
  rw[if_pos rfl]
  refine wpAny_passesOwn hp (eX (hb pins s2 σ1 H2 _ I2 q2) fun f s3 q3=>?_)
  cases f with
  | next =>
   obtain⟨σ3,H3,I3,n3⟩:=q3
   obtain⟨m',hm,w3⟩:=hN σ3 H3 n3
   exact⟨m',hm,σ3,H3,I3,w3⟩
  | cont =>
   obtain⟨σ3,H3,I3,n3⟩:=q3
   obtain⟨m',hm,w3⟩:=hN σ3 H3 n3
   exact⟨m',hm,σ3,H3,I3,w3⟩
  | brk=>exact q3
  | ret v=>exact q3
 | false =>
  rw[if_neg Bool.false_ne_true]
  exact wpAny_execs_nil ⟨σ1,H2,I2,q2⟩
end
structure It where
 go:Nat→Hp→Prop
 yld:Nat→Hp→V→Hp→Prop
 stop:Nat→Hp→Prop
def oF(X:Cx)(pins:List (Addr×Obj))(H:Hp)(b:Addr):Prop :=
 H b=none∧b≠X.env.locals∧b∉X.fs∧(b∈X.ex∨X.s₀.heap.objs.size≤b)∧(∀ x c,X.env.cells.lookup x=some c→c≠b)∧∀ p∈X.pn++pins,p.1≠b
theorem Inv.uA{X:Cx}{pins:List (Addr×Obj)}{σ : St}{H H':Hp}{s:Shared}{b:Addr}(I:Inv X pins σ H s)(hb:s.heap.objs.size≤b)(hn:H' b=none):oF X pins H' b:=by
 refine⟨hn,Nat.ne_of_gt (Nat.lt_of_lt_of_le I.lt hb),I.aaa hb,.inr (Nat.le_trans I.sz hb),fun x c e z=>?_,fun p hp z=>?_⟩
 ·obtain⟨v,q⟩:=I.cell x c e
  exact absurd (Nat.lt_of_lt_of_le q.lt (by rw[z];exact hb)) (Nat.lt_irrefl _)
 ·exact absurd (Nat.lt_of_lt_of_le (Heap.lt_size (I.pin p hp).1) (by rw[z];exact hb)) (Nat.lt_irrefl _)
structure Turn(P:Program)(w:World)(K:PySem.W.Frag)(tg:Expr)(J:It)(fp:List Addr)(it:Addr)(tn:Nat→Heap→Prop):Prop where
 mem:it∈fp
 obj:∀ i h,tn i h→∀ b∈fp,∃ o,h.get? b=some o∧∀ v,o.data≠.cell v
 keep:∀ i h h',tn i h→(∀ b∈fp,∀ o,h.get? b=some o→h'.get? b=some o)→tn i h'
 item:∀ (X:Cx),X.prog=P→X.w=w→X.K=K→X.calm=true→∀ (i:Nat) (pins:List (Addr×Obj)) (s:Shared) (σ : St) (H:Hp) (E:Value→Shared→Prop),Inv X pins σ H s→(∀ b∈fp,oF X pins H b)→tn i s.heap→J.go i H →
  wpAny (model P w) X.A (pyNext (.ref it)) (fun r s1=>∃ u,r=some u ∧
   wpAny (model P w) X.A (letOwnedTupleGo tg (.ref it) u) (fun _ s2=>∃ x H',Inv X pins σ H' s2∧RelV x u∧J.yld i H x H'∧tn (i+1) s2.heap∧∀ b∈fp,H' b=none) E s1) E s
 done:∀ (X:Cx),X.prog=P→X.w=w→X.K=K→X.calm=true→∀ (i:Nat) (pins:List (Addr×Obj)) (s:Shared) (σ : St) (H:Hp) (E:Value→Shared→Prop),Inv X pins σ H s→(∀ b∈fp,oF X pins H b)→tn i s.heap→J.stop i H →
  wpAny (model P w) X.A (pyNext (.ref it)) (fun r s1=>r=none∧Inv X pins σ H s1) E s
 self:∀ (A:Around) (i:Nat) (s:Shared) (Q:Value→Shared→Prop) (E:Value→Shared→Prop),tn i s.heap→Q (.ref it) s→wpAny (model P w) A (pyIter (.ref it)) Q E s
abbrev TI:=St→Hp→(It→Hp→Prop)→Prop
def PIE(X:Cx)(pins:List (Addr×Obj))(σ : St)(tg:Expr)(R:It→Hp→Prop)(itv:Value)(s2:Shared):Prop :=
 ∃ (it:Addr) (fp:List Addr) (tn:Nat→Heap→Prop) (J:It) (H':Hp),itv=.ref it∧Inv X pins σ H' s2∧Turn X.prog X.w X.K tg J fp it tn∧tn 0 s2.heap∧(∀ b∈fp,oF X pins H' b)∧R J H'
def PI(X:Cx)(tg iter:Expr)(wi:TI):Prop :=
 ∀ (pins:List (Addr×Obj)) (s:Shared) (σ : St) (H:Hp) (R:It→Hp→Prop),Inv X pins σ H s→wi σ H R →
  wpAny (model X.prog X.w) X.A (eval iter X.env) (fun v s1=>wpAny (model X.prog X.w) X.A (pyIter v) (PIE X pins σ tg R) X.xe s1) X.xe s
theorem FN{M:Model}{A:Around}{E:Value→Shared→Prop}{s:Shared}{tg:Expr}{it:Addr}{u:Value}{o:Obj}{n:String}{vs:Array Value}{Q:Unit→Shared→Prop}(ho:s.heap.get? it=some o)(hc:o.cls=.type n)(hd:o.data=.fields vs)
 (hn:["enumerate", "zip", "dict_itemiterator", "dict_reverseitemiterator", "odict_iterator", "itertools.zip_longest", "itertools.pairwise"].contains n=false) (hQ:Q () s):wpAny M A (letOwnedTupleGo tg (.ref it) u) Q E s:=by
 unfold letOwnedTupleGo
 cases tg<;>first
  | exact wpAny_pure hQ
  | (cases u<;>first
   | exact wpAny_pure hQ
   | (refine wpAny_bind (wpAny_load ho ?_)
      rw[hc,hd]
      show wpAny M A (if (["enumerate", "zip", "dict_itemiterator", "dict_reverseitemiterator", "odict_iterator", "itertools.zip_longest", "itertools.pairwise"].contains n && vs[0]? == some (rawInt _))=true then _ else _) Q E s
      rw[if_neg (by intro h;rw[hn,Bool.false_and] at h;cases h)]
      exact wpAny_pure hQ))
def Zw(K:PySem.W.Frag)(a:Addr):It :=
 ⟨fun i H=>∃ xs x,xm K H a xs∧xs[i]? = some x,fun i H x H'=>H'=H∧∀ xs,xm K H a xs→xs[i]? = some x,fun i H=>∃ xs,xm K H a xs∧xs.length≤i⟩
def Zu(K:PySem.W.Frag)(a:Addr):It :=
 ⟨fun i H=>∃ xs x,zr K H a xs∧xs[i]? = some x,fun i H x H'=>H'=H∧∀ xs,zr K H a xs→xs[i]? = some x,fun i H=>∃ xs,zr K H a xs∧xs.length≤i⟩
def Xw(lo:Int)(n:Nat):It:=⟨fun i _=>i < n,fun i H x H'=>H'=H∧x=.int (lo+i),fun i _=>n≤i⟩
theorem Kq{P:Program}{w:World}{K:PySem.W.Frag}{tg:Expr}(a it:Addr):Turn P w K tg (Zw K a) [it] it (fun i h=>h.IsListIter it a i) where
 mem:=by simp
 obj:=fun i h st b hb=>by
  have e:b=it:=by simpa using hb
  subst e
  obtain⟨o,e,c,d⟩:=st
  exact⟨o,e,fun v z=>by rw[d] at z;cases z⟩
 keep:=fun i h h' st k=>st.at fun o e=>k it (by simp) o e
 item:=by
  intro X hP hw hK hc i pins s σ H E I hf st hg
  subst hP hw hK
  obtain⟨xs,x,hq,hx⟩:=hg
  obtain⟨its,rv,p,hz⟩:=I.list hq
  obtain⟨u,hu,ru⟩:=rv.get hx
  obtain⟨f0,f1,f2,f3,f4,f5⟩:=hf it (by simp)
  refine wpAny_pyNext_list_item st p.isList (x:=u) (by simpa using hu) fun h' st' sb=>?_
  have I1:Inv X pins σ H { s with heap:=h' }:=I.turned (t':=s.toks) (fun b o hb e=>(sb.2 b hb).trans e) f0 f1 f3 f4 f5
  obtain⟨o,e,c,d⟩:=id st'
  exact⟨u,rfl,FN (s:={ s with heap:=h' }) e c d (by decide) ⟨x,H,I1,ru,⟨rfl,fun ys hy=>by rw[I.yD hy hq];exact hx⟩,st',fun b hb=>(hf b hb).1⟩⟩
 done:=by
  intro X hP hw hK hc i pins s σ H E I hf st hg
  subst hP hw hK
  obtain⟨xs,hq,hx⟩:=hg
  obtain⟨its,rv,p,hz⟩:=I.list hq
  obtain⟨f0,f1,f2,f3,f4,f5⟩:=hf it (by simp)
  have hl:=rv.length
  exact wpAny_pyNext_list_end (I.ok.hd hc) st p.isList (by simp;omega) fun h' eb=>⟨rfl,I.turned (t':=s.toks) (fun b o hb e=>eb b o hb e) f0 f1 f3 f4 f5⟩
 self:=fun _ _ _ _ _ st h=>wpAny_pyIter_listiter st h
theorem G5{P:Program}{w:World}{K:PySem.W.Frag}{tg:Expr}(a it:Addr):Turn P w K tg (Zu K a) [it] it (fun i h=>h.IsTupleIter it a i) where
 mem:=by simp
 obj:=fun i h st b hb=>by
  have e:b=it:=by simpa using hb
  subst e
  obtain⟨o,e,c,d⟩:=st
  exact⟨o,e,fun v z=>by rw[d] at z;cases z⟩
 keep:=fun i h h' st k=>st.at fun o e=>k it (by simp) o e
 item:=by
  intro X hP hw hK hc i pins s σ H E I hf st hg
  subst hP hw hK
  obtain⟨xs,x,hq,hx⟩:=hg
  obtain⟨its,rv,p,hz⟩:=I.tuple hq
  obtain⟨u,hu,ru⟩:=rv.get hx
  obtain⟨f0,f1,f2,f3,f4,f5⟩:=hf it (by simp)
  refine wpAny_pyNext_tuple_item st (show s.heap.IsTuple a its.toArray from p) (x:=u) (by simpa using hu) fun h' st' sb=>?_
  have I1:Inv X pins σ H { s with heap:=h' }:=I.turned (t':=s.toks) (fun b o hb e=>(sb.2 b hb).trans e) f0 f1 f3 f4 f5
  obtain⟨o,e,c,d⟩:=id st'
  exact⟨u,rfl,FN (s:={ s with heap:=h' }) e c d (by decide) ⟨x,H,I1,ru,⟨rfl,fun ys hy=>by rw[I.uZ hy hq];exact hx⟩,st',fun b hb=>(hf b hb).1⟩⟩
 done:=by
  intro X hP hw hK hc i pins s σ H E I hf st hg
  subst hP hw hK
  obtain⟨xs,hq,hx⟩:=hg
  obtain⟨its,rv,p,hz⟩:=I.tuple hq
  obtain⟨f0,f1,f2,f3,f4,f5⟩:=hf it (by simp)
  have hl:=rv.length
  exact wpAny_pyNext_tuple_end (I.ok.hd hc) st (show s.heap.IsTuple a its.toArray from p) (by simp;omega) fun h' eb=>⟨rfl,I.turned (t':=s.toks) (fun b o hb e=>eb b o hb e) f0 f1 f3 f4 f5⟩
 self:=fun _ _ _ _ _ st h=>wpAny_pyIter_tupleiter st h
theorem G6{P:Program}{w:World}{K:PySem.W.Frag}{tg:Expr}(it:Addr)(lo:Int)(n:Nat):Turn P w K tg (Xw lo n) [it] it (fun i h=>IsRangeIter h it (lo+(i:Nat) * 1) ((n:Int) - (i:Nat)) 1) where
 mem:=by simp
 obj:=fun i h st b hb=>by
  have e:b=it:=by simpa using hb
  subst e
  exact⟨_,st,fun v z=>by
   have z':Data.fields _=Data.cell v:=z
   cases z'⟩
 keep:=fun i h h' st k=>k it (by simp) _ st
 item:=by
  intro X hP hw hK hc i pins s σ H E I hf st hg
  subst hP hw hK
  obtain⟨f0,f1,f2,f3,f4,f5⟩:=hf it (by simp)
  have W:=Walks.range (prog:=X.prog) (w:=X.w) (I.ok.hd hc) it lo 1 n
  refine W.item i s _ _ hg st fun v h' tk hv st' kk=>?_
  obtain⟨t,rfl⟩:=hv
  have I1:Inv X pins σ H { s with heap:=h',toks:=tk }:=I.turned (fun b o hb e=>kk b o (by simpa using hb) e) f0 f1 f3 f4 f5
  refine⟨_,rfl,FN (s:={ s with heap:=h',toks:=tk }) (n := "range_iterator") st' rfl rfl (by decide) ⟨.int (lo+i),H,I1,⟨t,?_⟩,⟨rfl,rfl⟩,st',fun b hb=>(hf b hb).1⟩⟩
  rw[Int.mul_one]
 done:=by
  intro X hP hw hK hc i pins s σ H E I hf st hg
  subst hP hw hK
  obtain⟨f0,f1,f2,f3,f4,f5⟩:=hf it (by simp)
  exact wpAny_pyNext_range_end (I.ok.hd hc) st (by have:n≤i:=hg;omega) fun h' eb=>⟨rfl,I.turned (t':=s.toks) (fun b o hb e=>eb b o hb e) f0 f1 f3 f4 f5⟩
 self:=fun _ _ _ _ _ st h=>wpAny_pyIter_rangeiter st h
end L2
namespace L2
open PySem PySem.Spec PyProof.Rows
section
variable{X:Cx}{tg:Expr}
def Ve(K:PySem.W.Frag)(tl:TE):TI:=fun σ H R=>tl σ H fun x H1=>∃ a,x=.ref a∧(∃ xs,xm K H1 a xs)∧R (Zw K a) H1
def Y0(K:PySem.W.Frag)(tl:TE):TI:=fun σ H R=>tl σ H fun x H1=>∃ a,x=.ref a∧(∃ xs,zr K H1 a xs)∧R (Zu K a) H1
theorem R3{l:Expr}{tl:TE}(hl:PE X l tl):PI X tg l (Ve X.K tl):=by
 intro pins s σ H R I h
 refine eX (hl pins s σ H _ I h) fun v s1 ⟨x,H1,I1,r1,q1⟩=>?_
 obtain⟨a,e,⟨xs,hq⟩,q⟩:=q1
 subst e
 cases r1
 obtain⟨its,rv,p,hz⟩:=I1.list hq
 refine wpAny_pyIter_list p.isList ?_
 refine⟨s1.heap.objs.size,[s1.heap.objs.size],_,_,H1,rfl,I1.kept (t':=s1.toks) fun b o e=>Heap.get?_push_of_some _ e,Kq a _,⟨_,Heap.get?_push_size _ rfl,rfl,rfl⟩,fun b hb=>?_,q⟩
 have e:b=s1.heap.objs.size:=by simpa using hb
 subst e
 exact I1.uA (Nat.le_refl _) (I1.hok.fresh (Nat.le_refl _))
theorem V3{l:Expr}{tl:TE}(hl:PE X l tl):PI X tg l (Y0 X.K tl):=by
 intro pins s σ H R I h
 refine eX (hl pins s σ H _ I h) fun v s1 ⟨x,H1,I1,r1,q1⟩=>?_
 obtain⟨a,e,⟨xs,hq⟩,q⟩:=q1
 subst e
 cases r1
 obtain⟨its,rv,p,hz⟩:=I1.tuple hq
 refine wpAny_pyIter_tuple (show s1.heap.IsTuple a its.toArray from p) ?_
 refine⟨s1.heap.objs.size,[s1.heap.objs.size],_,_,H1,rfl,I1.kept (t':=s1.toks) fun b o e=>Heap.get?_push_of_some _ e,G5 a _,⟨_,Heap.get?_push_size _ rfl,rfl,rfl⟩,fun b hb=>?_,q⟩
 have e:b=s1.heap.objs.size:=by simpa using hb
 subst e
 exact I1.uA (Nat.le_refl _) (I1.hok.fresh (Nat.le_refl _))
theorem NB{pins:List (Addr×Obj)}{σ : St}{H:Hp}{s:Shared}{R:It→Hp→Prop}{E:Value→Shared→Prop}{lo hi:Int}{t u v:Tok}{tk:Nat}(I:Inv X pins σ H s)(h1:-(2 ^ 62)≤lo)(h2:lo < 2 ^ 62)(h3:-(2 ^ 62)≤hi)(h4:hi < 2 ^ 62)
 (q:R (Xw lo (hi - lo).toNat) H):wpAny (model X.prog X.w) X.A (pyIter (.ref s.heap.objs.size)) (PIE X pins σ tg R) E { s with heap:=s.heap.push { cls:=.type "range", data:=.fields #[.int lo t,.int hi u,.int 1 v] },toks:=tk }:=by
 refine wpAny_pyIter_range (IsRange.new ..) (small_one h1 h2 h3 h4) ?_
 have I1:Inv X pins σ H { s with heap:=s.heap.push { cls:=.type "range", data:=.fields #[.int lo t,.int hi u,.int 1 v] },toks:=tk }:=I.kept fun b o e=>Heap.get?_push_of_some _ e
 refine⟨(s.heap.push { cls:=.type "range", data:=.fields #[.int lo t,.int hi u,.int 1 v] }).objs.size,[(s.heap.push { cls:=.type "range", data:=.fields #[.int lo t,.int hi u,.int 1 v] }).objs.size],_,_,H,rfl,
  I1.kept (t':=tk) fun b o e=>Heap.get?_push_of_some _ e,G6 _ lo (hi - lo).toNat,?_,fun b hb=>?_,q⟩
 ·have e1:lo+((0:Nat):Int) * 1=lo:=by simp
  have e2:(((hi - lo).toNat:Nat):Int) - ((0:Nat):Int)=Builtin.Range.rangeSize lo hi 1:=by rw[rangeSize_one];split<;>omega
  show IsRangeIter _ _ (lo+((0:Nat):Int) * 1) ((((hi - lo).toNat:Nat):Int) - ((0:Nat):Int)) 1
  rw[e1,e2]
  exact Heap.get?_push_size _ rfl
 ·have e:b=(s.heap.push { cls:=.type "range", data:=.fields #[.int lo t,.int hi u,.int 1 v] }).objs.size:=by simpa using hb
  subst e
  exact I1.uA (Nat.le_refl _) (I1.hok.fresh (Nat.le_refl _))
def Vd(ta:TA):TI:=fun σ H R=>ta σ H fun vs H1=>∃ j:Int,vs=[.int j]∧-(2 ^ 62)≤j∧j < 2 ^ 62∧R (Xw 0 j.toNat) H1
theorem gq{a:Expr}{ta:TA}{p pos:Pos}(hg:Gl X "range")(hm:X.mg "range" = none)(ha:PA X [a] ta)(hs:starEach [a] X.env=[(false,eval a X.env)]:=by rfl):PI X tg (.Call (.Name "range" p) [a] [] pos) (Vd ta):=by
 intro pins s σ H R I h
 refine Call_ (vz I hg hm boot_range (PyProof.Rows.callWith_type1 (eX (ha pos pins s σ H _ I h) fun us s1 ⟨vs,H1,I1,r1,q1⟩=>?_) hs rfl))
 obtain⟨j,e,q1,q2,q⟩:=q1
 subst e
 cases r1 with
 | cons r rr =>
  cases rr
  obtain⟨t,rfl⟩:=r
  exact call_range_1 (NB I1 (by omega) (by omega) q1 q2 (by simpa using q))
def XX(wi:TI)(g:TG)(tb:TS):TS:=fun D σ H=>wi σ H fun J H1=>∃ W:Nat→Nat→St→Hp→Prop,(∃ m,W 0 m σ H1)∧∀ i m σ H,W i m σ H →
 (J.stop i H∧D.nx σ H)∨(J.go i H∧∃ N:St→Hp→Prop,(∀ σ' H',N σ' H'→∃ m',m' < m∧W (i+1) m' σ' H')∧∀ x H',J.yld i H x H'→g x σ H' fun σ2 H2=>tb { D with nx:=N,ct:=N,bk:=D.nx } σ2 H2)
def Cp(fp:List Addr)(h:Heap):List (Addr×Obj):=fp.filterMap fun b=>(h.get? b).map fun o=>(b,o)
theorem jr{fp:List Addr}{h:Heap}{b:Addr}{o:Obj}(hb:b∈fp)(e:h.get? b=some o):(b,o)∈Cp fp h:=List.mem_filterMap.mpr ⟨b,hb,by rw[e];rfl⟩
theorem La{fp:List Addr}{h:Heap}{p:Addr×Obj}(hp:p∈Cp fp h):p.1∈fp∧h.get? p.1=some p.2:=by
 obtain⟨b,hb,e⟩:=List.mem_filterMap.mp hp
 cases q:h.get? b with
 | none=>rw[q] at e;cases e
 | some o =>
  rw[q] at e
  have e':(b,o)=p:=Option.some.inj e
  subst e'
  exact⟨hb,q⟩
theorem Inv.pinned{pins:List (Addr×Obj)}{σ : St}{H:Hp}{s:Shared}{fp:List Addr}(I:Inv X pins σ H s)(hf:∀ b∈fp,oF X pins H b)(ho:∀ b∈fp,∃ o,s.heap.get? b=some o∧∀ v,o.data≠.cell v):Inv X (pins++Cp fp s.heap) σ H s :=
 I.Cm fun p hp=>(List.mem_append.mp hp).elim (fun z=>I.pin p (List.mem_append_right _ z)) fun z=>by
  obtain⟨hb,e⟩:=La z
  obtain⟨f0,f1,f2,_⟩:=hf p.1 hb
  obtain⟨o,e',d⟩:=ho p.1 hb
  rw[e] at e';cases e'
  exact⟨e,f0,f1,f2,d⟩
theorem Inv.m6{pins pl:List (Addr×Obj)}{σ : St}{H:Hp}{s:Shared}(I:Inv X (pins++pl) σ H s):Inv X pins σ H s:=I.Cm fun p hp=>I.pin p (List.mem_append_right _ (List.mem_append_left _ hp))
theorem fY{iter:Expr}{body:List Stmt}{wi:TI}{g:TG}{tb:TS}{pos:Pos}(hp:PassesOwn (model X.prog X.w) X.A X.env X.xe)(hc:X.calm=true)(hi:PI X tg iter wi)(hg:PG X tg g)(hb:Km X body tb)
 (hs:∀ x,foldedSetIterable iter X.env x=pure x:=by intro _;rfl):PS X (.For tg iter body [] pos) (XX wi g tb):=by
 intro pins s σ H D I h
 refine wpAny_For (eX (hi pins s σ H _ I h) fun v s1 h1=>eX h1 fun itv s2 h2=>?_) hs
 obtain⟨it,fp,tn,J,H2,e,I2,T,st2,f2,W,⟨m0,w0⟩,turn⟩:=h2
 subst e
 have stat:∀ {H':Hp},(∀ b∈fp,H' b=none)→∀ b∈fp,oF X pins H' b:=fun hn b hb=>⟨hn b hb,(f2 b hb).2⟩
 refine codeAny_forLoop_any (fun n s'=>∃ i σ' H',Inv X pins σ' H' s'∧tn i s'.heap∧(∀ b∈fp,H' b=none)∧W i n σ' H') ?_ m0 ⟨0,σ,H2,I2,st2,fun b hb=>(f2 b hb).1,w0⟩
 rintro n s3 ⟨i,σ3,H3,I3,st3,fr3,w3⟩
 rcases turn i n σ3 H3 w3 with ⟨stop,qn⟩|⟨go,N,hN,step⟩
 ·refine wpAny_passesOwn hp (eX (T.done X rfl rfl rfl hc i pins s3 σ3 H3 X.xe I3 (stat fr3) st3 stop) fun r s4 ⟨hr,I4⟩=>?_)
  subst hr
  exact wpAny_execs_nil ⟨σ3,H3,I4,qn⟩
 ·refine wpAny_passesOwn hp (eX (T.item X rfl rfl rfl hc i pins s3 σ3 H3 X.xe I3 (stat fr3) st3 go) fun r s4 ⟨u,hr,h4⟩=>?_)
  subst hr
  refine wpAny_passesOwn hp (eX h4 fun _ s5 ⟨x,H5,I5,r5,y5,st5,fr5⟩=>?_)
  have I5':=I5.pinned (stat fr5) (T.obj _ _ st5)
  refine wpAny_passesOwn hp (eX (hg _ s5 σ3 H5 x u _ I5' r5 (step x H5 y5)) fun _ s6 ⟨σ6,H6,I6,q6⟩=>?_)
  refine wpAny_passesOwn hp (eX (hb _ s6 σ6 H6 _ I6 q6) fun f s7 q7=>?_)
  have again:∀ {σ7:St} {H7:Hp},Inv X (pins++Cp fp s5.heap) σ7 H7 s7→N σ7 H7→∃ m,m < n∧∃ i σ' H',Inv X pins σ' H' s7∧tn i s7.heap∧(∀ b∈fp,H' b=none)∧W i m σ' H':=fun {σ7 H7} I7 n7=>by
   obtain⟨m',hm,w7⟩:=hN σ7 H7 n7
   refine⟨m',hm,i+1,σ7,H7,I7.m6,T.keep _ _ _ st5 fun b hb o e=>(I7.pin (b,o) (List.mem_append_right _ (List.mem_append_right _ (jr hb e)))).1,fun b hb=>?_,w7⟩
   obtain⟨o,e,d⟩:=T.obj _ _ st5 b hb
   exact(I7.pin (b,o) (List.mem_append_right _ (List.mem_append_right _ (jr hb e)))).2.1
  cases f with
  | next=>obtain⟨σ7,H7,I7,n7⟩:=q7;exact again I7 n7
  | cont=>obtain⟨σ7,H7,I7,n7⟩:=q7;exact again I7 n7
  | brk=>obtain⟨σ7,H7,I7,q7⟩:=q7;exact⟨σ7,H7,I7.m6,q7⟩
  | ret v=>obtain⟨x7,σ7,H7,I7,r7,q7⟩:=q7;exact⟨x7,σ7,H7,I7.m6,r7,q7⟩
end
end L2
namespace L2
open PySem PySem.Spec PyProof.Rows
abbrev R2:=V→V→Hp→VK→Prop
def pJ(X:Cx)(f:Value→Value→Sem Value)(r:R2):Prop :=
 ∀ (pins:List (Addr×Obj)) (s:Shared) (σ : St) (H:Hp) (x y:V) (v u:Value) (Q:VK),Inv X pins σ H s→RelV x v→RelV y u→r x y H Q →
  wpAny (model X.prog X.w) X.A (f v u) (EP X pins σ Q) X.xe s
def UnR(X:Cx)(f:Value→Sem Value)(r:V→Hp→VK→Prop):Prop :=
 ∀ (pins:List (Addr×Obj)) (s:Shared) (σ : St) (H:Hp) (x:V) (v:Value) (Q:VK),Inv X pins σ H s→RelV x v→r x H Q →
  wpAny (model X.prog X.w) X.A (f v) (EP X pins σ Q) X.xe s
def jg(X:Cx)(f:Value)(r:List V→Hp→VK→Prop):Prop :=
 ∀ (pins:List (Addr×Obj)) (s:Shared) (σ : St) (H:Hp) (xs:List V) (us:List Value) (Q:VK),Inv X pins σ H s→Vals xs us→r xs H Q →
  wpAny (model X.prog X.w) X.A (call f us) (EP X pins σ Q) X.xe s
def aaG(X:Cx)(r:V→Hp→(Bool→Hp→Prop)→Prop):Prop :=
 ∀ (pins:List (Addr×Obj)) (s:Shared) (σ : St) (H:Hp) (x:V) (v:Value) (Q:Bool→Hp→Prop),Inv X pins σ H s→RelV x v→r x H Q →
  wpAny (model X.prog X.w) X.A (truthy v) (TP X pins σ Q) X.xe s
def XM(r:R2)(ta tb:TE):TE:=fun σ H Q=>ta σ H fun x H1=>tb σ H1 fun y H2=>r x y H2 Q
def tUn(r:V→Hp→VK→Prop)(ta:TE):TE:=fun σ H Q=>ta σ H fun x H1=>r x H1 Q
def rI(C:Int→Int→Prop)(g:Int→Int→V):R2:=fun x y H Q=>∃ i j,x=.int i∧y=.int j∧C i j∧Q (g i j) H
def Mq(g:Int→Int→V):R2:=fun x y H Q=>∃ i j,x=.int i∧y=.int j∧Q (g i j) H
def rU(g:Int→V):V→Hp→VK→Prop:=fun x H Q=>∃ i,x=.int i∧Q (g i) H
section
variable{X:Cx}{a b c:Expr}{ta tb tc:TE}{pos:Pos}
theorem W8(ha:PE X a ta)(hb:PE X b tb){pins:List (Addr×Obj)}{s:Shared}{σ : St}{H:Hp}{R:V→V→Hp→Prop}(I:Inv X pins σ H s)
 (h:ta σ H fun x H1=>tb σ H1 fun y H2=>R x y H2) {Q:Value→Shared→Prop} {f:Value→Value→Sem Value}
 (hf:∀ v u s2 x y H2,Inv X pins σ H2 s2→RelV x v→RelV y u→R x y H2→wpAny (model X.prog X.w) X.A (f v u) Q X.xe s2) :
 wpAny (model X.prog X.w) X.A (eval a X.env) (fun v s₁=>wpAny (model X.prog X.w) X.A (eval b X.env) (fun u s₂=>wpAny (model X.prog X.w) X.A (f v u) Q X.xe s₂) X.xe s₁) X.xe s:=by
 refine eX (ha pins s σ H _ I h) fun v s1 ⟨x,H1,I1,r1,q1⟩=>?_
 refine eX (hb pins s1 σ H1 _ I1 q1) fun u s2 ⟨y,H2,I2,r2,q2⟩=>?_
 exact hf v u s2 x y H2 I2 r1 r2 q2
theorem bA{op:Operator}{r:R2}(ho:pJ X (binaryOp op) r)(ha:PE X a ta)(hb:PE X b tb):PE X (.BinOp a op b pos) (XM r ta tb):=by
 intro pins s σ H Q I h
 exact wpAny_BinOp (W8 ha hb I h fun v u s2 x y H2 I2 rx ry q=>ho pins s2 σ H2 x y v u Q I2 rx ry q)
theorem U7{op:UnaryOp}{r:V→Hp→VK→Prop}(ho:UnR X (unaryOp op) r)(ha:PE X a ta):PE X (.UnaryOp op a pos) (tUn r ta):=by
 intro pins s σ H Q I h
 exact UnaryOp_ (eX (ha pins s σ H _ I h) fun v s1 ⟨x,H1,I1,r1,q1⟩=>ho pins s1 σ H1 x v Q I1 r1 q1)
theorem Z8{f:Value→Value→Sem Value}{C:Int→Int→Prop}{g:Int→Int→Int}
 (rule:∀ (i j:Int) (t u:Tok) (s:Shared) (Q:Value→Shared→Prop) (E:Value→Shared→Prop),C i j→Q (.int (g i j) s.toks) { s with toks:=s.toks+1 }→wpAny (model X.prog X.w) X.A (f (.int i t) (.int j u)) Q E s) :
 pJ X f (rI C fun i j=>.int (g i j)):=by
 intro pins s σ H x y v u Q I rx ry h
 obtain⟨i,j,rfl,rfl,hc,q⟩:=h
 obtain⟨t,rfl⟩:=rx
 obtain⟨t',rfl⟩:=ry
 exact rule i j t t' s _ _ hc ⟨.int (g i j),H,I.tok _,⟨_,rfl⟩,q⟩
theorem YH{f:Value→Value→Sem Value}{g:Int→Int→Int}
 (rule:∀ (i j:Int) (t u:Tok) (s:Shared) (Q:Value→Shared→Prop) (E:Value→Shared→Prop),Q (.int (g i j) s.toks) { s with toks:=s.toks+1 }→wpAny (model X.prog X.w) X.A (f (.int i t) (.int j u)) Q E s) :
 pJ X f (Mq fun i j=>.int (g i j)):=by
 intro pins s σ H x y v u Q I rx ry h
 obtain⟨i,j,rfl,rfl,q⟩:=h
 obtain⟨t,rfl⟩:=rx
 obtain⟨t',rfl⟩:=ry
 exact rule i j t t' s _ _ ⟨.int (g i j),H,I.tok _,⟨_,rfl⟩,q⟩
theorem Wf{f:Value→Value→Sem Value}{g:Int→Int→Bool}
 (rule:∀ (i j:Int) (t u:Tok) (s:Shared) (Q:Value→Shared→Prop) (E:Value→Shared→Prop),Q (.bool (g i j)) s→wpAny (model X.prog X.w) X.A (f (.int i t) (.int j u)) Q E s) :
 pJ X f (Mq fun i j=>.bl (g i j)):=by
 intro pins s σ H x y v u Q I rx ry h
 obtain⟨i,j,rfl,rfl,q⟩:=h
 obtain⟨t,rfl⟩:=rx
 obtain⟨t',rfl⟩:=ry
 exact rule i j t t' s _ _ ⟨.bl (g i j),H,I,rfl,q⟩
def Uu(i j:Int):Prop:=(-(2 ^ 64) < i∧i < 2 ^ 64)∨(-(2 ^ 64) < j∧j < 2 ^ 64)
theorem Uu.ok{i j:Int}(h:Uu i j):IntMulOk i j:=by
 rcases h with ⟨h1,h2⟩|⟨h1,h2⟩
 ·exact .of_left (intBits_le_64 h1 h2)
 ·exact .of_right (intBits_le_64 h1 h2)
theorem We:pJ X (binaryOp .Add) (Mq fun i j=>.int (i+j)):=YH fun _ _ _ _ _ _ _ q=>add_int q
theorem Oo:pJ X (binaryOp .Sub) (Mq fun i j=>.int (i - j)):=YH fun _ _ _ _ _ _ _ q=>sub_int q
theorem jo:pJ X (binaryOp .Mult) (rI Uu fun i j=>.int (i * j)):=Z8 fun _ _ _ _ _ _ _ hc q=>mul_int q hc.ok
theorem iw:pJ X (binaryOp .Mod) (rI (fun _ j=>0 < j) fun i j=>.int (i % j)):=Z8 fun i j _ _ _ _ _ hc q=>by
 have h1:(0:Int) < j:=hc
 exact mod_int' (by omega) (by rw[Int.fmod_eq_emod_of_nonneg i (by omega)];exact q)
theorem unI{f:Value→Sem Value}{g:Int→Int}
 (rule:∀ (i:Int) (t:Tok) (s:Shared) (Q:Value→Shared→Prop) (E:Value→Shared→Prop),Q (.int (g i) s.toks) { s with toks:=s.toks+1 }→wpAny (model X.prog X.w) X.A (f (.int i t)) Q E s) :
 UnR X f (rU fun i=>.int (g i)):=by
 intro pins s σ H x v Q I rx h
 obtain⟨i,rfl,q⟩:=h
 obtain⟨t,rfl⟩:=rx
 exact rule i t s _ _ ⟨.int (g i),H,I.tok _,⟨_,rfl⟩,q⟩
theorem MK:UnR X (unaryOp .USub) (rU fun i=>.int (-i)):=unI fun _ _ _ _ _ q=>neg_int q
end
section
variable{X:Cx}{a b c:Expr}{ta tb tc:TE}{pos:Pos}
theorem yQ{pins:List (Addr×Obj)}{σ : St}{H:Hp}{s:Shared}{Q:VK}{k k':Bool}(I:Inv X pins σ H s)(q:Q (.bl k) H)(e:k=k'):EP X pins σ Q (.bool k') s:=by
 subst e
 exact⟨.bl k,H,I,rfl,q⟩
theorem YD:pJ X (compareOp .Lt) (Mq fun i j=>.bl (decide (i < j))):=Wf fun _ _ _ _ _ _ _ q=>lt_int q
theorem YF:pJ X (compareOp .LtE) (Mq fun i j=>.bl (decide (i≤j))):=Wf fun _ _ _ _ _ _ _ q=>le_int q
theorem YG:pJ X (compareOp .Gt) (Mq fun i j=>.bl (decide (j < i))):=Wf fun _ _ _ _ _ _ _ q=>gt_int q
theorem K1:pJ X (compareOp .Lt) (fun x y H Q=>∃ i j,x=.str i∧y=.str j∧Q (.bl (decide (i.cps.toList < j.cps.toList))) H):=by
 intro pins s σ H x y v u Q I rx ry h
 obtain⟨i,j,rfl,rfl,q⟩:=h
 obtain⟨t,rfl⟩:=rx
 obtain⟨t',rfl⟩:=ry
 exact lt_str (yQ I q rfl)
theorem K3:pJ X (compareOp .In) (fun x y H Q=>∃ i j,x=.str i∧y=.str j∧Q (.bl (!(Builtin.Str.occurrences j i 0 j.length 1).isEmpty)) H):=by
 intro pins s σ H x y v u Q I rx ry h
 obtain⟨i,j,rfl,rfl,q⟩:=h
 obtain⟨t,rfl⟩:=rx
 obtain⟨t',rfl⟩:=ry
 exact in_str (yQ I q rfl)
theorem Wa:pJ X (compareOp .Is) (fun x y H Q=>y=.non∧Q (.bl (decide (x=.non))) H):=by
 intro pins s σ H x y v u Q I rx ry h
 obtain⟨rfl,q⟩:=h
 cases ry
 refine is_none_gen (yQ I q ?_)
 cases x<;>first
  | (cases rx;rfl)
  | (obtain⟨t,rfl⟩:=rx;rfl)
theorem R9:pJ X (compareOp .IsNot) (fun x y H Q=>y=.non∧Q (.bl (!decide (x=.non))) H):=by
 intro pins s σ H x y v u Q I rx ry h
 obtain⟨rfl,q⟩:=h
 cases ry
 refine isnot_none_gen (yQ I q ?_)
 cases x<;>first
  | (cases rx;rfl)
  | (obtain⟨t,rfl⟩:=rx;rfl)
theorem pJ.or{f:Value→Value→Sem Value}{r r':R2}(h:pJ X f r)(h':pJ X f r'):pJ X f (fun x y H Q=>r x y H Q∨r' x y H Q):=by
 intro pins s σ H x y v u Q I rx ry q
 rcases q with q|q
 ·exact h pins s σ H x y v u Q I rx ry q
 ·exact h' pins s σ H x y v u Q I rx ry q
theorem cI(b:Expr){op:CmpOp}(h:op≠.In:=by decide)(h2:op≠.NotIn:=by decide):behindInMarks op b=false:=by
 have e1:(op == CmpOp.In)=false:=by cases op<;>first|rfl|exact absurd rfl h
 have e2:(op == CmpOp.NotIn)=false:=by cases op<;>first|rfl|exact absurd rfl h2
 cases b<;>simp[behindInMarks,e1,e2]
theorem cP{op:CmpOp}{r:R2}(ho:pJ X (compareOp op) r)(ha:PE X a ta)(hb:PE X b tb)(hm:behindInMarks op b=false):PE X (.Compare a [op] [b] pos) (XM r ta tb):=by
 intro pins s σ H Q I h
 exact wpAny_Compare1 (W8 ha hb I h fun v u s2 x y H2 I2 rx ry q=>ho pins s2 σ H2 x y v u Q I2 rx ry q) hm
def Uy(t:TE):TT:=fun σ H Q=>t σ H fun x H'=>∃ k,x=.bl k∧Q k H'
theorem bH{op:CmpOp}{r:R2}(ho:pJ X (compareOp op) r)(ha:PE X a ta)(hb:PE X b tb)(hm:behindInMarks op b=false):PT X (.Compare a [op] [b] pos) (Uy (XM r ta tb)):=by
 intro pins s σ H Q I h
 refine wpAny_isTrue_Compare1 (eX (ha pins s σ H _ I h) fun v s1 ⟨x,H1,I1,r1,q1⟩=>eX (hb pins s1 σ H1 _ I1 q1) fun u s2 ⟨y,H2,I2,r2,q2⟩ =>
  eX (ho pins s2 σ H2 x y v u _ I2 r1 r2 q2) fun c s3 ⟨z,H3,I3,r3,k,e,q3⟩=>?_) hm
 subst e
 cases r3
 exact wpAny_truthy_bool ⟨H3,I3,q3⟩
def Xi(K:PySem.W.Frag)(x:V)(H:Hp)(k:Bool):Prop :=
 match x with
 | .non=>k=false
 | .bl b=>k=b
 | .int i=>k=(i != 0)
 | .str y=>y.length≤sizeLine∧k=((y.length:Int) != 0)
 | .byt y=>y.size≤sizeLine∧k=((y.size:Int) != 0)
 | .ref p=>(∃ xs,xm K H p xs∧k = !xs.isEmpty)∨(∃ xs,zr K H p xs∧k = !xs.isEmpty)∨∃ kvs,H p=some (.dK kvs)∧k = !kvs.isEmpty
 | _=>False
theorem HS{κ : Type}{kvs:List (κ×V)}{vs:List (κ×Value)}(r:KV kvs vs):(!vs.isEmpty) = !kvs.isEmpty:=by
 cases r<;>rfl
theorem yH{xs:List V}{its:List Value}(r:Vals xs its):(!its.toArray.isEmpty) = !xs.isEmpty:=by
 cases r<;>simp
theorem yE:(sizeLine:Nat) < 2 ^ 63:=by rw[sizeLine_eq];decide
theorem Vu:aaG X (fun x H Q=>∃ k,Xi X.K x H k∧Q k H):=by
 intro pins s σ H x v Q I rx h
 obtain⟨k,e,q⟩:=h
 have hl:=yE
 have hs:sizeLine=16777216:=sizeLine_eq
 cases x with
 | non =>
  cases rx
  have e':k=false:=e
  subst e'
  exact truthy_none ⟨H,I,q⟩
 | bl b =>
  cases rx
  have e':k=b:=e
  subst e'
  exact wpAny_truthy_bool ⟨H,I,q⟩
 | int i =>
  obtain⟨t,rfl⟩:=rx
  have e':k=(i != 0):=e
  subst e'
  exact PySem.P.truthy_int ⟨H,I,q⟩
 | str y =>
  obtain⟨t,rfl⟩:=rx
  obtain⟨hy,e'⟩ : y.length≤sizeLine∧k=((y.length:Int) != 0):=e
  subst e'
  exact PySem.P.truthy_str (by omega) ⟨H,I.tok _,q⟩
 | byt y =>
  obtain⟨t,rfl⟩:=rx
  obtain⟨hy,e'⟩ : y.size≤sizeLine∧k=((y.size:Int) != 0):=e
  subst e'
  exact PySem.W.truthy_bytes (by omega) ⟨H,I.tok _,q⟩
 | ref p =>
  cases rx
  have e':(∃ xs,xm X.K H p xs∧k = !xs.isEmpty)∨(∃ xs,zr X.K H p xs∧k = !xs.isEmpty)∨∃ kvs,H p=some (.dK kvs)∧k = !kvs.isEmpty:=e
  rcases e' with ⟨xs,hx,e'⟩|⟨xs,hx,e'⟩|⟨kvs,hx,e'⟩
  ·subst e'
   obtain⟨its,r,pl,hz⟩:=I.list hx
   have hlen:=r.length
   exact wpAny_truthy_list pl.isList (by simp only[List.size_toArray];omega) ⟨H,I.tok _,by rw[yH r];exact q⟩
  ·subst e'
   obtain⟨its,r,pl,hz⟩:=I.tuple hx
   have hlen:=r.length
   exact truthy_tuple pl (by simp only[List.size_toArray];omega) ⟨H,I.tok _,by rw[yH r];exact q⟩
  ·subst e'
   obtain⟨hz,hS,vs,r,m⟩ : kvs.length≤sizeLine∧(p == sysModules)=false∧∃ vs,KV kvs vs∧s.heap.DictOf (fU X.prog X.w) p vs:=I.hok p _ hx
   have hlen:kvs.length=vs.length:=Paired.length r
   exact wpAny_truthy_dict hS m (by omega) ⟨H,I.tok _,by rw[HS r];exact q⟩
 | _=>exact(show False from e).elim
theorem N7(ha:PE X a ta)(he:∀ whole,isTrue a X.env whole=(do let v ← whole;standAt a.pos;holding [v] (truthy v))) :
 PT X a (fun σ H Q=>ta σ H fun x H'=>∃ k,Xi X.K x H' k∧Q k H'):=by
 intro pins s σ H Q I h
 exact isTrue_plain (eX (ha pins s σ H _ I h) fun v s1 ⟨x,H1,I1,r1,q1⟩=>Vu pins s1 σ H1 x v Q I1 r1 q1) (he _)
theorem Ht:pJ X (binaryOp .Add) (fun x y H Q=>∃ i j,x=.str i∧y=.str j∧i.length+j.length≤sizeLine∧Q (.str (i++j)) H):=by
 intro pins s σ H x y v u Q I rx ry h
 obtain⟨i,j,rfl,rfl,hz,q⟩:=h
 obtain⟨t,rfl⟩:=rx
 obtain⟨t',rfl⟩:=ry
 exact add_str (fun t' tk=>⟨.str (i++j),H,I.tok _,⟨_,rfl⟩,q⟩) hz
theorem vals1{x:V}{us:List Value}(r:Vals [x] us):∃ u,us=[u]∧RelV x u:=by
 cases r with
 | cons r1 r2=>cases r2;exact⟨_,rfl,r1⟩
theorem vals2{x y:V}{us:List Value}(r:Vals [x,y] us):∃ u w',us=[u,w']∧RelV x u∧RelV y w':=by
 cases r with
 | cons r1 r2 =>
  cases r2 with
  | cons r3 r4=>cases r4;exact⟨_,_,rfl,r1,r3⟩
theorem Mg(hc:X.calm=true):jg X (.builtin "max") (fun xs H Q=>∃ i j,xs=[.int i,.int j]∧Q (.int (if j > i then j else i)) H):=by
 intro pins s σ H xs us Q I r h
 obtain⟨i,j,rfl,q⟩:=h
 obtain⟨u,w',rfl,⟨t,rfl⟩,⟨t',rfl⟩⟩:=vals2 r
 refine max_two_ints (I.ok.hd hc) fun h' tk k=>⟨_,H,I.kept k,?_,q⟩
 by_cases hj:j > i
 ·rw[if_pos hj,if_pos hj];exact⟨_,rfl⟩
 ·rw[if_neg hj,if_neg hj];exact⟨_,rfl⟩
theorem Mf(hc:X.calm=true):jg X (.builtin "min") (fun xs H Q=>∃ i j,xs=[.int i,.int j]∧Q (.int (if j < i then j else i)) H):=by
 intro pins s σ H xs us Q I r h
 obtain⟨i,j,rfl,q⟩:=h
 obtain⟨u,w',rfl,⟨t,rfl⟩,⟨t',rfl⟩⟩:=vals2 r
 refine min_two_ints (I.ok.hd hc) fun h' tk k=>⟨_,H,I.kept k,?_,q⟩
 by_cases hj:j < i
 ·rw[if_pos hj,if_pos hj];exact⟨_,rfl⟩
 ·rw[if_neg hj,if_neg hj];exact⟨_,rfl⟩
def Zt(K:PySem.W.Frag)(x:V)(H:Hp)(n:Nat):Prop :=
 match x with
 | .str y=>y.length≤sizeLine∧n=y.length
 | .byt y=>y.size≤sizeLine∧n=y.size
 | .ref p=>(∃ xs,xm K H p xs∧n=xs.length)∨∃ xs,zr K H p xs∧n=xs.length
 | _=>False
theorem QL:jg X (.builtin "len") (fun xs H Q=>∃ x n,xs=[x]∧Zt X.K x H n∧Q (.int n) H):=by
 intro pins s σ H xs us Q I r h
 obtain⟨x,n,rfl,e,q⟩:=h
 obtain⟨u,rfl,rx⟩:=vals1 r
 have hl:=yE
 have hs:sizeLine=16777216:=sizeLine_eq
 cases x with
 | str y =>
  obtain⟨t,rfl⟩:=rx
  obtain⟨hy,e'⟩ : y.length≤sizeLine∧n=y.length:=e
  subst e'
  exact len_str (by omega) ⟨.int _,H,I.tok _,⟨_,rfl⟩,q⟩
 | byt y =>
  obtain⟨t,rfl⟩:=rx
  obtain⟨hy,e'⟩ : y.size≤sizeLine∧n=y.size:=e
  subst e'
  exact PySem.W.len_bytes (by omega) ⟨.int _,H,I.tok _,⟨_,rfl⟩,q⟩
 | ref p =>
  cases rx
  have e':(∃ xs,xm X.K H p xs∧n=xs.length)∨∃ xs,zr X.K H p xs∧n=xs.length:=e
  rcases e' with ⟨xs,hx,e'⟩|⟨xs,hx,e'⟩
  ·subst e'
   obtain⟨its,r',pl,hz⟩:=I.list hx
   have hlen:=r'.length
   exact Calls.call_len_list pl.isList (by simp only[List.size_toArray];omega) ⟨.int xs.length,H,I.tok _,⟨_,by simp only[List.size_toArray];rw[hlen]⟩,q⟩
  ·subst e'
   obtain⟨its,r',pl,hz⟩:=I.tuple hx
   have hlen:=r'.length
   exact len_tuple pl (by simp only[List.size_toArray];omega) ⟨.int xs.length,H,I.tok _,⟨_,by simp only[List.size_toArray];rw[hlen]⟩,q⟩
 | _=>exact(show False from e).elim
end
end L2
namespace L2
open PySem PySem.Spec PyProof.Rows
structure Xl(h:Heap)(x dx C:Addr)(mA:Str→Option Value):Prop where
 obj:h.get? x=some (PySem.W.instObj C dx)
 ns:h.Ns1 dx mA
 ne:dx≠x
theorem Le{h:Heap}{dx:Addr}{mA:Str→Option Value}(n:h.Ns1 dx mA):∃ od,h.get? dx=some od∧∀ name,PySem.W.lookIn name od=some (mA name):=by
 obtain⟨o,es,ep,ho,hd,hk,_,hm⟩:=n
 refine⟨o,ho,fun name=>?_⟩
 have e:=hm name
 unfold nsFind findBy at e
 rw[← Array.find?_toList] at e
 unfold PySem.W.lookIn
 rw[hd]
 dsimp only
 split
 ·rename_i y q
  rw[q] at e
  exact congrArg some e
 ·rename_i q
  rw[q] at e
  have a:es.toList.any (·.refKey)=false:=by
   rw[List.any_eq_false]
   intro y hy
   obtain⟨z,t,hkey⟩:=hk y (Array.mem_toList_iff.mp hy)
   simp[DictEntry.refKey,hkey]
  have a':¬ es.toList.any (·.refKey)=true:=by rw[a];exact Bool.false_ne_true
  rw[if_neg a']
  exact congrArg some e
theorem Xl.look{h:Heap}{x dx C:Addr}{mA:Str→Option Value}(I:Xl h x dx C mA):∃ od,PySem.W.InstAt h x (PySem.W.instObj C dx) C (some od)∧∀ name,PySem.W.lookIn name od=some (mA name) :=
 let ⟨od,ho,hl⟩:=Le I.ns
 ⟨od,⟨I.obj,rfl,rfl,ho⟩,hl⟩
section
variable{P:Program}{w:World}{H H':Hp}{h h':Heap}{a C dx:Addr}{fs fs':List (Str×V)}
theorem Tf(hok:qX P w H h)(e:H a=some (.ins C dx fs)):∃ mA,Xl h a dx C mA∧(∀ f,Ji (fs.lookup f) (mA f))∧PySem.Within mA (fs.map (·.1))∧fs.length≤1000∧H dx=some (.own a):=by
 obtain⟨d,z,ne,ob,mA,n,r,q⟩:=(show cu P w H h a (.ins C dx fs) from hok a _ e)
 exact⟨mA,⟨ob,n,ne⟩,r,q,z,d⟩
end
structure Cls(K:PySem.W.Frag)(C:Addr):Prop where
 pg:PySem.W.plainGet K C Str.empty=true
 hd:PySem.W.hasDictIn K C=true
 po:PySem.W.plainOver K C=true
 sa:PySem.W.findIn K (.ref C) "__setattr__" = some (some (.builtin "object.__setattr__"))
theorem Cls.get{K:PySem.W.Frag}{C:Addr}(c:Cls K C)(f:Str):PySem.W.plainGet K C f=true:=c.pg
section
variable{X:Cx}{pins:List (Addr×Obj)}{σ : St}{H:Hp}{s:Shared}{A:Around}{E:Value→Shared→Prop}{Q:Value→Shared→Prop}{c:Value}{b:Bool}
inductive uQ(K:PySem.W.Frag)(H:Hp):V→Value→Prop where
 | non:uQ K H .non (.type "NoneType")
 | bl (x:Bool):uQ K H (.bl x) (.type "bool")
 | int (i:Int):uQ K H (.int i) (.type "int")
 | str (x:Str):uQ K H (.str x) (.type "str")
 | flt (x:UInt64):uQ K H (.flt x) (.type "float")
 | lst {a:Addr} {xs:List V} (e:H a=some (.lst xs)):uQ K H (.ref a) (.type "list")
 | frz {a:Addr} {o:Obj} {xs:List V} (e:H a=some (.frz o (.lst xs))):uQ K H (.ref a) (.type "list")
 | tup {a:Addr} {xs:List V} (e:H a=some (.tup xs)):uQ K H (.ref a) (.type "tuple")
 | dK {a:Addr} {kvs:List (Key×V)} (e:H a=some (.dK kvs)):uQ K H (.ref a) (.type "dict")
 | dT {a:Addr} {kvs:List (List Key×V)} (e:H a=some (.dT kvs)):uQ K H (.ref a) (.type "dict")
 | ins {a C dx:Addr} {fs:List (Str×V)} (e:H a=some (.ins C dx fs)) (cl:Cls K C) (ha:PySem.W.findIn K (.ref C) "__class__" = some (some (.builtin "object.__class__")))
  (hn:PySem.W.specialIn K (.builtin "object.__class__") "__get__" = some (some (.builtin "getset_descriptor.__get__"))) (htk:PySem.W.takesIn K (.builtin "object.__class__")=some true)
  (hm:PySem.W.mroIn K C (.type "object")=some true):uQ K H (.ref a) (.ref C)
theorem Ln{x:V}{u t:Value}(I:Inv X pins σ H s)(rx:RelV x u)(ty:uQ X.K H x t)(e:PySem.W.kitOne X.K t c=some b)(h:∀ tk,Q (.bool b) { s with toks:=tk }) :
 wpAny (model X.prog X.w) A (call (.builtin "isinstance") [u,c]) Q E s:=by
 cases ty with
 | non=>cases (show u=Value.none from rx);exact PySem.W.kia_one PySem.W.kitx_none I.Fq True.intro e (fun z=>nomatch z) h
 | bl y=>cases (show u=Value.bool y from rx);exact PySem.W.kia_one PySem.W.kitx_bool I.Fq True.intro e (fun z=>nomatch z) h
 | int i=>obtain⟨t,q⟩:=(show ∃ t,u=Value.int i t from rx);cases q;exact PySem.W.kia_one PySem.W.kitx_int I.Fq True.intro e (fun z=>nomatch z) h
 | str y=>obtain⟨t,q⟩:=(show ∃ t,u=Value.str y t from rx);cases q;exact PySem.W.kia_one PySem.W.kitx_str I.Fq True.intro e (fun z=>nomatch z) h
 | flt y=>obtain⟨t,q⟩:=(show ∃ t,u=Value.float y t from rx);cases q;exact PySem.W.kia_one PySem.W.kitx_float I.Fq True.intro e (fun z=>nomatch z) h
 | @lst a xs ea =>
  cases (show u=Value.ref a from rx)
  obtain⟨_,_,n,_,h1⟩:=(show cu X.prog X.w H s.heap a (.lst xs) from I.hok a _ ea)
  exact PySem.W.kia_one PySem.W.kitx_list I.Fq ⟨_,h1,rfl⟩ e (fun z=>nomatch z) h
 | @frz a ob xs ea =>
  cases (show u=Value.ref a from rx)
  obtain⟨_,_,_,n,_,h1⟩:=(show cu X.prog X.w H s.heap a (.frz ob (.lst xs)) from I.hok a _ ea)
  exact PySem.W.kia_one PySem.W.kitx_list I.Fq ⟨_,h1,rfl⟩ e (fun z=>nomatch z) h
 | @tup a xs ea =>
  cases (show u=Value.ref a from rx)
  obtain⟨_,_,_,p⟩:=(show cu X.prog X.w H s.heap a (.tup xs) from I.hok a _ ea)
  obtain⟨o,h1,h2,_⟩:=p
  exact PySem.W.kia_one PySem.W.kitx_tuple I.Fq ⟨o,h1,h2⟩ e (fun z=>nomatch z) h
 | @dK a kvs ea =>
  cases (show u=Value.ref a from rx)
  obtain⟨_,_,vs,_,p⟩:=(show cu X.prog X.w H s.heap a (.dK kvs) from I.hok a _ ea)
  obtain⟨o,es,ep,h1,h2,_⟩:=p
  exact PySem.W.kia_one PySem.W.kitx_dict I.Fq ⟨o,h1,h2.1⟩ e (fun z=>nomatch z) h
 | @dT a kvs ea =>
  cases (show u=Value.ref a from rx)
  obtain⟨_,_,xs,_,o,es,ep,h1,h2,_⟩:=(show cu X.prog X.w H s.heap a (.dT kvs) from I.hok a _ ea)
  exact PySem.W.kia_one PySem.W.kitx_dict I.Fq ⟨o,h1,h2.1⟩ e (fun z=>nomatch z) h
 | @ins a C dx fs ea cl ha hn htk hm =>
  cases (show u=Value.ref a from rx)
  obtain⟨mA,O,_⟩:=Tf I.hok ea
  obtain⟨od,J,_⟩:=O.look
  exact PySem.W.kia_one (PySem.W.kitx_own (cl.get _) cl.hd ha hn htk hm) I.Fq J e (fun z=>nomatch z) h
end
end L2
namespace L2
open PySem PySem.Spec PyProof.Rows
structure jx(k:Nat)(A:Around):Prop where
 hd:A.handled=none
 dp:A.depth+3 * k+5 < recursionLimit
 un:A.units+16 * k+200 < cLine
theorem jx.mono{j k:Nat}{A:Around}(r:jx k A)(h:j≤k):jx j A:=⟨r.hd,by have:=r.dp;omega,by have:=r.un;omega⟩
theorem jx.deeper{k:Nat}{A:Around}(r:jx (k+1) A)(env:Env):jx k (A.deeper env) :=
 ⟨r.hd,by have:=r.dp;show A.depth+1+3 * k+5 < _;omega,by have:=r.un;show A.units+3+16 * k+200 < _;omega⟩
theorem jx.in1{k:Nat}{A:Around}(r:jx (k+1) A):jx k A.in1 :=
 ⟨r.hd,by have:=r.dp;show A.depth+3 * k+5 < _;omega,by have:=r.un;show A.units+1+16 * k+200 < _;omega⟩
theorem jx.depth{k:Nat}{A:Around}(r:jx k A):A.depth < recursionLimit:=by have:=r.dp;omega
theorem jx.units{k:Nat}{A:Around}(r:jx k A):A.units+64 < cLine:=by have:=r.un;omega
def qZ:TA:=fun _ H Q=>Q [] H
def jG(ta:TE)(tr:TA):TA:=fun σ H Q=>ta σ H fun x H1=>tr σ H1 fun xs H2=>Q (x::xs) H2
section
variable{X:Cx}{e:Expr}{es:List Expr}{te:TE}{t:TA}{pos:Pos}
theorem aA:PA X [] qZ:=fun _ _ _ _ H Q I h=>Calls.spliced_nil ⟨[],H,I,.nil,h⟩
theorem aj(ha:PE X e te)(hr:PA X es t)(hs:starEach (e::es) X.env=(false,eval e X.env)::starEach es X.env:=by rfl):PA X (e::es) (jG te t):=by
 intro pos pins s σ H Q I h
 rw[hs]
 show wpAny _ _ (spliced ((false,eval e X.env)::backTo pos (starEach es X.env))) _ _ s
 refine Calls.spliced_cons (eX (ha pins s σ H _ I h) fun u s1 ⟨x,H1,I1,r1,q1⟩=>?_)
 exact eX (hr pos pins s1 σ H1 _ I1 q1) fun us s2 ⟨xs,H2,I2,r2,q2⟩=>⟨x::xs,H2,I2,.cons r1 r2,q2⟩
def XF(t:TA):TE:=fun σ H Q=>t σ H fun xs H1=>xs.length≤sizeLine∧∀ p,H1 p=none→Q (.ref p) (upd H1 p (.tup xs))
def XQ(t:TA):TE:=fun σ H Q=>t σ H fun xs H1=>xs.length≤sizeLine∧∀ p,H1 p=none→Q (.ref p) (upd H1 p (.lst xs))
theorem bx{x1}(h:PA X es t):PE X (.Tuple es x1 pos) (XF t):=by
 intro pins s σ H Q I hq
 refine wpAny_Tuple_spliced (eX (h pos pins s σ H _ I hq) fun us s1 ⟨xs,H1,I1,r,z,q⟩=>⟨by rw[← r.length];exact z,?_⟩)
 have hf:H1 s1.heap.objs.size=none:=I1.hok.fresh (Nat.le_refl _)
 refine⟨.ref s1.heap.objs.size,upd H1 s1.heap.objs.size (.tup xs),I1.laid (t':=s1.toks) (fun b u e=>Heap.get?_push_of_some _ e) (Nat.le_refl _) ?_,rfl,q _ hf⟩
 exact⟨z,us,r,⟨_,Heap.get?_push_size _ rfl,rfl,rfl,_,rfl⟩⟩
theorem jM(h:PA X es t):PE X (.List es pos) (XQ t):=by
 intro pins s σ H Q I hq
 refine wpAny_List_spliced (eX (h pos pins s σ H _ I hq) fun us s1 ⟨xs,H1,I1,r,z,q⟩=>⟨by rw[← r.length];exact z,?_⟩)
 have hf:H1 s1.heap.objs.size=none:=I1.hok.fresh (Nat.le_refl _)
 refine⟨.ref s1.heap.objs.size,upd H1 s1.heap.objs.size (.lst xs),I1.laid (t':=s1.toks) (fun b u e=>Heap.get?_push_of_some _ e) (Nat.le_refl _) ?_,rfl,q _ hf⟩
 exact⟨z,us,0,r,Heap.get?_push_size _ rfl⟩
end
abbrev Sp:=List V→Hp→VK→XK→Prop
abbrev Jl:=List Env→Hp→Shared→XK→Value→Shared→Prop
structure Ut(P:Program)(w:World)(K:PySem.W.Frag)(mg:Str→Option Value)(base:Heap)(A:Around)(outer:List Env)(s:Shared)(H:Hp):Prop where
 frames:A.frames=some outer
 mod:Mod K mg base
 bs:∀ b o,base.get? b=some o→s.heap.get? b=some o∧H b=none
 bsz:base.objs.size≤s.heap.objs.size
 yN:s.heap.FunFrames base outer
 frf:∀ b∈frs outer,H b=none
 hok:qX P w H s.heap
 bare:AllBare s.gens
def CE(outer:List Env)(P:Program)(w:World)(H:Hp)(s:Shared)(Q:VK)(u:Value)(s':Shared):Prop :=
 ∃ v H',s'.os=s.os∧AllBare s'.gens∧Un (frs outer) [] H H' s.heap s'.heap∧qX P w H' s'.heap∧RelV v u∧Q v H'
def CR(CX:Jl)(outer:List Env)(P:Program)(w:World)(H:Hp)(s:Shared)(Q:VK)(E:XK)(r:Result)(s':Shared):Prop :=
 match r with
 | .ok (.ret u)=>CE outer P w H s Q u s'
 | .ok _=>False
 | .error e=>CX outer H s E e s'
structure dG(P:Program)(w:World)(K:PySem.W.Frag)(mg:Str→Option Value)(base:Heap)(CX:Jl)(k:Nat)(f:Addr)(fd:FuncData)(ps:List Str)(sp:Sp):Prop where
 len:∀ vs H Q E,sp vs H Q E→vs.length=ps.length
 run:∀ (A:Around) (outer:List Env) (s:Shared) (H:Hp) (args:Args) (us:List Value) (vs:List V) (Q:VK) (E:XK),jx k A→Ut P w K mg base A outer s H→BindsTo s fd args (ps.zip us)→Vals vs us→sp vs H Q E →
  codeAny (model P w) A (.call (.ref f) args) (CR CX outer P w H s Q E) s
theorem dG.imp{P:Program}{w:World}{K:PySem.W.Frag}{mg:Str→Option Value}{base:Heap}{CX:Jl}{k:Nat}{f:Addr}{fd:FuncData}{ps:List Str}{sp sp':Sp}(F:dG P w K mg base CX k f fd ps sp)
 (h:∀ vs H Q E,sp' vs H Q E→sp vs H Q E):dG P w K mg base CX k f fd ps sp' :=
 ⟨fun vs H Q E q=>F.len vs H Q E (h _ _ _ _ q),fun A outer s H args us vs Q E hr he hb hv hs=>F.run A outer s H args us vs Q E hr he hb hv (h _ _ _ _ hs)⟩
section
variable{X:Cx}{pins:List (Addr×Obj)}{σ : St}{H:Hp}{s s':Shared}
theorem Inv.env0(I:Inv X pins σ H s):Ut X.prog X.w X.K X.mg X.base X.A X.stack s H :=
 ⟨I.ok.frames,I.ok.mod,I.bs,Nat.le_trans I.ok.bsz I.sz,I.stack,I.BW,I.hok,I.bare⟩
theorem Inv.after{Q:VK}{u:Value}(I:Inv X pins σ H s)(h:CE X.stack X.prog X.w H s Q u s'):EP X pins σ Q u s':=by
 obtain⟨v,H',os,bare,un,hok,r,q⟩:=h
 obtain⟨hh,g,d,t,os'⟩:=s'
 obtain rfl:os'=s.os:=os
 exact⟨v,H',I.call (h':=hh) (g':=g) (d':=d) (t':=t) (ch:=[]) un hok bare (fun b z=>absurd z (by simp)),r,q⟩
end
def vQ(sp:Sp)(dvs:List V)(E:XK)(t:TA):TE:=fun σ H Q=>t σ H fun vs H1=>sp (vs++dvs) H1 Q E
def Binds(K:PySem.W.Frag)(fd:FuncData)(ps:List Str)(ds:List Value):Prop :=
 ∀ (s:Shared) (us:List Value),K.In s.heap→(us++ds).length=ps.length→BindsTo s fd ⟨us,[]⟩ (ps.zip (us++ds))
theorem Binds.all{K:PySem.W.Frag}{fd:FuncData}{ps:List Str}(h:∀ us:List Value,us.length=ps.length→bindArgs fd ⟨us,[]⟩=pure (ps.zip us)):Binds K fd ps []:=fun s us _ hl=>by
 rw[List.append_nil] at hl ⊢
 exact .of_eq (h us hl)
def Du(CX:Jl)(X:Cx)(E:XK):Prop:=∀ (pins:List (Addr×Obj)) (σ : St) (H:Hp) (s:Shared) (e:Value) (s':Shared),Inv X pins σ H s→CX X.stack H s E e s'→X.xe e s'
section
variable{X:Cx}{CX:Jl}{k:Nat}{f C:Addr}{fd:FuncData}{ps:List Str}{sp:Sp}{dvs:List V}{ds:List Value}{E:XK}{x m:Str}{p pos apos:Pos}{e o:Expr}{es:List Expr}{ta:TE}{t:TA}
theorem VM{pins:List (Addr×Obj)}{σ : St}{H:Hp}{s:Shared}{Q:VK}{us:List Value}{vs:List V}(F:dG X.prog X.w X.K X.mg X.base CX k f fd ps sp)(hr:jx k X.A)(hb:Binds X.K fd ps ds)(hd:Vals dvs ds)(hx:Du CX X E)
 (I:Inv X pins σ H s) (r:Vals vs us) (h:sp (vs++dvs) H Q E):wpAny (model X.prog X.w) X.A (call (.ref f) us) (EP X pins σ Q) X.xe s:=by
 have r2:Vals (vs++dvs) (us++ds):=r.append hd
 have hl:(us++ds).length=ps.length:=by rw[← r2.length];exact F.len _ _ _ _ h
 refine wpAny_call (codeAny_mono (F.run X.A X.stack s H ⟨us,[]⟩ (us++ds) (vs++dvs) Q E hr I.env0 (hb s us I.Fq hl) r2 h) fun r s' hq=>?_)
 cases r with
 | error e=>exact hx pins σ H s e s' I hq
 | ok fl =>
  cases fl with
  | ret u=>exact I.after hq
  | next=>exact False.elim hq
  | brk=>exact False.elim hq
  | cont=>exact False.elim hq
theorem R5(F:dG X.prog X.w X.K X.mg X.base CX k f fd ps sp)(hr:jx k X.A)(hg:Gl X x)(hm:X.mg x=some (.ref f))(hk:PySem.W.keepIn X.K (.ref f)=true)(hb:Binds X.K fd ps ds)(hd:Vals dvs ds)(hx:Du CX X E)
 (ha:PA X (e::es) t) (hdb:(x == ("__debug__" : Str))=false:=by decide) (he:starEach (e::es) X.env=(false,eval e X.env)::starEach es X.env:=by rfl) (hpl:(backTo pos (starEach es X.env)).any (·.1)=false:=by rfl) :
 PE X (.Call (.Name x p) (e::es) [] pos) (vQ sp dvs E t):=by
 intro pins s σ H Q I h
 refine wpAny_Call_Name_kw (SM I hg hm ?_ hdb)
 refine PySem.W.callWith_K (h₀:=X.base) I.ok.mod.kin hk (eX (ha pos pins s σ H _ I h) fun us s1 ⟨vs,H1,I1,r,q⟩=>⟨I1.Fq,?_⟩) he hpl
 exact VM F hr hb hd hx I1 r q
end
structure bL(N P:List Str)(sc:Scope):Prop where
 kind:sc.kind=.function
 co:sc.isCoroutine=false
 gen:sc.isGenerator=false
 nd:N.Nodup
 pre:N.take P.length=P
 par:∀ x∈P,sc.names.lookup x=some .local∨sc.names.lookup x=some .cell
 Wk:∀ y∈sc.names,y.2≠.free
theorem Ay{kindOf:Str→Option NameKind}{x:Str}:∀ {binds:List (Str×Value)} {m:Str→Option Value},(∀ v,(x,v)∉binds)→bindL kindOf binds m x=m x
 | [],_,_=>rfl
 | (n,v)::r,m,h=>by
  unfold bindL
  rw[Ay fun w hw=>h w (List.mem_cons_of_mem _ hw)]
  split
  ·have:x≠n:=by rintro rfl;exact h v List.mem_cons_self
   simp[this]
  ·rfl
theorem Ba{kindOf:Str→Option NameKind}{x:Str}:∀ {binds:List (Str×Value)} {m:Str→Option Value},(∀ v,(x,v)∉binds)→bindC kindOf binds m x=m x
 | [],_,_=>rfl
 | (n,v)::r,m,h=>by
  unfold bindC
  rw[Ba fun w hw=>h w (List.mem_cons_of_mem _ hw)]
  split
  ·rfl
  ·have:x≠n:=by rintro rfl;exact h v List.mem_cons_self
   simp[this]
theorem Az{kindOf:Str→Option NameKind}{x:Str}{v:Value}:∀ {P:List Str} {vs:List Value} {i:Nat} {m:Str→Option Value},P.Nodup→P[i]? = some x→vs[i]? = some v→kindOf x=some .local →
 bindL kindOf (P.zip vs) m x=some v
 | [],_,_,_,_,h,_,_=>by simp at h
 | _::_,[],_,_,_,_,h,_=>by simp at h
 | p::P,w::vs,0,m,nd,h1,h2,hk=>by
  simp at h1 h2;subst h1;subst h2
  show bindL kindOf ((p,w)::P.zip vs) m p=_
  unfold bindL
  rw[Ay fun v hv=>(List.nodup_cons.mp nd).1 (List.of_mem_zip hv).1,if_pos hk]
  simp
 | p::P,w::vs,i+1,m,nd,h1,h2,hk=>by
  show bindL kindOf ((p,w)::P.zip vs) m x=_
  unfold bindL
  exact Az (i:=i) (List.nodup_cons.mp nd).2 (by simpa using h1) (by simpa using h2) hk
theorem Bb{kindOf:Str→Option NameKind}{x:Str}{v:Value}:∀ {P:List Str} {vs:List Value} {i:Nat} {m:Str→Option Value},P.Nodup→P[i]? = some x→vs[i]? = some v→kindOf x≠some .local →
 bindC kindOf (P.zip vs) m x=some v
 | [],_,_,_,_,h,_,_=>by simp at h
 | _::_,[],_,_,_,_,h,_=>by simp at h
 | p::P,w::vs,0,m,nd,h1,h2,hk=>by
  simp at h1 h2;subst h1;subst h2
  show bindC kindOf ((p,w)::P.zip vs) m p=_
  unfold bindC
  rw[Ba fun v hv=>(List.nodup_cons.mp nd).1 (List.of_mem_zip hv).1,if_neg hk]
  simp
 | p::P,w::vs,i+1,m,nd,h1,h2,hk=>by
  show bindC kindOf ((p,w)::P.zip vs) m x=_
  unfold bindC
  exact Bb (i:=i) (List.nodup_cons.mp nd).2 (by simpa using h1) (by simpa using h2) hk
def start(N:List Str)(vs:List V):St:=vs.map some++List.replicate (N.length - vs.length) none
def Im(CX:Jl)(P:Program)(w:World)(K:PySem.W.Frag)(mg:Str→Option Value)(base:Heap)(N:List Str)(qual:Str)(scope:Scope)(f:Addr)(cd:Value)(A:Around)(outer:List Env)(s:Shared)(H:Hp)(E:XK):Cx where
 prog:=P
 w:=w
 K:=K
 mg:=mg
 base:=base
 A:=A.deeper (envOfC qual scope s.heap.objs.size f cd)
 N:=N
 s₀:=s
 H₀:=H
 env:=envOfC qual scope s.heap.objs.size f cd
 outer:=outer
 stack:=envOfC qual scope s.heap.objs.size f cd::outer
 ex:=[]
 calm:=true
 fn:=fun _=>true
 pn:=[]
 xe:=fun e s'=>wpAny (model P w) (A.deeper (envOfC qual scope s.heap.objs.size f cd)) (leaving (envOfC qual scope s.heap.objs.size f cd) e) (fun _ s''=>CX outer H s E e s'') (fun e' s''=>CX outer H s E e' s'') s'
theorem Gh{sc:Scope}{n:Nat}{x:Str}(h:sc.names.lookup x=some .cell):∃ c,(cellsFrom n sc.names []).lookup x=some c:=by
 have q:=PySem.W.cellsFrom_some sc.names n [] (.inl h)
 exact Option.isSome_iff_exists.mp q
theorem Lp{CX:Jl}{P:Program}{w:World}{K:PySem.W.Frag}{mg:Str→Option Value}{base:Heap}{N ps:List Str}{qual:Str}{scope:Scope}{f:Addr}{cd:Value}{A:Around}{outer:List Env}{s s1:Shared}{H:Hp}{E:XK}{us:List Value}{vs:List V}
 (S:bL N ps scope) (hd:A.handled=none) (e0:Ut P w K mg base A outer s H) (hl:vs.length=ps.length) (r:Vals vs us)
 (x:InCallC s s.heap.objs.size (bindL (envOfC qual scope s.heap.objs.size f cd).kindOf (ps.zip us) fun _=>none) (cellsFrom (s.heap.objs.size+1) scope.names []) (bindC (envOfC qual scope s.heap.objs.size f cd).kindOf (ps.zip us) fun _=>none) s1) :
 Inv (Im CX P w K mg base N qual scope f cd A outer s H E) [] (start N vs) H s1:=by
 have hpl:ps.length≤N.length:=by have:=congrArg List.length S.pre;rw[List.length_take] at this;omega
 obtain⟨h1,tk,rfl,hk⟩:=x.done
 have noA:∀ b:Addr,b∉(Im CX P w K mg base N qual scope f cd A outer s H E).ex:=fun b z=>absurd (show b∈([]:List Addr) from z) (by simp)
 refine⟨⟨e0.mod,S.kind,rfl,rfl,Nat.le_refl _,fun y z c h1 h2=>?_,fun y hy=>?_,fun y c _ h=>?_,fun _=>hd,Around.frames_deeper e0.frames,.inr ⟨rfl,rfl⟩,fun b z=>absurd z (noA b),e0.bs,e0.bsz,fun b _ _=>noA b,fun b z=>absurd z (noA b),e0.yN,e0.frf⟩,
  rfl,e0.bare,Un.kept hk,⟨_,x.toInCall.ns,fun i y v h1 h2 h3=>?_⟩,fun y c h=>⟨_,x.cell y c h⟩,e0.hok.fresh (Nat.le_refl _),fun y c h=>?_,fun p hp=>absurd (show p∈([]:List (Addr×Obj)) from hp) (by simp),e0.hok.kept hk,?_⟩
 ·exact name_of_addr x.apart (PySem.mem_of_lookup h1) (PySem.mem_of_lookup h2)
 ·have hy:scope.names.lookup y=some .cell∨scope.names.lookup y=some .free:=hy
  rcases hy with hy|hy
  ·exact Gh hy
  ·exact absurd rfl (S.Wk _ (PySem.mem_of_lookup hy))
 ·exact Nat.le_of_lt (x.above y c (PySem.mem_of_lookup h))
 ·have hi:i < vs.length:=by
   unfold start at h2
   by_cases hi:i < vs.length
   ·exact hi
   ·rw[List.getElem?_append_right (by simpa using hi)] at h2
    rw[List.getElem?_replicate] at h2
    split at h2<;>cases h2
  have ha:vs[i]? = some v:=by
   unfold start at h2
   rw[List.getElem?_append_left (by simpa using hi),List.getElem?_map] at h2
   cases e:vs[i]? with
   | none=>rw[e] at h2;cases h2
   | some a=>rw[e] at h2;cases h2;rfl
  obtain⟨u,hu,rv⟩:=r.get ha
  have hp:ps[i]? = some y:=by
   rw[← S.pre,List.getElem?_take_of_lt (by omega)];exact h1
  have ndP:ps.Nodup:=by rw[← S.pre];exact S.nd.sublist (List.take_sublist _ _)
  refine⟨u,rv,?_⟩
  rcases S.par y (List.mem_of_getElem? hp) with k|k
  ·exact .inl ⟨k,Az ndP hp hu k⟩
  ·obtain⟨c,e⟩:=Gh (n:=s.heap.objs.size+1) k
   refine .inr ⟨.inl k,c,e,?_⟩
   have q:=x.cell y c e
   rw[Bb ndP hp hu (by show scope.names.lookup y≠_;rw[k];decide)] at q
   exact q
 ·exact e0.hok.fresh (Nat.le_of_lt (x.above y c (PySem.mem_of_lookup h)))
 ·unfold start
  show _=N.length
  rw[List.length_append,List.length_map,List.length_replicate]
  omega
theorem Vg{CX:Jl}{P:Program}{w:World}{K:PySem.W.Frag}{mg:Str→Option Value}{base:Heap}{k:Nat}{f:Addr}{name qual:Str}{params:Arguments}{body:List Stmt}{scope:Scope}{dV kV doc pm cdv ct oc:Value}{an od:Option Addr}
 {osl:Array (Option Value)} {N ps:List Str} {sp:Sp} (lk:K.lookup f=some ⟨oc,od,.func (PySem.W.fnOf name qual params body scope dV kV doc pm an cdv ct),osl⟩) (hcd:PySem.W.codeIn K cdv qual=true) (S:bL N ps scope)
 (len:∀ vs H Q E,sp vs H Q E→vs.length=ps.length)
 (hbody:∀ (A:Around) (outer:List Env) (s:Shared) (H:Hp) (vs:List V) (Q:VK) (E:XK),jx k (A.deeper (envOfC qual scope s.heap.objs.size f cdv))→sp vs H Q E →
  ∃ t,Km (Im CX P w K mg base N qual scope f cdv A outer s H E) body t∧t { nx:=fun _ H'=>Q .non H',rt:=Q } (start N vs) H) :
 dG P w K mg base CX (k+1) f (PySem.W.fnOf name qual params body scope dV kV doc pm an cdv ct) ps sp:=by
 refine⟨len,fun A outer s H args us vs Q E hr e0 hb r hsp=>?_⟩
 have hl:=len _ _ _ _ hsp
 have KX:K.In s.heap:=e0.mod.kin.keeps fun b o e=>(e0.bs b o e).1
 have lim:s.heap.NoLimit:=e0.mod.nolimit.keeps fun b o e=>(e0.bs b o e).1
 have hkind:∀ y∈ps.zip us,scope.names.lookup y.1=some .local∨(scope.names.lookup y.1=some .cell∧((cellsFrom (s.heap.objs.size+1) scope.names []).lookup y.1).isSome=true):=fun ⟨n,v⟩ hy=>by
  rcases S.par n (List.of_mem_zip hy).1 with q|q
  ·exact .inl q
  ·exact .inr ⟨q,PySem.W.cellsFrom_some _ _ _ (.inl q)⟩
 refine codeAny_call_function hr.depth (KX _ _ lk) rfl S.co S.gen rfl (PySem.W.codeRec_of KX hcd) (hb _ _ _ _ ?_)
 refine wpAny_newFunctionEnv_cells S.kind hkind fun env he s1 x=>?_
 subst he
 refine⟨lim.keeps x.toInCall.keep,codeAny_func ?_⟩
 obtain⟨t,ht,hq⟩:=hbody A outer s H vs Q E (hr.deeper _) hsp
 have I:Inv (Im CX P w K mg base N qual scope f cdv A outer s H E) [] (start N vs) H s1:=Lp S hr.hd e0 hl r x
 refine wpAny_mono (ht [] s1 (start N vs) H _ I hq) (fun fl s' hs=>?_) fun e s' hs=>hs
 have fin:∀ {σ':St} {H':Hp} {v:V} {u:Value},Inv (Im CX P w K mg base N qual scope f cdv A outer s H E) [] σ' H' s'→RelV v u→Q v H'→CE outer P w H s Q u s' :=
  fun {σ' H' v u} J rv q=>⟨v,H',J.os,J.bare,J.base,J.hok,rv,q⟩
 cases fl with
 | ret u =>
  obtain⟨v,σ',H',J,rv,q⟩:=hs
  exact fin J rv q
 | next =>
  obtain⟨σ',H',J,q⟩:=hs
  exact fin (v:=V.non) (u:=Value.none) J rfl q
 | brk =>
  obtain⟨_,_,_,q⟩:=hs
  exact False.elim q
 | cont =>
  obtain⟨_,_,_,q⟩:=hs
  exact False.elim q
end L2
namespace L2
open PySem PySem.Spec PyProof.Rows
section
variable{X:Cx}{x:Str}{p pos:Pos}{e:Expr}{es:List Expr}{t:TA}{id T:String}{r:List V→Hp→VK→Prop}
def Ru(r:List V→Hp→VK→Prop)(t:TA):TE:=fun σ H Q=>t σ H fun vs H1=>r vs H1 Q
theorem bJ(hc:jg X (.builtin id) r)(hg:Gl X x)(hm:X.mg x=none)(hv:bootBuiltins x=some (.builtin id))(ha:PA X (e::es) t)(hn:x ≠ "__name__" := by decide)(hdb:(x == ("__debug__" : Str))=false:=by decide)
 (he:starEach (e::es) X.env=(false,eval e X.env)::starEach es X.env:=by rfl) (hpl:(backTo pos (starEach es X.env)).any (·.1)=false:=by rfl):PE X (.Call (.Name x p) (e::es) [] pos) (Ru r t):=by
 intro pins s σ H Q I h
 refine wpAny_Call_Name_kw (vz I hg hm hv ?_ hn hdb)
 exact PyProof.Rows.callWith_builtin1 (eX (ha pos pins s σ H _ I h) fun us s1 ⟨vs,H1,I1,r1,q1⟩=>hc pins s1 σ H1 vs us Q I1 r1 q1) he hpl
theorem iH(hc:jg X (.type T) r)(hg:Gl X x)(hm:X.mg x=none)(hv:bootBuiltins x=some (.type T))(ha:PA X (e::es) t)(hn:x ≠ "__name__" := by decide)(hdb:(x == ("__debug__" : Str))=false:=by decide)
 (he:starEach (e::es) X.env=(false,eval e X.env)::starEach es X.env:=by rfl) (hpl:(backTo pos (starEach es X.env)).any (·.1)=false:=by rfl):PE X (.Call (.Name x p) (e::es) [] pos) (Ru r t):=by
 intro pins s σ H Q I h
 refine wpAny_Call_Name_kw (vz I hg hm hv ?_ hn hdb)
 exact PyProof.Rows.callWith_type1 (eX (ha pos pins s σ H _ I h) fun us s1 ⟨vs,H1,I1,r1,q1⟩=>hc pins s1 σ H1 vs us Q I1 r1 q1) he hpl
end
end L2
namespace HT
open PySem PyProof.Rows
section
variable{prog:Program}{w:World}{A:Around}{E:Value→Shared→Prop}{s:Shared}
def q8(n d:Nat):Option Int→Nat
 | none=>d
 | some v=>if v < 0 then (v+(n:Int)).toNat else min v.toNat n
theorem Ni(n d:Nat)(hd:d≤n)(o:Option Int):q8 n d o≤n:=by
 cases o with
 | none=>exact hd
 | some v =>
  show (if v < 0 then (v+(n:Int)).toNat else min v.toNat n)≤n
  by_cases hv:v < 0
  ·rw[if_pos hv];omega
  ·rw[if_neg hv];exact Nat.min_le_right _ _
end
end HT
namespace L2
open PySem PySem.Spec PyProof.Rows
abbrev TO:=St→Hp→(Option Int→Hp→Prop)→Prop
def PO(X:Cx)(e:Option Expr)(t:TO):Prop :=
 ∀ (pins:List (Addr×Obj)) (s:Shared) (σ : St) (H:Hp) (Q:Option Int→Hp→Prop),Inv X pins σ H s→t σ H Q →
  wpAny (model X.prog X.w) X.A (evalPart e X.env) (fun u s'=>∃ o H',Inv X pins σ H' s'∧IsPart u o∧Q o H') X.xe s
def Jp:TO:=fun _ H Q=>Q none H
def Uz(t:TE):TO:=fun σ H Q=>t σ H fun x H1=>∃ i,x=.int i∧Q (some i) H1
section
variable{X:Cx}{e:Expr}{te:TE}{lo hi:Option Expr}{tl th:TO}{pos p2:Pos}
theorem oZ:PO X none Jp:=by
 intro pins s σ H Q I h
 rw[evalPart_none]
 exact wpAny_pure ⟨none,H,I,.none,h⟩
theorem oY(h:PE X e te):PO X (some e) (Uz te):=by
 intro pins s σ H Q I hw
 rw[evalPart_some]
 refine eX (h pins s σ H _ I hw) fun u s1 ⟨x,H1,I1,r1,q1⟩=>?_
 obtain⟨i,rfl,q⟩:=q1
 obtain⟨t,rfl⟩:=r1
 exact⟨some i,H1,I1,.int i t,q⟩
def Ri(X:Cx)(r:V→Option Int→Option Int→Hp→VK→Prop):Prop :=
 ∀ (pins:List (Addr×Obj)) (s:Shared) (σ : St) (H:Hp) (x:V) (v vl vu:Value) (lo hi:Option Int) (sl:Addr) (Q:VK),Inv X pins σ H s→RelV x v→s.heap.IsSliceOf sl vl vu .none→IsPart vl lo→IsPart vu hi→r x lo hi H Q →
  ∃ T id,typeLookup (.type T) "__getitem__" = pure (some (.builtin id))∧s.TypeIs v T∧wpAny (model X.prog X.w) X.A (getItem v (.ref sl)) (EP X pins σ Q) X.xe s
theorem Ri.or{r r':V→Option Int→Option Int→Hp→VK→Prop}(h:Ri X r)(h':Ri X r'):Ri X (fun x lo hi H Q=>r x lo hi H Q∨r' x lo hi H Q):=by
 intro pins s σ H x v vl vu lo hi sl Q I rx hs pl pu q
 rcases q with q|q
 ·exact h pins s σ H x v vl vu lo hi sl Q I rx hs pl pu q
 ·exact h' pins s σ H x v vl vu lo hi sl Q I rx hs pl pu q
def tSl(r:V→Option Int→Option Int→Hp→VK→Prop)(te:TE)(tl th:TO):TE:=fun σ H Q=>te σ H fun x H1=>tl σ H1 fun l H2=>th σ H2 fun u H3=>r x l u H3 Q
theorem lq{r:V→Option Int→Option Int→Hp→VK→Prop}(hr:Ri X r)(he:PE X e te)(hl:PO X lo tl)(hu:PO X hi th):PE X (.Subscript e (.Slice lo hi none p2) pos) (tSl r te tl th):=by
 intro pins s σ H Q I h
 refine Subscript_ (eX (he pins s σ H _ I h) fun v s1 ⟨x,H1,I1,r1,q1⟩=>?_)
 refine wpAny_Slice (eX (hl pins s1 σ H1 _ I1 q1) fun vl s2 ⟨l,H2,I2,pl,q2⟩=>eX (hu pins s2 σ H2 _ I2 q2) fun vu s3 ⟨u,H3,I3,pu,q3⟩=>?_)
 rw[evalPart_none]
 refine wpAny_pure ?_
 have I4:Inv X pins σ H3 { s3 with heap:=s3.heap.push { cls:=.type "slice", data:=.fields #[vl,vu,.none] } }:=I3.kept (t':=s3.toks) fun b ob q=>Heap.get?_push_of_some _ q
 obtain⟨T,id,hT,ht,hg⟩:=hr pins { s3 with heap:=s3.heap.push { cls:=.type "slice", data:=.fields #[vl,vu,.none] } } σ H3 x v vl vu l u s3.heap.objs.size Q I4 r1 (Heap.IsSliceOf.new ..) pl pu q3
 show wpAny (model X.prog X.w) X.A (subscriptTail e (.Slice lo hi none p2) v (.ref s3.heap.objs.size)) (EP X pins σ Q) X.xe { s3 with heap:=s3.heap.push { cls:=.type "slice", data:=.fields #[vl,vu,.none] } }
 exact tail_any (ops:=[.ref s3.heap.objs.size,v]) ht hT hg (by with_unfolding_all rfl)
def LC(xs:List V)(lo hi:Option Int):List V:=(xs.drop (HT.q8 xs.length 0 lo)).take (HT.q8 xs.length xs.length hi - HT.q8 xs.length 0 lo)
theorem Ga(xs:List V)(lo hi:Option Int):(LC xs lo hi).length≤xs.length:=by
 unfold LC
 rw[List.length_take,List.length_drop]
 omega
end
end L2
namespace L2
open PySem PySem.Spec PyProof.Rows
def De(n:Nat)(i:Int):Option Nat:=if 0≤i then (if i < n then some i.toNat else none) else if -(n:Int)≤i then some (i+n).toNat else none
def pF{α : Type}(xs:List α)(i:Int):Option α:=(De xs.length i).bind fun j=>xs[j]?
theorem Tc{n:Nat}{i:Int}{j:Nat}(h:De n i=some j):seqIndex? i n=some j∧j < n∧-(n:Int)≤i∧i < n:=by
 unfold De at h
 by_cases h0:0≤i
 ·rw[if_pos h0] at h
  by_cases h1:i < n
  ·rw[if_pos h1] at h
   have e:i.toNat=j:=Option.some.inj h
   exact⟨by rw[seqIndex_of h0 h1,e],by omega,by omega,h1⟩
  ·rw[if_neg h1] at h;cases h
 ·rw[if_neg h0] at h
  by_cases h1:-(n:Int)≤i
  ·rw[if_pos h1] at h
   have e:(i+n).toNat=j:=Option.some.inj h
   exact⟨by rw[seqIndex_neg (by omega) h1,e],by omega,h1,by omega⟩
  ·rw[if_neg h1] at h;cases h
theorem Dp{α : Type}{xs:List α}{i:Int}{v:α}(h:pF xs i=some v):∃ j,seqIndex? i xs.length=some j∧xs[j]? = some v∧j < xs.length∧-(xs.length:Int)≤i∧i < xs.length:=by
 unfold pF at h
 cases e:De xs.length i with
 | none=>rw[e] at h;cases h
 | some j =>
  rw[e] at h
  obtain⟨h1,h2,h3,h4⟩:=Tc e
  exact⟨j,h1,h,h2,h3,h4⟩
def Uq(b:Expr):Prop:=∀ o i,subscripted b false o i=operate [o,i] (getItem o i)
def Ur(X:Cx)(r:R2):Prop :=
 ∀ (value slice:Expr) (pins:List (Addr×Obj)) (s:Shared) (σ : St) (H:Hp) (x y:V) (v u:Value) (Q:VK),Inv X pins σ H s→RelV x v→RelV y u→r x y H Q →
  subscripted slice false v u=operate [v,u] (getItem v u)→wpAny (model X.prog X.w) X.A (subscriptTail value slice v u) (EP X pins σ Q) X.xe s
def Ro(X:Cx)(id:String)(r:V→List V→Hp→VK→Prop):Prop :=
 ∀ (pins:List (Addr×Obj)) (s:Shared) (σ : St) (H:Hp) (x:V) (xs:List V) (v:Value) (us:List Value) (Q:VK),Inv X pins σ H s→RelV x v→Vals xs us→r x xs H Q →
  wpAny (model X.prog X.w) X.A (call (.builtin id) (v::us)) (EP X pins σ Q) X.xe s
section
variable{X:Cx}{a b:Expr}{ta tb:TE}{pos:Pos}
theorem Ur.or{r r':R2}(h:Ur X r)(h':Ur X r'):Ur X (fun x y H Q=>r x y H Q∨r' x y H Q):=by
 intro value slice pins s σ H x y v u Q I rx ry q hs
 rcases q with q|q
 ·exact h value slice pins s σ H x y v u Q I rx ry q hs
 ·exact h' value slice pins s σ H x y v u Q I rx ry q hs
theorem bu{r:R2}(hr:Ur X r)(ha:PE X a ta)(hb:PE X b tb)(hs:Uq b):PE X (.Subscript a b pos) (XM r ta tb):=by
 intro pins s σ H Q I h
 exact Subscript_ (W8 ha hb I h fun v u s2 x y H2 I2 rx ry q=>hr a b pins s2 σ H2 x y v u Q I2 rx ry q (hs _ _))
def Yv(K:PySem.W.Frag):R2:=fun x y H Q=>∃ p xs i v,x=.ref p∧y=.int i∧xm K H p xs∧pF xs i=some v∧Q v H
def Yt(K:PySem.W.Frag):R2:=fun x y H Q=>∃ p xs i v,x=.ref p∧y=.int i∧zr K H p xs∧pF xs i=some v∧Q v H
def Yu:R2:=fun x y H Q=>∃ z i c,x=.str z∧y=.int i∧z.length≤sizeLine∧pF z.cps.toList i=some c∧Q (.str ⟨#[c]⟩) H
theorem S9:Ur X (Yv X.K):=by
 intro value slice pins s σ H x y v u Q I rx ry h hs
 obtain⟨p,xs,i,z,rfl,rfl,hq,he,q⟩:=h
 cases rx
 obtain⟨t,rfl⟩:=ry
 obtain⟨its,r,pl,hz⟩:=I.list hq
 obtain⟨j,h1,h2,h3,h4,h5⟩:=Dp he
 obtain⟨w,ew,rw'⟩:=r.get h2
 have hl:=r.length
 have hn:=yE
 have fin:EP X pins σ Q w s:=⟨z,H,I,rw',q⟩
 by_cases h0:0≤i
 ·have hj:i.toNat=j:=by
   rw[seqIndex_of h0 h5] at h1
   exact Option.some.inj h1
  exact item_listR pl.isList h0 (by omega) (by rw[hj];simpa using ew) fin hs
 ·have hj:(i+(its.toArray.size:Int)).toNat=j:=by
   rw[seqIndex_neg (by omega) h4] at h1
   rw[List.size_toArray,← hl]
   exact Option.some.inj h1
  exact subscriptTail_builtinR (x:=w) pl.isList.typeIs slot_list_getitem.lookup
   (wpAny_getItem_list_neg (Q:=fun r s'=>r=w∧EP X pins σ Q r s') pl.isList (by omega) (by rw[List.size_toArray]<;>omega) (by omega) (by rw[hj];simpa using ew) ⟨rfl,fin⟩) hs
theorem Wy:Ur X (Yt X.K):=by
 intro value slice pins s σ H x y v u Q I rx ry h hs
 obtain⟨p,xs,i,z,rfl,rfl,hq,he,q⟩:=h
 cases rx
 obtain⟨t,rfl⟩:=ry
 obtain⟨its,r,pl,hz⟩:=I.tuple hq
 obtain⟨j,h1,h2,h3,h4,h5⟩:=Dp he
 obtain⟨w,ew,rw'⟩:=r.get h2
 have hl:=r.length
 have hn:=yE
 have fin:EP X pins σ Q w s:=⟨z,H,I,rw',q⟩
 exact subscriptTail_builtinR (x:=w) pl.typeIs slot_tuple_getitem.lookup
  (getItem_tuple (j:=j) (Q:=fun r s'=>r=w∧EP X pins σ Q r s') pl (by omega) (by omega) (by rw[List.size_toArray,← hl];exact h1) (by simpa using ew) ⟨rfl,fin⟩) hs
theorem Wz:Ur X Yu:=by
 intro value slice pins s σ H x y v u Q I rx ry h hs
 obtain⟨z,i,c,rfl,rfl,hz,he,q⟩:=h
 obtain⟨t,rfl⟩:=rx
 obtain⟨t',rfl⟩:=ry
 obtain⟨j,h1,h2,h3,h4,h5⟩:=Dp he
 have hl:z.cps.toList.length=z.length:=by simp[Str.length]
 rw[hl] at h1 h4 h5
 have hn:=yE
 exact tail_any (typeIs_str s z t) slot_str_getitem.lookup (getItem_str (c:=c) (by
  have e1:decide (i < -(2 ^ 63:Int))=false:=decide_eq_false (by omega)
  have e2:decide (i ≥ 2 ^ 63)=false:=decide_eq_false (by omega)
  rw[e1,e2,Bool.or_false]) (by rw[h1];simpa using h2) ⟨.str ⟨#[c]⟩,H,I.tok _,⟨_,rfl⟩,q⟩) hs
def rIx(K:PySem.W.Frag):R2:=fun x y H Q=>Yv K x y H Q∨Yt K x y H Q∨Yu x y H Q
theorem aV:Ur X (rIx X.K):=S9.or (Wy.or Wz)
theorem BZ(lo hi:Option Int)(n:Nat):(sliceBounds lo hi none n).1=((HT.q8 n 0 lo:Nat):Int)∧(sliceBounds lo hi none n).2.1=((HT.q8 n n hi:Nat):Int)∧(sliceBounds lo hi none n).2.2=1:=by
 refine⟨?_,?_,rfl⟩
 ·cases lo with
  | none=>simp[sliceBounds,HT.q8]
  | some i =>
   simp only[sliceBounds,HT.q8,Option.getD_none,show (1:Int) > 0 by decide,if_true]
   by_cases h:i < 0
   ·simp only[h,if_true]<;>omega
   ·simp only[h,if_false]<;>omega
 ·cases hi with
  | none=>simp[sliceBounds,HT.q8]
  | some i =>
   simp only[sliceBounds,HT.q8,Option.getD_none,show (1:Int) > 0 by decide,if_true]
   by_cases h:i < 0
   ·simp only[h,if_true]<;>omega
   ·simp only[h,if_false]<;>omega
theorem zK(its:List Value)(lo hi:Option Int):slicePick its.toArray lo hi none=((its.drop (HT.q8 its.length 0 lo)).take (HT.q8 its.length its.length hi - HT.q8 its.length 0 lo)).toArray:=by
 obtain⟨h1,h2,h3⟩:=BZ lo hi its.toArray.size
 unfold slicePick
 rw[h1,h2,h3]
 simp only[sliceRange_one,pick_run,List.size_toArray]<;>rfl
def V0(K:PySem.W.Frag):V→Option Int→Option Int→Hp→VK→Prop:=fun x lo hi H Q=>∃ a xs,x=.ref a∧xm K H a xs∧∀ p,H p=none→Q (.ref p) (upd H p (.lst (LC xs lo hi)))
theorem Jt:Ri X (V0 X.K):=by
 intro pins s σ H x v vl vu lo hi sl Q I rx hs pl pu h
 obtain⟨a,xs,rfl,hx,q⟩:=h
 cases rx
 obtain⟨its,r,ht,hz⟩:=I.list hx
 have hlen:=r.length
 refine⟨"list", _,slot_list_getitem.lookup,ht.isList.typeIs,?_⟩
 refine wpAny_getItem_list_slice ht.isList hs pl pu .none (by simp) ?_ (by rw[List.size_toArray]<;>omega)
 rw[zK,← hlen]
 refine⟨.ref s.heap.objs.size,_,I.laid (t':=s.toks) (o:=.lst (LC xs lo hi)) (fun b ob q=>Heap.get?_push_of_some _ q) (Nat.le_refl _) ?_,rfl,q _ (I.hok.fresh (Nat.le_refl _))⟩
 exact⟨Nat.le_trans (Ga xs lo hi) hz,_,0,(r.drop (HT.q8 xs.length 0 lo)).take (HT.q8 xs.length xs.length hi - HT.q8 xs.length 0 lo),Heap.get?_push_size _ rfl⟩
def Qk:V→Bool
 | .non=>true
 | .bl _=>true
 | .int _=>true
 | .str _=>true
 | _=>false
def eqV:V→V→Bool
 | .non,.non=>true
 | .bl a,.bl b=>a == b
 | .bl a,.int b=>(if a then 1 else 0) == b
 | .int a,.bl b=>a == (if b then 1 else 0)
 | .int a,.int b=>a == b
 | .str a,.str b=>a == b
 | _,_=>false
theorem WN{A:Around}{s:Shared}{y x:V}{u v:Value}(ry:RelV y u)(rx:RelV x v)(fy:Qk y=true)(fx:Qk x=true):SeqAt.EqAt A s u v (eqV y x):=by
 cases y with
 | non =>
  cases ry
  cases x with
  | non=>cases rx;exact SeqAt.EqAt.same _
  | bl b=>cases rx;exact SeqAt.EqAt.none_bool b
  | int b=>obtain⟨t,rfl⟩:=rx;exact SeqAt.EqAt.none_int b t
  | str b=>obtain⟨t,rfl⟩:=rx;exact SeqAt.EqAt.none_str b t
  | _=>exact absurd (show false=true from fx) Bool.false_ne_true
 | bl a =>
  cases ry
  cases x with
  | non=>cases rx;exact SeqAt.EqAt.bool_none a
  | bl b=>cases rx;exact SeqAt.EqAt.bool_bool a b
  | int b=>obtain⟨t,rfl⟩:=rx;exact SeqAt.EqAt.bool_int a b t
  | str b=>obtain⟨t,rfl⟩:=rx;exact SeqAt.EqAt.bool_str a b t
  | _=>exact absurd (show false=true from fx) Bool.false_ne_true
 | int a =>
  obtain⟨t',rfl⟩:=ry
  cases x with
  | non=>cases rx;exact SeqAt.EqAt.int_none a t'
  | bl b=>cases rx;exact SeqAt.EqAt.int_bool a t' b
  | int b=>obtain⟨t,rfl⟩:=rx;exact SeqAt.EqAt.int_int a t' b t
  | str b=>obtain⟨t,rfl⟩:=rx;exact SeqAt.EqAt.int_str a t' b t
  | _=>exact absurd (show false=true from fx) Bool.false_ne_true
 | str a =>
  obtain⟨t',rfl⟩:=ry
  cases x with
  | non=>cases rx;exact SeqAt.EqAt.str_none a t'
  | bl b=>cases rx;exact SeqAt.EqAt.str_bool a t' b
  | int b=>obtain⟨t,rfl⟩:=rx;exact SeqAt.EqAt.str_int a t' b t
  | str b=>obtain⟨t,rfl⟩:=rx;exact SeqAt.EqAt.str_str a t' b t
  | _=>exact absurd (show false=true from fx) Bool.false_ne_true
 | _=>exact absurd (show false=true from fy) Bool.false_ne_true
theorem Dm:jg X (.type "list") (fun xs H Q=>∃ p ys,xs=[.ref p]∧(xm X.K H p ys∨zr X.K H p ys)∧∀ l,H l=none→Q (.ref l) (upd H l (.lst ys))):=by
 intro pins s σ H xs us Q I r h
 obtain⟨p,ys,rfl,hq,q⟩:=h
 obtain⟨u,rfl,rx⟩:=vals1 r
 cases rx
 have fin:∀ (its:List Value),Vals ys its→ys.length≤sizeLine→∀ (h':Heap) (c':Nat),(∀ b o',s.heap.get? b=some o'→h'.get? b=some o') →
  h'.get? s.heap.objs.size=some { cls:=.type "list", dict:=none,data:=.seq its.toArray c',slots:=#[] }→EP X pins σ Q (.ref s.heap.objs.size) { s with heap:=h' }:=fun its r' hz h' c' kp e =>
  ⟨.ref s.heap.objs.size,_,I.laid (t':=s.toks) kp (Nat.le_refl _) (show cu X.prog X.w _ h' _ (.lst ys) from ⟨hz,its,c',r',e⟩),rfl,q _ (I.hok.fresh (Nat.le_refl _))⟩
 rcases hq with hq|hq
 ·obtain⟨its,r',pl,hz⟩:=I.list hq
  have hlen:=r'.length
  obtain⟨o,ho,hc,n,hd⟩:=pl.isList
  exact call_list_seq p (.inl rfl) ho hc hd (fun h' c' kp e=>fin its r' hz h' c' kp e) (by simp only[List.size_toArray]<;>omega)
 ·obtain⟨its,r',pl,hz⟩:=I.tuple hq
  have hlen:=r'.length
  obtain⟨o,ho,hc,n,hd⟩:=pl
  exact call_list_seq p (.inr rfl) ho hc hd (fun h' c' kp e=>fin its r' hz h' c' kp e) (by simp only[List.size_toArray]<;>omega)
theorem zV:jg X (.type "tuple") (fun xs H Q=>∃ p ys,xs=[.ref p]∧((xm X.K H p ys∧∀ l,H l=none→Q (.ref l) (upd H l (.tup ys)))∨(zr X.K H p ys∧Q (.ref p) H))):=by
 intro pins s σ H xs us Q I r h
 obtain⟨p,ys,rfl,h⟩:=h
 obtain⟨u,rfl,rx⟩:=vals1 r
 cases rx
 rcases h with ⟨hq,q⟩|⟨hq,q⟩
 ·obtain⟨its,r',pl,hz⟩:=I.list hq
  have hlen:=r'.length
  refine call_tuple_list pl.isList (fun h' kp=>?_) (by simp only[List.size_toArray]<;>omega)
  have I1:Inv X pins σ H { s with heap:=h' }:=I.kept (t':=s.toks) kp
  have I2:Inv X pins σ (upd H h'.objs.size (.tup ys)) { s with heap:=h'.push { cls:=.type "tuple", data:=.seq its.toArray } } :=
   I1.laid (t':=s.toks) (fun b o e=>Heap.get?_push_of_some _ e) (Nat.le_refl _) (show cu X.prog X.w _ _ _ (.tup ys) from ⟨hz,its,r',Jg.new _ _⟩)
  exact⟨.ref h'.objs.size,_,I2,rfl,q _ (I1.hok.fresh (Nat.le_refl _))⟩
 ·obtain⟨its,r',pl,hz⟩:=I.tuple hq
  exact call_tuple_same pl ⟨.ref p,H,I,rfl,q⟩
def ZC(K:PySem.W.Frag)(T:String)(x:V)(H:Hp):Prop:=match x with
 | .str _=>T = "str"
 | .int _=>T = "int"
 | .ref p=>(T = "list" ∧ ∃ xs,xm K H p xs)∨(T = "tuple" ∧ ∃ o,K.lookup p=some o∧o.cls=.type "tuple" ∧ o.dict=none) ∨
  (T = "dict" ∧ ((∃ kvs,H p=some (.dK kvs))∨∃ kvs,H p=some (.dT kvs)))∨(T = "set" ∧ ∃ S n,H p=some (.set S n))
 | _=>False
theorem G3{pins:List (Addr×Obj)}{σ : St}{H:Hp}{s:Shared}{T:String}{x:V}{v:Value}(I:Inv X pins σ H s)(r:RelV x v)(ty:ZC X.K T x H) :
 s.TypeIs v T∧∀ a,v=.ref a→∃ ob,s.heap.get? a=some ob∧ob.dict=none:=by
 cases x with
 | str z =>
  obtain⟨t,rfl⟩:=r
  cases (show T = "str" from ty)
  exact⟨typeIs_str s z t,fun _ e=>nomatch e⟩
 | int i =>
  obtain⟨t,rfl⟩:=r
  cases (show T = "int" from ty)
  exact⟨typeIs_int s i t,fun _ e=>nomatch e⟩
 | ref p =>
  cases r
  rcases ty with ⟨rfl,xs,hq⟩|⟨rfl,o,hk,hc,hd⟩|⟨rfl,hk⟩|⟨rfl,S,n,hk⟩
  ·obtain⟨its,_,pl,_⟩:=I.list hq
   refine⟨pl.isList.typeIs,fun a e=>?_⟩
   cases e
   obtain⟨o,n,e,c,hd,_⟩:=pl
   exact⟨o,e,hd⟩
  ·refine⟨⟨o,I.Fq p o hk,hc⟩,fun a e=>?_⟩
   cases e
   exact⟨o,I.Fq _ o hk,hd⟩
  ·have z:∃ o,s.heap.get? p=some o∧o.ExactDict:=by
    rcases hk with ⟨kvs,hk⟩|⟨kvs,hk⟩
    ·obtain⟨_,_,_,_,o,_,_,e,ex,_⟩:=I.hok p _ hk
     exact⟨o,e,ex⟩
    ·obtain⟨_,_,_,_,o,_,_,e,ex,_⟩:=I.hok p _ hk
     exact⟨o,e,ex⟩
   obtain⟨o,e,ex⟩:=z
   refine⟨⟨o,e,ex.1⟩,fun a e2=>?_⟩
   cases e2
   exact⟨o,e,ex.2.1⟩
  ·obtain⟨o,_,_,_,e,ex,_⟩:=I.hok p _ hk
   refine⟨⟨o,e,ex.1⟩,fun a e2=>?_⟩
   cases e2
   exact⟨o,e,ex.2.1⟩
 | _=>exact False.elim ty
def Vx(K:PySem.W.Frag)(T:String)(r:V→List V→Hp→VK→Prop)(to:TE):TE:=fun σ H Q=>to σ H fun x H1=>ZC K T x H1∧r x [] H1 Q
def Xn(K:PySem.W.Frag)(T:String)(r:V→List V→Hp→VK→Prop)(to:TE)(t:TA):TE:=fun σ H Q=>to σ H fun x H1=>ZC K T x H1∧t σ H1 fun xs H2=>r x xs H2 Q
variable{o e:Expr}{es:List Expr}{to:TE}{t:TA}{name:Str}{apos cpos:Pos}{T id:String}{r:V→List V→Hp→VK→Prop}
theorem Ol(pa:PlainAttrs T)(slot:Slot T name id)(hty:typeOf (.builtin id)=pure (.type "method_descriptor"))(hm:Ro X id r)(ho:PE X o to)
 (hbase:attributeBase o name X.env (eval o X.env)=eval o X.env:=by rfl) (hline:(apos.endLine == cpos.line)=true:=by rfl):PE X (.Call (.Attribute o name apos) [] [] cpos) (Vx X.K T r to):=by
 intro pins s σ H Q I h
 refine wpAny_Call_method0_late hbase hline (eX (ho pins s σ H _ I h) fun v s1 ⟨x,H1,I1,r1,ty,q1⟩=>?_)
 obtain⟨h1,h2⟩:=G3 I1 r1 ty
 exact⟨T,id,pa,slot,hty,h1,h2,Calls.callWith_builtin rfl (PySem.evalArgs_none (hm pins s1 σ H1 x [] v [] Q I1 r1 .nil q1))⟩
theorem pM(pa:PlainAttrs T)(slot:Slot T name id)(hty:typeOf (.builtin id)=pure (.type "method_descriptor"))(hm:Ro X id r)(ho:PE X o to)(ha:PA X (e::es) t)
 (hbase:attributeBase o name X.env (eval o X.env)=eval o X.env:=by rfl)
 (hfew:((backTo cpos (starEach (e::es) X.env)).all (fun x=>!x.1) && (backToKw cpos (keywordEach [] X.env)).all (fun x=>x.1.isSome)
  && decide ((e::es).length+([]:List Keyword).length+(if ([]:List Keyword).isEmpty then 0 else 1) < 30))=true:=by rfl)
 (hline:(apos.endLine == cpos.line)=true:=by rfl) (hs:starEach (e::es) X.env=(false,eval e X.env)::starEach es X.env:=by rfl) (hplain:(backTo cpos (starEach es X.env)).any (·.1)=false:=by rfl) :
 PE X (.Call (.Attribute o name apos) (e::es) [] cpos) (Xn X.K T r to t):=by
 intro pins s σ H Q I h
 refine wpAny_Call_method_late hbase hfew hline rfl (eX (ho pins s σ H _ I h) fun v s1 ⟨x,H1,I1,r1,ty,q1⟩=>?_)
 obtain⟨h1,h2⟩:=G3 I1 r1 ty
 refine⟨T,id,pa,slot,hty,h1,h2,?_⟩
 have hA:=ha cpos pins s1 σ H1 _ I1 q1
 rw[hs] at hA ⊢
 refine Calls.callWith_builtin (by show (false || (backTo cpos (starEach es X.env)).any (·.1))=false;rw[hplain]<;>rfl) (Calls.evalArgs_plain ?_)
 exact eX hA fun us s2 ⟨vs,H2,I2,r2,q2⟩=>hm pins s2 σ H2 x vs v us Q I2 r1 r2 q2
end
end L2
namespace L2
open PySem PySem.Spec PyProof.Rows
def ZW(X:Cx)(id:String)(r:V→List V→Hp→VK→Prop):Prop :=
 ∀ (pins:List (Addr×Obj)) (s:Shared) (σ : St) (H:Hp) (x:V) (xs:List V) (v:Value) (us:List Value) (Q:VK),Inv X pins σ H s→RelV x v→Vals xs us→r x xs H Q →
  wpAny (model X.prog X.w) X.A (call (.builtin id) (v::us)) (EP X pins σ Q) X.xe s
theorem Vals.one:∀ {x:V} {us:List Value},Vals [x] us→∃ u,us=[u]∧RelV x u
 | _,_,.cons r .nil=>⟨_,rfl,r⟩
theorem Vals.zero:∀ {us:List Value},Vals [] us→us=[]
 | _,.nil=>rfl
theorem Vals.eraseIdx:∀ {xs:List V} {us:List Value} (i:Nat),Vals xs us→Vals (xs.eraseIdx i) (us.eraseIdx i)
 | _,_,_,.nil=>.nil
 | _,_,0,.cons _ t=>t
 | _,_,i+1,.cons r t=>.cons r (Vals.eraseIdx i t)
theorem Ai{α : Type}:∀ (l:List α) (i:Nat),(l.eraseIdx i).length≤l.length
 | [],_=>Nat.le_refl _
 | _::_,0=>Nat.le_succ _
 | _::r,i+1=>Nat.succ_le_succ (Ai r i)
section
variable{X:Cx}{pins:List (Addr×Obj)}{σ : St}{H:Hp}{s:Shared}{l b:Addr}{xs ys zs:List V}
theorem Inv.SJ{its its':List Value}{n:Nat}{f:Array Value→Array Value}{t':Nat}(I:Inv X pins σ H s)(hH:H l=some (.lst xs))
 (e:s.heap.get? l=some { cls:=.type "list", data:=.seq its.toArray n }) (hf:f its.toArray=its'.toArray) (hv:Vals ys its') (hz:ys.length≤sizeLine) :
 Inv X pins σ (upd H l (.lst ys)) { s with heap:=s.heap.update l (Obj.mapSeq f),toks:=t' }:=by
 have q:=PySem.IsL.update e f
 rw[hf] at q
 refine I.write (x:=l) (e:=l) (by rw[hH];exact trivial) (.inl rfl) (fun b' u hb hu=>(Heap.get?_update_other s.heap (Obj.mapSeq f) (Ne.symm hb)).trans hu) ⟨_,q⟩ ?_
 exact⟨hz,its',_,hv,q⟩
theorem Inv.aac{its:List Value}{t':Nat}(I:Inv X pins σ H s)(hv:Vals ys its)(hz:ys.length≤sizeLine) :
 Inv X pins σ (upd H s.heap.objs.size (.lst ys)) { s with heap:=s.heap.push { cls:=.type "list", data:=.seq its.toArray },toks:=t' } :=
 I.laid (fun _ _ q=>Heap.get?_push_of_some _ q) (Nat.le_refl _) ⟨hz,its,0,hv,Heap.get?_push_size _ rfl⟩
theorem Inv.fresh(I:Inv X pins σ H s):H s.heap.objs.size=none:=I.hok.fresh (Nat.le_refl _)
theorem Inv.Sy(I:Inv X pins σ H s)(hH:H l=some (.lst xs)):xs.length≤sizeLine∧∃ (its:List Value) (n:Nat),Vals xs its∧xs.length=its.length∧s.heap.get? l=some { cls:=.type "list", data:=.seq its.toArray n }:=by
 obtain⟨z,its,n,r,e⟩:=I.hok l _ hH
 exact⟨z,its,n,r,r.length,e⟩
theorem Fd{n:Nat}(h:n≤sizeLine):Builtin.List.listTooLong n=false:=by
 unfold Builtin.List.listTooLong
 exact decide_eq_false (by omega)
end
section
variable{X:Cx}
def Cj:V→List V→Hp→VK→Prop:=fun x vs H Q=>∃ l xs y,x=.ref l∧vs=[y]∧H l=some (.lst xs)∧xs.length < sizeLine∧Q .non (upd H l (.lst (xs++[y])))
theorem jq:ZW X "list.append" Cj:=by
 intro pins s σ H x vs v us Q I rx rv h
 obtain⟨l,xs,y,rfl,rfl,hH,hz,q⟩:=h
 cases rx
 obtain⟨u,rfl,ru⟩:=rv.one
 obtain⟨z,its,n,r,hl,e⟩:=I.Sy hH
 refine call_meets F.slot_list_append ⟨_,e,rfl⟩ F.entry_list_append (F.args_list_append_2 _ _) (PySem.list_append l its.toArray n u (by rw[List.size_toArray];omega)) ⟨e,?_⟩
 refine⟨.non,_,I.SJ (its':=its++[u]) hH e (by simp) (r.append (.cons ru .nil)) ?_,rfl,q⟩
 rw[List.length_append,List.length_singleton]
 omega
def NP:V→List V→Hp→VK→Prop:=fun x vs H Q=>∃ l xs i k y,x=.ref l∧vs=[.int i]∧H l=some (.lst xs)∧-(2 ^ 63)≤i∧i < 2 ^ 63∧seqIndex? i xs.length=some k∧xs[k]? = some y∧Q y (upd H l (.lst (xs.eraseIdx k)))
theorem O9:ZW X "list.pop" NP:=by
 intro pins s σ H x vs v us Q I rx rv h
 obtain⟨l,xs,i,k,y,rfl,rfl,hH,h1,h2,hk,hy,q⟩:=h
 cases rx
 obtain⟨u,rfl,ru⟩:=rv.one
 obtain⟨t,rfl⟩:=ru
 obtain⟨z,its,n,r,hl,e⟩:=I.Sy hH
 obtain⟨w,hw,rw'⟩:=r.get hy
 refine call_meets F.slot_list_pop ⟨_,e,rfl⟩ F.entry_list_pop (F.args_list_pop_2 _ _)
  (MeetsSeq.list_pop_at l its.toArray n i t k w (fitsIndex_both h1 h2) (by rw[List.size_toArray,← hl];exact hk) (by rw[← Array.getElem?_toList];exact hw) (by rw[List.size_toArray];omega)) ⟨e,?_⟩
 refine⟨y,_,I.SJ (its':=its.eraseIdx k) hH e ?_ (r.eraseIdx k) ?_,rw',q⟩
 ·show its.toArray.eraseIdxIfInBounds k=(its.eraseIdx k).toArray
  rw[List.eraseIdxIfInBounds_toArray]
 ·have:=Ai xs k
  omega
def N5:V→List V→Hp→VK→Prop:=fun x vs H Q=>∃ l xs,x=.ref l∧vs=[]∧H l=some (.lst xs)∧Q .non (upd H l (.lst []))
theorem Pg:ZW X "list.clear" N5:=by
 intro pins s σ H x vs v us Q I rx rv h
 obtain⟨l,xs,rfl,rfl,hH,q⟩:=h
 cases rx
 have hus:=rv.zero
 subst hus
 obtain⟨z,its,n,r,hl,e⟩:=I.Sy hH
 refine call_meets F.slot_list_clear ⟨_,e,rfl⟩ F.entry_list_clear (F.args_list_clear_1 _) (AutoSeq1.list_clear_list_0 l its.toArray n (by rw[List.size_toArray];omega)) ⟨e,?_⟩
 exact⟨.non,_,I.SJ (its':=[]) (ys:=[]) hH e rfl .nil (Nat.zero_le _),rfl,q⟩
end
end L2
namespace L2
open PySem PySem.Spec PyProof.Rows
section
variable{κ : Type}[DecidableEq κ]
def sI(kvs:List (κ×V))(k:κ):Option V:=(kvs.find? fun kv=>decide (kv.1=k)).map (·.2)
def putK(kvs:List (κ×V))(k:κ)(v:V):List (κ×V) :=
 if (kvs.any fun kv=>decide (kv.1=k))=true then kvs.map (fun kv=>if kv.1=k then (kv.1,v) else kv) else kvs++[(k,v)]
theorem xG{p:κ×V}{r:List (κ×V)}{k:κ}(e:p.1=k):sI (p::r) k=some p.2:=by simp[sI,List.find?_cons,e]
theorem xH{p:κ×V}{r:List (κ×V)}{k:κ}(e:¬ p.1=k):sI (p::r) k=sI r k:=by simp[sI,List.find?_cons,e]
theorem DW(k:κ):∀ kvs:List (κ×V),(kvs.any fun kv=>decide (kv.1=k))=(sI kvs k).isSome
 | []=>rfl
 | p::r=>by
  rw[List.any_cons]
  by_cases e:p.1=k
  ·simp only[xG e,decide_eq_true e,Bool.true_or,Option.isSome_some]
  ·rw[xH e,decide_eq_false e,Bool.false_or];exact DW k r
theorem v5(kvs:List (κ×V))(k:κ)(v:V):(putK kvs k v).length≤kvs.length+1:=by
 unfold putK
 split
 ·rw[List.length_map];omega
 ·rw[List.length_append,List.length_cons,List.length_nil];omega
theorem Ji.nM{o:Option V}{u:Option Value}(r:Ji o u):o.isSome=u.isSome:=by
 cases o with
 | none=>cases u with
  | none=>rfl
  | some _=>exact(show False from r).elim
 | some _=>cases u with
  | none=>exact(show False from r).elim
  | some _=>rfl
theorem KV.val{kvs:List (κ×V)}{vs:List (κ×Value)}(r:KV kvs vs)(k:κ):Ji (sI kvs k) (valueAt vs k):=by
 unfold KV at r
 induction r with
 | nil=>exact True.intro
 | @cons p q ps qs h t ih =>
  obtain⟨h1,h2⟩:=h
  by_cases e:p.1=k
  ·have e':q.1=k:=h1.symm.trans e
   have b:valueAt (q::qs) k=some q.2:=by simp[valueAt,List.find?_cons,e']
   rw[xG e,b];exact h2
  ·have e':¬ q.1=k:=fun z=>e (h1.trans z)
   have b:valueAt (q::qs) k=valueAt qs k:=by simp[valueAt,List.find?_cons,e']
   rw[xH e,b];exact ih
theorem KV.any{kvs:List (κ×V)}{vs:List (κ×Value)}(r:KV kvs vs)(k:κ):(kvs.any fun kv=>decide (kv.1=k))=vs.any fun kv=>decide (kv.1=k):=by
 unfold KV at r
 induction r with
 | nil=>rfl
 | cons h t ih=>rw[List.any_cons,List.any_cons,ih,h.1]
theorem KV.repl{kvs:List (κ×V)}{vs:List (κ×Value)}(r:KV kvs vs)(k:κ){y:V}{u:Value}(ry:RelV y u) :
 KV (kvs.map fun kv=>if kv.1=k then (kv.1,y) else kv) (vs.map fun kv=>if kv.1=k then (kv.1,u) else kv):=by
 unfold KV at r ⊢
 induction r with
 | nil=>exact .nil
 | @cons p q ps qs h t ih =>
  rw[List.map_cons,List.map_cons]
  refine .cons ?_ ih
  obtain⟨h1,h2⟩:=h
  by_cases e:p.1=k
  ·rw[if_pos e,if_pos (h1.symm.trans e)];exact⟨h1,ry⟩
  ·rw[if_neg e,if_neg (fun z=>e (h1.trans z))];exact⟨h1,h2⟩
theorem KV.put{kvs:List (κ×V)}{vs:List (κ×Value)}(r:KV kvs vs)(k:κ){y:V}{u:Value}(ry:RelV y u):KV (putK kvs k y) (stored vs k u):=by
 unfold putK stored
 rw[r.any k]
 by_cases e:(vs.any fun kv=>decide (kv.1=k))=true
 ·rw[if_pos e,if_pos e];exact r.repl k ry
 ·rw[if_neg e,if_neg e];exact Paired.snoc r ⟨rfl,ry⟩
theorem KV.length{kvs:List (κ×V)}{vs:List (κ×Value)}(r:KV kvs vs):kvs.length=vs.length:=Paired.length r
end
theorem JW{P:Program}{w:World}{k:Key}{u:Value}(r:RelV (kV k) u):(fU P w).is k u=true:=by
 cases k with
 | inl i=>obtain⟨t,e⟩:=(show ∃ t,u=Value.int i t from r);subst e;exact Fg P w i t
 | inr x=>obtain⟨t,e⟩:=(show ∃ t,u=Value.str x t from r);subst e;exact Ff P w x t
theorem Al{P:Program}{w:World}:∀ {ks:List Key} {us:List Value},Vals (ks.map kV) us→ItemsAre (fU P w) ks us
 | [],_,r=>by rw[List.map_nil] at r;cases r;exact .nil
 | k::ks,_,r=>by
  rw[List.map_cons] at r
  cases r with
  | cons h t=>exact .cons (JW h) (Al t)
abbrev KT(H:Hp):List (List Key×V)→List (List Key×Addr×Value)→Prop:=Paired fun p q=>p.1=q.1∧H q.2.1=some (.tup (p.1.map kV))∧RelV p.2 q.2.2
theorem KT.val{H:Hp}{kvs:List (List Key×V)}{xs:List (List Key×Addr×Value)}(r:KT H kvs xs)(k:List Key):Ji (sI kvs k) ((atKey xs k).map (·.2)):=by
 induction r with
 | nil=>exact True.intro
 | @cons p q ps qs h t ih =>
  obtain⟨h1,_,h2⟩:=h
  by_cases e:p.1=k
  ·have e':q.1=k:=h1.symm.trans e
   have b:atKey (q::qs) k=some q.2:=by simp[atKey,List.find?_cons,e']
   rw[xG e,b];exact h2
  ·have e':¬ q.1=k:=fun z=>e (h1.trans z)
   have b:atKey (q::qs) k=atKey qs k:=by simp[atKey,List.find?_cons,e']
   rw[xH e,b];exact ih
theorem KT.repl{H:Hp}{kvs:List (List Key×V)}{xs:List (List Key×Addr×Value)}(r:KT H kvs xs)(k:List Key){y:V}{u:Value}(ry:RelV y u) :
 KT H (kvs.map fun kv=>if kv.1=k then (kv.1,y) else kv) (xs.map (putAt k u)):=by
 induction r with
 | nil=>exact .nil
 | @cons p q ps qs h t ih =>
  rw[List.map_cons,List.map_cons]
  refine .cons ?_ ih
  obtain⟨h1,h2,h3⟩:=h
  unfold putAt
  by_cases e:p.1=k
  ·rw[if_pos e,if_pos (h1.symm.trans e)];exact⟨h1,h2,ry⟩
  ·rw[if_neg e,if_neg (fun z=>e (h1.trans z))];exact⟨h1,h2,h3⟩
theorem KT.put{H:Hp}{kvs:List (List Key×V)}{xs:List (List Key×Addr×Value)}(r:KT H kvs xs)(k:List Key){b:Addr}{y:V}{u:Value}(hb:H b=some (.tup (k.map kV)))(ry:RelV y u) :
 KT H (putK kvs k y) (storedH xs k b u):=by
 have e:(kvs.any fun kv=>decide (kv.1=k))=(atKey xs k).isSome:=by
  rw[DW,(r.val k).nM,Option.isSome_map]
 unfold putK storedH
 rw[e]
 by_cases q:(atKey xs k).isSome=true
 ·rw[if_pos q,if_pos q];exact r.repl k ry
 ·rw[if_neg q,if_neg q];exact Paired.snoc r ⟨rfl,hb,ry⟩
theorem KT.keeps{H H':Hp}{kvs:List (List Key×V)}{xs:List (List Key×Addr×Value)}(r:KT H kvs xs)(ht:∀ b ys,H b=some (.tup ys)→H' b=some (.tup ys)):KT H' kvs xs :=
 Paired.Wn r fun _ _ z=>⟨z.1,ht _ _ z.2.1,z.2.2⟩
section
variable{P:Program}{w:World}{H:Hp}{h:Heap}{a:Addr}
theorem UL{u:HO}(ok:qX P w H h)(e:Rd H a u):cu P w H h a u:=e.ok ok
theorem Qt{kvs:List (Key×V)}(ok:qX P w H h)(e:Rd H a (.dK kvs)):kvs.length≤sizeLine∧(a == sysModules)=false∧∃ vs,KV kvs vs∧h.DictOf (fU P w) a vs :=
 show cu P w H h a (.dK kvs) from UL ok e
theorem Zd{kvs:List (Key×V)}(ok:qX P w H h)(e:H a=some (.dK kvs)):kvs.length≤sizeLine∧(a == sysModules)=false∧∃ vs,KV kvs vs∧h.DictOf (fU P w) a vs:=Qt ok (.inl e)
theorem CZ{ks:List Key}(ok:qX P w H h)(e:H a=some (.tup (ks.map kV))):(tupleKind (fU P w)).is h ks a:=by
 obtain⟨_,its,r,o,h1,h2,_,n,h3⟩:=(show cu P w H h a (.tup (ks.map kV)) from ok a _ e)
 exact⟨o,its.toArray,n,h1,h2,h3,by simpa using Al r⟩
theorem Qn{kvs:List (List Key×V)}(ok:qX P w H h)(e:Rd H a (.dT kvs)):kvs.length≤sizeLine∧(a == sysModules)=false ∧
 ∃ xs,KT H kvs xs∧h.DictOfH (tupleKind (fU P w)) a xs:=by
 obtain⟨z,y,xs,r,o,es,ep,h1,h2,h3,h4,h5⟩:=(show cu P w H h a (.dT kvs) from UL ok e)
 refine⟨z,y,xs,r,o,es,ep,h1,h2,h3,h4,fun x hx=>?_,h5⟩
 have all:∀ {l:List (List Key×V)} {m:List (List Key×Addr×Value)},KT H l m→∀ x∈m,(tupleKind (fU P w)).is h x.1 x.2.1:=by
  intro l m q
  induction q with
  | nil=>intro x hx;exact nomatch hx
  | @cons p q ps qs hq t ih =>
   intro x hx
   rcases List.mem_cons.mp hx with e|hx
   ·subst e
    exact CZ ok (by rw[← hq.1];exact hq.2.1)
   ·exact ih x hx
 exact all r x hx
theorem Zc{kvs:List (List Key×V)}(ok:qX P w H h)(e:H a=some (.dT kvs)):kvs.length≤sizeLine∧(a == sysModules)=false ∧
 ∃ xs,KT H kvs xs∧h.DictOfH (tupleKind (fU P w)) a xs:=Qn ok (.inl e)
end
def zE(H:Hp)(a:Addr)(y:V)(r:Option V):Prop :=
 (∃ kvs k,Rd H a (.dK kvs)∧y=kV k∧r=sI kvs k)∨∃ kvs k b,Rd H a (.dT kvs)∧y=.ref b∧H b=some (.tup (k.map kV))∧r=sI kvs k
def GQ(H:Hp)(a:Addr)(y v:V)(H':Hp):Prop :=
 (∃ kvs k,H a=some (.dK kvs)∧y=kV k∧kvs.length < sizeLine∧H'=upd H a (.dK (putK kvs k v))) ∨
 ∃ kvs k b,H a=some (.dT kvs)∧y=.ref b∧H b=some (.tup (k.map kV))∧kvs.length < sizeLine∧H'=upd H a (.dT (putK kvs k v))
theorem zE.k{H:Hp}{a:Addr}{kvs:List (Key×V)}{k:Key}(e:H a=some (.dK kvs)):zE H a (kV k) (sI kvs k):=.inl ⟨kvs,k,.inl e,rfl,rfl⟩
theorem zE.t{H:Hp}{a b:Addr}{kvs:List (List Key×V)}{k:List Key}(e:H a=some (.dT kvs))(eb:H b=some (.tup (k.map kV))):zE H a (.ref b) (sI kvs k):=.inr ⟨kvs,k,b,.inl e,rfl,eb,rfl⟩
theorem GQ.k{H:Hp}{a:Addr}{kvs:List (Key×V)}{k:Key}{v:V}(e:H a=some (.dK kvs))(hl:kvs.length < sizeLine):GQ H a (kV k) v (upd H a (.dK (putK kvs k v))):=.inl ⟨kvs,k,e,rfl,hl,rfl⟩
theorem GQ.t{H:Hp}{a b:Addr}{kvs:List (List Key×V)}{k:List Key}{v:V}(e:H a=some (.dT kvs))(eb:H b=some (.tup (k.map kV)))(hl:kvs.length < sizeLine) :
 GQ H a (.ref b) v (upd H a (.dT (putK kvs k v))):=.inr ⟨kvs,k,b,e,rfl,eb,hl,rfl⟩
section
variable{X:Cx}{pins:List (Addr×Obj)}{σ : St}{H:Hp}{s:Shared}{a:Addr}{y v:V}{u r:Value}{o:Option V}{A:Around}{E:Value→Shared→Prop}
theorem Inv.big(I:Inv X pins σ H s):sysModules < s.heap.objs.size:=by
 have h:mainGlobals < s.heap.objs.size:=(I.mod.glob.keeps I.bk).lt
 exact Nat.lt_trans (by decide) h
theorem aat{Q:Value→Shared→Prop}(hu:A.units+1 < cLine)(I:Inv X pins σ H s)(g:zE H a y o)(ry:RelV y u)(h:∀ s',Inv X pins σ H s'→Q (.bool o.isSome) s') :
 wpAny (model X.prog X.w) A (compareOp .In u (.ref a)) Q E s:=by
 rcases g with ⟨kvs,k,e,ey,l⟩|⟨kvs,k,b,e,ey,eb,l⟩
 ·subst ey
  obtain⟨z,hd,vs,rel,dd⟩:=Qt I.hok e
  refine wpAny_in_of (JW ry) hd dd.mapOf ?_
  rw[← (rel.val k).nM,← l]
  exact h _ (I.tok _)
 ·subst ey
  cases (show u=Value.ref b from ry)
  obtain⟨z,hd,xs,rel,dd⟩:=Qn I.hok e
  refine wpAny_in_heap (tupleKind_room_in1 hu) (CZ I.hok eb) hd dd ?_
  have q:=(rel.val k).nM
  rw[Option.isSome_map] at q
  rw[← q,← l]
  exact h _ (I.tok _)
theorem TJ{Q:Value→Shared→Prop}(hu:A.units+1 < cLine)(I:Inv X pins σ H s)(g:zE H a y o)(ry:RelV y u)(h:∀ s',Inv X pins σ H s'→Q (.bool (!o.isSome)) s') :
 wpAny (model X.prog X.w) A (compareOp .NotIn u (.ref a)) Q E s:=by
 rcases g with ⟨kvs,k,e,ey,l⟩|⟨kvs,k,b,e,ey,eb,l⟩
 ·subst ey
  obtain⟨z,hd,vs,rel,dd⟩:=Qt I.hok e
  refine wpAny_notIn_of (JW ry) hd dd.mapOf ?_
  rw[← (rel.val k).nM,← l]
  exact h _ (I.tok _)
 ·subst ey
  cases (show u=Value.ref b from ry)
  obtain⟨z,hd,xs,rel,dd⟩:=Qn I.hok e
  refine wpAny_notIn_heap (tupleKind_room_in1 hu) (CZ I.hok eb) hd dd ?_
  have q:=(rel.val k).nM
  rw[Option.isSome_map] at q
  rw[← q,← l]
  exact h _ (I.tok _)
theorem J4{h':Heap}{t':Nat}{ob:HO}(I:Inv X pins σ H s)(mu:Zr (H a))(hs:Heap.SameBut a s.heap h')(he:∃ q,h'.get? a=some q)(new:cu X.prog X.w (upd H a ob) h' a ob) :
 Inv X pins σ (upd H a ob) { s with heap:=h',toks:=t' } :=
 I.write (x:=a) (e:=a) mu (.inl rfl) (fun b q hb z=>(hs.2 b hb).trans z) he new
theorem WX{P:Program}{w:World}{H':Hp}{h':Heap}{kvs:List (Key×V)}{vs:List (Key×Value)}(z:kvs.length≤sizeLine)(hd:(a == sysModules)=false)(rel:KV kvs vs)(dd:h'.DictOf (fU P w) a vs) :
 cu P w H' h' a (.dK kvs):=⟨z,hd,vs,rel,dd⟩
theorem Ly{H':Hp}{Q:Unit→Shared→Prop}(hu:A.units+1 < cLine)(I:Inv X pins σ H s)(g:GQ H a y v H')(ry:RelV y u)(rv:RelV v r)(h:∀ s',Inv X pins σ H' s'→Q () s') :
 wpAny (model X.prog X.w) A (setItem (.ref a) u r) Q E s:=by
 rcases g with ⟨kvs,k,e,ey,l,eH⟩|⟨kvs,k,b,e,ey,eb,l,eH⟩
 ·subst ey eH
  obtain⟨z,hd,vs,rel,dd⟩:=Zd I.hok e
  have hz:vs.length≤sizeLine:=by rw[← rel.length];exact z
  have hl:(putK kvs k v).length≤sizeLine:=by have:=v5 kvs k v;omega
  refine wpAny_setItem_pairs (hsz:=hz) (JW ry) dd fun h' dd' hs=>h _ ?_
  have he:∃ q,h'.get? a=some q:=let ⟨q,_,_,hq,_⟩:=dd';⟨q,hq⟩
  exact J4 I (by rw[e];exact True.intro) hs he (WX hl hd (rel.put k rv) dd')
 ·subst ey eH
  cases (show u=Value.ref b from ry)
  obtain⟨z,hd,xs,rel,dd⟩:=Zc I.hok e
  have hz:xs.length≤sizeLine:=by rw[← Paired.length rel];exact z
  have hl:(putK kvs k v).length≤sizeLine:=by have:=v5 kvs k v;omega
  refine wpAny_setItem_heap (hsz:=hz) (tupleKind_room_in1 hu) (CZ I.hok eb) dd fun h' dd' hs=>h _ ?_
  obtain⟨q,es,ep,hq,h2,h3,h4,_,h5⟩:=dd'
  refine J4 I (by rw[e];exact True.intro) hs ⟨q,hq⟩ ⟨hl,hd,_,(rel.put k eb rv).keeps fun c ys ec=>?_,q,es,ep,hq,h2,h3,h4,h5⟩
  rw[aH (YL ec e (fun z=>nomatch z))]
  exact ec
end
def X3(ty td:TE):TE:=fun σ H Q=>ty σ H fun y H1=>td σ H1 fun x H2=>∃ a o,x=.ref a∧zE H2 a y o∧Q (.bl o.isSome) H2
def Jq(ty td:TE):TE:=fun σ H Q=>ty σ H fun y H1=>td σ H1 fun x H2=>∃ a o,x=.ref a∧zE H2 a y o∧Q (.bl (!o.isSome)) H2
def lQ(td ty tv:TE):TS:=fun D σ H=>tv σ H fun v H1=>td σ H1 fun x H2=>ty σ H2 fun y H3=>∃ a H4,x=.ref a∧GQ H3 a y v H4∧D.nx σ H4
section
variable{X:Cx}{o i e value:Expr}{pos pos' tpos:Pos}{td ty tv:TE}
theorem vh(hu:X.A.units+1 < cLine)(hi:PE X i ty)(ho:PE X o td):PC X .In i o (X3 ty td):=by
 intro pins s σ H Q I h
 refine eX (hi pins s σ H _ I h) fun iv s1 ⟨y,H1,I1,ry,q1⟩=>eX (ho pins s1 σ H1 _ I1 q1) fun u s2 ⟨x,H2,I2,rx,a,ov,ex,g,q2⟩=>?_
 subst ex
 obtain rfl:u=Value.ref a:=rx
 exact aat hu I2 g ry fun s3 I3=>⟨.bl ov.isSome,H2,I3,rfl,q2⟩
theorem vg(hu:X.A.units+1 < cLine)(hi:PE X i ty)(ho:PE X o td):PC X .NotIn i o (Jq ty td):=by
 intro pins s σ H Q I h
 refine eX (hi pins s σ H _ I h) fun iv s1 ⟨y,H1,I1,ry,q1⟩=>eX (ho pins s1 σ H1 _ I1 q1) fun u s2 ⟨x,H2,I2,rx,a,ov,ex,g,q2⟩=>?_
 subst ex
 obtain rfl:u=Value.ref a:=rx
 exact TJ hu I2 g ry fun s3 I3=>⟨.bl (!ov.isSome),H2,I3,rfl,q2⟩
theorem Ck(hu:X.A.units+1 < cLine)(ho:PE X o td)(hi:PE X i ty)(hv:PE X value tv)(hs:swapsWith value (some (.Subscript o i pos')) pos.line X.env=pure false) :
 PS X (.Assign [.Subscript o i pos'] value pos) (lQ td ty tv):=by
 intro pins s σ H D I h
 refine wpAny_Assign_Subscript (eX (hv pins s σ H _ I h) fun r s1 ⟨v,H1,I1,rv,q1⟩=>eX (ho pins s1 σ H1 _ I1 q1) fun u s2 ⟨x,H2,I2,rx,q2⟩=>eX (hi pins s2 σ H2 _ I2 q2) fun iv s3 ⟨y,H3,I3,ry,a,H4,ex,g,q3⟩=>?_) hs
 subst ex
 obtain rfl:u=Value.ref a:=rx
 exact Ly hu I3 g ry rv fun s4 I4=>⟨σ,H4,I4,q3⟩
end
theorem Qo{P:Program}{w:World}{H:Hp}(h:Heap)(hb:sysModules < h.objs.size):cu P w H (h.push { cls:=.type "dict", data:=.dict #[] }) h.objs.size (.dT []) :=
 ⟨Nat.zero_le _,beq_eq_false_iff_ne.mpr (Ne.symm (Nat.ne_of_lt hb)),[],.nil,_,#[],0,Heap.get?_push_size _ rfl,⟨rfl,rfl,rfl⟩,rfl,rfl,List.nodup_nil⟩
def M6:TE:=fun _ H Q=>∀ p,H p=none→Q (.ref p) (upd H p (.dT []))
section
variable{X:Cx}{pos:Pos}
theorem Eo:PE X (.Dict [] [] pos) M6:=fun pins s σ H Q I h =>
 wpAny_Dict_empty ⟨.ref s.heap.objs.size,_,I.laid (a:=s.heap.objs.size) (o:=.dT []) (t':=s.toks) (fun _ _ q=>Heap.get?_push_of_some _ q) (Nat.le_refl _) (Qo s.heap I.big),rfl,h _ (I.hok.fresh (Nat.le_refl _))⟩
end
end L2
namespace Att
open PySem PySem.W PySem.Calls PyProof.Rows
theorem wK{P:Params}{h:Heap}:∀ (ns:List Int) (vs:List Value),WellAll P h vs (ns.map WData.int)→IntsAre vs ns:=by
 intro ns
 induction ns with
 | nil =>
  intro vs w
  rw[List.map_nil] at w
  cases w
  exact .nil
 | cons n ns ih =>
  intro vs w
  rw[List.map_cons] at w
  cases w with
  | cons a b =>
   cases a
   exact .cons _ _ (ih _ b)
theorem Kz{l:OpenLaw}{n:Nat}(hn:l.most=some n){P:Params}{h:Heap}{args:List WData}{vals:List Value}
 (hpre:l.row.toRowW.claim.pre args=true) (hwl:WellAll P h vals args) :
 ∃ a vs ns,vals=[Value.ref a]∧args=[WData.list (ns.map WData.int)]∧h.get? a=some { cls:=.type "list", data:=.seq vs.toArray }∧IntsAre vs ns∧ns.length≤n:=by
 have hsh:WShape.hasAll [] args [.list .int]=true:=(pre_splitW hpre).1
 have hc:l.pre.holds [] { args:=args }=true:=(pre_splitW hpre).2
 obtain⟨d,r,rfl,h1,h2⟩:=hasAllW_cons hsh
 obtain rfl:=hasAllW_nil h2
 obtain⟨xs,rfl,h3⟩:=hasW_list h1
 obtain⟨ns,rfl⟩:=items_int h3
 have hlen:ns.length≤n:=by
  unfold OpenLaw.pre at hc
  have h4:(WTm.not (.lt (.lit (.int (n:Int))) (.len (.arg 0)))).holds [] { args:=[.list (ns.map .int)] }=true:=by
   have h4:=(holds_andW hc).1
   rw[hn] at h4
   exact h4
  have h5:=condW_of h4 (w_not (w_lt w_lit (w_len_list (w_arg rfl))))
  rw[List.length_map] at h5
  refine Nat.le_of_not_lt fun q=>?_
  have q':(n:Int) < ((ns.length:Nat):Int):=by omega
  first
   | (rw[decide_eq_true q'] at h5;exact absurd h5 (by decide))
   | (simp at h5;omega)
 cases hwl with
 | cons w1 w2 =>
  cases w2
  cases w1 with
  | list ho hall=>exact⟨_,_,ns,rfl,rfl,ho,wK ns _ hall,hlen⟩
theorem KR(l:OpenLaw)(args:List WData):l.row.toRowW.claim.post args (.bool true) args=true :=
 postW_of (r:=l.row.toRowW) (X:=(true == true))
  (show WShape.has [] (.bool true) .bool=true by first|rfl|decide|simp[WShape.has,WShape.arms,WShape.armsAll])
  (show (WTm.eq .res (.lit (.bool true))).value [] { args:=args,res:=some (.bool true),after:=args }=some (.bool (true == true)) from w_eq_bool (w_res rfl) w_lit) rfl
theorem Gs{l:OpenLaw}{n:Nat}{q:Program}{loose:List Str}{XP:(Str→Option Value)→Heap→Prop}{YP:World→Heap→Prop}{d:DefRec}
 (hn:l.most=some n) (hdf:d.params.defaults=[])
 (call:∀ (w:World) (s₀ s₁:Shared) (mg mb:Str→Option Value) (fa:Addr) (o:Obj) (pm cd doc:Value) (a:Addr) (vs:List Value) (ns:List Int),
  Ground q loose [] XP w s₀ mg mb s₁.heap→YP w s₁.heap →
  s₁.heap.get? fa=some o→o.data=.func (docDef d.name d.params d.body d.scope pm cd doc)→s₁.heap.CodeRec cd d.name→mg d.name=some (.ref fa) →
  s₁.heap.get? a=some { cls:=.type "list", data:=.seq vs.toArray }→IntsAre vs ns→ns.length≤n→s₁.gens = #[] →
  codeAny (model l.prog w) callerA (.call (.ref fa) ⟨[.ref a],[]⟩) (fun r s'=>r=.ok (.ret (.bool true))∧OldK s₁.heap s'.heap∧s'.os=s₁.os∧AllBare s'.gens) s₁) :
 WalkO q loose XP YP l.row.toRowW d [] (fun f vs=>PySem.call f vs):=by
 intro w s₀ s₁ mg mb G Y fa o pm cd doc dV kV ho hd hcd hD hmg hg args vals as hpre hlay hrd hwl hlo
 obtain rfl:dV=.none:=Dflts.none hD hdf
 obtain rfl:kV=.none:=Dflts.noKw hD
 obtain⟨a,vs,ns,rfl,rfl,hobj,hints,hlen⟩:=Kz hn hpre hwl
 refine enter_call (codeAny_mono (call w s₀ s₁ mg mb fa o pm cd doc a vs ns G Y ho (fd_plain hd) hcd hmg hobj hints hlen hg) fun r s' hq=>?_)
 obtain⟨rfl,h2,h3,h4⟩:=hq
 exact⟨.inl ⟨.bool true,.bool true,[],rfl,fun _=>rfl,.bool true,KR l _,fun _=>⟨List.Pairwise.nil,fun _ hm=>(nomatch hm)⟩⟩,h2,h3,h4⟩
end Att
namespace L2
open PySem PySem.Spec PyProof.Rows
theorem zZ:∀ {vs:List Value} {ns:List Int},IntsAre vs ns→Vals (ns.map V.int) vs
 | _,_,.nil=>.nil
 | _,_,.cons n t h=>.cons ⟨t,rfl⟩ (zZ h)
end L2
namespace L2
open PySem PySem.Spec PyProof.Rows
end L2
namespace L2
open PySem PySem.Spec PyProof.Rows
def j4(s:Stmt):Arguments:=match s with
 | .FunctionDef _ a _ _ _ _ _ _ _ _=>a
 | _=>{ posonlyargs:=[],args:=[],vararg:=none,kwonlyargs:=[],kw_defaults:=[],kwarg:=none,defaults:=[] }
def jf(s:Stmt):List Stmt:=match s with
 | .FunctionDef _ _ b _ _ _ _ _ _ _=>b
 | _=>[]
def aX(s:Stmt):Scope:=match s with
 | .FunctionDef _ _ _ _ _ _ sc _ _ _=>sc
 | _=>{ kind:=.function,names:=[],isGenerator:=false,isCoroutine:=false }
abbrev dm:Jl:=fun _ _ _ _ _ _=>False
abbrev E0:XK:=fun _ _ _=>False
theorem bN{X:Cx}:Du dm X E0:=fun _ _ _ _ _ _ _ h=>h.elim
structure qF(K:PySem.W.Frag)(x qual:Str)(st:Stmt)(f:Addr)(fd:FuncData):Prop where
 ex:∃ (oc:Value) (od:Option Addr) (kV doc pm:Value) (an:Option Addr) (cdv ct:Value) (osl:Array (Option Value)),
  fd=PySem.W.fnOf x qual (j4 st) (jf st) (aX st) .none kV doc pm an cdv ct∧K.lookup f=some ⟨oc,od,.func fd,osl⟩∧PySem.W.codeIn K cdv qual=true
 kp:PySem.W.keepIn K (.ref f)=true
section
variable{P:Program}{w:World}{K:PySem.W.Frag}{mg:Str→Option Value}{base:Heap}
theorem qF.ok{x qual:Str}{st:Stmt}{f:Addr}{fd:FuncData}{N ps:List Str}{k:Nat}{sp:Sp}(F:qF K x qual st f fd)(S:bL N ps (aX st))(len:∀ vs H Q E,sp vs H Q E→vs.length=ps.length)
 (hbody:∀ (cdv:Value) (A:Around) (outer:List Env) (s:Shared) (H:Hp) (vs:List V) (Q:VK) (E:XK),jx k (A.deeper (envOfC qual (aX st) s.heap.objs.size f cdv))→sp vs H Q E →
  ∃ t,Km (Im dm P w K mg base N qual (aX st) f cdv A outer s H E).Xp (jf st) t∧t { nx:=fun _ H'=>Q .non H',rt:=Q } (start N vs) H):dG P w K mg base dm (k+1) f fd ps sp:=by
 obtain⟨oc,od,kV,doc,pm,an,cdv,ct,osl,rfl,lk,hcd⟩:=F.ex
 refine Vg lk hcd S len fun A outer s H vs Q E hr hsp=>?_
 obtain⟨t,h,q⟩:=hbody cdv A outer s H vs Q E hr hsp
 exact⟨t,h.Xp,q⟩
theorem qF.binds{x qual:Str}{st:Stmt}{f:Addr}{fd:FuncData}{ps:List Str}(F:qF K x qual st f fd)
 (h:∀ (kV doc pm:Value) (an:Option Addr) (cdv ct:Value) (us:List Value),us.length=ps.length→bindArgs (PySem.W.fnOf x qual (j4 st) (jf st) (aX st) .none kV doc pm an cdv ct) ⟨us,[]⟩=pure (ps.zip us)):Binds K fd ps []:=by
 obtain⟨oc,od,kV,doc,pm,an,cdv,ct,osl,rfl,lk,hcd⟩:=F.ex
 exact .all (h kV doc pm an cdv ct)
theorem Qh{x qual:Str}{st:Stmt}{f:Addr}{oc:Value}{od an:Option Addr}{osl:Array (Option Value)}{kV doc pm cdv ct:Value}(l:K.lookup f=some ⟨oc,od,.func (PySem.W.fnOf x qual (j4 st) (jf st) (aX st) .none kV doc pm an cdv ct),osl⟩)
 (c:PySem.W.codeIn K cdv qual=true) (k:PySem.W.keepIn K (.ref f)=true):qF K x qual st f (PySem.W.fnOf x qual (j4 st) (jf st) (aX st) .none kV doc pm an cdv ct):=⟨⟨oc,od,kV,doc,pm,an,cdv,ct,osl,rfl,l,c⟩,k⟩
end
theorem eE{A:Around}{k:Nat}(hr:jx k A):A.units+1 < cLine:=Nat.lt_of_le_of_lt (Nat.add_le_add_left (by decide:1≤64) _) hr.units
section
variable{X:Cx}
theorem pv(i:Nat){x:Str}{pos:Pos}(hN:X.N[i]? = some x:=by rfl)(hv:ZR X.env.scope x:=by first|exact Or.inl rfl|exact Or.inr (Or.inl rfl)|exact Or.inr (Or.inr rfl))(hd:(x == ("__debug__" : Str))=false:=by decide)
 (hcd:(x == ("__classdict__" : Str))=false:=by decide):PE X (.Name x pos) (oJ i):=V5 hN hv hd hcd
end
theorem Fv{A B:Prop}(h:B):if false=true then A else B:=by
 rw[if_neg Bool.false_ne_true]
 exact h
theorem Ft{A B:Prop}(h:A):if true=true then A else B:=by
 rw[if_pos rfl]
 exact h
def gm(H H':Hp):Prop:=∀ b o,H b=some o→H' b=some o
theorem gm.refl(H:Hp):gm H H:=fun _ _ h=>h
theorem gm.trans{H H1 H2:Hp}(a:gm H H1)(b:gm H1 H2):gm H H2:=fun c o h=>b c o (a c o h)
theorem gm.free{H H':Hp}(e:gm H H'){l:Addr}(h:H' l=Option.none):H l=Option.none:=by
 cases q:H l with
 | none=>rfl
 | some o =>
  rw[e l o q] at h
  cases h
end L2
namespace L2
open PySem PySem.Spec PyProof.Rows
section
variable{prog:Program}{w:World}{A:Around}{R:Result→Shared→Prop}{s:Shared}
theorem Dl{elt target iter:Expr}{ifs:List Expr}{scope:Scope}{pos:Pos}{it acc:Value}{env:Env}(I:Nat→Shared→Prop)
 (turn:∀ n s,I n s→wpAny (model prog w) A (pyNext it) (fun r s₁=>match r with
  | none=>R (.ok .next) s₁
  | some v=>wpAny (model prog w) A (letOwnedTupleGo target it v) (fun _ s₂=>wpAny (model prog w) A (assign target env v) (fun _ s₃ =>
   wpAny (model prog w) A (forIn ifs true fun c r=>if r=true then do let ok ← isTrue c env (eval c env);pure (ForInStep.yield ok) else pure (ForInStep.yield r)) (fun ok s₄ =>
    if ok=true then wpAny (model prog w) A (eval elt env) (fun x s₅ =>
     wpAny (model prog w) A (call (.builtin "list.append") [acc,x]) (fun _ s₆=>∃ m,m < n∧I m s₆) (fun _ _=>False) s₅) (fun _ _=>False) s₄
    else ∃ m,m < n∧I m s₄) (fun _ _=>False) s₃) (fun _ _=>False) s₂) (fun _ _=>False) s₁) (fun _ _=>False) s)
 (n:Nat) (h:I n s) :
 codeAny (model prog w) A (.compLoop (.ListComp elt [⟨target,iter,ifs,0⟩] scope pos) 0 it acc env) R s:=by
 refine codeAny_loop rfl I (fun n s hI=>?_) n h
 show wpAny _ A ((compTurn (.ListComp elt [⟨target,iter,ifs,0⟩] scope pos) 0 it acc env).onRaise (fun x=>do noteFrame x env;theTreesLotGoes x)) _ _ s
 refine wpAny_noted (wpAny_mono (E:=fun _ _=>False) ?_ (fun _ _ q=>q) fun _ _ q=>q.elim)
 rw[compTurn_list]
 refine wpAny_bind (wpAny_standAt (wpAny_bind (eX (turn n s hI) fun r s₁ h₁=>?_)))
 cases r with
 | none=>exact wpAny_pure h₁
 | some v =>
  refine wpAny_bind (eX h₁ fun _ s₂ h₂=>wpAny_bind (eX h₂ fun _ s₃ h₃=>wpAny_bind (eX h₃ fun ok s₄ h₄=>?_)))
  cases ok with
  | false=>exact wpAny_pure ⟨rfl,h₄⟩
  | true=>exact wpAny_bind (wpAny_bind (eX h₄ fun x s₅ h₅=>wpAny_bind (eX h₅ fun _ s₆ h₆=>wpAny_pure (wpAny_pure ⟨rfl,h₆⟩))))
end
theorem qX.track{P:Program}{w:World}{H:Hp}{h:Heap}{a:Addr}{o:HO}(x:qX P w H h)(hn:H a=none)(new:cu P w (upd H a o) h a o):qX P w (upd H a o) h:=fun b u e=>by
 by_cases hb:b=a
 ·subst hb;rw[aP] at e;cases e;exact new
 ·rw[aH hb] at e
  exact(x b u e).stay (fun c v _ q=>q) (fun c q=>by rw[aH (aQ q hn)];exact q) fun c xs q=>by rw[aH (aQ q hn)];exact q
theorem lookup_mem{α : Type}:∀ {l:List (Str×α)} {x:Str} {k:α},l.lookup x=some k→(x,k)∈l
 | [],_,_,h=>by simp at h
 | (n,k')::r,x,k,h=>by
  rw[List.lookup_cons] at h
  cases hx:x == n with
  | true =>
   rw[hx] at h
   have:x=n:=by simpa using hx
   cases h;subst this;exact List.mem_cons_self
  | false=>rw[hx] at h;exact List.mem_cons_of_mem _ (lookup_mem h)
theorem jb{env:Env}:∀ {names:List (Str×NameKind)} {x:Str} {k:NameKind},
 (names.map fun (n,k)=>if (k == NameKind.free && env.scope.kind == .function && env.kindOf n == some .cell) then (n,NameKind.cell) else (n,k)).lookup x=some k →
 ∃ k',names.lookup x=some k'∧(k=k'∨(k'=.free∧k=.cell))
 | [],_,_,h=>by simp at h
 | (n,k0)::r,x,k,h=>by
  have ih:=@jb env r x k
  have h':List.lookup x ((if (k0 == NameKind.free && env.scope.kind == .function && env.kindOf n == some .cell)=true then (n,NameKind.cell) else (n,k0)) ::
   (r.map fun (n,k)=>if (k == NameKind.free && env.scope.kind == .function && env.kindOf n == some .cell) then (n,NameKind.cell) else (n,k)))=some k:=h
  by_cases hc:(k0 == NameKind.free && env.scope.kind == .function && env.kindOf n == some .cell)=true
  ·rw[if_pos hc,List.lookup_cons] at h'
   rw[List.lookup_cons]
   cases hx:x == n with
   | true =>
    rw[hx] at h';cases h'
    simp only[Bool.and_eq_true] at hc
    exact⟨k0,rfl,.inr ⟨by simpa using hc.1.1,rfl⟩⟩
   | false=>rw[hx] at h';exact ih h'
  ·rw[if_neg hc,List.lookup_cons] at h'
   rw[List.lookup_cons]
   cases hx:x == n with
   | true=>rw[hx] at h';cases h';exact⟨_,rfl,.inl rfl⟩
   | false=>rw[hx] at h';exact ih h'
theorem tK{env:Env}{f:(Str×NameKind)→List (Str×Addr)→Sem (ForInStep (List (Str×Addr)))}
 (hf:∀ n k r,f (n,k) r=if (k == NameKind.free)=true then (cellOf env n >>= fun a=>pure (ForInStep.yield ((n,a)::r))) else pure (ForInStep.yield r)) :
 ∀ (names:List (Str×NameKind)) (acc:List (Str×Addr)),(∀ y∈names,y.2=.free→∃ c,env.cells.lookup y.1=some c)→(∀ x c,acc.lookup x=some c→env.cells.lookup x=some c) →
  ∃ cl,forIn names acc f=pure cl∧(∀ x c,cl.lookup x=some c→env.cells.lookup x=some c)∧(∀ x,(∃ c,acc.lookup x=some c)→∃ c,cl.lookup x=some c)∧∀ x,(x,NameKind.free)∈names→∃ c,cl.lookup x=some c
 | [],acc,_,hacc=>⟨acc,rfl,hacc,fun _ h=>h,fun _ h=>by simp at h⟩
 | (n,k)::r,acc,hn,hacc=>by
  have hr:∀ y∈r,y.2=.free→∃ c,env.cells.lookup y.1=some c:=fun y hy=>hn y (List.mem_cons_of_mem _ hy)
  by_cases hk:(k == NameKind.free)=true
  ·have hk':k=.free:=by simpa using hk
   obtain⟨c,hc⟩:=hn (n,k) List.mem_cons_self hk'
   obtain⟨cl,e,h1,h2,h3⟩:=tK hf r ((n,c)::acc) hr (fun x c' h=>by
    rw[List.lookup_cons] at h
    cases hx:x == n with
    | true => rw [hx] at h; cases h; have : x = n := by simpa using hx
              subst this;exact hc
    | false=>rw[hx] at h;exact hacc x c' h)
   refine⟨cl,?_,h1,fun x ⟨c',hx⟩=>h2 x ?_,fun x hx=>?_⟩
   ·rw[List.forIn_cons,hf,if_pos hk]
    have:cellOf env n=pure c:=by unfold cellOf;rw[hc]
    rw[this]
    exact e
   ·rw[List.lookup_cons]
    cases x == n with
    | true=>exact⟨_,rfl⟩
    | false=>exact⟨c',hx⟩
   ·rcases List.mem_cons.mp hx with e|hx
    ·cases e
     exact h2 _ ⟨c,by rw[List.lookup_cons];simp⟩
    ·exact h3 x hx
  ·obtain⟨cl,e,h1,h2,h3⟩:=tK hf r acc hr hacc
   refine⟨cl,?_,h1,h2,fun x hx=>?_⟩
   ·rw[List.forIn_cons,hf,if_neg hk]
    exact e
   ·rcases List.mem_cons.mp hx with e|hx
    ·cases e
     exact absurd rfl hk
    ·exact h3 x hx
theorem T6{sc:Scope}{env:Env}(h:∀ y∈sc.names,y.2=.free→∃ c,env.cells.lookup y.1=some c) :
 ∃ cl,closureFor sc env=pure cl∧(∀ x c,cl.lookup x=some c→env.cells.lookup x=some c)∧∀ x,(x,NameKind.free)∈sc.names→∃ c,cl.lookup x=some c:=by
 obtain⟨cl,e,h1,_,h3⟩:=tK (env:=env) (f:=fun x r=>match x with|(name,kind)=>if (kind == NameKind.free)=true then (cellOf env name >>= fun a=>pure (ForInStep.yield ((name,a)::r))) else pure (ForInStep.yield r))
  (fun n k r=>rfl) sc.names [] h (fun _ _ h=>by simp at h)
 refine⟨cl,?_,h1,h3⟩
 unfold closureFor
 refine Eq.trans ?_ e
 exact bind_pure _
def pick(ρ : List (Option Nat))(σ : St):St:=ρ.map fun o=>o.bind fun j=>(σ[j]?).join
def Ao(X:Cx)(N':List Str)(sc:Scope)(cl:List (Str×Addr))(C:Addr)(s:Shared)(H:Hp)(fp:List Addr):Cx :=
 { X with N:=N',s₀:=s,H₀:=H,env:=compEnvC sc cl C X.env,outer:=X.stack,ex:=fp,fn:=fun _=>false,xe:=fun _ _=>False }
structure d8(X:Cx)(N':List Str)(ρ : List (Option Nat))(sc:Scope):Prop where
 kind:sc.kind=.function
 yu:∀ y∈sc.names,y.2≠.cell
 names:∀ y∈sc.names,y.2=.local→sc.names.lookup y.1=some .local
 free:∀ y∈sc.names,y.2=.free→(X.env.kindOf y.1=some .cell∨X.env.kindOf y.1=some .free)
 len:ρ.length=N'.length
 ix:∀ (i j:Nat),ρ[i]? = some (some j)→∃ x,N'[i]? = some x∧X.N[j]? = some x∧sc.names.lookup x=some .free
def Zo(X:Cx)(ifs:List Expr)(t:TT):Prop :=
 ∀ (pins:List (Addr×Obj)) (s:Shared) (σ : St) (H:Hp) (Q:Bool→Hp→Prop),Inv X pins σ H s→t σ H Q →
  wpAny (model X.prog X.w) X.A (forIn ifs true fun c r=>if r=true then do let ok ← isTrue c X.env (eval c X.env);pure (ForInStep.yield ok) else pure (ForInStep.yield r)) (TP X pins σ Q) X.xe s
def XD:TT:=fun _ H Q=>Q true H
theorem jA{X:Cx}:Zo X [] XD:=fun _ _ _ H _ I h=>wpAny_tests_nil ⟨H,I,h⟩
theorem qL{X:Cx}{c:Expr}{t:TT}(h:PT X c t):Zo X [c] t:=fun pins s σ H Q I hw=>wpAny_tests_one (h pins s σ H Q I hw)
def GC(ρ : List (Option Nat))(g:TG):Prop:=∀ v σ H Q,g v σ H Q→g v σ H fun σ2 H2=>(σ2.length = σ.length∧∀ (i j:Nat),ρ[i]? = some (some j)→σ2[i]? = σ[i]?)∧Q σ2 H2
def Dw(ρ : List (Option Nat))(g:Mv):Prop:=∀ v σ H Q,g v σ H Q→g v σ H fun σ2 H2=>(σ2.length = σ.length∧∀ (i j:Nat),ρ[i]? = some (some j)→σ2[i]? = σ[i]?)∧Q σ2 H2
theorem gG{ρ : List (Option Nat)}{i:Nat}(h:ρ[i]? = some none):GC ρ (nQ i):=fun v σ H Q q=>by
 refine⟨⟨List.length_set,fun k j e=>?_⟩,q⟩
 have:i≠k:=by intro z;subst z;rw[h] at e;cases e
 rw[List.getElem?_set_ne this]
theorem Ie{ρ : List (Option Nat)}:Dw ρ Qg:=fun v σ H Q ⟨e,q⟩=>⟨e,⟨rfl,fun _ _ _=>rfl⟩,q⟩
theorem nP{ρ : List (Option Nat)}{i:Nat}{u:Mv}(h:ρ[i]? = some none)(hu:Dw ρ u)(mu:∀ v σ H Q Q',(∀ a b,Q a b→Q' a b)→u v σ H Q→u v σ H Q'):Dw ρ (FP (nQ i) u):=fun vs σ H Q ⟨v,r,e,q⟩=>by
 refine⟨v,r,e,?_⟩
 refine mu _ _ _ _ _ (fun a b ⟨⟨l,k⟩,z⟩=>⟨⟨l.trans List.length_set,fun i' j' e'=>(k i' j' e').trans ?_⟩,z⟩) (hu _ _ _ _ q)
 have:i≠i':=by intro z;subst z;rw[h] at e';cases e'
 rw[List.getElem?_set_ne this]
theorem vB:∀ v σ H Q Q',(∀ a b,Q a b→Q' a b)→Qg v σ H Q→Qg v σ H Q':=fun _ _ _ _ _ m ⟨e,q⟩=>⟨e,m _ _ q⟩
theorem Di{i:Nat}{u:Mv}(mu:∀ v σ H Q Q',(∀ a b,Q a b→Q' a b)→u v σ H Q→u v σ H Q'):∀ v σ H Q Q',(∀ a b,Q a b→Q' a b)→FP (nQ i) u v σ H Q→FP (nQ i) u v σ H Q' :=
 fun _ _ _ _ _ m ⟨v,r,e,q⟩=>⟨v,r,e,mu _ _ _ _ _ m q⟩
theorem H9{ρ : List (Option Nat)}{K:PySem.W.Frag}{n:Nat}{u:Mv}(hu:Dw ρ u):GC ρ (WM K n u):=fun v σ H Q ⟨a,xs,e,hq,hl,q⟩=>⟨a,xs,e,hq,hl,hu _ _ _ _ q⟩
def Zy(J:It)(ρ : List (Option Nat))(g:TG)(tc:TT)(te:TE)(σ : St)(H1:Hp)(Q:VK):Prop:=∃ W:Nat→Nat→List V→Hp→Prop,(∃ m,W 0 m [] H1)∧∀ i m acc H,W i m acc H →
 (J.stop i H∧∀ p,H p=none→Q (.ref p) (upd H p (.lst acc))) ∨
 (J.go i H∧acc.length < sizeLine∧∃ N:List V→Hp→Prop,(∀ acc' H',N acc' H'→∃ m',m' < m∧W (i+1) m' acc' H') ∧
  ∀ x H',J.yld i H x H'→g x (pick ρ σ) H' fun σ2 H2=>tc σ2 H2 fun b H3=>if b=true then te σ2 H3 fun y H4=>N (acc++[y]) H4 else N acc H3)
def Jr(wi:TI)(ρ : List (Option Nat))(g:TG)(tc:TT)(te:TE):TE:=fun σ H Q=>wi σ H fun J H1=>Zy J ρ g tc te σ H1 Q
section
variable{X:Cx}{elt tg iter:Expr}{ifs:List Expr}{sc:Scope}{pos cpos:Pos}{N':List Str}{ρ : List (Option Nat)}{wi:TI}{g:TG}{tc:TT}{te:TE}
theorem Av(hcalm:X.calm=true)(S:d8 X N' ρ sc)(hi:PI X tg iter wi)
 (hg:∀ cl C s H fp,PG (Ao X N' sc cl C s H fp) tg g) (gk:GC ρ g) (hc:∀ cl C s H fp,Zo (Ao X N' sc cl C s H fp) ifs tc) (he:∀ cl C s H fp,PE (Ao X N' sc cl C s H fp) elt te)
 (hs:∀ x,foldedSetIterable iter X.env x=pure x)
 (use:Option (Value→Sem Unit)) {R:Value→Shared→Prop} {pins:List (Addr×Obj)} {s:Shared} {σ : St} {H:Hp} {Q:VK} (I:Inv X pins σ H s) (h:Jr wi ρ g tc te σ H Q)
 (hR:∀ s' D C H',Inv X pins σ H' s'→Q (.ref D) H'→(∃ m,s'.heap.Ns C m)→oF X pins H' C→compPost (model X.prog X.w) X.A X.xe use R (.ref D) C (.ok .next) s') :
 wpAny (model X.prog X.w) X.A (comprehension (.ListComp elt [⟨tg,iter,ifs,0⟩] sc pos) sc X.env cpos (newList []) false (eval iter X.env) use) R X.xe s:=by
 obtain⟨cl,hcl,hsub,hall⟩:=T6 (sc:=sc) (env:=X.env) fun y hy hf=>I.ok.has y.1 (S.free y hy hf)
 refine wpAny_comprehension_free rfl hs hcl S.kind S.names (eX (hi pins s σ H _ I h) fun v s1 h1=>eX h1 fun itv s2 h2=>?_)
 obtain⟨it,fp,tn,J,H2,e,I2,T,st2,f2,W,⟨m0,w0⟩,turn⟩:=h2
 subst e
 refine wpAny_newList (items:=[]) ?_
 refine wpAny_newFunctionEnv S.yu (by intro y hy;simp at hy) (fun h₁ hns hsb=>?_) S.kind
 dsimp only at hns hsb ⊢
 generalize hH2:s2.heap.push { cls:=.type "list", data:=.seq ([]:List Value).toArray }=Hh at hns hsb ⊢
 have hCs:Hh.objs.size=s2.heap.objs.size+1:=by rw[← hH2,Heap.size_push]
 generalize hD:s2.heap.objs.size=D at *
 generalize hCC:Hh.objs.size=C at *
 have hDC:D≠C:=by omega
 have ltC:∀ b:Nat,b < s2.heap.objs.size→b≠C∧b≠D∧b < D:=fun b h=>by omega
 have ltD:∀ b:Nat,b < D→b≠C∧b≠D:=fun b h=>by omega
 have old:∀ b o,s2.heap.get? b=some o→h₁.get? b=some o:=fun b o e=>hsb.extBut b o (ltC b (Heap.lt_size e)).1 (Heap.get?_push_of_some _ (by rw[← hH2];exact Heap.get?_push_of_some _ e))
 have newD:h₁.get? D=some { cls:=.type "list", data:=.seq ([]:List Value).toArray }:=hsb.extBut _ _ hDC (Heap.get?_push_of_some _ (by rw[← hH2,← hD];exact Heap.get?_push_size _ rfl))
 have ltb:∀ b∈fp,b < D:=fun b hb=>by
  obtain⟨o,e,_⟩:=T.obj _ _ st2 b hb
  exact(ltC b (Heap.lt_size e)).2.2
 have fD:oF X pins H2 D:=I2.uA (by omega) (I2.hok.fresh (by omega))
 have fC:oF X pins H2 C:=I2.uA (by omega) (I2.hok.fresh (by omega))
 have nst:∀ b,b≠X.env.locals→b∉X.fs→b∉frs X.stack:=fun b h1 h2 hb=>by
  rcases List.mem_cons.mp (I2.BV b hb) with e|e
  ·exact h1 e
  ·exact h2 e
 have ok':(Ao X N' sc cl C s2 H2 fp).Ok:=by
  refine⟨I2.ok.mod,S.kind,I2.ok.glob,I2.ok.blt,(by show s2.heap.objs.size≤C;omega),fun x y c e1 e2=>I2.ok.inj x y c (hsub _ _ e1) (hsub _ _ e2),fun x hx=>?_,fun x c z=>(by cases z),I2.ok.hd,I2.ok.frames,.inl rfl,
   fun b hb=>⟨(ltD b (ltb b hb)).1,fun x c e=>(f2 b hb).2.2.2.2.1 x c (hsub _ _ e)⟩,I2.bs,(by show X.base.objs.size≤s2.heap.objs.size;exact Nat.le_trans I2.ok.bsz I2.sz),fun b o e hb=>?_,fun b hb=>nst b (f2 b hb).2.1 (f2 b hb).2.2.1,I2.stack,I2.BW⟩
  ·have hx':∃ k',sc.names.lookup x=some k'∧(k'=.cell∨k'=.free):=by
    rcases hx with hx|hx
    ·obtain⟨k',e1,e2⟩:=jb (env:=X.env) (names:=sc.names) hx
     rcases e2 with e2|⟨e2,_⟩
     ·exact⟨k',e1,.inl e2.symm⟩
     ·exact⟨k',e1,.inr e2⟩
    ·obtain⟨k',e1,e2⟩:=jb (env:=X.env) (names:=sc.names) hx
     rcases e2 with e2|⟨e2,_⟩
     ·exact⟨k',e1,.inr e2.symm⟩
     ·exact⟨k',e1,.inr e2⟩
   obtain⟨k',e1,e2⟩:=hx'
   have hm:=lookup_mem e1
   rcases e2 with e2|e2
   ·exact absurd e2 (S.yu _ hm)
   ·subst e2;exact hall x hm
  ·rcases (f2 b hb).2.2.2.1 with z|z
   ·exact I2.ok.O2 b o e z
   ·exact absurd (Nat.lt_of_lt_of_le (Heap.lt_size e) (Nat.le_trans I2.ok.bsz z)) (Nat.lt_irrefl _)
 have Oe:∀ p∈X.pn++pins,p.1 < D:=fun p hp=>(ltC p.1 (Heap.lt_size (I2.pin p hp).1)).2.2
 have W4:∀ x c,cl.lookup x=some c→c < D:=fun x c e=>by
  obtain⟨v,q⟩:=I2.cell x c (hsub _ _ e)
  exact(ltC c q.lt).2.2
 have I':∀ tk,Inv (Ao X N' sc cl C s2 H2 fp) (pins++[(D,{ cls:=.type "list", data:=.seq ([]:List Value).toArray })]) (pick ρ σ) H2 { s2 with heap:=h₁,toks:=tk }:=fun tk=>by
  refine⟨ok',rfl,I2.bare,Un.kept old,⟨_,hns,fun i x v e1 e2 e3=>?_⟩,fun x c e=>?_,fC.1,fun x c e=>I2.nR x c (hsub _ _ e),fun p hp=>?_,I2.hok.kept old,?_⟩
  ·have e2':∃ j,ρ[i]? = some (some j)∧σ[j]? = some (some v):=by
    unfold pick at e2
    rw[List.getElem?_map] at e2
    cases hr:ρ[i]? with
    | none=>rw[hr] at e2;cases e2
    | some o =>
     rw[hr] at e2
     cases o with
     | none=>cases e2
     | some j =>
      refine⟨j,rfl,?_⟩
      have e2:(σ[j]?).join=some v:=Option.some.inj e2
      cases hq:σ[j]? with
      | none=>rw[hq] at e2;cases e2
      | some o' => rw [hq] at e2; have e2 : o' = some v := e2
                   rw[e2]
   obtain⟨j,hj,hv⟩:=e2'
   obtain⟨y,ey,eN,ef⟩:=S.ix i j hj
   have e1':N'[i]? = some x:=e1
   rw[ey] at e1';cases e1'
   obtain⟨m,hn,hl⟩:=I2.loc
   have hm:=lookup_mem ef
   have kX:=S.free _ hm rfl
   obtain⟨u,ru,lk⟩:=hl j x v eN hv (by rcases kX with k|k;exact .inr (.inl k);exact .inr (.inr k))
   refine⟨u,ru,.inr ⟨?_,?_⟩⟩
   ·show (relabel sc X.env).names.lookup x=some .cell∨(relabel sc X.env).names.lookup x=some .free
    rcases e3 with e3|e3|e3
    ·obtain⟨k',q1,q2⟩:=jb (env:=X.env) (names:=sc.names) e3
     rw[ef] at q1;cases q1
     rcases q2 with q2|⟨_,q2⟩<;>cases q2
    ·exact .inl e3
    ·exact .inr e3
   ·obtain⟨c,hc'⟩:=hall x hm
    refine⟨c,hc',?_⟩
    rcases lk with ⟨k,_⟩|⟨_,c',ec,z⟩
    ·rcases kX with k'|k'<;>(rw[k] at k';cases k')
    ·rw[hsub _ _ hc'] at ec;cases ec
     obtain⟨o,ho,hd⟩:=z
     exact⟨o,old _ _ ho,hd⟩
  ·obtain⟨v,o,ho,hd⟩:=I2.cell x c (hsub _ _ e)
   exact⟨v,o,old _ _ ho,hd⟩
  ·have hp':p∈X.pn++pins∨p=(D,{ cls:=.type "list", data:=.seq ([]:List Value).toArray }):=by
    rcases List.mem_append.mp hp with z|z
    ·exact .inl (List.mem_append_left _ z)
    ·rcases List.mem_append.mp z with z|z
     ·exact .inl (List.mem_append_right _ z)
     ·exact .inr (by simpa using z)
   rcases hp' with z|z
   ·obtain⟨q1,q2,q3,q4,q5⟩:=I2.pin p z
    exact⟨old _ _ q1,q2,(ltD p.1 (Oe p z)).1,nst _ q3 q4,q5⟩
   ·subst z
    exact⟨newD,fD.1,hDC,nst _ fD.2.1 fD.2.2.1,fun v z=>by cases z⟩
  ·show (pick ρ σ).length=N'.length
   unfold pick;rw[List.length_map];exact S.len
 have stat:∀ {H':Hp} {o:Obj},(∀ b∈fp,H' b=none)→∀ b∈fp,oF (Ao X N' sc cl C s2 H2 fp) (pins++[(D,o)]) H' b:=fun {H' o} hn b hb=>by
  refine⟨hn b hb,(ltD b (ltb b hb)).1,nst b (f2 b hb).2.1 (f2 b hb).2.2.1,.inl hb,fun x c e=>(f2 b hb).2.2.2.2.1 x c (hsub _ _ e),fun p hp=>?_⟩
  rcases List.mem_append.mp hp with z|z
  ·exact(f2 b hb).2.2.2.2.2 p (List.mem_append_left _ z)
  ·rcases List.mem_append.mp z with z|z
   ·exact(f2 b hb).2.2.2.2.2 p (List.mem_append_right _ z)
   ·have e:p=(D,o):=by simpa using z
    subst e
    exact Ne.symm (ltD b (ltb b hb)).2
 have loop:∀ tk,codeAny (model X.prog X.w) X.A (.compLoop (.ListComp elt [⟨tg,iter,ifs,0⟩] sc pos) 0 (.ref it) (.ref D) (compEnvC sc cl C X.env)) (compPost (model X.prog X.w) X.A X.xe use R (.ref D) C) { s2 with heap:=h₁,toks:=tk }:=fun tk=>by
  refine Dl (fun n s'=>∃ (i:Nat) (acc:List V) (its:List Value) (k:Nat) (H':Hp),Inv (Ao X N' sc cl C s2 H2 fp) (pins++[(D,{ cls:=.type "list", data:=.seq its.toArray k })]) (pick ρ σ) H' s'∧Vals acc its∧acc.length≤sizeLine∧tn i s'.heap∧(∀ b∈fp,H' b=none)∧W i n acc H')
   ?_ m0 ⟨0,[],[],0,H2,I' tk,.nil,Nat.zero_le _,T.keep _ _ _ st2 fun b hb o e=>old b o e,fun b hb=>(f2 b hb).1,w0⟩
  rintro n s3 ⟨i,acc,its,k,H3,I3,va,hz0,st3,fr3,w3⟩
  rcases turn i n acc H3 w3 with ⟨stop,qn⟩|⟨go,hz,Nn,hN,step⟩
  ·refine eX (T.done (Ao X N' sc cl C s2 H2 fp) rfl rfl rfl hcalm i _ s3 _ H3 (fun _ _=>False) I3 (stat fr3) st3 stop) fun r s4 ⟨hr,I4⟩=>?_
   subst hr
   obtain⟨p1,p2,p3,p4,p5⟩:=I4.pin (D,{ cls:=.type "list", data:=.seq its.toArray k }) (by simp)
   have p1:s4.heap.get? D=some { cls:=.type "list", data:=.seq its.toArray k }:=p1
   have p2:H3 D=none:=p2
   have B:=I4.base
   have upn:∀ b o,H3 b=some o→upd H3 D (.lst acc) b=some o:=fun b o e=>by rw[aH (aQ e p2)];exact e
   have IX:Inv X pins σ (upd H3 D (.lst acc)) s4:=by
    refine I2.call' (ch:=fp) I4.os ⟨fun b o q1 q2 q3 q4=>B.keep b o q1 q2 q3 q4,fun b o q1 q2 q3 q4=>B.slot b o q1 q2 q3 q4,fun b o q1 q2 q3=>?_,fun b o q1 q2=>B.there b o q1 q2,
     fun b xs q=>upn _ _ (B.tups b xs q),fun b o u q=>upn _ _ (B.zT b o u q),fun b w ps q=>?_⟩ (I4.hok.track p2 ⟨hz0,its,k,va,p1⟩) I4.bare fun b hb=>⟨(f2 b hb).2.2.2.1,(f2 b hb).2.1,(f2 b hb).2.2.2.2.1,(f2 b hb).2.2.2.2.2⟩
    ·rw[aH (ltC b (Heap.lt_size q1)).2.1]
     exact B.free b o q1 q2 q3
    ·obtain⟨more,q'⟩:=B.zJ b w ps q
     exact⟨more,upn _ _ q'⟩
   obtain⟨m,hm,_⟩:=I4.loc
   refine hR s4 D C _ IX (qn D p2) ⟨m,hm⟩ (I2.uA (by omega) ?_)
   rw[aH (Ne.symm hDC)]
   exact I4.free
  ·refine eX (T.item (Ao X N' sc cl C s2 H2 fp) rfl rfl rfl hcalm i _ s3 _ H3 (fun _ _=>False) I3 (stat fr3) st3 go) fun r s4 ⟨u,hr,h4⟩=>?_
   subst hr
   refine eX h4 fun _ s5 ⟨x,H5,I5,r5,y5,st5,fr5⟩=>?_
   have I5':=I5.pinned (stat fr5) (T.obj _ _ st5)
   refine eX (hg cl C s2 H2 fp _ s5 _ H5 x u _ I5' r5 (gk _ _ _ _ (step x H5 y5))) fun _ s6 ⟨σ6,H6,I6,⟨l6,k6⟩,q6⟩=>?_
   refine eX (hc cl C s2 H2 fp _ s6 σ6 H6 _ I6 q6) fun ok s7 ⟨H7,I7,q7⟩=>?_
   have wk:∀ {Ag:List (Addr×Obj)} {H':Hp} {s':Shared},Inv (Ao X N' sc cl C s2 H2 fp) Ag σ6 H' s'→Inv (Ao X N' sc cl C s2 H2 fp) Ag (pick ρ σ) H' s':=fun {Ag H' s'} J' =>
    J'.weak l6.symm fun j v e=>by
     have:∃ j',ρ[j]? = some (some j'):=by
      unfold pick at e
      rw[List.getElem?_map] at e
      cases hr:ρ[j]? with
      | none=>rw[hr] at e;cases e
      | some o =>
       rw[hr] at e
       cases o with
       | none=>cases e
       | some j'=>exact⟨j',rfl⟩
     obtain⟨j',hj'⟩:=this
     rw[k6 j j' hj'];exact e
   cases ok with
   | false =>
    have q7:Nn acc H7:=by simpa using q7
    rw[if_neg Bool.false_ne_true]
    obtain⟨m',hm,w7⟩:=hN acc H7 q7
    refine⟨m',hm,i+1,acc,its,k,H7,wk I7.m6,va,hz0,T.keep _ _ _ st5 fun b hb o e=>(I7.pin (b,o) (List.mem_append_right _ (List.mem_append_right _ (jr hb e)))).1,fun b hb=>?_,w7⟩
    obtain⟨o,e,d⟩:=T.obj _ _ st5 b hb
    exact(I7.pin (b,o) (List.mem_append_right _ (List.mem_append_right _ (jr hb e)))).2.1
   | true =>
    have q7:te σ6 H7 fun y H4=>Nn (acc++[y]) H4:=by simpa using q7
    rw[if_pos rfl]
    refine eX (he cl C s2 H2 fp _ s7 σ6 H7 _ I7 q7) fun xv s8 ⟨y,H8,I8,r8,n8⟩=>?_
    obtain⟨p1,p2,p3,p4,p5⟩:=I8.pin (D,{ cls:=.type "list", data:=.seq its.toArray k }) (by simp)
    have p1:s8.heap.get? D=some { cls:=.type "list", data:=.seq its.toArray k }:=p1
    have p2:H8 D=none:=p2
    refine wpAny_list_append_plain ⟨k,p1⟩ (fun h' pl sb=>?_) (by rw[List.size_toArray,← va.length];omega)
    obtain⟨k',pl⟩:=pl
    obtain⟨m',hm,w8⟩:=hN _ _ n8
    have Ia:Inv (Ao X N' sc cl C s2 H2 fp) pins σ6 H8 s8:=I8.m6.m6
    have Ib:Inv (Ao X N' sc cl C s2 H2 fp) pins σ6 H8 { s8 with heap:=h' }:=Ia.turned (t':=s8.toks) (it:=D) (fun b o hb e=>(sb.2 b hb).trans e) p2 hDC (.inr (by show s2.heap.objs.size≤D;omega)) (fun x c e=>(ltD c (W4 x c e)).2) fun p hp=>(ltD p.1 (Oe p hp)).2
    have pl':h'.get? D=some { cls:=.type "list", data:=.seq (its++[xv]).toArray k' }:=by rw[pl];simp
    have Ic:Inv (Ao X N' sc cl C s2 H2 fp) (pins++[(D,{ cls:=.type "list", data:=.seq (its++[xv]).toArray k' })]) σ6 H8 { s8 with heap:=h' }:=Ib.Cm fun p hp=>by
     rcases List.mem_append.mp hp with z|z
     ·exact Ib.pin p (List.mem_append_right _ z)
     ·have e:p=(D,{ cls:=.type "list", data:=.seq (its++[xv]).toArray k' }):=by simpa using z
      subst e
      exact⟨pl',p2,p3,p4,fun v z=>by cases z⟩
    refine⟨m',hm,i+1,acc++[y],its++[xv],k',H8,wk Ic,va.append (.cons r8 .nil),(by rw[List.length_append,List.length_singleton];omega),T.keep _ _ _ st5 fun b hb o e=>?_,fun b hb=>?_,w8⟩
    ·exact(sb.2 b (ltD b (ltb b hb)).2).trans (I8.pin (b,o) (List.mem_append_right _ (List.mem_append_right _ (jr hb e)))).1
    ·obtain⟨o,e,d⟩:=T.obj _ _ st5 b hb
     exact(I8.pin (b,o) (List.mem_append_right _ (List.mem_append_right _ (jr hb e)))).2.1
 refine codeAny_compStart_list (loop _) (T.self X.A 0 _ _ _ (T.keep _ _ _ st2 fun b hb o e=>old b o e) (loop _))
theorem ig(hcalm:X.calm=true)(S:d8 X N' ρ sc)(hi:PI X tg iter wi)
 (hg:∀ cl C s H fp,PG (Ao X N' sc cl C s H fp) tg g) (gk:GC ρ g) (hc:∀ cl C s H fp,Zo (Ao X N' sc cl C s H fp) ifs tc) (he:∀ cl C s H fp,PE (Ao X N' sc cl C s H fp) elt te)
 (hs:∀ x,foldedSetIterable iter X.env x=pure x:=by intro _;rfl) :
 PE X (.ListComp elt [⟨tg,iter,ifs,0⟩] sc pos) (Jr wi ρ g tc te):=by
 intro pins s σ H Q I h
 rw[eval_ListComp]
 refine Av hcalm S hi hg gk hc he hs none I h fun s' D C H' I' q ⟨m,hm⟩ f=>⟨m,hm,fun h' sb=>?_⟩
 exact⟨.ref D,H',I'.turned (t':=s'.toks) (it:=C) (fun b o hb e=>(sb.2 b hb).trans e) f.1 f.2.1 f.2.2.2.1 f.2.2.2.2.1 f.2.2.2.2.2,rfl,q⟩
theorem wQ{i:Nat}{x:Str}{px:Pos}(hcalm:X.calm=true)(hN:X.N.Nodup)(hix:X.N[i]? = some x)(hx:Loc X.env.scope x)(S:d8 X N' ρ sc)(hi:PI X tg iter wi)
 (hg:∀ cl C s H fp,PG (Ao X N' sc cl C s H fp) tg g) (gk:GC ρ g) (hc:∀ cl C s H fp,Zo (Ao X N' sc cl C s H fp) ifs tc) (he:∀ cl C s H fp,PE (Ao X N' sc cl C s H fp) elt te)
 (hsw:swapsWith (.ListComp elt [⟨tg,iter,ifs,0⟩] sc pos) (some (.Name x px)) cpos.line X.env=pure true:=by rfl)
 (hs:∀ x,foldedSetIterable iter X.env x=pure x:=by intro _;rfl)
 (hf:X.fn x=true∨X.env.scope.names.lookup x=some .local:=by first|exact .inl rfl|exact .inr rfl|assumption) :
 PS X (.Assign [.Name x px] (.ListComp elt [⟨tg,iter,ifs,0⟩] sc pos) cpos) (Ea (Jr wi ρ g tc te) (nQ i)):=by
 intro pins s σ H D I h
 rw[exec_Assign_Name_used _ _ _ _ hsw]
 refine wpAny_bind (wpAny_standAt (wpAny_bind ?_))
 show wpAny _ X.A (do let _ ← comprehension (.ListComp elt [⟨tg,iter,ifs,0⟩] sc pos) sc X.env _ (newList []) false (eval iter X.env) (some (assign (.Name x px) X.env))) _ _ s
 refine wpAny_bind (eX (Av (Q:=fun y H1=>D.nx (σ.set i (some y)) H1) (R:=fun _ s'=>SP X pins D .next s') hcalm S hi hg gk hc he hs (some (assign (.Name x px) X.env)) I h fun s' Da C H' I' q ⟨m,hm⟩ f=>?_) fun _ s' hq=>wpAny_pure (wpAny_pure hq))
 show wpAny _ X.A (assign (.Name x px) X.env (.ref Da)) _ _ _
 refine wpAny_assign_Name (z7 I' hN hix hx (v:=.ref Da) rfl (fun s2 I2 ⟨a,sb,ha⟩=>⟨m,hm.sameBut sb ?_,fun h' sb2=>?_⟩) hf)
 ·rcases ha with e|e
  ·subst e;exact f.2.1
  ·exact fun z=>f.2.2.2.2.1 x a e z.symm
 ·exact⟨_,H',I2.turned (t':=s2.toks) (it:=C) (fun b o hb e=>(sb2.2 b hb).trans e) f.1 f.2.1 f.2.2.2.1 f.2.2.2.2.1 f.2.2.2.2.2,q⟩
end
structure It.Of(J:It)(Ok:Hp→Prop)(xs:List V):Prop where
 go:∀ i H,Ok H→i < xs.length→J.go i H
 yld:∀ i H x H',Ok H→i < xs.length→J.yld i H x H'→H'=H∧xs[i]? = some x
 stop:∀ H,Ok H→J.stop xs.length H
theorem JG{K:PySem.W.Frag}{a:Addr}{xs:List V}:(Zw K a).Of (fun H=>xm K H a xs) xs :=
 ⟨fun i H h hi=>⟨xs,xs[i],h,by simp[hi]⟩,fun i H x H' h _ y=>⟨y.1,y.2 xs h⟩,fun H h=>⟨xs,h,Nat.le_refl _⟩⟩
theorem Ox{K:PySem.W.Frag}{a:Addr}{xs:List V}:(Zu K a).Of (fun H=>zr K H a xs) xs :=
 ⟨fun i H h hi=>⟨xs,xs[i],h,by simp[hi]⟩,fun i H x H' h _ y=>⟨y.1,y.2 xs h⟩,fun H h=>⟨xs,h,Nat.le_refl _⟩⟩
def Hk(lo:Int)(n:Nat):List V:=(List.range n).map fun i=>V.int (lo+(i:Nat))
theorem ye(lo:Int)(n:Nat):(Hk lo n).length=n:=by simp[Hk]
theorem Nq{lo:Int}{n i:Nat}(h:i < n):(Hk lo n)[i]? = some (.int (lo+i)):=by simp[Hk,h]
theorem OJ{lo:Int}{n:Nat}:(Xw lo n).Of (fun _=>True) (Hk lo n) :=
 ⟨fun i H _ hi=>by rw[ye] at hi;exact hi,fun i H x H' _ hi y=>⟨y.1,by rw[ye] at hi;rw[y.2];exact Nq hi⟩,fun H _=>by rw[ye];exact Nat.le_refl _⟩
end L2
namespace L2
open PySem PySem.Spec PyProof.Rows
def sgn(c:Nat):V:=.str ⟨#[c]⟩
def Hb(x:Str):List V:=x.cps.toList.map sgn
theorem Eg(x:Str):(Hb x).length=x.length:=by simp[Hb,Str.length]
def Xm(x:Str):It:=⟨fun i _=>i < x.length,fun i H y H'=>H'=H∧(Hb x)[i]? = some y,fun i _=>i=x.length⟩
theorem Oz{x:Str}:(Xm x).Of (fun _=>True) (Hb x) :=
 ⟨fun i H _ hi=>by rw[Eg] at hi;exact hi,fun i H y H' _ _ h=>h,fun H _=>Eg x⟩
theorem DX{P:Program}{w:World}{K:PySem.W.Frag}{tg:Expr}(it:Addr)(x:Str)(t:Tok)(ty:String)
 (hty:["enumerate", "zip", "dict_itemiterator", "dict_reverseitemiterator", "odict_iterator", "itertools.zip_longest", "itertools.pairwise"].contains ty=false)
 (W:∀ A':Around,A'.handled=none→Walks P w A' it [it] [it] x.cps.size (SignAt x) (fun i h=>h.IsStrIter it ty x t i))
 (sf:∀ (A:Around) (i:Nat) (s:Shared) (Q:Value→Shared→Prop) (E:Value→Shared→Prop),s.heap.IsStrIter it ty x t i→Q (.ref it) s→wpAny (model P w) A (pyIter (.ref it)) Q E s) :
 Turn P w K tg (Xm x) [it] it (fun i h=>h.IsStrIter it ty x t i) where
 mem:=by simp
 obj:=fun i h st b hb=>by
  have e:b=it:=by simpa using hb
  subst e
  obtain⟨o,e,c,d⟩:=st
  exact⟨o,e,fun v z=>by rw[d] at z;cases z⟩
 keep:=fun i h h' st k=>let ⟨o,ho,r⟩:=st;⟨o,k it (by simp) o ho,r⟩
 item:=by
  intro X hP hw hK hc i pins s σ H E I hf st hg
  subst hP hw hK
  obtain⟨f0,f1,f2,f3,f4,f5⟩:=hf it (by simp)
  refine(W X.A (I.ok.hd hc)).item i s _ _ hg st fun v h' tk hv st' kk=>?_
  obtain⟨c,u,e,rfl⟩:=hv
  have I1:Inv X pins σ H { s with heap:=h',toks:=tk }:=I.turned (fun b o hb e=>kk b o (by simpa using hb) e) f0 f1 f3 f4 f5
  obtain⟨o,e',c',d'⟩:=id st'
  refine⟨_,rfl,FN (s:={ s with heap:=h',toks:=tk }) e' c' d' hty ⟨sgn c,H,I1,⟨u,rfl⟩,⟨rfl,?_⟩,st',fun b hb=>(hf b hb).1⟩⟩
  unfold Hb
  rw[List.getElem?_map,Array.getElem?_toList,e]
  rfl
 done:=by
  intro X hP hw hK hc i pins s σ H E I hf st hg
  subst hP hw hK
  obtain⟨f0,f1,f2,f3,f4,f5⟩:=hf it (by simp)
  have hg:i=x.length:=hg
  subst hg
  exact(W X.A (I.ok.hd hc)).done s _ _ st fun h' tk kk=>⟨rfl,I.turned (fun b o hb e=>kk b o (by simpa using hb) e) f0 f1 f3 f4 f5⟩
 self:=sf
section
variable{X:Cx}{tg:Expr}
def Y4(tl:TE):TI:=fun σ H R=>tl σ H fun x H1=>∃ z,x=.str z∧R (Xm z) H1
theorem V4{l:Expr}{tl:TE}(hl:PE X l tl):PI X tg l (Y4 tl):=by
 intro pins s σ H R I h
 refine eX (hl pins s σ H _ I h) fun v s1 ⟨x,H1,I1,r1,q1⟩=>?_
 obtain⟨z,e,q⟩:=q1
 subst e
 obtain⟨t,rfl⟩:=r1
 cases ha:z.cps.all (· < 128)
 ·refine wpAny_pyIter_wide ha ?_
  refine⟨s1.heap.objs.size,[s1.heap.objs.size],_,Xm z,H1,rfl,I1.kept (t':=s1.toks) fun b o e=>Heap.get?_push_of_some _ e,DX _ z t "str_iterator" (by decide) (fun A' hA=>Walks.strWide hA _ z t) (fun _ _ _ _ _ st hQ=>wpAny_pyIter_striter_wide st hQ),⟨_,Heap.get?_push_size _ rfl,rfl,rfl⟩,fun b hb=>?_,q⟩
  have e:b=s1.heap.objs.size:=by simpa using hb
  subst e
  exact I1.uA (Nat.le_refl _) (I1.hok.fresh (Nat.le_refl _))
 ·refine wpAny_pyIter_ascii ha ?_
  refine⟨s1.heap.objs.size,[s1.heap.objs.size],_,Xm z,H1,rfl,I1.kept (t':=s1.toks) fun b o e=>Heap.get?_push_of_some _ e,DX _ z t "str_ascii_iterator" (by decide) (fun A' hA=>Walks.strAscii hA _ z t) (fun _ _ _ _ _ st hQ=>wpAny_pyIter_striter_ascii st hQ),⟨_,Heap.get?_push_size _ rfl,rfl,rfl⟩,fun b hb=>?_,q⟩
  have e:b=s1.heap.objs.size:=by simpa using hb
  subst e
  exact I1.uA (Nat.le_refl _) (I1.hok.fresh (Nat.le_refl _))
theorem K4:pJ X (compareOp .Gt) (fun x y H Q=>∃ i j,x=.str i∧y=.str j∧Q (.bl (decide (j.cps.toList < i.cps.toList))) H):=by
 intro pins s σ H x y v u Q I rx ry h
 obtain⟨i,j,rfl,rfl,q⟩:=h
 obtain⟨t,rfl⟩:=rx
 obtain⟨t',rfl⟩:=ry
 exact PySem.P.gt_str (yQ I q rfl)
def LK(x:Str)(lo hi:Option Int):Str:=⟨((x.cps.toList.drop (HT.q8 x.length 0 lo)).take (HT.q8 x.length x.length hi - HT.q8 x.length 0 lo)).toArray⟩
theorem M8(lo hi:Option Int)(n:Nat):Builtin.Str.strSliceIndices lo hi 1 n=(List.range (HT.q8 n n hi - HT.q8 n 0 lo)).map (fun k=>HT.q8 n 0 lo+k):=by
 have h1:∀ (v:Option Int) (d:Nat),d≤n→(match v with|none=>(d:Int)|some i=>max 0 (min (if i < 0 then i+(n:Int) else i) (n:Int)))=((HT.q8 n d v:Nat):Int):=by
  intro v d hd
  cases v with
  | none=>rfl
  | some i =>
   show max 0 (min (if i < 0 then i+(n:Int) else i) (n:Int))=(((if i < 0 then (i+(n:Int)).toNat else min i.toNat n):Nat):Int)
   by_cases hv:i < 0
   ·simp only[if_pos hv];omega
   ·simp only[if_neg hv];omega
 have fin:∀ (p q:Int) (a b:Nat),p=(a:Int)→q=(b:Int)→sliceRange p q 1=(List.range (b - a)).map (fun k=>a+k):=by
  intro p q a b e1 e2
  subst e1 e2
  unfold sliceRange
  simp only[show ((1:Int) > 0)=True from by simp,if_true]
  by_cases hlt:(a:Int) < b
  ·have e3:(((b:Int) - a+1 - 1) / 1).toNat=b - a:=by first|omega|(simp;done)|(simp;omega)
   simp only[hlt,if_true,e3]
   refine List.map_congr_left fun k _=>?_
   omega
  ·have:b - a=0:=by omega
   simp[hlt,this]
 unfold Builtin.Str.strSliceIndices
 refine fin _ _ _ _ ?_ ?_
 ·have:=h1 lo 0 (Nat.zero_le _)
  cases lo with
  | none=>exact this
  | some i=>exact this
 ·have:=h1 hi n (Nat.le_refl _)
  cases hi with
  | none=>exact this
  | some i=>exact this
theorem Kw(x:Str)(lo hi:Option Int):Txt.slice x lo hi=LK x lo hi:=by
 have hle:HT.q8 x.length x.length hi≤x.length:=HT.Ni _ _ (Nat.le_refl _) hi
 have ha:HT.q8 x.length 0 lo≤x.length:=HT.Ni _ _ (Nat.zero_le _) lo
 unfold Txt.slice LK
 rw[M8]
 generalize HT.q8 x.length 0 lo=a at *
 generalize HT.q8 x.length x.length hi=b at *
 have hp:((List.range (b - a)).map (fun k=>a+k)).filterMap (fun i=>x.cps[i]?)=(x.cps.toList.drop a).take (b - a):=by
  have h:=StrLaws.picks x.cps.toList (b - a) a (by simp[Str.length] at hle ha ⊢;omega)
  simpa using h
 split
 ·rename_i h
  simp only[List.length_map,List.length_range,beq_self_eq_true,Bool.true_and,beq_iff_eq] at h
  have e:a=0∨x.length=0:=by omega
  have e2:(x.cps.toList.drop a).take (b - a)=x.cps.toList:=by
   rw[h]
   rcases e with e|e
   ·subst e
    rw[List.drop_zero]
    exact List.take_of_length_le (by simp[Str.length])
   ·have:x.cps.toList=[]:=List.eq_nil_of_length_eq_zero (by simpa [Str.length] using e)
    rw[this];simp
  rw[e2]
 ·rw[hp]
def Yj:V→Option Int→Option Int→Hp→VK→Prop:=fun x lo hi H Q=>∃ z,x=.str z∧z.length≤sizeLine∧Q (.str (LK z lo hi)) H
theorem VD:Ri X Yj:=by
 intro pins s σ H x v vl vu lo hi sl Q I rx hs pl pu h
 obtain⟨z,rfl,hz,q⟩:=h
 obtain⟨t,rfl⟩:=rx
 have fin:∀ (l u:Option (Int×Tok)),vl=partValue l→vu=partValue u→lo=l.map (·.1)→hi=u.map (·.1) →
  wpAny (model X.prog X.w) X.A (getItem (.str z t) (.ref sl)) (EP X pins σ Q) X.xe s:=by
  intro l u e1 e2 e3 e4
  subst e1 e2 e3 e4
  refine wpAny_getItem_str_slice (l:=l) (u:=u) (st:=none) hs rfl ?_
  refine post_val_or_str ⟨Nat.le_trans (Txt.slice_le z _ _) hz,fun t' k=>?_⟩
  refine⟨.str (LK z _ _),H,I.tok k,⟨t',?_⟩,q⟩
  show Value.str (Txt.slice z _ _) t'=_
  rw[Kw]
 refine⟨"str", _,F.slot_str_getitem.lookup,typeIs_str _ _ _,?_⟩
 cases pl with
 | none=>cases pu with
  | none=>exact fin none none rfl rfl rfl rfl
  | int j tj=>exact fin none (some (j,tj)) rfl rfl rfl rfl
 | int i ti=>cases pu with
  | none=>exact fin (some (i,ti)) none rfl rfl rfl rfl
  | int j tj=>exact fin (some (i,ti)) (some (j,tj)) rfl rfl rfl rfl
def Yy(neg:Bool):R2:=fun x y H Q=>∃ c z,x=sgn c∧y=.str z∧Q (.bl (if neg then !decide (c∈z.cps.toList) else decide (c∈z.cps.toList))) H
theorem Wc:pJ X (compareOp .In) (Yy false):=by
 intro pins s σ H x y v u Q I rx ry h
 obtain⟨c,z,rfl,rfl,q⟩:=h
 refine K3 pins s σ H _ _ v u Q I rx ry ⟨_,z,rfl,rfl,?_⟩
 rw[StrLaws.found_one];exact q
def Yw(K:PySem.W.Frag):List V→Hp→VK→Prop:=fun xs H Q=>∃ x t T b,xs=[x,.ty T]∧uQ K H x t∧PySem.W.kitOne K t (.type T)=some b∧Q (.bl b) H
theorem lD:jg X (.builtin "isinstance") (Yw X.K):=by
 intro pins s σ H xs us Q I r h
 obtain⟨x,t,T,b,rfl,ty,e,q⟩:=h
 obtain⟨u,w',rfl,rx,rt⟩:=vals2 r
 cases (show w'=Value.type T from rt)
 exact Ln I rx ty e fun tk=>⟨.bl b,H,I.tok tk,rfl,q⟩
end
end L2
namespace L2
open PySem PySem.Spec PyProof.Rows
def QG(osc:Scope)(N N':List Str)(ρ : List (Option Nat))(sc:Scope):Bool :=
 sc.names.all (fun y=>!(decide (y.2=.cell))) && sc.names.all (fun y=>!(decide (y.2=.local)) || decide (sc.names.lookup y.1=some .local)) &&
 sc.names.all (fun y=>!(decide (y.2=.free)) || (decide (osc.names.lookup y.1=some .cell) || decide (osc.names.lookup y.1=some .free))) &&
 decide (ρ.length=N'.length) && (List.range ρ.length).all fun i=>match ρ[i]? with
  | some (some j)=>(match N'[i]? with|some x=>decide (N[j]? = some x) && decide (sc.names.lookup x=some .free)|none=>false)
  | _=>true
theorem d8.of{X:Cx}{N':List Str}{ρ : List (Option Nat)}{sc:Scope}(hk:sc.kind=.function)(h:QG X.env.scope X.N N' ρ sc=true):d8 X N' ρ sc:=by
 unfold QG at h
 simp only[Bool.and_eq_true,List.all_eq_true,Bool.or_eq_true,Bool.not_eq_true',decide_eq_true_eq,decide_eq_false_iff_not] at h
 obtain⟨⟨⟨⟨h1,h2⟩,h3⟩,h4⟩,h5⟩:=h
 refine⟨hk,fun y hy=>h1 y hy,fun y hy e=>(h2 y hy).resolve_left (fun z=>z e),fun y hy e=>(h3 y hy).resolve_left (fun z=>z e),h4,fun i j e=>?_⟩
 have hi:i < ρ.length:=(List.getElem?_eq_some_iff.mp e).1
 have q:=h5 i (List.mem_range.mpr hi)
 rw[e] at q
 cases hN:N'[i]? with
 | none=>rw[hN] at q;cases q
 | some x =>
  rw[hN] at q
  simp only[Bool.and_eq_true,decide_eq_true_eq] at q
  exact⟨x,rfl,q.1,q.2⟩
structure mW(P:Program)(w:World)(K:PySem.W.Frag)(mg:Str→Option Value)(base:Heap)(CX:Jl)(k:Nat)(x:Str)(ps:List Str)(sp:Sp):Prop where
 ex:∃ (f:Addr) (fd:FuncData),mg x=some (.ref f)∧PySem.W.keepIn K (.ref f)=true∧Binds K fd ps []∧dG P w K mg base CX k f fd ps sp
theorem bf{X:Cx}{CX:Jl}{k:Nat}{x:Str}{ps:List Str}{sp:Sp}{E:XK}{e:Expr}{es:List Expr}{t:TA}{p pos:Pos}(C:mW X.prog X.w X.K X.mg X.base CX k x ps sp)(hr:jx k X.A)(hg:Gl X x)(hx:Du CX X E)
 (ha:PA X (e::es) t) (hdb:(x == ("__debug__" : Str))=false:=by decide) (he:starEach (e::es) X.env=(false,eval e X.env)::starEach es X.env:=by rfl) (hpl:(backTo pos (starEach es X.env)).any (·.1)=false:=by rfl) :
 PE X (.Call (.Name x p) (e::es) [] pos) (vQ sp [] E t):=by
 obtain⟨f,fd,hm,hk,hb,F⟩:=C.ex
 exact R5 F hr hg hm hk hb .nil hx ha hdb he hpl
theorem yo{X:Cx}{x:Str}{T:String}{pos:Pos}(hg:Gl X x)(hm:X.mg x=none)(hv:bootBuiltins x=some (.type T))(hn:x ≠ "__name__" := by decide)(hd:(x == ("__debug__" : Str))=false:=by decide):PE X (.Name x pos) (tC (.ty T)) :=
 R6 hg hm hv rfl hn hd
structure rF(K:PySem.W.Frag)(mg:Str→Option Value)(x:Str)(st:Stmt)(ps:List Str):Prop where
 ex:∃ (f:Addr) (fd:FuncData),mg x=some (.ref f)∧PySem.W.keepIn K (.ref f)=true∧Binds K fd ps []∧(∀ (s:Shared) (us:List Value),us.length=ps.length→BindsTo s fd ⟨us,[]⟩ (ps.zip us))∧qF K x x st f fd
theorem vC{K:PySem.W.Frag}{h:Heap}{mg:Str→Option Value}{x:Str}{st:Stmt}{ps:List Str}{f:Addr}{oc:Value}{od an:Option Addr}{osl:Array (Option Value)}{kV doc pm cdv ct:Value}(X:K.In h)(G:h.Ns mainGlobals mg)
 (hb:∀ (kV doc pm:Value) (an:Option Addr) (cdv ct:Value) (us:List Value),us.length=ps.length→bindArgs (PySem.W.fnOf x x (j4 st) (jf st) (aX st) .none kV doc pm an cdv ct) ⟨us,[]⟩=pure (ps.zip us))
 (a:PySem.W.nsIn K mainGlobals x=some (some (.ref f))) (l:K.lookup f=some ⟨oc,od,.func (PySem.W.fnOf x x (j4 st) (jf st) (aX st) .none kV doc pm an cdv ct),osl⟩)
 (c:PySem.W.codeIn K cdv x=true) (k:PySem.W.keepIn K (.ref f)=true):rF K mg x st ps:=by
 have F:=Qh (st:=st) l c k
 exact⟨f,_,PySem.W.mg_of X G a,k,F.binds hb,fun s us hl=>.of_eq (hb kV doc pm an cdv ct us hl),F⟩
theorem rF.cal{P:Program}{w:World}{K:PySem.W.Frag}{mg:Str→Option Value}{base:Heap}{CX:Jl}{k:Nat}{x:Str}{st:Stmt}{ps:List Str}{sp:Sp}(F:rF K mg x st ps)(h:∀ f fd,qF K x x st f fd→dG P w K mg base CX k f fd ps sp) :
 mW P w K mg base CX k x ps sp:=by
 obtain⟨f,fd,h1,h2,h3,_,h4⟩:=F.ex
 exact⟨f,fd,h1,h2,h3,h f fd h4⟩
end L2
namespace Mi
open PySem
inductive D where
 | non|bl (b:Bool)|int (i:Int)|str (x:Str)|lst (ds:List D)|tup (ds:List D)
mutual
def D.dep:D→Nat
 | .lst ds=>cM ds+1
 | .tup ds=>cM ds+1
 | _=>0
def cM:List D→Nat
 | []=>0
 | d::r=>max d.dep (cM r)
end
mutual
/-- Python's == -/
def cH:D→D→Bool
 | .non,.non=>true
 | .bl a,.bl b=>a == b
 | .bl a,.int b=>(if a then 1 else 0) == b
 | .int a,.bl b=>a == (if b then 1 else 0)
 | .int a,.int b=>a == b
 | .str a,.str b=>a == b
 | .lst a,.lst b=>kZ a b
 | .tup a,.tup b=>kZ a b
 | _,_=>false
def kZ:List D→List D→Bool
 | [],[]=>true
 | a::r,b::s=>cH a b && kZ r s
 | _,_=>false
end
mutual
/-- no list in it -/
def Mt:D→Bool
 | .lst _=>false
 | .tup ds=>ux ds
 | _=>true
def ux:List D→Bool
 | []=>true
 | d::r=>Mt d && ux r
end
def De(n:Nat)(i:Int):Option Nat:=if 0≤i then (if i < n then some i.toNat else none) else if -(n:Int)≤i then some (i+n).toNat else none
def pF{α : Type}(xs:List α)(i:Int):Option α:=(De xs.length i).bind fun j=>xs[j]?
def q8(n d:Nat):Option Int→Nat
 | none=>d
 | some v=>if v < 0 then (v+(n:Int)).toNat else min v.toNat n
def yU{α : Type}(xs:List α)(lo hi:Option Int):List α:=(xs.drop (q8 xs.length 0 lo)).take (q8 xs.length xs.length hi - q8 xs.length 0 lo)
abbrev Ky:=Sum Int Str
inductive W where
 | d (x:D)|dk (kvs:List (Ky×D))|dt (kvs:List (List Ky×D))|df (kvs:List (List Ky×D))|ex (c:String)
abbrev Env:=List (Option W)
structure Vq where
 cls:String
 val:List D
inductive Rs(α : Type) where
 | ok (a:α)|ex (x:Vq)|no
def Rs.bind{α β : Type}:Rs α→(α→Rs β)→Rs β
 | .ok a,f=>f a
 | .ex x,_=>.ex x
 | .no,_=>.no
@[simp] theorem aC {α β : Type} (a:α) (f:α→Rs β):(Rs.ok a).bind f=f a:=rfl
@[simp] theorem ZP {α β : Type} (x:Vq) (f:α→Rs β):(Rs.ex x).bind f=.ex x:=rfl
@[simp] theorem ZM {α β : Type} (f:α→Rs β):(Rs.no).bind f=.no:=rfl
def Fin{α : Type}(r:Rs α)(k:α→Prop):Prop:=match r with
 | .ok a=>k a
 | _=>False
theorem aq{α β : Type}{r:Rs α}{f:α→Rs β}{k:β→Prop}:Fin (r.bind f) k↔Fin r fun a=>Fin (f a) k:=by cases r<;>exact Iff.rfl
theorem Fin.mono{α : Type}{r:Rs α}{k k':α→Prop}(h:Fin r k)(m:∀ a,k a→k' a):Fin r k':=by
 cases r with
 | ok a=>exact m a h
 | ex x=>exact h
 | no=>exact h
theorem yO{α : Type}{r s:Rs α}{k:α→Prop}(h:Fin (if true=true then r else s) k):Fin r k:=by simpa using h
theorem yP{α : Type}{r s:Rs α}{k:α→Prop}(h:Fin (if false=true then r else s) k):Fin s k:=by simpa using h
theorem jZ{α : Type}{a:α}{k:α→Prop}(h:Fin (.ok a) k):k a:=h
def pR{α : Type}:Option α→Rs α
 | some a=>.ok a
 | none=>.no
def aR{α : Type}(c:Prop)[Decidable c](r:Rs α):Rs α:=if c then r else .no
theorem au{α : Type}{c:Prop}[Decidable c]{r:Rs α}(h:c):aR c r=r:=if_pos h
theorem aU{α : Type}{c:Prop}[Decidable c]{r:Rs α}{k:α→Prop}(h:Fin (aR c r) k):c∧Fin r k:=by
 unfold aR at h
 split at h
 ·exact⟨‹_›,h⟩
 ·exact h.elim
abbrev E:=Env→Rs D
abbrev C:=Env→Rs Bool
def mC(d:D):E:=fun _=>.ok d
def mV(i:Nat):E:=fun e=>match e[i]? with
 | some (some (.d x))=>.ok x
 | _=>.no
def m1(f:D→Rs D)(a:E):E:=fun e=>(a e).bind f
def m2(f:D→D→Rs D)(a b:E):E:=fun e=>(a e).bind fun x=>(b e).bind fun y=>f x y
def iK:List E→Env→Rs (List D)
 | [],_=>.ok []
 | a::r,e=>(a e).bind fun x=>(iK r e).bind fun xs=>.ok (x::xs)
def mN(f:List D→Rs D)(as:List E):E:=fun e=>(iK as e).bind f
def dTup(ds:List D):Rs D:=aR (ds.length≤16777216) (.ok (.tup ds))
def pC(ds:List D):Rs D:=aR (ds.length≤16777216) (.ok (.lst ds))
def Xd:D→Rs Bool
 | .bl b=>.ok b
 | _=>.no
def rA(a b:E):E:=fun e=>(a e).bind fun x=>(Xd x).bind fun c=>if c=true then b e else .ok (.bl false)
def Pn(a b:E):E:=fun e=>(a e).bind fun x=>(Xd x).bind fun c=>if c=true then .ok (.bl true) else b e
def CK(f g:D→D→Rs D)(a b c:E):E:=fun e=>(a e).bind fun x=>(b e).bind fun y=>(f x y).bind fun z=>(Xd z).bind fun k=>if k=true then (c e).bind fun w=>g y w else .ok (.bl false)
def Zk:D→Rs Int
 | .int i=>.ok i
 | _=>.no
def nG:Option E→Env→Rs (Option Int)
 | none,_=>.ok none
 | some a,e=>(a e).bind fun x=>(Zk x).bind fun i=>.ok (some i)
def qx(x:Str)(lo hi:Option Int):Str:=⟨(yU x.cps.toList lo hi).toArray⟩
def Rn(x:D)(lo hi:Option Int):Rs D:=match x with
 | .lst ds=>.ok (.lst (yU ds lo hi))
 | .str z=>aR (z.length≤16777216) (.ok (.str (qx z lo hi)))
 | _=>.no
def ji(f:D→Option Int→Option Int→Rs D)(a:E)(lo hi:Option E):E:=fun e=>(a e).bind fun x=>(nG lo e).bind fun l=>(nG hi e).bind fun h=>f x l h
def cB(a:E):C:=fun e=>(a e).bind Xd
def n6(a b:C):C:=fun e=>(a e).bind fun c=>if c=true then b e else .ok false
def mU(a b:C):C:=fun e=>(a e).bind fun c=>if c=true then .ok true else b e
def gJ(a:C):C:=fun e=>(a e).bind fun c=>.ok (!c)
def aau:D→Rs Bool
 | .non=>.ok false
 | .bl b=>.ok b
 | .int i=>.ok (i != 0)
 | .str y=>aR (y.length≤16777216) (.ok ((y.length:Int) != 0))
 | .lst ds=>.ok (!ds.isEmpty)
 | .tup ds=>.ok (!ds.isEmpty)
def T9(a:E):C:=fun e=>(a e).bind aau
abbrev I:=Env→Rs (List D)
def Il:D→Rs (List D)
 | .lst ds=>.ok ds
 | .tup ds=>.ok ds
 | .str x=>.ok (x.cps.toList.map fun c=>.str ⟨#[c]⟩)
 | _=>.no
def pN(a:E):I:=fun e=>(a e).bind Il
def dj(lo hi:Int):List D:=(List.range (hi - lo).toNat).map fun k=>.int (lo+(k:Nat))
def okR(i:Int):Prop:=-(2 ^ 62)≤i∧i < 2 ^ 62
instance (i:Int):Decidable (okR i):=inferInstanceAs (Decidable (_∧_))
def gF(a:E):I:=fun e=>(a e).bind fun x=>(Zk x).bind fun j=>aR (okR j) (.ok (dj 0 j))
def rW(k:Nat):List D→List D
 | []=>[]
 | d::r=>.tup [.int k,d]::rW (k+1) r
def An:D→Rs (List D)
 | .lst ds=>.ok ds
 | _=>.no
inductive Tg where
 | n (i:Nat)|t (is:List Nat)
def u0:List Nat→List D→Env→Rs Env
 | [],[],e=>.ok e
 | i::is,d::ds,e=>u0 is ds (e.set i (some (.d d)))
 | _,_,_=>.no
def Tg.put:Tg→D→Env→Rs Env
 | .n i,d,e=>.ok (e.set i (some (.d d)))
 | .t is,.tup ds,e=>u0 is ds e
 | _,_,_=>.no
def rN(ρ : List (Option Nat))(e:Env):Env:=ρ.map fun o=>o.bind fun j=>(e[j]?).join
def dI(tg:Tg)(c:C)(a:E)(e:Env):List D→Rs (List D)
 | []=>.ok []
 | x::r=>(tg.put x e).bind fun e1=>(c e1).bind fun k=>if k=true then (a e1).bind fun y=>(dI tg c a e r).bind fun ys=>.ok (y::ys) else dI tg c a e r
def iB:C:=fun _=>.ok true
def d9(ρ : List (Option Nat))(it:I)(tg:Tg)(c:C)(a:E):E:=fun e=>(it e).bind fun xs=>aR (xs.length≤16777216) ((dI tg c a (rN ρ e) xs).bind fun ys=>.ok (.lst ys))
abbrev Fn:=List W→Rs W
abbrev EW:=Env→Rs W
def wD(a:E):EW:=fun e=>(a e).bind fun x=>.ok (.d x)
def wV(i:Nat):EW:=fun e=>match e[i]? with
 | some (some w)=>.ok w
 | _=>.no
def bc:List EW→Env→Rs (List W)
 | [],_=>.ok []
 | a::r,e=>(a e).bind fun x=>(bc r e).bind fun xs=>.ok (x::xs)
def jm(f:Fn)(as:List EW):EW:=fun e=>(bc as e).bind f
def ZQ:W→Rs D
 | .d x=>.ok x
 | _=>.no
def aW(f:Fn)(as:List EW):E:=fun e=>(jm f as e).bind ZQ
def Vo:W→Rs D
 | .d x=>aR (Mt x=true) (.ok x)
 | _=>.no
def vq(f:Fn)(as:List EW):E:=fun e=>(jm f as e).bind Vo
inductive Out where
 | nx (e:Env)|rt (w:W)|bk (e:Env)|ct (e:Env)
abbrev S:=Env→Rs Out
def bG:S:=fun e=>.ok (.nx e)
def bj(s t:S):S:=fun e=>(s e).bind fun o=>match o with
 | .nx e'=>t e'
 | o=>.ok o
def vZ(i:Nat)(a:EW):S:=fun e=>(a e).bind fun w=>.ok (.nx (e.set i (some w)))
def cG(i:Nat)(a:E):S:=fun e=>(a e).bind fun d=>.ok (.nx (e.set i (some (.d d))))
def Yc(tg:Tg)(a:E):S:=fun e=>(a e).bind fun d=>(tg.put d e).bind fun e'=>.ok (.nx e')
def Jv(a:E):S:=fun e=>(a e).bind fun _=>.ok (.nx e)
def bZ(a:EW):S:=fun e=>(a e).bind fun w=>.ok (.rt w)
def iM(c:C)(s t:S):S:=fun e=>(c e).bind fun k=>if k=true then s e else t e
def vf:S:=fun _=>.no
def uB(tg:Tg)(body:S):List D→Env→Rs Out
 | [],e=>.ok (.nx e)
 | x::r,e=>(tg.put x e).bind fun e1=>(body e1).bind fun o=>match o with
  | .nx e2=>uB tg body r e2
  | .ct e2=>uB tg body r e2
  | .bk e2=>.ok (.nx e2)
  | .rt w=>.ok (.rt w)
def jR(it:I)(tg:Tg)(body:S):S:=fun e=>(it e).bind fun xs=>uB tg body xs e
def lZ(c:C)(body:S):Nat→Env→Rs Out
 | 0,_=>.no
 | n+1,e=>(c e).bind fun k=>if k=true then (body e).bind fun o=>match o with
  | .nx e2=>lZ c body n e2
  | .ct e2=>lZ c body n e2
  | .bk e2=>.ok (.nx e2)
  | .rt w=>.ok (.rt w)
  else .ok (.nx e)
def Hf(n:Nat)(c:C)(body:S):S:=lZ c body n
def getL(e:Env)(i:Nat):Rs (List D):=match e[i]? with
 | some (some (.d (.lst ds)))=>.ok ds
 | _=>.no
def putL(e:Env)(i:Nat)(ds:List D):Env:=e.set i (some (.d (.lst ds)))
def dH(i:Nat)(a:E):S:=fun e=>(a e).bind fun d=>(getL e i).bind fun ds=>aR (ds.length < 16777216) (.ok (.nx (putL e i (ds++[d]))))
def lO(i:Nat)(a:E):S:=fun e=>(a e).bind fun d=>(getL e i).bind fun ds=>match d with
 | .lst xs=>aR (ds.length+xs.length≤16777216) (.ok (.nx (putL e i (ds++xs))))
 | _=>.no
def Hg(i:Nat):S:=fun e=>(getL e i).bind fun ds=>.ok (.nx (putL e i []))
def JB(ds:List D)(i:Int):Rs (D×List D):=aR (-(2 ^ 63)≤i∧i < 2 ^ 63) ((pR (De ds.length i)).bind fun k=>(pR ds[k]?).bind fun d=>.ok (d,ds.eraseIdx k))
def oU(x y:Nat)(k:E):S:=fun e=>(k e).bind fun z=>(Zk z).bind fun i=>(getL e y).bind fun ds=>(JB ds i).bind fun p=>(getL (putL e y p.2) x).bind fun es =>
 aR (es.length < 16777216) (.ok (.nx (putL (putL e y p.2) x (es++[p.1]))))
def Qu:D→Option Ky
 | .int i=>some (.inl i)
 | .str x=>some (.inr x)
 | _=>none
def uE:List D→Option (List Ky)
 | []=>some []
 | d::r=>match Qu d,uE r with
  | some k,some ks=>some (k::ks)
  | _,_=>none
def wH{κ : Type}[DecidableEq κ](kvs:List (κ×D))(k:κ):Option D:=(kvs.find? fun kv=>decide (kv.1=k)).map (·.2)
def Qw(w:W)(k:D):Rs (Option D):=match w with
 | .dk kvs=>(pR (Qu k)).bind fun k=>.ok (wH kvs k)
 | .dt kvs=>match k with
  | .tup ds=>(pR (uE ds)).bind fun k=>.ok (wH kvs k)
  | _=>.no
 | .df kvs=>match k with
  | .tup ds=>(pR (uE ds)).bind fun k=>.ok (wH kvs k)
  | _=>.no
 | _=>.no
def putK{κ : Type}[DecidableEq κ](k:κ)(v:D)(kvs:List (κ×D)):List (κ×D) :=
 if (kvs.any fun kv=>decide (kv.1=k))=true then kvs.map (fun kv=>if kv.1=k then (kv.1,v) else kv) else kvs++[(k,v)]
def TV(w:W)(k v:D):Rs W:=match w with
 | .dk kvs=>aR (kvs.length < 16777216) ((pR (Qu k)).bind fun k=>.ok (.dk (putK k v kvs)))
 | .dt kvs=>match k with
  | .tup ds=>aR (kvs.length < 16777216) ((pR (uE ds)).bind fun k=>.ok (.dt (putK k v kvs)))
  | _=>.no
 | _=>.no
def nH(i:Nat)(k:E):E:=fun e=>(k e).bind fun d=>(wV i e).bind fun w=>(Qw w d).bind fun o=>.ok (.bl o.isSome)
def jW(i:Nat)(k:E):E:=fun e=>(k e).bind fun d=>(wV i e).bind fun w=>(Qw w d).bind fun o=>.ok (.bl (!o.isSome))
def lQ(i:Nat)(k v:E):S:=fun e=>(v e).bind fun x=>(k e).bind fun d=>(wV i e).bind fun w=>(TV w d x).bind fun w'=>.ok (.nx (e.set i (some w')))
def rT:Out→Rs W
 | .rt w=>.ok w
 | .nx _=>.ok (.d .non)
 | _=>.no
def wM(k n:Nat)(body:S):Fn:=fun ws=>aR (ws.length=k) ((body (ws.map some++List.replicate (n - ws.length) none)).bind rT)
def lA:Out→Rs W
 | .rt w=>.ok w
 | _=>.no
def DG(k n:Nat)(body:S):Fn:=fun ws=>aR (ws.length=k) ((body (ws.map some++List.replicate (n - ws.length) none)).bind lA)
def ug(i j:Int):Prop:=(-(2 ^ 64) < i∧i < 2 ^ 64)∨(-(2 ^ 64) < j∧j < 2 ^ 64)
instance (i j:Int):Decidable (ug i j):=inferInstanceAs (Decidable (_∨_))
def uh(j:Int):Prop:=0 < j∧j.natAbs.log2 < 9000
instance (j:Int):Decidable (uh j):=inferInstanceAs (Decidable (_∧_))
def YJ(i j:Int):Prop:=0≤j∧j≤1000000∧i.natAbs < 2 ^ 64
instance (i j:Int):Decidable (YJ i j):=inferInstanceAs (Decidable (_∧_))
def cV:D→D→Rs D
 | .int i,.int j=>.ok (.int (i+j))
 | .str i,.str j=>aR (i.length+j.length≤16777216) (.ok (.str (i++j)))
 | .lst i,.lst j=>aR (i.length+j.length≤16777216) (.ok (.lst (i++j)))
 | _,_=>.no
def Dj:D→D→Rs D
 | .int i,.int j=>.ok (.int (i - j))
 | _,_=>.no
def dg:D→D→Rs D
 | .int i,.int j=>aR (ug i j) (.ok (.int (i * j)))
 | _,_=>.no
def jO:D→D→Rs D
 | .int i,.int j=>aR (uh j) (.ok (.int (i / j)))
 | _,_=>.no
def fJ:D→D→Rs D
 | .int i,.int j=>aR (0 < j) (.ok (.int (i % j)))
 | _,_=>.no
def W0:D→Rs D
 | .int i=>.ok (.int (-i))
 | _=>.no
def DK:D→D→Rs D
 | .int i,.int j=>.ok (.bl (decide (i < j)))
 | .str i,.str j=>.ok (.bl (decide (i.cps.toList < j.cps.toList)))
 | _,_=>.no
def dGt:D→D→Rs D
 | .int i,.int j=>.ok (.bl (decide (j < i)))
 | .str i,.str j=>.ok (.bl (decide (j.cps.toList < i.cps.toList)))
 | _,_=>.no
def Xu:D→D→Rs D
 | .int i,.int j=>.ok (.bl (decide (i≤j)))
 | _,_=>.no
def qW(x y:D):Rs D:=aR (x.dep≤16) (.ok (.bl (cH x y)))
def Am(x y:D):Rs D:=aR (x.dep≤16) (.ok (.bl (!cH x y)))
def PQ:D→Bool
 | .non=>true
 | _=>false
def dIs(x y:D):Rs D:=match y with
 | .non=>.ok (.bl (PQ x))
 | _=>.no
def Qv(x y:D):Rs D:=match y with
 | .non=>.ok (.bl (!PQ x))
 | _=>.no
def nZ(x y:D):Rs D:=match y with
 | .lst ds=>aR (cM ds≤16) (.ok (.bl (ds.any fun e=>cH e x)))
 | .tup ds=>aR (cM ds≤16) (.ok (.bl (ds.any fun e=>cH e x)))
 | .str z=>match x with
  | .str s=>aR (s.length=1) (.ok (.bl (decide (s.cps.getD 0 0∈z.cps.toList))))
  | _=>.no
 | _=>.no
def dz(x y:D):Rs D:=match y with
 | .lst ds=>aR (cM ds≤16) (.ok (.bl (!ds.any fun e=>cH e x)))
 | .tup ds=>aR (cM ds≤16) (.ok (.bl (!ds.any fun e=>cH e x)))
 | _=>.no
def bz(x y:D):Rs D:=match x,y with
 | .lst ds,.int i=>pR (pF ds i)
 | .tup ds,.int i=>pR (pF ds i)
 | .str z,.int i=>aR (z.length≤16777216) ((pR (pF z.cps.toList i)).bind fun c=>.ok (.str ⟨#[c]⟩))
 | _,_=>.no
def fX:List D→Rs D
 | [.lst ds]=>.ok (.int ds.length)
 | [.tup ds]=>.ok (.int ds.length)
 | [.str z]=>aR (z.length≤16777216) (.ok (.int z.length))
 | _=>.no
def vJ:List D→Rs D
 | [.int i,.int j]=>.ok (.int (max i j))
 | _=>.no
def Gp:List D→Rs D
 | [.int i,.int j]=>.ok (.int (min i j))
 | _=>.no
def Ra:List D→Option (List Bool)
 | []=>some []
 | .bl b::r=>(Ra r).map (b :: ·)
 | _=>none
def W9:List D→Rs D
 | [.lst ds]=>(pR (Ra ds)).bind fun bs=>.ok (.bl (bs.all id))
 | _=>.no
def QZ:List D→Rs D
 | [.lst ds]=>.ok (.lst ds)
 | [.tup ds]=>.ok (.lst ds)
 | _=>.no
def vI:List D→Rs D
 | [.lst ds]=>.ok (.tup ds)
 | [.tup ds]=>.ok (.tup ds)
 | _=>.no
def Te(t:String):D→Bool
 | .non=>false
 | .bl _=>t == "bool" || t == "int"
 | .int _=>t == "int"
 | .str _=>t == "str"
 | .lst _=>t == "list"
 | .tup _=>t == "tuple"
def MN:D→String
 | .non => "NoneType" | .bl _ => "bool" | .int _ => "int" | .str _ => "str" | .lst _ => "list" | .tup _ => "tuple"
def IW(ts:List String)(x:D):Rs D:=.ok (.bl (ts.any fun t=>Te t x))
def zj:List D→Option (List Str)
 | []=>some []
 | .str b::r=>(zj r).map (b :: ·)
 | _=>none
def J6(x y:D):Rs D:=match x,y with
 | .str sep,.lst ds=>(pR (zj ds)).bind fun ys=>aR ((ys.map (·.length)).sum+ys.length * sep.length≤16777216) (.ok (.str (Str.join sep ys)))
 | _,_=>.no
def met(val:Nat→Str):Nat→List Str
 | 0=>[]
 | i+1=>if val i∈met val i then met val i else met val i++[val i]
end Mi
namespace L2
open PySem PySem.Spec PyProof.Rows
open Mi (D cM cH kZ)
mutual
theorem kE:∀ d:D,cH d d=true
 | .non=>rfl
 | .bl b=>by simp[cH]
 | .int i=>by simp[cH]
 | .str x=>by simp[cH]
 | .lst ds=>by rw[cH];exact sW ds
 | .tup ds=>by rw[cH];exact sW ds
theorem sW:∀ ds:List D,kZ ds ds=true
 | []=>rfl
 | d::r=>by rw[kZ,kE d,sW r];rfl
end
theorem m8:∀ {ds es:List D},ds.length≠es.length→kZ ds es=false
 | [],[],h=>absurd rfl h
 | [],_::_,_=>rfl
 | _::_,[],_=>rfl
 | d::r,e::s,h=>by rw[kZ,m8 (fun z=>h (by rw[List.length_cons,List.length_cons,z])),Bool.and_false]
theorem m9:∀ {ds es:List D},ds.length=es.length→kZ ds es=(List.range ds.length).all fun j=>cH (ds.getD j .non) (es.getD j .non)
 | [],[],_=>rfl
 | [],_::_,h=>by simp at h
 | _::_,[],h=>by simp at h
 | d::r,e::s,h=>by
  rw[kZ,m9 (by simpa using h),List.length_cons,List.range_succ_eq_map,List.all_cons,List.all_map]
  rfl
mutual
/-- the value v in the heap H is the tree d -/
def Rep(K:PySem.W.Frag)(H:Hp):D→V→Prop
 | .non,v=>v=.non
 | .bl b,v=>v=.bl b
 | .int i,v=>v=.int i
 | .str x,v=>v=.str x
 | .lst ds,v=>∃ a xs,v=.ref a∧xm K H a xs∧bW K H ds xs
 | .tup ds,v=>∃ a xs,v=.ref a∧zr K H a xs∧bW K H ds xs
def bW(K:PySem.W.Frag)(H:Hp):List D→List V→Prop
 | [],vs=>vs=[]
 | d::ds,vs=>∃ v r,vs=v::r∧Rep K H d v∧bW K H ds r
end
theorem bW.length{K:PySem.W.Frag}{H:Hp}:∀ {ds:List D} {vs:List V},bW K H ds vs→ds.length=vs.length
 | [],vs,h=>by rw[bW] at h;subst h;rfl
 | d::ds,vs,h=>by
  rw[bW] at h
  obtain⟨v,r,rfl,_,q⟩:=h
  rw[List.length_cons,List.length_cons,bW.length q]
theorem bW.get{K:PySem.W.Frag}{H:Hp}:∀ {ds:List D} {vs:List V} {j:Nat} {v:V},bW K H ds vs→vs[j]? = some v→Rep K H (ds.getD j .non) v
 | [],vs,j,v,h,e=>by rw[bW] at h;subst h;simp at e
 | d::ds,vs,0,v,h,e=>by
  rw[bW] at h
  obtain⟨v',r,rfl,p,q⟩:=h
  simp at e;subst e;exact p
 | d::ds,vs,j+1,v,h,e=>by
  rw[bW] at h
  obtain⟨v',r,rfl,p,q⟩:=h
  have:=bW.get (j:=j) (v:=v) q (by simpa using e)
  simpa using this
section
variable{X:Cx}{pins:List (Addr×Obj)}{σ : St}{H:Hp}{s:Shared}
theorem Inv.Fl(I:Inv X pins σ H s){a:Addr}{xs ys:List V}(h:xm X.K H a xs)(h':zr X.K H a ys):False:=by
 obtain⟨its,_,p,_⟩:=I.list h
 obtain⟨its',_,q,_⟩:=I.tuple h'
 obtain⟨o,n,e,c,_⟩:=p
 obtain⟨o',e',c',_⟩:=q
 rw[e] at e';cases e'
 rw[c] at c'
 exact absurd (Value.type.inj c') (by decide)
mutual
theorem Rep.inj(I:Inv X pins σ H s):∀ {d e:D} {v:V},Rep X.K H d v→Rep X.K H e v→d=e
 | .non,e,v,h,h'=>by
  rw[Rep] at h;subst h
  cases e<;>rw[Rep] at h'<;>first|rfl|(obtain⟨_,_,z,_⟩:=h';cases z)|cases h'
 | .bl b,e,v,h,h'=>by
  rw[Rep] at h;subst h
  cases e<;>rw[Rep] at h'<;>first|(obtain⟨_,_,z,_⟩:=h';cases z)|(cases h';rfl)|cases h'
 | .int b,e,v,h,h'=>by
  rw[Rep] at h;subst h
  cases e<;>rw[Rep] at h'<;>first|(obtain⟨_,_,z,_⟩:=h';cases z)|(cases h';rfl)|cases h'
 | .str b,e,v,h,h'=>by
  rw[Rep] at h;subst h
  cases e<;>rw[Rep] at h'<;>first|(obtain⟨_,_,z,_⟩:=h';cases z)|(cases h';rfl)|cases h'
 | .lst ds,e,v,h,h'=>by
  rw[Rep] at h
  obtain⟨a,xs,rfl,q,r⟩:=h
  cases e with
  | lst es =>
   rw[Rep] at h'
   obtain⟨a',xs',z,q',r'⟩:=h'
   cases z
   rw[I.yD q' q] at r'
   rw[bW.inj I r r']
  | tup es =>
   rw[Rep] at h'
   obtain⟨a',xs',z,q',r'⟩:=h'
   cases z
   exact(I.Fl q q').elim
  | _=>rw[Rep] at h';cases h'
 | .tup ds,e,v,h,h'=>by
  rw[Rep] at h
  obtain⟨a,xs,rfl,q,r⟩:=h
  cases e with
  | tup es =>
   rw[Rep] at h'
   obtain⟨a',xs',z,q',r'⟩:=h'
   cases z
   rw[I.uZ q' q] at r'
   rw[bW.inj I r r']
  | lst es =>
   rw[Rep] at h'
   obtain⟨a',xs',z,q',r'⟩:=h'
   cases z
   exact(I.Fl q' q).elim
  | _=>rw[Rep] at h';cases h'
theorem bW.inj(I:Inv X pins σ H s):∀ {ds es:List D} {vs:List V},bW X.K H ds vs→bW X.K H es vs→ds=es
 | [],es,vs,h,h'=>by
  rw[bW] at h;subst h
  cases es with
  | nil=>rfl
  | cons e es=>rw[bW] at h';obtain⟨_,_,z,_⟩:=h';cases z
 | d::ds,es,vs,h,h'=>by
  rw[bW] at h
  obtain⟨v,r,rfl,p,q⟩:=h
  cases es with
  | nil=>rw[bW] at h';cases h'
  | cons e es =>
   rw[bW] at h'
   obtain⟨v',r',z,p',q'⟩:=h'
   cases z
   rw[Rep.inj I p p',bW.inj I q q']
end
theorem vD:∀ {ds:List D} {j:Nat},(ds.getD j .non).dep≤cM ds
 | [],j=>by simp[D.dep]
 | d::ds,0=>by simp[cM];omega
 | d::ds,j+1=>by
  have:=vD (ds:=ds) (j:=j)
  have e:(d::ds).getD (j+1) .non=ds.getD j .non:=by simp
  rw[e,cM];omega
def _root_.Mi.D.flat:D→Bool
 | .lst _=>false
 | .tup _=>false
 | _=>true
def _root_.Mi.D.toV:D→V
 | .non=>.non|.bl b=>.bl b|.int i=>.int i|.str x=>.str x|.lst _=>.non|.tup _=>.non
theorem Rep.flat{K:PySem.W.Frag}:∀ {d:D} {v:V},d.flat=true→Rep K H d v→v=d.toV∧Qk v=true
 | .non,v,_,h=>by rw[Rep] at h;subst h;exact⟨rfl,rfl⟩
 | .bl b,v,_,h=>by rw[Rep] at h;subst h;exact⟨rfl,rfl⟩
 | .int b,v,_,h=>by rw[Rep] at h;subst h;exact⟨rfl,rfl⟩
 | .str b,v,_,h=>by rw[Rep] at h;subst h;exact⟨rfl,rfl⟩
 | .lst _,v,z,h=>by cases z
 | .tup _,v,z,h=>by cases z
theorem KQ:∀ {d e:D},d.flat=true→e.flat=true→cH d e=eqV d.toV e.toV:=by
 intro d e h1 h2
 cases d<;>cases e<;>first|rfl|exact absurd (show false=true from h1) Bool.false_ne_true|exact absurd (show false=true from h2) Bool.false_ne_true
open SeqAt in
theorem Ql(I:Inv X pins σ H s):∀ (n:Nat) (d e:D) (A:Around) {x y:V} {u u':Value},d.dep≤n→A.units+n < cLine→Rep X.K H d x→Rep X.K H e y→RelV x u→RelV y u'→EqAt A s u u' (cH d e):=by
 intro n
 induction n using Nat.strongRecOn with
 | ind n ih =>
  intro d e A x y u u' hd hu h h' r r'
  have hu0:A.units < cLine:=by omega
  by_cases hdf:d.flat=true
  ·obtain⟨ex,fx⟩:=h.flat hdf
   subst ex
   by_cases hef:e.flat=true
   ·obtain⟨ey,fy⟩:=h'.flat hef
    subst ey
    rw[KQ hdf hef]
    exact WN r r' fx fy
   ·cases e with
    | lst es =>
     rw[Rep] at h'
     obtain⟨a,xs,rfl,q,_⟩:=h'
     cases r'
     obtain⟨its,_,p,_⟩:=I.list q
     cases d with
     | non=>cases r;exact EqAt.none_list p.isList hu0
     | bl b=>cases r;exact EqAt.bool_list b p.isList hu0
     | int b=>obtain⟨t,rfl⟩:=r;exact EqAt.int_list b t p.isList hu0
     | str b=>obtain⟨t,rfl⟩:=r;exact EqAt.str_list b t p.isList hu0
     | _=>cases hdf
    | tup es =>
     rw[Rep] at h'
     obtain⟨a,xs,rfl,q,_⟩:=h'
     cases r'
     obtain⟨its,_,p,_⟩:=I.tuple q
     cases d with
     | non=>cases r;exact EqAt.none_tuple p hu0
     | bl b=>cases r;exact EqAt.bool_tuple b p hu0
     | int b=>obtain⟨t,rfl⟩:=r;exact EqAt.int_tuple b t p hu0
     | str b=>obtain⟨t,rfl⟩:=r;exact EqAt.str_tuple b t p hu0
     | _=>cases hdf
    | _=>exact absurd rfl hef
  ·by_cases hef:e.flat=true
   ·obtain⟨ey,fy⟩:=h'.flat hef
    subst ey
    cases d with
    | lst ds =>
     rw[Rep] at h
     obtain⟨a,xs,rfl,q,_⟩:=h
     cases r
     obtain⟨its,_,p,_⟩:=I.list q
     cases e with
     | non=>cases r';exact EqAt.list_none p.isList hu0
     | bl b=>cases r';exact EqAt.list_bool b p.isList hu0
     | int b=>obtain⟨t,rfl⟩:=r';exact EqAt.list_int b t p.isList hu0
     | str b=>obtain⟨t,rfl⟩:=r';exact EqAt.list_str b t p.isList hu0
     | _=>cases hef
    | tup ds =>
     rw[Rep] at h
     obtain⟨a,xs,rfl,q,_⟩:=h
     cases r
     obtain⟨its,_,p,_⟩:=I.tuple q
     cases e with
     | non=>cases r';exact EqAt.tuple_none p hu0
     | bl b=>cases r';exact EqAt.tuple_bool b p hu0
     | int b=>obtain⟨t,rfl⟩:=r';exact EqAt.tuple_int b t p hu0
     | str b=>obtain⟨t,rfl⟩:=r';exact EqAt.tuple_str b t p hu0
     | _=>cases hef
    | _=>exact absurd rfl hdf
   ·-- both are lists or tuples
    have item:∀ {ds es:List D} {xs ys:List V} {its its':List Value},cM ds+1≤n→bW X.K H ds xs→bW X.K H es ys→Vals xs its→Vals ys its' →
     ∀ j (h1:j < its.toArray.size) (h2:j < its'.toArray.size),EqAt A.in1 s its.toArray[j] its'.toArray[j] (cH (ds.getD j .non) (es.getD j .non)):=by
     intro ds es xs ys its its' hn q q' v v' j h1 h2
     have h1':j < its.length:=by simpa using h1
     have h2':j < its'.length:=by simpa using h2
     have e1:j < xs.length:=by rw[v.length];exact h1'
     have e2:j < ys.length:=by rw[v'.length];exact h2'
     have g1:xs[j]? = some xs[j]:=by simp[e1]
     have g2:ys[j]? = some ys[j]:=by simp[e2]
     obtain⟨w1,k1,r1⟩:=v.get g1
     obtain⟨w2,k2,r2⟩:=v'.get g2
     have t1:its.toArray[j]=w1:=by obtain⟨_,k1⟩:=List.getElem?_eq_some_iff.mp k1;simpa using k1
     have t2:its'.toArray[j]=w2:=by obtain⟨_,k2⟩:=List.getElem?_eq_some_iff.mp k2;simpa using k2
     rw[t1,t2]
     have:=vD (ds:=ds) (j:=j)
     refine ih (n - 1) (by omega) _ _ A.in1 (by omega) ?_ (q.get g1) (q'.get g2) r1 r2
     show A.units+1+(n - 1) < cLine
     omega
    cases d with
    | lst ds =>
     rw[Rep] at h
     obtain⟨a,xs,rfl,q,rr⟩:=h
     cases r
     obtain⟨its,v,p,_⟩:=I.list q
     have hn:cM ds+1≤n:=by simpa [D.dep] using hd
     cases e with
     | lst es =>
      rw[Rep] at h'
      obtain⟨b,ys,rfl,q',rr'⟩:=h'
      cases r'
      obtain⟨its',v',p',_⟩:=I.list q'
      by_cases hab:a=b
      ·subst hab
       rw[I.yD q' q] at rr'
       rw[bW.inj I rr rr',kE]
       exact EqAt.same _
      ·have l1:=rr.length
       have l2:=rr'.length
       have l3:=v.length
       have l4:=v'.length
       by_cases hl:ds.length=es.length
       ·rw[cH,m9 hl]
        have:=RcAt.lists p.isList p'.isList (by simp;omega) hu0 (item hn rr rr' v v')
        have e:its.toArray.size=ds.length:=by simp;omega
        rw[e] at this
        exact .of_refs hab this
       ·rw[cH,m8 hl]
        exact .of_refs hab (RcAt.lists_lengths p.isList p'.isList (by simp;omega) hu0)
     | tup es =>
      rw[Rep] at h'
      obtain⟨b,ys,rfl,q',_⟩:=h'
      cases r'
      obtain⟨its',_,p',_⟩:=I.tuple q'
      exact EqAt.list_tuple p.isList p' hu0
     | _=>exact absurd rfl hef
    | tup ds =>
     rw[Rep] at h
     obtain⟨a,xs,rfl,q,rr⟩:=h
     cases r
     obtain⟨its,v,p,_⟩:=I.tuple q
     have hn:cM ds+1≤n:=by simpa [D.dep] using hd
     cases e with
     | tup es =>
      rw[Rep] at h'
      obtain⟨b,ys,rfl,q',rr'⟩:=h'
      cases r'
      obtain⟨its',v',p',_⟩:=I.tuple q'
      by_cases hab:a=b
      ·subst hab
       rw[I.uZ q' q] at rr'
       rw[bW.inj I rr rr',kE]
       exact EqAt.same _
      ·have l1:=rr.length
       have l2:=rr'.length
       have l3:=v.length
       have l4:=v'.length
       have R:=RcAt.tuples p p' hu0 (item hn rr rr' v v')
       have e1:its.toArray.size=ds.length:=by simp;omega
       have e2:its'.toArray.size=es.length:=by simp;omega
       rw[e1,e2] at R
       by_cases hl:ds.length=es.length
       ·rw[cH,m9 hl]
        rw[hl,Nat.min_self,beq_self_eq_true,Bool.and_true,← hl] at R
        exact .of_refs hab R
       ·rw[cH,m8 hl]
        have:(ds.length == es.length)=false:=by simpa using hl
        rw[this,Bool.and_false] at R
        exact .of_refs hab R
     | lst es =>
      rw[Rep] at h'
      obtain⟨b,ys,rfl,q',_⟩:=h'
      cases r'
      obtain⟨its',_,p',_⟩:=I.list q'
      exact EqAt.tuple_list p p'.isList hu0
     | _=>exact absurd rfl hef
    | _=>exact absurd rfl hdf
def RX(K:PySem.W.Frag)(neg:Bool):R2:=fun x y H Q=>∃ (p:Addr) (xs:List V) (d:D) (ds:List D),y=.ref p∧(xm K H p xs∨zr K H p xs)∧Rep K H d x∧bW K H ds xs∧cM ds≤16 ∧
 Q (.bl (if neg then !ds.any (fun e=>cH e d) else ds.any (fun e=>cH e d))) H
theorem bW.main{K:PySem.W.Frag}:∀ {ds:List D} {xs:List V} {us:List Value},bW K H ds xs→Vals xs us→∀ u∈us,∃ b∈ds,∃ y,Rep K H b y∧RelV y u
 | [],xs,us,hr,hv,u,hu=>by
  rw[bW] at hr;subst hr;cases hv;cases hu
 | b::bs,xs,us,hr,hv,u,hu=>by
  rw[bW] at hr
  obtain⟨y,r,rfl,p,q⟩:=hr
  cases hv with
  | cons ry t =>
   rcases List.mem_cons.mp hu with rfl|hu
   ·exact⟨b,List.mem_cons_self,_,p,ry⟩
   ·obtain⟨b',hb',w⟩:=bW.main q t u hu
    exact⟨b',List.mem_cons_of_mem _ hb',w⟩
theorem bW.any{K:PySem.W.Frag}{e:Value→Bool}{f:D→Bool}(key:∀ b y u,Rep K H b y→RelV y u→e u=f b):∀ {ds:List D} {xs:List V} {us:List Value},bW K H ds xs→Vals xs us→us.any e=ds.any f
 | [],xs,us,hr,hv=>by
  rw[bW] at hr;subst hr;cases hv;rfl
 | b::bs,xs,us,hr,hv=>by
  rw[bW] at hr
  obtain⟨y,r,rfl,p,q⟩:=hr
  cases hv with
  | cons ry t=>rw[List.any_cons,List.any_cons,key b y _ p ry,bW.any key q t]
theorem J3:∀ {ds:List D} {b:D},b∈ds→b.dep≤cM ds
 | d::ds,b,h=>by
  rw[cM]
  rcases List.mem_cons.mp h with rfl|h
  ·omega
  ·have:=J3 h;omega
open Classical in
theorem wW(I:Inv X pins σ H s){A:Around}(hu:A.units+16 < cLine){d:D}{x:V}{v:Value}(hx:Rep X.K H d x)(rx:RelV x v){ds:List D}{xs:List V}{us:List Value}(hd:cM ds≤16)(hr:bW X.K H ds xs)(hv:Vals xs us) :
 ∃ e:Value→Bool,(∀ u∈us,SeqAt.EqAt A s u v (e u))∧us.any e=ds.any (fun b=>cH b d):=by
 have key:∀ b y u,Rep X.K H b y→RelV y u→(fun u=>decide (∃ b y,Rep X.K H b y∧RelV y u∧cH b d=true)) u=cH b d:=by
  intro b y u hb hy
  cases hp:cH b d with
  | true=>exact decide_eq_true ⟨b,y,hb,hy,hp⟩
  | false =>
   refine decide_eq_false ?_
   rintro ⟨b',y',hb',hy',hp'⟩
   have:=hy.inj hy'
   subst this
   rw[Rep.inj I hb hb',hp'] at hp
   cases hp
 refine⟨fun u=>decide (∃ b y,Rep X.K H b y∧RelV y u∧cH b d=true),fun u hu'=>?_,bW.any key hr hv⟩
 obtain⟨b,hb,y,rb,ry⟩:=bW.main hr hv u hu'
 rw[key b y u rb ry]
 exact Ql I 16 b d A (Nat.le_trans (J3 hb) hd) hu rb hx ry rx
theorem Wb(hu:X.A.units+64 < cLine):pJ X (compareOp .In) (RX X.K false):=by
 intro pins s σ H x y v u Q I rx ry h
 obtain⟨p,xs,d,ds,rfl,hq,hx,hr,hd,q⟩:=h
 cases ry
 have hu1:X.A.in1.units+16 < cLine:=by show X.A.units+1+16 < cLine;omega
 rcases hq with hq|hq
 ·obtain⟨its,r,pl,hz⟩:=I.list hq
  obtain⟨e,he,ea⟩:=wW I hu1 hx rx hd hr r
  refine SeqAt.in_listAt e pl.isList (fun w hw=>he w (by simpa using hw)) ⟨.bl _,H,I,rfl,?_⟩
  rw[show its.toArray.any e=its.any e by simp,ea]
  exact q
 ·obtain⟨its,r,pl,hz⟩:=I.tuple hq
  obtain⟨e,he,ea⟩:=wW I hu1 hx rx hd hr r
  refine SeqAt.in_tupleAt e pl (fun w hw=>he w (by simpa using hw)) ⟨.bl _,H,I,rfl,?_⟩
  rw[show its.toArray.any e=its.any e by simp,ea]
  exact q
theorem gA(hu:X.A.units+64 < cLine):pJ X (compareOp .NotIn) (RX X.K true):=by
 intro pins s σ H x y v u Q I rx ry h
 obtain⟨p,xs,d,ds,rfl,hq,hx,hr,hd,q⟩:=h
 cases ry
 have hu1:X.A.in1.units+16 < cLine:=by show X.A.units+1+16 < cLine;omega
 rcases hq with hq|hq
 ·obtain⟨its,r,pl,hz⟩:=I.list hq
  obtain⟨e,he,ea⟩:=wW I hu1 hx rx hd hr r
  refine SeqAt.notIn_listAt e pl.isList (fun w hw=>he w (by simpa using hw)) ⟨.bl _,H,I,rfl,?_⟩
  rw[show its.toArray.any e=its.any e by simp,ea]
  exact q
 ·obtain⟨its,r,pl,hz⟩:=I.tuple hq
  obtain⟨e,he,ea⟩:=wW I hu1 hx rx hd hr r
  refine SeqAt.notIn_tupleAt e pl (fun w hw=>he w (by simpa using hw)) ⟨.bl _,H,I,rfl,?_⟩
  rw[show its.toArray.any e=its.any e by simp,ea]
  exact q
end
end L2
namespace L2
open PySem PySem.Spec PyProof.Rows
theorem qg{H:Hp}{p:Addr}{o:HO}(hp:H p=none):gm H (upd H p o):=fun b u e=>by rw[aH (aQ e hp)];exact e
theorem xO:∀ {ys:List Str} {us:List Value},Vals (ys.map V.str) us→StrsAre us ys
 | [],_,.nil=>.nil
 | y::ys,_,.cons r t=>by
  obtain⟨tk,rfl⟩:=(show ∃ tk,_=Value.str y tk from r)
  exact .cons y tk (xO t)
section
variable{X:Cx}
def rJoin(K:PySem.W.Frag):V→List V→Hp→VK→Prop:=fun x vs H Q=>∃ (sep:Str) (p:Addr) (ys:List Str),x=.str sep∧vs=[.ref p]∧xm K H p (ys.map V.str)∧(ys.map (·.length)).sum+ys.length * sep.length≤16777216∧Q (.str (Str.join sep ys)) H
theorem JL:Ro X "str.join" (rJoin X.K):=by
 intro pins s σ H x vs v us Q I rx rv h
 obtain⟨sep,p,ys,rfl,rfl,hq,hz,q⟩:=h
 obtain⟨t,rfl⟩:=rx
 obtain⟨u,rfl,ru⟩:=rv.one
 cases ru
 obtain⟨its,r,pl,_⟩:=I.list hq
 refine join_list pl.isList (by simpa using xO r) hz fun t' k=>⟨.str (Str.join sep ys),H,I.tok k,⟨t',?_⟩,q⟩
 show Value.str (Builtin.Str.glued sep ys) t'=_
 rw[StrLaws.glued_eq_join]
def Vr(i j:Int):Prop:=0 < j∧j.natAbs.log2 < 9000
theorem jH:pJ X (binaryOp .FloorDiv) (rI Vr fun i j=>.int (i / j)):=Z8 fun i j _ _ _ _ _ hc q=>by
 refine floordiv_int (by have:=hc.1;omega) ?_ (.inl (PyProof.noPylong_of_log2 hc.2))
 rw[Int.fdiv_eq_ediv_of_nonneg i (by have:=hc.1;omega)]
 exact q
theorem Iz(hc:X.calm=true):jg X (.builtin "max") (fun xs H Q=>∃ i j z,xs=[.int i,.int j]∧max i j=z∧Q (.int z) H):=by
 intro pins s σ H xs us Q I r ⟨i,j,z,e1,e2,q⟩
 subst e2
 refine Mg hc pins s σ H xs us Q I r ⟨i,j,e1,?_⟩
 rw[show (if j > i then j else i)=max i j by split<;>omega]
 exact q
theorem Iw(hc:X.calm=true):jg X (.builtin "min") (fun xs H Q=>∃ i j z,xs=[.int i,.int j]∧min i j=z∧Q (.int z) H):=by
 intro pins s σ H xs us Q I r ⟨i,j,z,e1,e2,q⟩
 subst e2
 refine Mf hc pins s σ H xs us Q I r ⟨i,j,e1,?_⟩
 rw[show (if j < i then j else i)=min i j by split<;>omega]
 exact q
end
end L2
namespace A
open PySem L2 PyProof.Rows
open Mi (D W Rs Fin aq)
inductive P2{α β : Type}(F:α→β→Prop):List α→List β→Prop
 | nil:P2 F [] []
 | cons {a b l m}:F a b→P2 F l m→P2 F (a::l) (b::m)
section
variable{α β : Type}{F G:α→β→Prop}
theorem P2.imp(h:∀ a b,F a b→G a b):∀ {l m},P2 F l m→P2 G l m
 | _,_,.nil=>.nil
 | _,_,.cons x t=>.cons (h _ _ x) (t.imp h)
theorem P2.len:∀ {l m},P2 F l m→l.length=m.length
 | _,_,.nil=>rfl
 | _,_,.cons _ t=>by rw[List.length_cons,List.length_cons,t.len]
theorem P2.append:∀ {l m l' m'},P2 F l m→P2 F l' m'→P2 F (l++l') (m++m')
 | _,_,_,_,.nil,s=>s
 | _,_,_,_,.cons x t,s=>.cons x (t.append s)
theorem P2.get:∀ {l m} {i:Nat} {a b},P2 F l m→l[i]? = some a→m[i]? = some b→F a b
 | _,_,_,_,_,.nil,e,_=>by simp at e
 | _,_,0,_,_,.cons x _,e,e'=>by simp at e e';subst e e';exact x
 | _,_,i+1,a,b,.cons _ t,e,e'=>t.get (i:=i) (by simpa using e) (by simpa using e')
theorem P2.getL{l m}{i:Nat}{a}(t:P2 F l m)(e:l[i]? = some a):∃ b,m[i]? = some b∧F a b:=by
 have h:i < m.length:=by rw[← t.len];exact(List.getElem?_eq_some_iff.mp e).1
 exact⟨m[i],by simp[h],t.get e (by simp[h])⟩
theorem P2.Y9{l m}{i:Nat}{b}(t:P2 F l m)(e:m[i]? = some b):∃ a,l[i]? = some a∧F a b:=by
 have h:i < l.length:=by rw[t.len];exact(List.getElem?_eq_some_iff.mp e).1
 exact⟨l[i],by simp[h],t.get (by simp[h]) e⟩
theorem P2.take:∀ {l m} (n:Nat),P2 F l m→P2 F (l.take n) (m.take n)
 | _,_,0,_=>.nil
 | _,_,_+1,.nil=>.nil
 | _,_,n+1,.cons x t=>.cons x (t.take n)
theorem P2.drop:∀ {l m} (n:Nat),P2 F l m→P2 F (l.drop n) (m.drop n)
 | _,_,0,t=>t
 | _,_,_+1,.nil=>.nil
 | _,_,n+1,.cons _ t=>t.drop n
theorem P2.erase:∀ {l m} (n:Nat),P2 F l m→P2 F (l.eraseIdx n) (m.eraseIdx n)
 | _,_,_,.nil=>.nil
 | _,_,0,.cons _ t=>t
 | _,_,n+1,.cons x t=>.cons x (t.erase n)
theorem P2.rev:∀ {l m},P2 F l m→P2 F l.reverse m.reverse
 | _,_,.nil=>.nil
 | _,_,.cons x t=>by rw[List.reverse_cons,List.reverse_cons];exact t.rev.append (.cons x .nil)
end
def Lst(H:Hp)(a:Addr)(xs:List V):Prop:=H a=some (.lst xs)∨∃ o,H a=some (.frz o (.lst xs))
mutual
def Rep(H:Hp):D→V→Prop
 | .non,v=>v=.non
 | .bl b,v=>v=.bl b
 | .int i,v=>v=.int i
 | .str x,v=>v=.str x
 | .lst ds,v=>∃ a xs,v=.ref a∧Lst H a xs∧bW H ds xs
 | .tup ds,v=>∃ a xs,v=.ref a∧H a=some (.tup xs)∧bW H ds xs
def bW(H:Hp):List D→List V→Prop
 | [],vs=>vs=[]
 | d::ds,vs=>∃ v r,vs=v::r∧Rep H d v∧bW H ds r
end
theorem iT{H:Hp}:∀ {ds:List D} {vs:List V},bW H ds vs↔P2 (Rep H) ds vs
 | [],vs=>by
  rw[bW]
  exact⟨fun h=>by subst h;exact .nil,fun h=>by cases h;rfl⟩
 | d::ds,vs=>by
  rw[bW]
  constructor
  ·rintro ⟨v,r,rfl,p,q⟩
   exact .cons p (iT.mp q)
  ·intro h
   cases h with
   | cons p q=>exact⟨_,_,rfl,p,iT.mpr q⟩
@[simp] theorem Jy {H:Hp} {v:V}:Rep H .non v↔v=.non:=by rw[Rep]
@[simp] theorem Hm {H:Hp} {v:V} {b:Bool}:Rep H (.bl b) v↔v=.bl b:=by rw[Rep]
@[simp] theorem jU {H:Hp} {v:V} {b:Int}:Rep H (.int b) v↔v=.int b:=by rw[Rep]
@[simp] theorem oW {H:Hp} {v:V} {b:Str}:Rep H (.str b) v↔v=.str b:=by rw[Rep]
theorem jT{H:Hp}{v:V}{ds:List D}:Rep H (.lst ds) v↔∃ a xs,v=.ref a∧Lst H a xs∧P2 (Rep H) ds xs:=by
 rw[Rep];exact⟨fun ⟨a,xs,e,l,r⟩=>⟨a,xs,e,l,iT.mp r⟩,fun ⟨a,xs,e,l,r⟩=>⟨a,xs,e,l,iT.mpr r⟩⟩
theorem fQ{H:Hp}{v:V}{ds:List D}:Rep H (.tup ds) v↔∃ a xs,v=.ref a∧H a=some (.tup xs)∧P2 (Rep H) ds xs:=by
 rw[Rep];exact⟨fun ⟨a,xs,e,l,r⟩=>⟨a,xs,e,l,iT.mp r⟩,fun ⟨a,xs,e,l,r⟩=>⟨a,xs,e,l,iT.mpr r⟩⟩
theorem Lst.same{H H':Hp}{a:Addr}{xs:List V}(s:gm H H')(h:Lst H a xs):Lst H' a xs:=by
 rcases h with h|⟨o,h⟩
 ·exact .inl (s _ _ h)
 ·exact .inr ⟨o,s _ _ h⟩
theorem Lst.sq{K:PySem.W.Frag}{H:Hp}{a:Addr}{xs:List V}(h:Lst H a xs):xm K H a xs:=.inl h
mutual
theorem kY{H H':Hp}(s:gm H H'):∀ {d:D} {v:V},Rep H d v→Rep H' d v
 | .non,v,h=>by rw[Rep] at h ⊢;exact h
 | .bl b,v,h=>by rw[Rep] at h ⊢;exact h
 | .int i,v,h=>by rw[Rep] at h ⊢;exact h
 | .str x,v,h=>by rw[Rep] at h ⊢;exact h
 | .lst ds,v,h=>by
  rw[Rep] at h ⊢
  obtain⟨a,xs,e,q,r⟩:=h
  exact⟨a,xs,e,q.same s,qJ s r⟩
 | .tup ds,v,h=>by
  rw[Rep] at h ⊢
  obtain⟨a,xs,e,q,r⟩:=h
  exact⟨a,xs,e,s _ _ q,qJ s r⟩
theorem qJ{H H':Hp}(s:gm H H'):∀ {ds:List D} {vs:List V},bW H ds vs→bW H' ds vs
 | [],vs,h=>by rw[bW] at h ⊢;exact h
 | d::ds,vs,h=>by
  rw[bW] at h ⊢
  obtain⟨v,r,e,p,q⟩:=h
  exact⟨v,r,e,kY s p,qJ s q⟩
end
theorem cX{H H':Hp}(s:gm H H'){ds:List D}{vs:List V}(h:P2 (Rep H) ds vs):P2 (Rep H') ds vs:=h.imp fun _ _=>kY s
mutual
theorem oV(K:PySem.W.Frag){H:Hp}:∀ {d:D} {v:V},Rep H d v→L2.Rep K H d v
 | .non,v,h=>by rw[Rep] at h;rw[L2.Rep];exact h
 | .bl b,v,h=>by rw[Rep] at h;rw[L2.Rep];exact h
 | .int i,v,h=>by rw[Rep] at h;rw[L2.Rep];exact h
 | .str x,v,h=>by rw[Rep] at h;rw[L2.Rep];exact h
 | .lst ds,v,h=>by
  rw[Rep] at h
  rw[L2.Rep]
  obtain⟨a,xs,e,q,r⟩:=h
  exact⟨a,xs,e,q.sq,wO K r⟩
 | .tup ds,v,h=>by
  rw[Rep] at h
  rw[L2.Rep]
  obtain⟨a,xs,e,q,r⟩:=h
  exact⟨a,xs,e,.inl (.inl q),wO K r⟩
theorem wO(K:PySem.W.Frag){H:Hp}:∀ {ds:List D} {vs:List V},bW H ds vs→L2.bW K H ds vs
 | [],vs,h=>by rw[bW] at h;rw[L2.bW];exact h
 | d::ds,vs,h=>by
  rw[bW] at h
  rw[L2.bW]
  obtain⟨v,r,e,p,q⟩:=h
  exact⟨v,r,e,oV K p,wO K q⟩
end
def NT:HO→Prop
 | .tbl _ _=>False
 | _=>True
structure Old(H H':Hp):Prop where
 nt:∀ a o,H a=some o→NT o→H' a=some o
 dom:∀ a,H' a=none→H a=none
 tb:∀ a w ps,H a=some (.tbl w ps)→∃ ps',H' a=some (.tbl w ps')
theorem Old.at{H H':Hp}(s:Old H H'){a:Addr}{o:HO}(q:H a=some o)(n:NT o:=by trivial):H' a=some o:=s.nt a o q n
theorem Old.free{H H':Hp}(s:Old H H'){a:Addr}(h:H' a=none):H a=none:=s.dom a h
theorem Old.refl(H:Hp):Old H H:=⟨fun _ _ e _=>e,fun _ e=>e,fun _ _ ps e=>⟨ps,e⟩⟩
theorem Old.trans{H H1 H2:Hp}(a:Old H H1)(b:Old H1 H2):Old H H2:=⟨fun x o e n=>b.nt x o (a.nt x o e n) n,fun x e=>a.dom x (b.dom x e),fun x w ps e=>let ⟨p1,e1⟩:=a.tb x w ps e;b.tb x w p1 e1⟩
theorem Old.of{H H':Hp}(s:gm H H'):Old H H':=⟨fun a o e _=>s a o e,fun a e=>s.free e,fun a w ps e=>⟨ps,s a _ e⟩⟩
theorem Old.tab{H H':Hp}(s:Old H H'){a:Addr}{w:Str}{ps:Array Value}{o:HO}(q:H a=some (.tbl w ps))(n:NT o):¬ H' a=some o:=fun e=>by
 obtain⟨p,z⟩:=s.tb a w ps q
 rw[e] at z;cases z;exact n
theorem Old.put{H0 H:Hp}(s:Old H0 H){p:Addr}{o u:HO}(h0:H0 p=none)(h:H p=some u):Old H0 (upd H p o) :=
 ⟨fun a v e n=>by rw[aH (aQ e h0)];exact s.nt a v e n,fun a e=>by
  by_cases hp:a=p
  ·subst hp;exact h0
  ·rw[aH hp] at e;exact s.dom a e,fun a w ps e=>by rw[aH (aQ e h0)];exact s.tb a w ps e⟩
def lC(c:Addr)(q:Str):Heap→Prop:=fun h=>∃ o vs t,h.get? c=some o∧o.data=.fields vs∧vs[1]? = some (.str q t)
class eZ where
 l:List (Addr×Str)
 cl:String→Addr
variable[Tb:eZ]
structure iD(H:Hp):Prop where
 has:∀ p∈Tb.l,∃ ps,H p.1=some (.tbl p.2 ps)
 cd:∀ T q ps,H T=some (.tbl q ps)→TriplesOk ps.toList∧∀ pos v,codeAmong pos ps.toList=some v→∃ c,v=.ref c∧H c=some (.ext (lC c q))
theorem iD.new{H:Hp}(k:iD H){p:Addr}{o:HO}(h:H p=none)(n:NT o):iD (upd H p o):=⟨fun r hr=>let ⟨ps,e⟩:=k.has r hr;⟨ps,by rw[aH (aQ e h)];exact e⟩,fun T q ps e=>by
 by_cases hp:T=p
 ·subst hp;rw[aP] at e;cases e;exact n.elim
 ·rw[aH hp] at e
  obtain⟨t,r⟩:=k.cd T q ps e
  refine⟨t,fun pos v z=>?_⟩
  obtain⟨c,e1,e2⟩:=r pos v z
  exact⟨c,e1,by rw[aH (aQ e2 h)];exact e2⟩⟩
def Cell:HO→Prop
 | .lst _=>True
 | .dK _=>True
 | .dT _=>True
 | .ext _=>True
 | _=>False
theorem Cell.nt:∀ {o:HO},Cell o→NT o:=fun {o} c=>by cases o<;>first|exact c.elim|trivial
def GR:HO→Prop
 | .lst _=>True
 | .dK _=>True
 | .dT _=>True
 | _=>False
theorem GR.cell:∀ {o:HO},GR o→Cell o:=fun {o} c=>by cases o<;>first|exact c.elim|trivial
theorem iD.put{H:Hp}(k:iD H){p:Addr}{o u:HO}(h:H p=some u)(c:GR u)(n:NT o):iD (upd H p o):=⟨fun r hr=>let ⟨ps,e⟩:=k.has r hr;⟨ps,by rw[aH (fun y=>by rw[y,h] at e;cases e;exact c.elim)];exact e⟩,fun T q ps e=>by
 by_cases hp:T=p
 ·subst hp;rw[aP] at e;cases e;exact n.elim
 ·rw[aH hp] at e
  obtain⟨t,r⟩:=k.cd T q ps e
  refine⟨t,fun pos v z=>?_⟩
  obtain⟨x,e1,e2⟩:=r pos v z
  refine⟨x,e1,?_⟩
  rw[aH (fun y=>by subst y;rw[h] at e2;cases e2;exact c.elim)];exact e2⟩
structure Vw(H Hv:Hp):Prop where
 sub:gm Hv H
 tup:∀ a xs,H a=some (.tup xs)→Hv a=some (.tup xs)
 frz:∀ a o u,H a=some (.frz o u)→Hv a=some (.frz o u)
 cd:iD H
 nv:∀ a o,Hv a=some o→NT o
structure cO(H Hv H' Hv':Hp):Prop where
 old:Old H H'
 vis:gm Hv Hv'
 vw:Vw H' Hv'
 hid:∀ a o,H a=some o→Hv a=none→Hv' a=none
theorem cO.refl{H Hv:Hp}(v:Vw H Hv):cO H Hv H Hv:=⟨Old.refl _,gm.refl _,v,fun _ _ _ e=>e⟩
theorem Old.some{H H':Hp}(s:Old H H'){a:Addr}{o:HO}(q:H a=some o):∃ o',H' a=some o':=by
 cases h:H' a with
 | none=>rw[s.dom a h] at q;cases q
 | some o'=>exact⟨o',rfl⟩
theorem cO.trans{H Hv H1 Hv1 H2 Hv2:Hp}(g:cO H Hv H1 Hv1)(k:cO H1 Hv1 H2 Hv2):cO H Hv H2 Hv2 :=
 ⟨g.old.trans k.old,g.vis.trans k.vis,k.vw,fun a o e n=>let ⟨o',e'⟩:=g.old.some e;k.hid a o' e' (g.hid a o e n)⟩
theorem mZ{H Hv:Hp}(v:Vw H Hv){p:Addr}(h:H p=none):Hv p=none:=v.sub.free h
theorem cO.new{H Hv:Hp}(v:Vw H Hv){p:Addr}{o:HO}(h:H p=none)(nt:NT o:=by trivial):cO H Hv (upd H p o) (upd Hv p o):=by
 refine⟨.of (qg h),qg (mZ v h),⟨fun b u e=>?_,fun b xs e=>?_,fun b q u e=>?_,v.cd.new h nt,fun b u e=>?_⟩,fun b u e n=>?_⟩
 ·by_cases hb:b=p
  ·subst hb;rw[aP] at e ⊢;exact e
  ·rw[aH hb] at e ⊢;exact v.sub b u e
 ·by_cases hb:b=p
  ·subst hb;rw[aP] at e ⊢;exact e
  ·rw[aH hb] at e ⊢;exact v.tup b xs e
 ·by_cases hb:b=p
  ·subst hb;rw[aP] at e ⊢;exact e
  ·rw[aH hb] at e ⊢;exact v.frz b q u e
 ·by_cases hb:b=p
  ·subst hb;rw[aP] at e;cases e;exact nt
  ·rw[aH hb] at e;exact v.nv b u e
 ·rw[aH (aQ e h)];exact n
theorem cO.O5{H Hv:Hp}(v:Vw H Hv){p:Addr}{o:HO}(c:Cell o)(h:H p=none):cO H Hv (upd H p o) Hv:=by
 refine⟨.of (qg h),gm.refl _,⟨fun b u e=>?_,fun b xs e=>?_,fun b q u e=>?_,v.cd.new h c.nt,v.nv⟩,fun b u e n=>n⟩
 ·rw[aH (aQ (v.sub b u e) h)];exact v.sub b u e
 ·by_cases hb:b=p
  ·subst hb;rw[aP] at e;cases e;exact c.elim
  ·rw[aH hb] at e;exact v.tup b xs e
 ·by_cases hb:b=p
  ·subst hb;rw[aP] at e;cases e;exact c.elim
  ·rw[aH hb] at e;exact v.frz b q u e
theorem Vw.show{H Hv:Hp}(v:Vw H Hv){a:Addr}{o:HO}(h:H a=some o)(n:Hv a=none)(nt:NT o):Vw H (upd Hv a o)∧gm Hv (upd Hv a o):=by
 refine⟨⟨fun b u e=>?_,fun b xs e=>?_,fun b q u e=>?_,v.cd,fun b u e=>?_⟩,qg n⟩
 ·by_cases hb:b=a
  ·subst hb;rw[aP] at e;rw[h];exact e
  ·rw[aH hb] at e;exact v.sub b u e
 ·by_cases hb:b=a
  ·subst hb;rw[aP];rw[h] at e;exact e
  ·rw[aH hb];exact v.tup b xs e
 ·by_cases hb:b=a
  ·subst hb;rw[aP];rw[h] at e;exact e
  ·rw[aH hb];exact v.frz b q u e
 ·by_cases hb:b=a
  ·subst hb;rw[aP] at e;cases e;exact nt
  ·rw[aH hb] at e;exact v.nv b u e
theorem Lst.old{H H':Hp}{a:Addr}{xs:List V}(s:Old H H')(h:Lst H a xs):Lst H' a xs:=by
 rcases h with h|⟨o,h⟩
 ·exact .inl (s.at h)
 ·exact .inr ⟨o,s.at h⟩
mutual
theorem Jz{H H':Hp}(t:∀ a xs,H a=some (.tup xs)→H' a=some (.tup xs)):∀ {d:D} {v:V},Mi.Mt d=true→Rep H d v→Rep H' d v
 | .non,v,_,h=>by rw[Rep] at h ⊢;exact h
 | .bl b,v,_,h=>by rw[Rep] at h ⊢;exact h
 | .int i,v,_,h=>by rw[Rep] at h ⊢;exact h
 | .str x,v,_,h=>by rw[Rep] at h ⊢;exact h
 | .lst ds,v,z,h=>by rw[Mi.Mt] at z;cases z
 | .tup ds,v,z,h=>by
  rw[Mi.Mt] at z
  rw[Rep] at h ⊢
  obtain⟨a,xs,e,q,r⟩:=h
  exact⟨a,xs,e,t _ _ q,yf t z r⟩
theorem yf{H H':Hp}(t:∀ a xs,H a=some (.tup xs)→H' a=some (.tup xs)):∀ {ds:List D} {vs:List V},Mi.ux ds=true→bW H ds vs→bW H' ds vs
 | [],vs,_,h=>by rw[bW] at h ⊢;exact h
 | d::ds,vs,z,h=>by
  rw[Mi.ux,Bool.and_eq_true] at z
  rw[bW] at h ⊢
  obtain⟨v,r,e,p,q⟩:=h
  exact⟨v,r,e,Jz t z.1 p,yf t z.2 q⟩
end
def zH{κ : Type}(H:Hp)(kvs:List (κ×D))(kv:List (κ×V)):Prop:=P2 (fun p q=>p.1=q.1∧Rep H p.2 q.2) kvs kv
theorem zH.same{κ : Type}{H H':Hp}(s:gm H H'){kvs:List (κ×D)}{kv:List (κ×V)}(h:zH H kvs kv):zH H' kvs kv:=P2.imp (fun _ _ z=>⟨z.1,kY s z.2⟩) h
def dJ(Hv:Hp):W→HO→Prop
 | .d (.lst ds),.lst xs=>P2 (Rep Hv) ds xs
 | .dk kvs,.dK kv=>zH Hv kvs kv
 | .dt kvs,.dT kv=>zH Hv kvs kv
 | _,_=>False
theorem dJ.same{H H':Hp}(s:gm H H'):∀ {w:W} {o:HO},dJ H w o→dJ H' w o:=fun {w o} h=>by
 cases w with
 | d x =>
  cases x with
  | lst ds=>cases o with
   | lst xs=>exact cX s h
   | _=>exact h.elim
  | _=>cases o<;>exact h.elim
 | dk kvs=>cases o with
  | dK kv=>exact zH.same s h
  | _=>exact h.elim
 | dt kvs=>cases o with
  | dT kv=>exact zH.same s h
  | _=>exact h.elim
 | df kvs=>exact h.elim
 | ex c=>exact h.elim
theorem dJ.Vj{H:Hp}{w:W}{o:HO}(h:dJ H w o):GR o:=by
 cases w with
 | d x =>
  cases x with
  | lst ds=>cases o with
   | lst xs=>trivial
   | _=>exact h.elim
  | _=>cases o<;>exact h.elim
 | dk kvs=>cases o with
  | dK kv=>trivial
  | _=>exact h.elim
 | dt kvs=>cases o with
  | dT kv=>trivial
  | _=>exact h.elim
 | df kvs=>exact h.elim
 | ex c=>exact h.elim
theorem dJ.cell{H:Hp}{w:W}{o:HO}(h:dJ H w o):Cell o:=h.Vj.cell
theorem dJ.nt{H:Hp}{w:W}{o:HO}(h:dJ H w o):NT o:=h.cell.nt
def Zb(a C:Addr):Heap→Prop:=fun h=>∃ o,h.get? a=some o∧o.cls=.ref C∧o.dict=none∧∃ vs,o.data=.fields vs
def rE(H:Hp):W→V→Prop
 | .d x,v=>Rep H x v
 | .dk kvs,v=>∃ a kv,v=.ref a∧H a=some (.dK kv)∧zH H kvs kv
 | .dt kvs,v=>∃ a kv,v=.ref a∧H a=some (.dT kv)∧zH H kvs kv
 | .df kvs,v=>∃ a ob kv,v=.ref a∧H a=some (.frz ob (.dT kv))∧zH H kvs kv
 | .ex c,v=>∃ a,v=.ref a∧H a=some (.ext (Zb a (Tb.cl c)))
theorem km{H H':Hp}(s:gm H H'):∀ {w:W} {v:V},rE H w v→rE H' w v
 | .d x,v,h=>kY (d:=x) s h
 | .dk kvs,v,⟨a,kv,e,q,r⟩=>⟨a,kv,e,s _ _ q,r.same s⟩
 | .dt kvs,v,⟨a,kv,e,q,r⟩=>⟨a,kv,e,s _ _ q,r.same s⟩
 | .df kvs,v,⟨a,ob,kv,e,q,r⟩=>⟨a,ob,kv,e,s _ _ q,r.same s⟩
 | .ex c,v,⟨a,e,q⟩=>⟨a,e,s _ _ q⟩
theorem qK{H:Hp}{w:W}{a:Addr}{o:HO}(h:H a=some o)(c:dJ H w o):rE H w (.ref a):=by
 cases w with
 | d x =>
  cases x with
  | lst ds=>cases o with
   | lst xs=>exact jT.mpr ⟨a,xs,rfl,.inl h,c⟩
   | _=>exact c.elim
  | _=>cases o<;>exact c.elim
 | dk kvs=>cases o with
  | dK kv=>exact⟨a,kv,rfl,h,c⟩
  | _=>exact c.elim
 | dt kvs=>cases o with
  | dT kv=>exact⟨a,kv,rfl,h,c⟩
  | _=>exact c.elim
 | df kvs=>exact c.elim
 | ex z=>exact c.elim
def Own(H Hv:Hp)(w:W)(v:V):Prop:=∃ a o,v=.ref a∧H a=some o∧Hv a=none∧dJ Hv w o
def RB(H Hv:Hp)(w:W)(v:V):Prop:=rE Hv w v∨∃ a o,v=.ref a∧H a=some o∧dJ Hv w o
theorem RB.grow{H Hv H' Hv':Hp}(g:cO H Hv H' Hv'){w:W}{v:V}(h:RB H Hv w v):RB H' Hv' w v:=by
 rcases h with h|⟨a,o,e,q,c⟩
 ·exact .inl (km g.vis h)
 ·exact .inr ⟨a,o,e,g.old.at q c.nt,c.same g.vis⟩
theorem Own.grow{H Hv H' Hv':Hp}(g:cO H Hv H' Hv'){w:W}{v:V}(h:Own H Hv w v):Own H' Hv' w v:=by
 obtain⟨a,o,e,q,n,c⟩:=h
 exact⟨a,o,e,g.old.at q c.nt,g.hid _ _ q n,c.same g.vis⟩
theorem RB.full{H Hv:Hp}(v:Vw H Hv){w:W}{x:V}(h:RB H Hv w x):rE H w x:=by
 rcases h with h|⟨a,o,rfl,q,c⟩
 ·exact km v.sub h
 ·exact qK q (c.same v.sub)
abbrev RD(H Hv:Hp)(d:D)(v:V):Prop:=RB H Hv (.d d) v
theorem RD.KD{H Hv:Hp}{d:D}{v:V}(h:RD H Hv d v)(n:∀ ds,d≠.lst ds):Rep Hv d v:=by
 rcases h with h|⟨a,o,e,q,c⟩
 ·exact h
 ·cases d with
  | lst ds=>exact absurd rfl (n ds)
  | _=>cases o<;>exact c.elim
theorem RD.lst{H Hv:Hp}(w:Vw H Hv){ds:List D}{v:V}(h:RD H Hv (.lst ds) v):∃ a xs,v=.ref a∧Lst H a xs∧P2 (Rep Hv) ds xs:=by
 rcases h with h|⟨a,o,e,q,c⟩
 ·obtain⟨a,xs,e,l,r⟩:=jT.mp h
  exact⟨a,xs,e,l.same w.sub,r⟩
 ·cases o with
  | lst xs=>exact⟨a,xs,e,.inl q,c⟩
  | _=>exact c.elim
theorem RD.tup{H Hv:Hp}(w:Vw H Hv){ds:List D}{v:V}(h:RD H Hv (.tup ds) v):∃ a xs,v=.ref a∧H a=some (.tup xs)∧Hv a=some (.tup xs)∧P2 (Rep Hv) ds xs:=by
 obtain⟨a,xs,e,l,r⟩:=fQ.mp (h.KD fun _ z=>by cases z)
 exact⟨a,xs,e,w.sub _ _ l,l,r⟩
theorem RD.int{H Hv:Hp}{i:Int}{v:V}(h:RD H Hv (.int i) v):v=.int i:=jU.mp (h.KD fun _ z=>by cases z)
theorem RD.str{H Hv:Hp}{i:Str}{v:V}(h:RD H Hv (.str i) v):v=.str i:=oW.mp (h.KD fun _ z=>by cases z)
theorem RD.bl{H Hv:Hp}{i:Bool}{v:V}(h:RD H Hv (.bl i) v):v=.bl i:=Hm.mp (h.KD fun _ z=>by cases z)
theorem RD.non{H Hv:Hp}{v:V}(h:RD H Hv .non v):v=.non:=Jy.mp (h.KD fun _ z=>by cases z)
theorem RD.full{H Hv:Hp}(v:Vw H Hv){d:D}{x:V}(h:RD H Hv d x):Rep H d x:=RB.full v h
abbrev Kd:=Hp→Hp→Hp→W→V→Prop
def qP:Kd:=fun _ H' Hv' w v=>RB H' Hv' w v
def qV:Kd:=fun _ _ Hv' w v=>rE Hv' w v
def qN:Kd:=fun H H' Hv' w v=>∃ a o,v=.ref a∧H a=none∧H' a=some o∧Hv' a=none∧dJ Hv' w o
theorem ir{H H' Hv':Hp}{i:Int}:qV H H' Hv' (.d (.int i)) (.int i):=(jU (H:=Hv')).mpr rfl
theorem yg{H H' Hv':Hp}{i:Str}:qV H H' Hv' (.d (.str i)) (.str i):=(oW (H:=Hv')).mpr rfl
theorem gW{H H' Hv':Hp}{i:Bool}:qV H H' Hv' (.d (.bl i)) (.bl i):=(Hm (H:=Hv')).mpr rfl
theorem N6{H H' Hv':Hp}:qV H H' Hv' (.d .non) .non:=(Jy (H:=Hv')).mpr rfl
class KM (κ : Kd):Prop where
 mono:∀ {H H1 H' Hv' w v},Old H H1→κ H1 H' Hv' w v→κ H H' Hv' w v
instance:KM qP:=⟨fun _ h=>h⟩
instance:KM qV:=⟨fun _ h=>h⟩
instance:KM qN:=⟨fun s ⟨a,o,e,n,r⟩=>⟨a,o,e,s.free n,r⟩⟩
structure R0(M:Nat→Bool)(e:Mi.Env)(σ : L2.St)(H Hv:Hp):Prop where
 vw:Vw H Hv
 len:σ.length=e.length
 nob:∀ i w,e[i]? = some (some w)→M i=false→∃ v,σ[i]? = some (some v)∧rE Hv w v
 own:∀ i w,e[i]? = some (some w)→M i=true→∃ v,σ[i]? = some (some v)∧Own H Hv w v
theorem R0.grow{M:Nat→Bool}{e:Mi.Env}{σ : L2.St}{H Hv H' Hv':Hp}(r:R0 M e σ H Hv)(g:cO H Hv H' Hv'):R0 M e σ H' Hv' :=
 ⟨g.vw,r.len,fun i w h m=>let ⟨v,q,z⟩:=r.nob i w h m;⟨v,q,km g.vis z⟩,fun i w h m=>let ⟨v,q,z⟩:=r.own i w h m;⟨v,q,z.grow g⟩⟩
structure R1(M:Nat→Bool)(H0 Hv0:Hp)(e:Mi.Env)(σ : L2.St)(H Hv:Hp):Prop extends R0 M e σ H Hv where
 gw:cO H0 Hv0 H Hv
 fresh:∀ i w a,e[i]? = some (some w)→M i=true→σ[i]? = some (some (.ref a))→H0 a=none
 sep:∀ i j w w' a b,i≠j→e[i]? = some (some w)→e[j]? = some (some w')→M i=true→M j=true→σ[i]? = some (some (.ref a))→σ[j]? = some (some (.ref b))→a≠b
theorem R1.grow{M:Nat→Bool}{H0 Hv0:Hp}{e:Mi.Env}{σ : L2.St}{H Hv H' Hv':Hp}(r:R1 M H0 Hv0 e σ H Hv)(g:cO H Hv H' Hv'):R1 M H0 Hv0 e σ H' Hv' :=
 ⟨r.toR0.grow g,r.gw.trans g,r.fresh,r.sep⟩
end A
namespace A
open PySem L2 PyProof.Rows
open Mi (D W Rs Fin aq)
variable[Tb:eZ]
abbrev Mm:=Mi.Env
class KG (κ : Kd):Prop where
 go:∀ {H H1 Hv1 H2 Hv2 w v},cO H1 Hv1 H2 Hv2→κ H H1 Hv1 w v→κ H H2 Hv2 w v
instance:KG qP:=⟨fun g h=>h.grow g⟩
instance:KG qV:=⟨fun g h=>km g.vis h⟩
instance:KG qN:=⟨fun g ⟨a,o,e,n,q,z,c⟩=>⟨a,o,e,n,g.old.at q c.nt,g.hid _ _ q z,c.same g.vis⟩⟩
def AW(M:Nat→Bool)(κ : Kd)(t:TE)(m:Mi.EW):Prop:=∀ e σ H Hv Q,R0 M e σ H Hv→Fin (m e) (fun w=>∀ v H' Hv',cO H Hv H' Hv'→κ H H' Hv' w v→Q v H')→t σ H Q
def AE(M:Nat→Bool)(κ : Kd)(t:TE)(m:Mi.E):Prop:=∀ e σ H Hv Q,R0 M e σ H Hv→Fin (m e) (fun d=>∀ v H' Hv',cO H Hv H' Hv'→κ H H' Hv' (.d d) v→Q v H')→t σ H Q
def AT(M:Nat→Bool)(t:TT)(m:Mi.C):Prop:=∀ e σ H Hv Q,R0 M e σ H Hv→Fin (m e) (fun b=>∀ H' Hv',cO H Hv H' Hv'→Q b H')→t σ H Q
def AA(M:Nat→Bool)(κ : Kd)(t:TA)(m:Mm→Rs (List D)):Prop:=∀ e σ H Hv Q,R0 M e σ H Hv→Fin (m e) (fun ds=>∀ vs H' Hv',cO H Hv H' Hv'→P2 (fun d v=>κ H H' Hv' (.d d) v) ds vs→Q vs H')→t σ H Q
def AAW(M:Nat→Bool)(κ : Kd)(t:TA)(m:Mm→Rs (List W)):Prop:=∀ e σ H Hv Q,R0 M e σ H Hv→Fin (m e) (fun ws=>∀ vs H' Hv',cO H Hv H' Hv'→P2 (fun w v=>κ H H' Hv' w v) ws vs→Q vs H')→t σ H Q
def AO(M:Nat→Bool)(t:TO)(m:Mm→Rs (Option Int)):Prop:=∀ e σ H Hv Q,R0 M e σ H Hv→Fin (m e) (fun o=>∀ H' Hv',cO H Hv H' Hv'→Q o H')→t σ H Q
section
variable{M:Nat→Bool}{κ : Kd}{t ta tb tc te:TE}{a b c:Mi.E}{r r':R2}{f g:D→D→Rs D}
theorem AE.w(h:AE M κ t a):AW M κ t (Mi.wD a):=fun e σ H Hv Q I q=>h e σ H Hv Q I ((aq.mp q).mono fun d z=>z)
theorem Vb{H H' Hv':Hp}{w:W}{v:V}(h:qV H H' Hv' w v):qP H H' Hv' w v:=.inl h
theorem YZ{H H' Hv':Hp}{w:W}{v:V}(h:qN H H' Hv' w v):qP H H' Hv' w v:=by
 obtain⟨a,o,e,_,q,_,c⟩:=h
 exact .inr ⟨a,o,e,q,c⟩
theorem JX{H Hv H' Hv':Hp}(g:cO H Hv H' Hv'){w:W}{v:V}(h:qN H H' Hv' w v):∃ zu,cO H Hv H' zu∧rE zu w v:=by
 obtain⟨a,o,rfl,n,q,z,c⟩:=h
 obtain⟨vw,s⟩:=g.vw.show q z c.nt
 refine⟨upd Hv' a o,⟨g.old,g.vis.trans s,vw,fun b u e m=>?_⟩,qK aP (c.same s)⟩
 rw[aH (aQ e n)];exact g.hid b u e m
theorem AW.p(h:AW M qV t m):AW M qP t m:=fun e σ H Hv Q I q=>h e σ H Hv Q I (q.mono fun w z v H' Hv' g k=>z v H' Hv' g (Vb k))
theorem AW.nv(h:AW M qN t m):AW M qV t m:=fun e σ H Hv Q I q=>h e σ H Hv Q I (q.mono fun w z v H' Hv' g k=>let ⟨zu,g',r⟩:=JX g k;z v H' zu g' r)
theorem AE.p(h:AE M qV t a):AE M qP t a:=fun e σ H Hv Q I q=>h e σ H Hv Q I (q.mono fun w z v H' Hv' g k=>z v H' Hv' g (Vb k))
theorem AE.np(h:AE M qN t a):AE M qP t a:=fun e σ H Hv Q I q=>h e σ H Hv Q I (q.mono fun w z v H' Hv' g k=>z v H' Hv' g (YZ k))
theorem AE.nv(h:AE M qN t a):AE M qV t a:=fun e σ H Hv Q I q=>h e σ H Hv Q I (q.mono fun w z v H' Hv' g k=>let ⟨zu,g',r⟩:=JX g k;z v H' zu g' r)
theorem aM{i:Int}:AE M qV (tC (.int i)) (Mi.mC (.int i)):=fun e σ H Hv Q I h=>h _ H Hv (.refl I.vw) ir
theorem qC{i:Str}:AE M qV (tC (.str i)) (Mi.mC (.str i)):=fun e σ H Hv Q I h=>h _ H Hv (.refl I.vw) yg
theorem pI{i:Bool}:AE M qV (tC (.bl i)) (Mi.mC (.bl i)):=fun e σ H Hv Q I h=>h _ H Hv (.refl I.vw) gW
theorem Rc:AE M qV (tC .non) (Mi.mC .non):=fun e σ H Hv Q I h=>h _ H Hv (.refl I.vw) N6
theorem Va{e:Mm}{i:Nat}{k:D→Prop}(h:Fin (Mi.mV i e) k):∃ d,e[i]? = some (some (.d d))∧k d:=by
 unfold Mi.mV at h
 split at h
 ·exact⟨_,‹_›,h⟩
 ·exact h.elim
theorem t7{e:Mm}{i:Nat}{k:W→Prop}(h:Fin (Mi.wV i e) k):∃ w,e[i]? = some (some w)∧k w:=by
 unfold Mi.wV at h
 split at h
 ·exact⟨_,‹_›,h⟩
 ·exact h.elim
theorem ak(i:Nat)(hm:M i=false):AE M qV (oJ i) (Mi.mV i):=fun e σ H Hv Q I h=>by
 obtain⟨d,he,k⟩:=Va h
 obtain⟨v,q,z⟩:=I.nob i _ he hm
 exact⟨v,q,k v H Hv (.refl I.vw) z⟩
theorem V6{H Hv:Hp}{w:W}{v:V}(h:Own H Hv w v):RB H Hv w v:=by
 obtain⟨a,o,e,q,_,c⟩:=h
 exact .inr ⟨a,o,e,q,c⟩
theorem R0.any{e:Mm}{σ : L2.St}{H Hv:Hp}(I:R0 M e σ H Hv){i:Nat}{w:W}(he:e[i]? = some (some w)):∃ v,σ[i]? = some (some v)∧RB H Hv w v:=by
 cases hm:M i with
 | false =>
  obtain⟨v,q,z⟩:=I.nob i w he hm
  exact⟨v,q,.inl z⟩
 | true =>
  obtain⟨v,q,z⟩:=I.own i w he hm
  exact⟨v,q,V6 z⟩
theorem Dt(i:Nat):AE M qP (oJ i) (Mi.mV i):=fun e σ H Hv Q I h=>by
 obtain⟨d,he,k⟩:=Va h
 obtain⟨v,q,z⟩:=I.any he
 exact⟨v,q,k v H Hv (.refl I.vw) z⟩
theorem vK(i:Nat)(hm:M i=false):AW M qV (oJ i) (Mi.wV i):=fun e σ H Hv Q I h=>by
 obtain⟨d,he,k⟩:=t7 h
 obtain⟨v,q,z⟩:=I.nob i _ he hm
 exact⟨v,q,k v H Hv (.refl I.vw) z⟩
theorem Ud(i:Nat):AW M qP (oJ i) (Mi.wV i):=fun e σ H Hv Q I h=>by
 obtain⟨d,he,k⟩:=t7 h
 obtain⟨v,q,z⟩:=I.any he
 exact⟨v,q,k v H Hv (.refl I.vw) z⟩
def B2(κ : Kd)(r:R2)(f:D→D→Rs D):Prop:=∀ x y v u H Hv Q,Vw H Hv→RD H Hv x v→RD H Hv y u→Fin (f x y) (fun d=>∀ w H' Hv',cO H Hv H' Hv'→κ H H' Hv' (.d d) w→Q w H')→r v u H Q
def B1(κ : Kd)(r:V→Hp→VK→Prop)(f:D→Rs D):Prop:=∀ x v H Hv Q,Vw H Hv→RD H Hv x v→Fin (f x) (fun d=>∀ w H' Hv',cO H Hv H' Hv'→κ H H' Hv' (.d d) w→Q w H')→r v H Q
def BN(κ : Kd)(r:List V→Hp→VK→Prop)(f:List D→Rs D):Prop:=∀ ds vs H Hv Q,Vw H Hv→P2 (RD H Hv) ds vs→Fin (f ds) (fun d=>∀ w H' Hv',cO H Hv H' Hv'→κ H H' Hv' (.d d) w→Q w H')→r vs H Q
theorem aD[KM κ](hr:B2 κ r f)(ha:AE M qP ta a)(hb:AE M qP tb b):AE M κ (XM r ta tb) (Mi.m2 f a b):=fun e σ H Hv Q I h =>
 ha e σ H Hv _ I ((aq.mp h).mono fun x hx v H1 Hv1 g1 rx=>hb e σ H1 Hv1 _ (I.grow g1) ((aq.mp hx).mono fun y hy u H2 Hv2 g2 ry =>
  hr x y v u H2 Hv2 Q g2.vw (RB.grow g2 rx) ry (hy.mono fun d hd w H3 Hv3 g3 rw=>hd w H3 Hv3 (g1.trans (g2.trans g3)) (KM.mono (g1.old.trans g2.old) rw))))
theorem Zn[KM κ]{r:V→Hp→VK→Prop}{f:D→Rs D}(hr:B1 κ r f)(ha:AE M qP ta a):AE M κ (tUn r ta) (Mi.m1 f a):=fun e σ H Hv Q I h =>
 ha e σ H Hv _ I ((aq.mp h).mono fun x hx v H1 Hv1 g1 rx=>hr x v H1 Hv1 Q g1.vw rx (hx.mono fun d hd w H3 Hv3 g3 rw=>hd w H3 Hv3 (g1.trans g3) (KM.mono g1.old rw)))
theorem Jc{x:D}{k:Bool→Prop}(h:Fin (Mi.Xd x) k):∃ b,x=.bl b∧k b:=by
 cases x with
 | bl b=>exact⟨b,rfl,h⟩
 | _=>exact h.elim
theorem Jb{x:D}{k:Int→Prop}(h:Fin (Mi.Zk x) k):∃ b,x=.int b∧k b:=by
 cases x with
 | int b=>exact⟨b,rfl,h⟩
 | _=>exact h.elim
theorem sr(ha:AE M qP ta a)(hb:AE M qV tb b):AE M qV (UJ ta tb) (Mi.rA a b):=fun e σ H Hv Q I h =>
 ha e σ H Hv _ I ((aq.mp h).mono fun x hx v H1 Hv1 g1 rx=>by
  obtain⟨k,rfl,hk⟩:=Jc (aq.mp hx)
  cases RD.bl rx
  refine⟨k,rfl,?_⟩
  cases k with
  | true=>exact Ft (hb e σ H1 Hv1 Q (I.grow g1) (Fin.mono (Mi.yO hk) fun d hd w H2 Hv2 g2 rw=>hd w H2 Hv2 (g1.trans g2) rw))
  | false=>exact Fv ((Mi.jZ (Mi.yP hk)) _ H1 Hv1 g1 gW))
theorem Xg(ha:AE M qP ta a)(hb:AE M qV tb b):AE M qV (XJ ta tb) (Mi.Pn a b):=fun e σ H Hv Q I h =>
 ha e σ H Hv _ I ((aq.mp h).mono fun x hx v H1 Hv1 g1 rx=>by
  obtain⟨k,rfl,hk⟩:=Jc (aq.mp hx)
  cases RD.bl rx
  refine⟨k,rfl,?_⟩
  cases k with
  | false=>exact Fv (hb e σ H1 Hv1 Q (I.grow g1) (Fin.mono (Mi.yP hk) fun d hd w H2 Hv2 g2 rw=>hd w H2 Hv2 (g1.trans g2) rw))
  | true=>exact Ft ((Mi.jZ (Mi.yO hk)) _ H1 Hv1 g1 gW))
theorem pH:AO M Jp (Mi.nG none):=fun e σ H Hv Q I h=>h H Hv (.refl I.vw)
theorem pG(ha:AE M qP ta a):AO M (Uz ta) (Mi.nG (some a)):=fun e σ H Hv Q I h =>
 ha e σ H Hv _ I ((aq.mp h).mono fun x hx v H1 Hv1 g1 rx=>by
  obtain⟨i,rfl,hk⟩:=Jb (aq.mp hx)
  exact⟨i,RD.int rx,hk H1 Hv1 g1⟩)
def BS(κ : Kd)(r:V→Option Int→Option Int→Hp→VK→Prop)(f:D→Option Int→Option Int→Rs D):Prop:=∀ x lo hi v H Hv Q,Vw H Hv→RD H Hv x v→Fin (f x lo hi) (fun d=>∀ w H' Hv',cO H Hv H' Hv'→κ H H' Hv' (.d d) w→Q w H')→r v lo hi H Q
theorem Je[KM κ]{r:V→Option Int→Option Int→Hp→VK→Prop}{tl th:TO}{lo hi:Option Mi.E}{f:D→Option Int→Option Int→Rs D}(hr:BS κ r f)(ha:AE M qP ta a)(hl:AO M tl (Mi.nG lo))(hh:AO M th (Mi.nG hi)):AE M κ (tSl r ta tl th) (Mi.ji f a lo hi):=fun e σ H Hv Q I h =>
 ha e σ H Hv _ I ((aq.mp h).mono fun x hx v H1 Hv1 g1 rx=>hl e σ H1 Hv1 _ (I.grow g1) ((aq.mp hx).mono fun l hl H2 Hv2 g2=>hh e σ H2 Hv2 _ (I.grow (g1.trans g2)) ((aq.mp hl).mono fun u hu H3 Hv3 g3 =>
  hr x l u v H3 Hv3 Q g3.vw (RB.grow (g2.trans g3) rx) (hu.mono fun d hd w H4 Hv4 g4 rw=>hd w H4 Hv4 (g1.trans (g2.trans (g3.trans g4))) (KM.mono (g1.old.trans (g2.old.trans g3.old)) rw)))))
theorem gZ(ha:AE M qP ta a):AT M (tB ta) (Mi.cB a):=fun e σ H Hv Q I h =>
 ha e σ H Hv _ I ((aq.mp h).mono fun x hx v H1 Hv1 g1 rx=>by
  obtain⟨k,rfl,hk⟩:=Jc hx
  exact⟨k,RD.bl rx,hk H1 Hv1 g1⟩)
theorem bI(ha:AE M qP ta a):AT M (Uy ta) (Mi.cB a):=gZ ha
theorem Q3{K:PySem.W.Frag}(ha:AE M qP ta a):AT M (fun σ H Q=>ta σ H fun x H'=>∃ k,Xi K x H' k∧Q k H') (Mi.T9 a):=fun e σ H Hv Q I h =>
 ha e σ H Hv _ I ((aq.mp h).mono fun x hx v H1 Hv1 g1 rx=>by
  cases x with
  | non=>cases RD.non rx;exact⟨false,rfl,hx H1 Hv1 g1⟩
  | bl b=>cases RD.bl rx;exact⟨b,rfl,hx H1 Hv1 g1⟩
  | int i=>cases RD.int rx;exact⟨_,rfl,hx H1 Hv1 g1⟩
  | str y =>
   cases RD.str rx
   obtain⟨hz,hq⟩:=Mi.aU hx
   exact⟨_,⟨by rw[sizeLine_eq];exact hz,rfl⟩,hq H1 Hv1 g1⟩
  | lst ds =>
   obtain⟨p,xs,rfl,l,r⟩:=RD.lst g1.vw rx
   refine⟨!xs.isEmpty,.inl ⟨xs,l.sq,rfl⟩,?_⟩
   have:ds.isEmpty=xs.isEmpty:=by cases r<;>rfl
   rw[← this];exact hx H1 Hv1 g1
  | tup ds =>
   obtain⟨p,xs,rfl,l,_,r⟩:=RD.tup g1.vw rx
   refine⟨!xs.isEmpty,.inr (.inl ⟨xs,.inl (.inl l),rfl⟩),?_⟩
   have:ds.isEmpty=xs.isEmpty:=by cases r<;>rfl
   rw[← this];exact hx H1 Hv1 g1)
variable{tt uu:TT}{k l:Mi.C}
theorem vL(ha:AT M tt k)(hb:AT M uu l):AT M (X5 tt uu) (Mi.n6 k l):=fun e σ H Hv Q I h =>
 ha e σ H Hv _ I ((aq.mp h).mono fun x hx H1 Hv1 g1=>by
  cases x with
  | true=>exact Ft (hb e σ H1 Hv1 Q (I.grow g1) (Fin.mono (Mi.yO hx) fun b hd H2 Hv2 g2=>hd H2 Hv2 (g1.trans g2)))
  | false=>exact Fv ((Mi.jZ (Mi.yP hx)) H1 Hv1 g1))
theorem jn(ha:AT M tt k)(hb:AT M uu l):AT M (tOr tt uu) (Mi.mU k l):=fun e σ H Hv Q I h =>
 ha e σ H Hv _ I ((aq.mp h).mono fun x hx H1 Hv1 g1=>by
  cases x with
  | false=>exact Fv (hb e σ H1 Hv1 Q (I.grow g1) (Fin.mono (Mi.yP hx) fun b hd H2 Hv2 g2=>hd H2 Hv2 (g1.trans g2)))
  | true=>exact Ft ((Mi.jZ (Mi.yO hx)) H1 Hv1 g1))
theorem iC(ha:AT M tt k):AT M (XN tt) (Mi.gJ k):=fun e σ H Hv Q I h =>
 ha e σ H Hv _ I ((aq.mp h).mono fun x hx H1 Hv1 g1=>hx H1 Hv1 g1)
theorem mO:AT M XD Mi.iB:=fun e σ H Hv Q I h=>h H Hv (.refl I.vw)
variable{tr:TA}{as:List Mi.E}{ws:List Mi.EW}
theorem aN:AA M κ qZ (Mi.iK []):=fun e σ H Hv Q I h=>h [] H Hv (.refl I.vw) .nil
theorem az[KM κ][KG κ](ha:AE M κ ta a)(hr:AA M κ tr (Mi.iK as)):AA M κ (jG ta tr) (Mi.iK (a::as)):=fun e σ H Hv Q I h =>
 ha e σ H Hv _ I ((aq.mp h).mono fun x hx v H1 Hv1 g1 rx=>hr e σ H1 Hv1 _ (I.grow g1) ((aq.mp hx).mono fun xs hs vs H2 Hv2 g2 rs =>
  hs (v::vs) H2 Hv2 (g1.trans g2) (.cons (KG.go g2 rx) (rs.imp fun _ _ z=>KM.mono g1.old z))))
theorem bh:AAW M κ qZ (Mi.bc []):=fun e σ H Hv Q I h=>h [] H Hv (.refl I.vw) .nil
theorem aB[KM κ][KG κ]{w:Mi.EW}(ha:AW M κ ta w)(hr:AAW M κ tr (Mi.bc ws)):AAW M κ (jG ta tr) (Mi.bc (w::ws)):=fun e σ H Hv Q I h =>
 ha e σ H Hv _ I ((aq.mp h).mono fun x hx v H1 Hv1 g1 rx=>hr e σ H1 Hv1 _ (I.grow g1) ((aq.mp hx).mono fun xs hs vs H2 Hv2 g2 rs =>
  hs (v::vs) H2 Hv2 (g1.trans g2) (.cons (KG.go g2 rx) (rs.imp fun _ _ z=>KM.mono g1.old z))))
theorem lH[KM κ]{r:List V→Hp→VK→Prop}{f:List D→Rs D}(hr:BN κ r f)(ha:AA M qP tr (Mi.iK as)):AE M κ (Ru r tr) (Mi.mN f as):=fun e σ H Hv Q I h =>
 ha e σ H Hv _ I ((aq.mp h).mono fun ds hx vs H1 Hv1 g1 rx=>hr ds vs H1 Hv1 Q g1.vw rx (hx.mono fun d hd w H3 Hv3 g3 rw=>hd w H3 Hv3 (g1.trans g3) (KM.mono g1.old rw)))
theorem bQ(ha:AA M qV tr (Mi.iK as)):AE M qV (XF tr) (Mi.mN Mi.dTup as):=fun e σ H Hv Q I h =>
 ha e σ H Hv _ I ((aq.mp h).mono fun ds hx vs H1 Hv1 g1 rx=>by
  obtain⟨hz,hq⟩:=Mi.aU hx
  refine⟨by rw[← rx.len,sizeLine_eq];exact hz,fun p hp=>?_⟩
  have g2:cO H1 Hv1 (upd H1 p (.tup vs)) (upd Hv1 p (.tup vs)):=.new g1.vw hp
  exact hq _ _ _ (g1.trans g2) (fQ.mpr ⟨p,vs,rfl,aP,cX g2.vis rx⟩))
theorem pQ(ha:AA M qV tr (Mi.iK as)):AE M qN (XQ tr) (Mi.mN Mi.pC as):=fun e σ H Hv Q I h =>
 ha e σ H Hv _ I ((aq.mp h).mono fun ds hx vs H1 Hv1 g1 rx=>by
  obtain⟨hz,hq⟩:=Mi.aU hx
  refine⟨by rw[← rx.len,sizeLine_eq];exact hz,fun p hp=>?_⟩
  have g2:cO H1 Hv1 (upd H1 p (.lst vs)) Hv1:=.O5 g1.vw trivial hp
  exact hq _ _ _ (g1.trans g2) ⟨p,.lst vs,rfl,g1.old.free hp,aP,mZ g1.vw hp,rx⟩)
def mq(f:Mi.Fn):Sp:=fun vs H Q _=>∃ Hv ws,Vw H Hv∧P2 (rE Hv) ws vs∧Fin (f ws) (fun w=>∀ v H' Hv',cO H Hv H' Hv'→qV H H' Hv' w v→Q v H')
def pZ(f:Mi.Fn):Sp:=fun vs H Q _=>∃ Hv ws,Vw H Hv∧P2 (rE Hv) ws vs∧Fin (f ws) (fun w=>∀ v H' Hv',cO H Hv H' Hv'→qN H H' Hv' w v→Q v H')
variable{fn:Mi.Fn}{E:XK}
theorem Ue(ha:AAW M qV tr (Mi.bc ws)):AW M qV (vQ (mq fn) [] E tr) (Mi.jm fn ws):=fun e σ H Hv Q I h =>
 ha e σ H Hv _ I ((aq.mp h).mono fun ds hx vs H1 Hv1 g1 rx=>by
  rw[List.append_nil]
  exact⟨Hv1,ds,g1.vw,rx,hx.mono fun d hd w H3 Hv3 g3 rw=>hd w H3 Hv3 (g1.trans g3) rw⟩)
theorem zf(ha:AAW M qV tr (Mi.bc ws)):AW M qN (vQ (pZ fn) [] E tr) (Mi.jm fn ws):=fun e σ H Hv Q I h =>
 ha e σ H Hv _ I ((aq.mp h).mono fun ds hx vs H1 Hv1 g1 rx=>by
  rw[List.append_nil]
  exact⟨Hv1,ds,g1.vw,rx,hx.mono fun d hd w H3 Hv3 g3 rw=>hd w H3 Hv3 (g1.trans g3) (KM.mono (κ:=qN) g1.old rw)⟩)
theorem Xc{w:W}{k:D→Prop}(h:Fin (Mi.ZQ w) k):∃ d,w=.d d∧k d:=by
 cases w with
 | d x=>exact⟨x,rfl,h⟩
 | _=>exact h.elim
theorem AW.d{w:Mi.EW}(h:AW M κ t w):AE M κ t (fun e=>(w e).bind Mi.ZQ):=fun e σ H Hv Q I q =>
 h e σ H Hv Q I ((aq.mp q).mono fun w z v H' Hv' g k=>by
  obtain⟨d,rfl,z⟩:=Xc z
  exact z v H' Hv' g k)
theorem cj(ha:AAW M qV tr (Mi.bc ws)):AE M qV (vQ (mq fn) [] E tr) (Mi.aW fn ws):=(Ue ha).d
theorem dW(ha:AAW M qV tr (Mi.bc ws)):AE M qN (vQ (pZ fn) [] E tr) (Mi.aW fn ws):=(zf ha).d
def Lb(H:Hp):Hp:=fun a=>match H a with
 | some (.tbl _ _)=>none
 | x=>x
theorem gY{H:Hp}{a:Addr}{o:HO}(h:H a=some o)(n:NT o):Lb H a=some o:=by
 unfold Lb;rw[h];cases o<;>first|rfl|exact n.elim
theorem wR{H:Hp}{a:Addr}{o:HO}(h:Lb H a=some o):H a=some o∧NT o:=by
 unfold Lb at h
 cases q:H a with
 | none=>rw[q] at h;cases h
 | some u =>
  rw[q] at h
  cases u with
  | tbl w ps=>cases h
  | _=>cases h;exact⟨rfl,trivial⟩
theorem Vw.all{H:Hp}(k:iD H):Vw H (Lb H):=⟨fun a o e=>(wR e).1,fun a xs e=>gY e trivial,fun a o u e=>gY e trivial,k,fun a o e=>(wR e).2⟩
theorem RB.Vf{H Hv:Hp}(v:Vw H Hv){w:W}{x:V}(h:RB H Hv w x):rE (Lb H) w x:=by
 have s:gm Hv (Lb H):=fun a o e=>gY (v.sub a o e) (v.nv a o e)
 rcases h with h|⟨a,o,rfl,q,c⟩
 ·exact km s h
 ·exact qK (gY q c.nt) (c.same s)
def seen(H Hv H':Hp):Hp:=fun a=>match Hv a,H a with
 | none,some _=>none
 | _,_=>Lb H' a
theorem z9{H Hv H':Hp}(v:Vw H Hv)(s:Old H H')(k':iD H'):cO H Hv H' (seen H Hv H'):=by
 have key:∀ a,(∃ o,H a=some o∧Hv a=none∧seen H Hv H' a=none)∨(seen H Hv H' a=Lb H' a∧∀ o,H a=some o→Hv a=some o):=fun a=>by
  cases h1:Hv a with
  | none =>
   cases h2:H a with
   | none=>exact .inr ⟨by unfold seen;rw[h1,h2],fun o e=>by cases e⟩
   | some o=>exact .inl ⟨o,rfl,rfl,by unfold seen;rw[h1,h2]⟩
  | some o =>
   refine .inr ⟨by unfold seen;rw[h1],fun u e=>?_⟩
   rw[v.sub a o h1] at e;exact e
 have back:∀ b o,H' b=some o→NT o→(∃ u,H b=some u)→∃ u,H b=some u:=fun _ _ _ _ z=>z
 refine⟨s,fun b o e=>?_,⟨fun b o e=>?_,fun b xs e=>?_,fun b q u e=>?_,k',fun b o e=>?_⟩,fun b o e n=>?_⟩
 ·rcases key b with ⟨u,_,z,_⟩|⟨z,_⟩
  ·rw[e] at z;cases z
  ·rw[z];exact gY (s.nt b o (v.sub b o e) (v.nv b o e)) (v.nv b o e)
 ·rcases key b with ⟨u,_,_,z⟩|⟨z,_⟩
  ·rw[e] at z;cases z
  ·rw[z] at e;exact(wR e).1
 ·rcases key b with ⟨u,h1,h2,_⟩|⟨z,_⟩
  ·cases u with
   | tbl w ps=>exact absurd e (s.tab h1 trivial)
   | _ =>
    have:=s.nt b _ h1 trivial
    rw[e] at this;cases this
    try (rw[v.tup b xs h1] at h2;cases h2)
  ·rw[z];exact gY e trivial
 ·rcases key b with ⟨w,h1,h2,_⟩|⟨z,_⟩
  ·cases w with
   | tbl w ps=>exact absurd e (s.tab h1 trivial)
   | _ =>
    have:=s.nt b _ h1 trivial
    rw[e] at this;cases this
    try (rw[v.frz b q u h1] at h2;cases h2)
  ·rw[z];exact gY e trivial
 ·rcases key b with ⟨u,_,_,z⟩|⟨z,_⟩
  ·rw[e] at z;cases z
  ·rw[z] at e;exact(wR e).2
 ·rcases key b with ⟨u,h1,h2,z⟩|⟨z,k⟩
  ·exact z
  ·rw[k o e] at n;cases n
theorem Up(ha:AAW M qP tr (Mi.bc ws)):AE M qV (vQ (mq fn) [] E tr) (Mi.vq fn ws):=fun e σ H Hv Q I h =>
 ha e σ H Hv _ I ((aq.mp (aq.mp h)).mono fun ds hx vs H1 Hv1 g1 rx=>by
  rw[List.append_nil]
  refine⟨Lb H1,ds,.all g1.vw.cd,rx.imp fun w v z=>RB.Vf g1.vw z,hx.mono fun w hd v H3 Hv3 g3 rw=>?_⟩
  cases w with
  | d x =>
   obtain⟨hi,hd⟩:=Mi.aU hd
   have g4:=z9 g1.vw g3.old g3.vw.cd
   refine hd v H3 _ (g1.trans g4) (Jz g4.vw.tup hi (kY g3.vw.sub rw))
  | _=>exact hd.elim)
end
end A
namespace A
open PySem L2 PyProof.Rows
open Mi (D W Rs Fin aq Out Tg)
variable[Tb:eZ]
structure Zx(J:It)(P:Hp→Hp→Prop)(ds:List D):Prop where
 go:∀ i H Hv,P H Hv→Vw H Hv→i < ds.length→J.go i H
 yld:∀ i H Hv x H',P H Hv→Vw H Hv→i < ds.length→J.yld i H x H'→∃ Hv' d,cO H Hv H' Hv'∧ds[i]? = some d∧Rep Hv' d x
 stop:∀ H Hv,P H Hv→Vw H Hv→J.stop ds.length H
def AIc(M:Nat→Bool)(wi:TI)(it:Mi.I):Prop:=∀ e σ H Hv (R:It→Hp→Prop),R0 M e σ H Hv→Fin (it e) (fun ds=>∀ (J:It) H' Hv' (P:Hp→Hp→Prop),cO H Hv H' Hv'→Zx J P ds→P H' Hv'→(∀ H1 Hv1 H2 Hv2,P H1 Hv1→cO H1 Hv1 H2 Hv2→P H2 Hv2)→R J H')→wi σ H R
def Mp(M:Nat→Bool)(wi:TI)(it:Mi.I):Prop:=∀ e σ H Hv (R:It→Hp→Prop),R0 M e σ H Hv→Fin (it e) (fun ds=>∀ (J:It) H' Hv' (P:Hp→Hp→Prop),cO H Hv H' Hv'→Zx J P ds→P H' Hv'→(∀ H1 Hv1 H2 Hv2,P H1 Hv1→gm Hv1 Hv2→Vw H2 Hv2→P H2 Hv2)→R J H')→wi σ H R
theorem lB{α : Type}{r:Rs α}{k:α→Prop}(h:Fin r k):∃ x,r=.ok x∧k x:=by
 cases r with
 | ok x=>exact⟨x,rfl,h⟩
 | _=>exact h.elim
section
variable{M:Nat→Bool}{ta tb:TE}{a b:Mi.E}{wi:TI}{it:Mi.I}{tr:TA}{as:List Mi.E}
theorem Mp.c(h:Mp M wi it):AIc M wi it:=fun e σ H Hv R I q=>h e σ H Hv R I (q.mono fun ds z J H' Hv' P g o p k=>z J H' Hv' P g o p fun H1 Hv1 H2 Hv2 p g'=>k H1 Hv1 H2 Hv2 p g'.vis g'.vw)
theorem tE{J:It}{Ok:Hp→Prop}{xs:List V}(O:J.Of Ok xs){ds:List D}{P:Hp→Hp→Prop}(ok:∀ H Hv,P H Hv→Vw H Hv→Ok H)(r:∀ H Hv,P H Hv→P2 (Rep Hv) ds xs)(ex:∃ H Hv,P H Hv):Zx J P ds:=by
 have hl:ds.length=xs.length:=by obtain⟨H,Hv,p⟩:=ex;exact(r H Hv p).len
 refine⟨fun i H Hv p v hi=>O.go i H (ok H Hv p v) (by omega),fun i H Hv x H' p v hi y=>?_,fun H Hv p v=>by rw[hl];exact O.stop H (ok H Hv p v)⟩
 obtain⟨rfl,hx⟩:=O.yld i H x H' (ok H Hv p v) (by omega) y
 obtain⟨d,hd,rx⟩:=(r H' Hv p).Y9 hx
 exact⟨Hv,d,.refl v,hd,rx⟩
def WD(K:PySem.W.Frag)(tl:TE):TI:=fun σ H R=>Ve K tl σ H R∨Y0 K tl σ H R∨Y4 tl σ H R
theorem dX{X:Cx}{tg l:Expr}{tl:TE}(hl:PE X l tl):PI X tg l (WD X.K tl):=fun pins s σ H R I h=>by
 rcases h with h|h|h
 ·exact R3 hl pins s σ H R I h
 ·exact V3 hl pins s σ H R I h
 ·exact V4 hl pins s σ H R I h
theorem Ef(H:Hp)(z:Str):P2 (Rep H) (z.cps.toList.map fun c=>D.str ⟨#[c]⟩) (Hb z):=by
 unfold Hb
 induction z.cps.toList with
 | nil=>exact .nil
 | cons c r ih=>exact .cons (oW.mpr rfl) ih
theorem jE{K:PySem.W.Frag}(ha:AE M qP ta a):AIc M (WD K ta) (Mi.pN a):=fun e σ H Hv R I h=>by
 obtain⟨d,hd,h⟩:=lB (aq.mp h)
 have run:∀ Q:VK,(∀ v H' Hv',cO H Hv H' Hv'→RD H' Hv' d v→Q v H')→ta σ H Q:=fun Q q=>ha e σ H Hv Q I (by rw[hd];exact q)
 cases d with
 | lst ds =>
  refine .inl (run _ fun v H' Hv' g r=>?_)
  obtain⟨p,xs,rfl,l,r⟩:=RD.lst g.vw r
  exact⟨p,rfl,⟨xs,l.sq⟩,h (Zw K p) H' Hv' (fun H Hv=>Lst H p xs∧P2 (Rep Hv) ds xs) g (tE JG (fun H Hv p v=>p.1.sq) (fun H Hv p=>p.2) ⟨H',Hv',l,r⟩) ⟨l,r⟩ fun H1 Hv1 H2 Hv2 z g'=>⟨z.1.old g'.old,cX g'.vis z.2⟩⟩
 | tup ds =>
  refine .inr (.inl (run _ fun v H' Hv' g r=>?_))
  obtain⟨p,xs,rfl,l,_,r⟩:=RD.tup g.vw r
  exact⟨p,rfl,⟨xs,.inl (.inl l)⟩,h (Zu K p) H' Hv' (fun H Hv=>H p=some (.tup xs)∧P2 (Rep Hv) ds xs) g (tE Ox (fun H Hv p v=>.inl (.inl p.1)) (fun H Hv p=>p.2) ⟨H',Hv',l,r⟩) ⟨l,r⟩ fun H1 Hv1 H2 Hv2 z g'=>⟨g'.old.at z.1,cX g'.vis z.2⟩⟩
 | str z =>
  refine .inr (.inr (run _ fun v H' Hv' g r=>?_))
  exact⟨z,RD.str r,h (Xm z) H' Hv' (fun _ _=>True) g (tE Oz (fun _ _ _ _=>trivial) (fun H Hv _=>Ef Hv z) ⟨H,Hv,trivial⟩) trivial fun _ _ _ _ _ _=>trivial⟩
 | _=>exact h.elim
theorem lG{K:PySem.W.Frag}(ha:AE M qV ta a):Mp M (WD K ta) (Mi.pN a):=fun e σ H Hv R I h=>by
 obtain⟨d,hd,h⟩:=lB (aq.mp h)
 have run:∀ Q:VK,(∀ v H' Hv',cO H Hv H' Hv'→Rep Hv' d v→Q v H')→ta σ H Q:=fun Q q=>ha e σ H Hv Q I (by rw[hd];exact q)
 cases d with
 | lst ds =>
  refine .inl (run _ fun v H' Hv' g r=>?_)
  obtain⟨p,xs,rfl,l,r⟩:=jT.mp r
  exact⟨p,rfl,⟨xs,(l.same g.vw.sub).sq⟩,h (Zw K p) H' Hv' (fun H Hv=>Lst Hv p xs∧P2 (Rep Hv) ds xs) g (tE JG (fun H Hv p v=>(p.1.same v.sub).sq) (fun H Hv p=>p.2) ⟨H',Hv',l,r⟩) ⟨l,r⟩ fun H1 Hv1 H2 Hv2 z s v=>⟨z.1.same s,cX s z.2⟩⟩
 | tup ds =>
  refine .inr (.inl (run _ fun v H' Hv' g r=>?_))
  obtain⟨p,xs,rfl,l,r⟩:=fQ.mp r
  exact⟨p,rfl,⟨xs,.inl (.inl (g.vw.sub _ _ l))⟩,h (Zu K p) H' Hv' (fun H Hv=>Hv p=some (.tup xs)∧P2 (Rep Hv) ds xs) g (tE Ox (fun H Hv p v=>.inl (.inl (v.sub _ _ p.1))) (fun H Hv p=>p.2) ⟨H',Hv',l,r⟩) ⟨l,r⟩ fun H1 Hv1 H2 Hv2 z s v=>⟨s _ _ z.1,cX s z.2⟩⟩
 | str z =>
  refine .inr (.inr (run _ fun v H' Hv' g r=>?_))
  exact⟨z,oW.mp r,h (Xm z) H' Hv' (fun _ _=>True) g (tE Oz (fun _ _ _ _=>trivial) (fun H Hv _=>Ef Hv z) ⟨H,Hv,trivial⟩) trivial fun _ _ _ _ _ _ _=>trivial⟩
 | _=>exact h.elim
theorem RL(H:Hp)(lo hi:Int):P2 (Rep H) (Mi.dj lo hi) (Hk lo (hi - lo).toNat):=by
 unfold Mi.dj Hk
 induction List.range (hi - lo).toNat with
 | nil=>exact .nil
 | cons c r ih=>exact .cons (jU.mpr rfl) ih
theorem Lj(lo hi:Int)(H Hv:Hp):Zx (Xw lo (hi - lo).toNat) (fun _ _=>True) (Mi.dj lo hi):=tE OJ (fun _ _ _ _=>trivial) (fun H Hv _=>RL Hv lo hi) ⟨H,Hv,trivial⟩
theorem gK(ha:AE M qP ta a):Mp M (Vd (jG ta qZ)) (Mi.gF a):=fun e σ H Hv R I h =>
 ha e σ H Hv _ I ((aq.mp h).mono fun x hx v H1 Hv1 g1 rx=>by
  obtain⟨j,rfl,hk⟩:=Jb (aq.mp hx)
  obtain⟨hz,hq⟩:=Mi.aU hk
  cases RD.int rx
  refine⟨j,rfl,hz.1,hz.2,?_⟩
  have:=hq (Xw 0 (j - 0).toNat) H1 Hv1 _ g1 (Lj 0 j H Hv) trivial fun _ _ _ _ _ _ _=>trivial
  rw[Int.sub_zero] at this
  exact this)
end
def WL:List Nat→Mv
 | []=>Qg
 | i::r=>FP (nQ i) (WL r)
def xM:Tg→List Nat
 | .n i=>[i]
 | .t is=>is
def ZF(K:PySem.W.Frag):Tg→TG
 | .n i=>nQ i
 | .t is=>WM K is.length (WL is)
section
variable{P:Mi.Env→L2.St→Prop}{H Hv:Hp}
theorem Qf:∀ {is:List Nat} {ds:List D} {xs:List V} {e:Mi.Env} {σ : L2.St} {Q:L2.St→Hp→Prop},(∀ i∈is,∀ e σ d v,P e σ→Rep Hv d v→P (e.set i (some (.d d))) (σ.set i (some v)))→P e σ→P2 (Rep Hv) ds xs →
 Fin (Mi.u0 is ds e) (fun e'=>∀ σ',P e' σ'→Q σ' H)→WL is xs σ H Q
 | [],[],xs,e,σ,Q,cl,p,r,h=>by
  cases r
  exact⟨rfl,h σ p⟩
 | [],_::_,xs,e,σ,Q,cl,p,r,h=>h.elim
 | _::_,[],xs,e,σ,Q,cl,p,r,h=>h.elim
 | i::is,d::ds,xs,e,σ,Q,cl,p,r,h=>by
  cases r with
  | cons x t=>exact⟨_,_,rfl,Qf (fun j hj=>cl j (List.mem_cons_of_mem _ hj)) (cl i List.mem_cons_self _ _ _ _ p x) t h⟩
theorem xR:∀ {is:List Nat} {ds:List D} {e:Mi.Env} {k:Mi.Env→Prop},Fin (Mi.u0 is ds e) k→ds.length=is.length
 | [],[],_,_,_=>rfl
 | [],_::_,_,_,h=>h.elim
 | _::_,[],_,_,h=>h.elim
 | i::is,d::ds,e,k,h=>by rw[List.length_cons,List.length_cons,xR (is:=is) (ds:=ds) (k:=k) h]
theorem G8{K:PySem.W.Frag}(vw:Vw H Hv){tg:Tg}{d:D}{v:V}{e:Mi.Env}{σ : L2.St}{Q:L2.St→Hp→Prop}(cl:∀ i∈xM tg,∀ e σ d v,P e σ→Rep Hv d v→P (e.set i (some (.d d))) (σ.set i (some v)))(p:P e σ)(r:Rep Hv d v)
 (h:Fin (tg.put d e) (fun e'=>∀ σ',P e' σ'→Q σ' H)):ZF K tg v σ H Q:=by
 cases tg with
 | n i=>exact h _ (cl i (by simp[xM]) _ _ _ _ p r)
 | t is =>
  cases d with
  | tup ds =>
   obtain⟨a,xs,e1,l,r⟩:=fQ.mp r
   exact⟨a,xs,e1,.inl (.inl (vw.sub _ _ l)),by rw[← r.len];exact xR h,Qf cl p r h⟩
  | _=>exact h.elim
end
theorem iR{α : Type}{l:List α}{i j:Nat}{x y:α}(h:(l.set i x)[j]? = some y):(i=j∧x=y∧i < l.length)∨(i≠j∧l[j]? = some y):=by
 rw[List.getElem?_set] at h
 split at h
 ·split at h
  ·exact .inl ⟨‹_›,Option.some.inj h,by omega⟩
  ·cases h
 ·exact .inr ⟨‹_›,h⟩
theorem R0.set{M:Nat→Bool}{e:Mi.Env}{σ : L2.St}{H Hv:Hp}(I:R0 M e σ H Hv){i:Nat}{w:W}{v:V}(hm:M i=false)(r:rE Hv w v):R0 M (e.set i (some w)) (σ.set i (some v)) H Hv:=by
 refine⟨I.vw,by rw[List.length_set,List.length_set];exact I.len,fun j w' h m=>?_,fun j w' h m=>?_⟩
 ·rcases iR h with ⟨rfl,h,l⟩|⟨n,h⟩
  ·cases h
   exact⟨v,by rw[List.getElem?_set_self (by rw[I.len];exact l)],r⟩
  ·obtain⟨u,q,z⟩:=I.nob j w' h m
   exact⟨u,by rw[List.getElem?_set_ne n];exact q,z⟩
 ·rcases iR h with ⟨rfl,h,l⟩|⟨n,h⟩
  ·rw[hm] at m;cases m
  ·obtain⟨u,q,z⟩:=I.own j w' h m
   exact⟨u,by rw[List.getElem?_set_ne n];exact q,z⟩
theorem R1.set{M:Nat→Bool}{H0 Hv0:Hp}{e:Mi.Env}{σ : L2.St}{H Hv:Hp}(I:R1 M H0 Hv0 e σ H Hv){i:Nat}{w:W}{v:V}(hm:M i=false)(r:rE Hv w v):R1 M H0 Hv0 (e.set i (some w)) (σ.set i (some v)) H Hv:=by
 have nj:∀ {j:Nat} {w':W},(e.set i (some w))[j]? = some (some w')→M j=true→i≠j∧e[j]? = some (some w'):=fun {j w'} h m=>by
  rcases iR h with ⟨rfl,_,_⟩|⟨n,h⟩
  ·rw[hm] at m;cases m
  ·exact⟨n,h⟩
 refine⟨I.toR0.set hm r,I.gw,fun j w' a h m q=>?_,fun j k w1 w2 a b hjk h1 h2 m1 m2 q1 q2=>?_⟩
 ·obtain⟨n,h⟩:=nj h m
  rw[List.getElem?_set_ne n] at q
  exact I.fresh j w' a h m q
 ·obtain⟨n1,h1⟩:=nj h1 m1
  obtain⟨n2,h2⟩:=nj h2 m2
  rw[List.getElem?_set_ne n1] at q1
  rw[List.getElem?_set_ne n2] at q2
  exact I.sep j k w1 w2 a b hjk h1 h2 m1 m2 q1 q2
def ym(ρ : List (Option Nat))(M:Nat→Bool):Nat→Bool:=fun i=>match ρ[i]? with
 | some (some j)=>M j
 | _=>false
theorem Em{α : Type}{ρ : List (Option Nat)}{e:List (Option α)}{i:Nat}{w:α}(h:(ρ.map fun o=>o.bind fun j=>(e[j]?).join)[i]? = some (some w)):∃ j,ρ[i]? = some (some j)∧e[j]? = some (some w):=by
 rw[List.getElem?_map] at h
 cases hr:ρ[i]? with
 | none=>rw[hr] at h;cases h
 | some o =>
  rw[hr] at h
  cases o with
  | none=>cases h
  | some j =>
   refine⟨j,rfl,?_⟩
   have h:(e[j]?).join=some w:=Option.some.inj h
   cases hq:e[j]? with
   | none=>rw[hq] at h;cases h
   | some o' => rw [hq] at h; have h : o' = some w := h
                rw[h]
theorem JC{α : Type}{ρ : List (Option Nat)}{e:List (Option α)}{i j:Nat}{w:α}(h1:ρ[i]? = some (some j))(h2:e[j]? = some (some w)):(ρ.map fun o=>o.bind fun j=>(e[j]?).join)[i]? = some (some w):=by
 rw[List.getElem?_map,h1]
 show some ((e[j]?).join)=_
 rw[h2];rfl
theorem R0.pick{M:Nat→Bool}{e:Mi.Env}{σ : L2.St}{H Hv:Hp}(I:R0 M e σ H Hv)(ρ : List (Option Nat)):R0 (ym ρ M) (Mi.rN ρ e) (L2.pick ρ σ) H Hv:=by
 refine⟨I.vw,by unfold Mi.rN L2.pick;rw[List.length_map,List.length_map],fun i w h m=>?_,fun i w h m=>?_⟩
 ·obtain⟨j,h1,h2⟩:=Em h
  have m:M j=false:=by unfold ym at m;rw[h1] at m;exact m
  obtain⟨v,q,z⟩:=I.nob j w h2 m
  exact⟨v,JC h1 q,z⟩
 ·obtain⟨j,h1,h2⟩:=Em h
  have m:M j=true:=by unfold ym at m;rw[h1] at m;exact m
  obtain⟨v,q,z⟩:=I.own j w h2 m
  exact⟨v,JC h1 q,z⟩
theorem LQ{tg:Tg}{c:Mi.C}{a:Mi.E}{e:Mi.Env}{x:D}{r:List D}{k:List D→Prop}(h:Fin (Mi.dI tg c a e (x::r)) k) :
 Fin (tg.put x e) fun e1=>Fin (c e1) fun b=>if b=true then Fin (a e1) fun y=>Fin (Mi.dI tg c a e r) fun ys=>k (y::ys) else Fin (Mi.dI tg c a e r) k:=by
 refine(aq.mp h).mono fun e1 h1=>(aq.mp h1).mono fun b h2=>?_
 cases b with
 | true=>exact Ft ((aq.mp (Mi.yO h2)).mono fun y h3=>(aq.mp h3).mono fun ys h4=>h4)
 | false=>exact Fv (Mi.yP h2)
theorem gU{M:Nat→Bool}{K:PySem.W.Frag}{ρ : List (Option Nat)}{wi:TI}{it:Mi.I}{tg:Tg}{tc:TT}{c:Mi.C}{te:TE}{a:Mi.E}(hi:AIc M wi it)(hm:∀ i∈xM tg,ym ρ M i=false)(hc:AT (ym ρ M) tc c)(he:AE (ym ρ M) qV te a) :
 AE M qN (Jr wi ρ (ZF K tg) tc te) (Mi.d9 ρ it tg c a):=fun e σ H Hv Q I h =>
 hi e σ H Hv _ I ((aq.mp h).mono fun ds h1 J H1 Hv1 P g1 O p1 per=>by
  obtain⟨hz,h1⟩:=Mi.aU h1
  have h1:=aq.mp h1
  have I1:=I.grow g1
  refine⟨fun i m acc H'=>m=ds.length - i∧i≤ds.length∧∃ Hv',cO H1 Hv1 H' Hv'∧P H' Hv'∧acc.length≤i∧∃ done,P2 (Rep Hv') done acc∧Fin (Mi.dI tg c a (Mi.rN ρ e) (ds.drop i)) fun ys=>∀ v H2 Hv2,cO H Hv H2 Hv2→qN H H2 Hv2 (.d (.lst (done++ys))) v→Q v H2,
   ⟨ds.length,by simp,Nat.zero_le _,Hv1,.refl g1.vw,p1,Nat.le_refl _,[],.nil,by rw[List.drop_zero];exact h1.mono fun ys z=>z⟩,?_⟩
  rintro i m acc H' ⟨rfl,hle,Hv',g,pp,l,done,pd,hf⟩
  by_cases hlt:i < ds.length
  ·refine .inr ⟨O.go i H' Hv' pp g.vw hlt,by rw[sizeLine_eq];omega,fun acc' H2=>∃ Hv2,cO H1 Hv1 H2 Hv2∧P H2 Hv2∧acc'.length≤i+1∧∃ done,P2 (Rep Hv2) done acc'∧Fin (Mi.dI tg c a (Mi.rN ρ e) (ds.drop (i+1))) fun ys=>∀ v H3 Hv3,cO H Hv H3 Hv3→qN H H3 Hv3 (.d (.lst (done++ys))) v→Q v H3,
    fun acc' H2 z=>⟨ds.length - (i+1),by omega,rfl,hlt,z⟩,fun x H2 y=>?_⟩
   obtain⟨Hv2,d,g2,hd,rx⟩:=O.yld i H' Hv' x H2 pp g.vw hlt y
   have g12:=g.trans g2
   have hdr:ds.drop i=d::ds.drop (i+1):=by
    obtain⟨hl,e1⟩:=List.getElem?_eq_some_iff.mp hd
    rw[List.drop_eq_getElem_cons hl,e1]
   rw[hdr] at hf
   have hf:=LQ hf
   refine G8 (P:=fun e1 σ1=>R0 (ym ρ M) e1 σ1 H2 Hv2) g2.vw (fun j hj e1 σ1 d1 v1 r1 z=>r1.set (hm j hj) z) ((I1.grow g12).pick ρ) rx (hf.mono fun e1 hf1 σ1 r1=>?_)
   refine hc e1 σ1 H2 Hv2 _ r1 (hf1.mono fun b hb H3 Hv3 g3=>?_)
   cases b with
   | true =>
    refine Ft (he e1 σ1 H3 Hv3 _ (r1.grow g3) (Fin.mono (by simpa using hb) fun y hy v H4 Hv4 g4 ry=>?_))
    exact⟨Hv4,g12.trans (g3.trans g4),per _ _ _ _ pp (g2.trans (g3.trans g4)),by rw[List.length_append,List.length_singleton];omega,done++[y],(cX (g2.trans (g3.trans g4)).vis pd).append (.cons ry .nil),hy.mono fun ys z v H5 Hv5 g5 k=>z v H5 Hv5 g5 (by rw[List.append_assoc] at k;exact k)⟩
   | false=>exact Fv ⟨Hv3,g12.trans g3,per _ _ _ _ pp (g2.trans g3),by omega,done,cX (g2.trans g3).vis pd,by simpa using hb⟩
  ·have hi:i=ds.length:=by omega
   subst hi
   refine .inl ⟨O.stop H' Hv' pp g.vw,fun p hp=>?_⟩
   rw[List.drop_of_length_le (Nat.le_refl _)] at hf
   have g2:cO H' Hv' (upd H' p (.lst acc)) Hv':=.O5 g.vw trivial hp
   refine hf _ _ _ (g1.trans (g.trans g2)) ⟨p,.lst acc,rfl,(g1.old.trans g.old).free hp,aP,mZ g.vw hp,?_⟩
   show P2 (Rep Hv') (done++[]) acc
   rw[List.append_nil];exact pd)
def sE(M:Nat→Bool)(κ : Kd)(H0 Hv0:Hp)(D:Ends)(Hv:Hp):Out→Prop
 | .nx e=>∀ σ H' Hv',R1 M H0 Hv0 e σ H' Hv'→gm Hv Hv'→D.nx σ H'
 | .rt w=>∀ v H' Hv',cO H0 Hv0 H' Hv'→κ H0 H' Hv' w v→D.rt v H'
 | .bk e=>∀ σ H' Hv',R1 M H0 Hv0 e σ H' Hv'→gm Hv Hv'→D.bk σ H'
 | .ct e=>∀ σ H' Hv',R1 M H0 Hv0 e σ H' Hv'→gm Hv Hv'→D.ct σ H'
def AS(M:Nat→Bool)(κ : Kd)(t:TS)(m:Mi.S):Prop:=∀ H0 Hv0 e σ H Hv D,R1 M H0 Hv0 e σ H Hv→Fin (m e) (sE M κ H0 Hv0 D Hv)→t D σ H
section
variable{M:Nat→Bool}{κ : Kd}{t u:TS}{m n:Mi.S}{te:TE}{a b:Mi.E}{w:Mi.EW}
theorem bD:AS M κ UG Mi.bG:=fun H0 Hv0 e σ H Hv D I h=>h σ H Hv I (gm.refl _)
theorem zg:AS M κ M5 Mi.vf:=fun H0 Hv0 e σ H Hv D I h=>h
theorem aO(h1:AS M κ t m)(h2:AS M κ u n):AS M κ (XH t u) (Mi.bj m n):=fun H0 Hv0 e σ H Hv D I h =>
 h1 H0 Hv0 e σ H Hv _ I ((aq.mp h).mono fun o ho=>by
  cases o with
  | nx e'=>exact fun σ' H' Hv' I' s=>h2 H0 Hv0 e' σ' H' Hv' D I' (Fin.mono ho fun o z=>by
   cases o with
   | nx e2=>exact fun σ2 H2 Hv2 I2 s2=>z σ2 H2 Hv2 I2 (s.trans s2)
   | rt w=>exact z
   | bk e2=>exact fun σ2 H2 Hv2 I2 s2=>z σ2 H2 Hv2 I2 (s.trans s2)
   | ct e2=>exact fun σ2 H2 Hv2 I2 s2=>z σ2 H2 Hv2 I2 (s.trans s2))
  | rt w=>exact ho
  | bk e'=>exact ho
  | ct e'=>exact ho)
theorem Uh(ha:AE M qP te a):AS M κ (z6 te) (Mi.Jv a):=fun H0 Hv0 e σ H Hv D I h =>
 ha e σ H Hv _ I.toR0 ((aq.mp h).mono fun d hd v H1 Hv1 g1 r=>hd σ H1 Hv1 (I.grow g1) g1.vis)
theorem b8(i:Nat)(hm:M i=false)(ha:AE M qV te a):AS M κ (Ea te (nQ i)) (Mi.cG i a):=fun H0 Hv0 e σ H Hv D I h =>
 ha e σ H Hv _ I.toR0 ((aq.mp h).mono fun d hd v H1 Hv1 g1 r=>hd _ H1 Hv1 ((I.grow g1).set hm r) g1.vis)
theorem Ke(i:Nat)(hm:M i=false)(ha:AW M qV te w):AS M κ (Ea te (nQ i)) (Mi.vZ i w):=fun H0 Hv0 e σ H Hv D I h =>
 ha e σ H Hv _ I.toR0 ((aq.mp h).mono fun d hd v H1 Hv1 g1 r=>hd _ H1 Hv1 ((I.grow g1).set hm r) g1.vis)
theorem Xb{K:PySem.W.Frag}(tg:Tg)(hm:∀ i∈xM tg,M i=false)(ha:AE M qV te a):AS M κ (Ea te (ZF K tg)) (Mi.Yc tg a):=fun H0 Hv0 e σ H Hv D I h =>
 ha e σ H Hv _ I.toR0 ((aq.mp h).mono fun d hd v H1 Hv1 g1 r =>
  G8 (P:=fun e1 σ1=>R1 M H0 Hv0 e1 σ1 H1 Hv1) g1.vw (fun j hj e1 σ1 d1 v1 r1 z=>r1.set (hm j hj) z) (I.grow g1) r ((aq.mp hd).mono fun e1 h1 σ1 I1=>h1 σ1 H1 Hv1 I1 g1.vis))
theorem bU(ha:AW M qV te w):AS M qV (G9 te) (Mi.bZ w):=fun H0 Hv0 e σ H Hv D I h =>
 ha e σ H Hv _ I.toR0 ((aq.mp h).mono fun d hd v H1 Hv1 g1 r=>hd v H1 Hv1 (I.gw.trans g1) r)
theorem lW(ha:AW M qN te w):AS M qN (G9 te) (Mi.bZ w):=fun H0 Hv0 e σ H Hv D I h =>
 ha e σ H Hv _ I.toR0 ((aq.mp h).mono fun d hd v H1 Hv1 g1 r=>hd v H1 Hv1 (I.gw.trans g1) (KM.mono (κ:=qN) I.gw.old r))
theorem dh{tt:TT}{c:Mi.C}(hc:AT M tt c)(h1:AS M κ t m)(h2:AS M κ u n):AS M κ (XR tt t u) (Mi.iM c m n):=fun H0 Hv0 e σ H Hv D I h =>
 hc e σ H Hv _ I.toR0 ((aq.mp h).mono fun b hb H1 Hv1 g1=>by
  have up:∀ o,sE M κ H0 Hv0 D Hv o→sE M κ H0 Hv0 D Hv1 o:=fun o z=>by
   cases o with
   | nx e2=>exact fun σ2 H2 Hv2 I2 s2=>z σ2 H2 Hv2 I2 (g1.vis.trans s2)
   | rt w=>exact z
   | bk e2=>exact fun σ2 H2 Hv2 I2 s2=>z σ2 H2 Hv2 I2 (g1.vis.trans s2)
   | ct e2=>exact fun σ2 H2 Hv2 I2 s2=>z σ2 H2 Hv2 I2 (g1.vis.trans s2)
  cases b with
  | true=>exact Ft (h1 H0 Hv0 e σ H1 Hv1 D (I.grow g1) (Fin.mono (Mi.yO hb) up))
  | false=>exact Fv (h2 H0 Hv0 e σ H1 Hv1 D (I.grow g1) (Fin.mono (Mi.yP hb) up)))
theorem sE.up{H0 Hv0 Hv Hv1:Hp}{D:Ends}(s:gm Hv Hv1){o:Out}(z:sE M κ H0 Hv0 D Hv o):sE M κ H0 Hv0 D Hv1 o:=by
 cases o with
 | nx e2=>exact fun σ2 H2 Hv2 I2 s2=>z σ2 H2 Hv2 I2 (s.trans s2)
 | rt w=>exact z
 | bk e2=>exact fun σ2 H2 Hv2 I2 s2=>z σ2 H2 Hv2 I2 (s.trans s2)
 | ct e2=>exact fun σ2 H2 Hv2 I2 s2=>z σ2 H2 Hv2 I2 (s.trans s2)
theorem gj{K:PySem.W.Frag}{wi:TI}{it:Mi.I}{tg:Tg}(hi:Mp M wi it)(hm:∀ i∈xM tg,M i=false)(hb:AS M κ t m):AS M κ (XX wi (ZF K tg) t) (Mi.jR it tg m):=fun H0 Hv0 e σ H Hv D I h =>
 hi e σ H Hv _ I.toR0 ((aq.mp h).mono fun ds h1 J H1 Hv1 P g1 O p1 per=>by
  refine⟨fun i k σ' H'=>k=ds.length - i∧i≤ds.length∧∃ e' Hv',R1 M H0 Hv0 e' σ' H' Hv'∧P H' Hv'∧Fin (Mi.uB tg m (ds.drop i) e') (sE M κ H0 Hv0 D Hv'),
   ⟨ds.length,by simp,Nat.zero_le _,e,Hv1,I.grow g1,p1,by rw[List.drop_zero];exact h1.mono fun o z=>z.up g1.vis⟩,?_⟩
  rintro i k σ' H' ⟨rfl,hle,e',Hv',I',pp,hf⟩
  by_cases hlt:i < ds.length
  ·refine .inr ⟨O.go i H' Hv' pp I'.vw hlt,fun σ2 H2=>∃ e2 Hv2,R1 M H0 Hv0 e2 σ2 H2 Hv2∧P H2 Hv2∧Fin (Mi.uB tg m (ds.drop (i+1)) e2) (sE M κ H0 Hv0 D Hv2),
    fun σ2 H2 z=>⟨ds.length - (i+1),by omega,rfl,hlt,z⟩,fun x H2 y=>?_⟩
   obtain⟨Hv2,d,g2,hd,rx⟩:=O.yld i H' Hv' x H2 pp I'.vw hlt y
   have I2:=I'.grow g2
   have hdr:ds.drop i=d::ds.drop (i+1):=by
    obtain⟨hl,e1⟩:=List.getElem?_eq_some_iff.mp hd
    rw[List.drop_eq_getElem_cons hl,e1]
   rw[hdr] at hf
   refine G8 (P:=fun e1 σ1=>R1 M H0 Hv0 e1 σ1 H2 Hv2) g2.vw (fun j hj e1 σ1 d1 v1 r1 z=>r1.set (hm j hj) z) I2 rx ((aq.mp hf).mono fun e1 h1 σ1 I1=>?_)
   refine hb H0 Hv0 e1 σ1 H2 Hv2 _ I1 ((aq.mp h1).mono fun o ho=>?_)
   cases o with
   | nx e2=>exact fun σ2 H3 Hv3 I3 s3=>⟨e2,Hv3,I3,per _ _ _ _ pp (g2.vis.trans s3) I3.vw,Fin.mono ho fun o z=>z.up (g2.vis.trans s3)⟩
   | ct e2=>exact fun σ2 H3 Hv3 I3 s3=>⟨e2,Hv3,I3,per _ _ _ _ pp (g2.vis.trans s3) I3.vw,Fin.mono ho fun o z=>z.up (g2.vis.trans s3)⟩
   | bk e2=>exact fun σ2 H3 Hv3 I3 s3=>ho σ2 H3 Hv3 I3 (g2.vis.trans s3)
   | rt w=>exact ho
  ·have hi:i=ds.length:=by omega
   subst hi
   refine .inl ⟨O.stop H' Hv' pp I'.vw,?_⟩
   rw[List.drop_of_length_le (Nat.le_refl _)] at hf
   exact hf σ' H' Hv' I' (gm.refl _))
theorem Q7{tt:TT}{c:Mi.C}(k:Nat)(hc:AT M tt c)(hb:AS M κ t m):AS M κ (M3 tt t) (Mi.Hf k c m):=fun H0 Hv0 e σ H Hv D I h=>by
 refine⟨fun j σ' H'=>∃ e' Hv',R1 M H0 Hv0 e' σ' H' Hv'∧Fin (Mi.lZ c m j e') (sE M κ H0 Hv0 D Hv'),⟨k,e,Hv,I,h⟩,?_⟩
 rintro j σ' H' ⟨e',Hv',I',hf⟩
 cases j with
 | zero=>exact hf.elim
 | succ j =>
  refine hc e' σ' H' Hv' _ I'.toR0 ((aq.mp hf).mono fun b hb' H1 Hv1 g1=>?_)
  cases b with
  | false=>exact Fv ((Mi.jZ (Mi.yP hb')) σ' H1 Hv1 (I'.grow g1) g1.vis)
  | true =>
   refine Ft ⟨fun σ2 H2=>∃ e2 Hv2,R1 M H0 Hv0 e2 σ2 H2 Hv2∧Fin (Mi.lZ c m j e2) (sE M κ H0 Hv0 D Hv2),fun σ2 H2 z=>⟨j,Nat.lt_succ_self j,z⟩,?_⟩
   refine hb H0 Hv0 e' σ' H1 Hv1 _ (I'.grow g1) ((aq.mp (Mi.yO hb')).mono fun o ho=>?_)
   cases o with
   | nx e2=>exact fun σ2 H2 Hv2 I2 s2=>⟨e2,Hv2,I2,Fin.mono ho fun o z=>z.up (g1.vis.trans s2)⟩
   | ct e2=>exact fun σ2 H2 Hv2 I2 s2=>⟨e2,Hv2,I2,Fin.mono ho fun o z=>z.up (g1.vis.trans s2)⟩
   | bk e2=>exact fun σ2 H2 Hv2 I2 s2=>ho σ2 H2 Hv2 I2 (g1.vis.trans s2)
   | rt w=>exact ho
end
end A
namespace A
open PySem L2 PyProof.Rows
open Mi (D W Rs Fin aq Out Tg)
variable[Tb:eZ]
section
variable{M:Nat→Bool}{κ : Kd}{te:TE}{a b:Mi.E}{w:Mi.EW}{K:PySem.W.Frag}
theorem R1.write{H0 Hv0:Hp}{e:Mi.Env}{σ : L2.St}{H Hv:Hp}(I:R1 M H0 Hv0 e σ H Hv){i:Nat}{w w':W}{p:Addr}{o:HO}(hm:M i=true)(he:e[i]? = some (some w))(hs:σ[i]? = some (some (.ref p)))(c:dJ Hv w' o):R1 M H0 Hv0 (e.set i (some w')) σ (upd H p o) Hv:=by
 have hp:∃ o',H p=some o'∧Hv p=none∧GR o':=by
  obtain⟨v,q,a,o',e1,q1,n,c'⟩:=I.own i w he hm
  rw[hs] at q;cases q;cases e1
  exact⟨o',q1,n,c'.Vj⟩
 obtain⟨o',hp,hn,hcc⟩:=hp
 have h0:H0 p=none:=I.fresh i w p he hm hs
 have vw:Vw (upd H p o) Hv:=by
  refine⟨fun b u q=>?_,fun b xs q=>?_,fun b z u q=>?_,I.vw.cd.put hp hcc c.nt,I.vw.nv⟩
  ·rw[aH (aQ q hn)];exact I.vw.sub b u q
  ·by_cases hb:b=p
   ·subst hb;rw[aP] at q;cases q;exact c.cell.elim
   ·rw[aH hb] at q;exact I.vw.tup b xs q
  ·by_cases hb:b=p
   ·subst hb;rw[aP] at q;cases q;exact c.cell.elim
   ·rw[aH hb] at q;exact I.vw.frz b z u q
 have get:∀ {j:Nat} {w2:W},(e.set i (some w'))[j]? = some (some w2)→(i=j∧w'=w2)∨(i≠j∧e[j]? = some (some w2)):=fun {j w2} h=>by
  rcases iR h with ⟨x,y,_⟩|z
  ·exact .inl ⟨x,Option.some.inj y⟩
  ·exact .inr z
 have get':∀ {j:Nat} {w2:W},(e.set i (some w'))[j]? = some (some w2)→∃ w3,e[j]? = some (some w3):=fun {j w2} h=>by
  rcases get h with ⟨x,_⟩|⟨_,z⟩
  ·subst x;exact⟨w,he⟩
  ·exact⟨w2,z⟩
 refine⟨⟨vw,by rw[List.length_set];exact I.len,fun j w2 h m=>?_,fun j w2 h m=>?_⟩,⟨I.gw.old.put h0 hp,I.gw.vis,vw,I.gw.hid⟩,fun j w2 x h m q=>?_,fun j k w1 w2 x y hjk h1 h2 m1 m2 q1 q2=>?_⟩
 ·rcases get h with ⟨rfl,_⟩|⟨_,z⟩
  ·rw[hm] at m;cases m
  ·exact I.nob j w2 z m
 ·rcases get h with ⟨rfl,rfl⟩|⟨n,z⟩
  ·exact⟨.ref p,hs,p,o,rfl,aP,hn,c⟩
  ·obtain⟨v,q,x,u,e1,q1,n1,c1⟩:=I.own j w2 z m
   subst e1
   have:=I.sep i j w w2 p x n he z hm m hs q
   exact⟨.ref x,q,x,u,rfl,by rw[aH (Ne.symm this)];exact q1,n1,c1⟩
 ·obtain⟨w3,z⟩:=get' h
  exact I.fresh j w3 x z m q
 ·obtain⟨w3,z3⟩:=get' h1
  obtain⟨w4,z4⟩:=get' h2
  exact I.sep j k w3 w4 x y hjk z3 z4 m1 m2 q1 q2
theorem R1.cell{H0 Hv0:Hp}{e:Mi.Env}{σ : L2.St}{H Hv:Hp}(I:R1 M H0 Hv0 e σ H Hv){i:Nat}{w:W}(hm:M i=true)(he:e[i]? = some (some w)):∃ p o,σ[i]? = some (some (.ref p))∧H p=some o∧Hv p=none∧H0 p=none∧dJ Hv w o:=by
 obtain⟨v,q,p,o,rfl,q1,n,c⟩:=I.own i w he hm
 exact⟨p,o,q,q1,n,I.fresh i w p he hm q,c⟩
theorem uz{e:Mi.Env}{i:Nat}{k:List D→Prop}(h:Fin (Mi.getL e i) k):∃ ds,e[i]? = some (some (.d (.lst ds)))∧k ds:=by
 unfold Mi.getL at h
 split at h
 ·exact⟨_,‹_›,h⟩
 ·exact h.elim
theorem R1.list{H0 Hv0:Hp}{e:Mi.Env}{σ : L2.St}{H Hv:Hp}(I:R1 M H0 Hv0 e σ H Hv){i:Nat}{ds:List D}(hm:M i=true)(he:e[i]? = some (some (.d (.lst ds)))):∃ p xs,σ[i]? = some (some (.ref p))∧H p=some (.lst xs)∧Hv p=none∧P2 (Rep Hv) ds xs:=by
 obtain⟨p,o,q,q1,n,_,c⟩:=I.cell hm he
 cases o with
 | lst xs=>exact⟨p,xs,q,q1,n,c⟩
 | _=>exact c.elim
theorem R1.name{H0 Hv0:Hp}{e:Mi.Env}{σ : L2.St}{H Hv H1 Hv1:Hp}(I:R1 M H0 Hv0 e σ H Hv)(g:cO H Hv H1 Hv1){i:Nat}{w:W}{v:V}(hm:M i=true)(k:qN H H1 Hv1 w v):R1 M H0 Hv0 (e.set i (some w)) (σ.set i (some v)) H1 Hv1:=by
 obtain⟨p,o,rfl,hf,hp,hn,c⟩:=k
 have I1:=I.grow g
 have other:∀ {j:Nat} {w2:W} {x:Addr},e[j]? = some (some w2)→M j=true→σ[j]? = some (some (.ref x))→x≠p:=fun {j w2 x} h m q=>by
  obtain⟨p',o',q',q1,_⟩:=I.cell m h
  rw[q] at q';cases q'
  exact aQ q1 hf
 refine⟨⟨I1.vw,by rw[List.length_set,List.length_set];exact I.len,fun j w2 h m=>?_,fun j w2 h m=>?_⟩,I1.gw,fun j w2 x h m q=>?_,fun j k w1 w2 x y hjk h1 h2 m1 m2 q1 q2=>?_⟩
 ·rcases iR h with ⟨rfl,_⟩|⟨n,z⟩
  ·rw[hm] at m;cases m
  ·obtain⟨u,q,r⟩:=I1.nob j w2 z m
   exact⟨u,by rw[List.getElem?_set_ne n];exact q,r⟩
 ·rcases iR h with ⟨rfl,h,l⟩|⟨n,z⟩
  ·cases h
   exact⟨.ref p,by rw[List.getElem?_set_self (by rw[I.len];exact l)],p,o,rfl,hp,hn,c⟩
  ·obtain⟨u,q,r⟩:=I1.own j w2 z m
   exact⟨u,by rw[List.getElem?_set_ne n];exact q,r⟩
 ·rcases iR h with ⟨rfl,h,l⟩|⟨n,z⟩
  ·rw[List.getElem?_set_self (by rw[I.len];exact l)] at q
   cases q
   exact I.gw.old.free hf
  ·rw[List.getElem?_set_ne n] at q
   exact I.fresh j w2 x z m q
 ·rcases iR h1 with ⟨rfl,_,l⟩|⟨n,z⟩
  ·rw[List.getElem?_set_self (by rw[I.len];exact l)] at q1
   cases q1
   rcases iR h2 with ⟨rfl,_,_⟩|⟨n2,z2⟩
   ·exact absurd rfl hjk
   ·rw[List.getElem?_set_ne n2] at q2
    exact Ne.symm (other z2 m2 q2)
  ·rw[List.getElem?_set_ne n] at q1
   rcases iR h2 with ⟨rfl,_,l⟩|⟨n2,z2⟩
   ·rw[List.getElem?_set_self (by rw[I.len];exact l)] at q2
    cases q2
    exact other z m1 q1
   ·rw[List.getElem?_set_ne n2] at q2
    exact I.sep j k w1 w2 x y hjk z z2 m1 m2 q1 q2
theorem qz(i:Nat)(hm:M i=true)(ha:AE M qN te a):AS M κ (Ea te (nQ i)) (Mi.cG i a):=fun H0 Hv0 e σ H Hv D I h =>
 ha e σ H Hv _ I.toR0 ((aq.mp h).mono fun d hd v H1 Hv1 g1 r=>hd _ H1 Hv1 (I.name g1 hm r) g1.vis)
theorem Kf(i:Nat)(hm:M i=true)(ha:AW M qN te w):AS M κ (Ea te (nQ i)) (Mi.vZ i w):=fun H0 Hv0 e σ H Hv D I h =>
 ha e σ H Hv _ I.toR0 ((aq.mp h).mono fun d hd v H1 Hv1 g1 r=>hd _ H1 Hv1 (I.name g1 hm r) g1.vis)
theorem Gq:AW M qN M6 (fun _=>.ok (.dt [])):=fun e σ H Hv Q I h p hp =>
 h _ _ Hv (.O5 I.vw trivial hp) ⟨p,.dT [],rfl,hp,aP,mZ I.vw hp,.nil⟩
theorem kJ(i:Nat)(hm:M i=true)(ha:AE M qV te a):AS M κ (z6 (Xn K "list" Cj (oJ i) (jG te qZ))) (Mi.dH i a):=fun H0 Hv0 e σ H Hv D I h=>by
 obtain⟨d,hd,h⟩:=lB (aq.mp h)
 obtain⟨ds,he,h⟩:=uz (aq.mp h)
 obtain⟨hz,h⟩:=Mi.aU h
 obtain⟨p,xs,q,q1,n,c⟩:=I.list hm he
 refine⟨.ref p,q,.inl ⟨rfl,xs,.inl (.inl q1)⟩,ha e σ H Hv _ I.toR0 (by
  rw[hd]
  intro v H1 Hv1 g1 r
  have I1:=I.grow g1
  refine⟨p,xs,v,rfl,rfl,g1.old.at q1,by rw[← c.len,sizeLine_eq];exact hz,?_⟩
  exact h σ _ Hv1 (I1.write hm he q (show dJ Hv1 (.d (.lst (ds++[d]))) (.lst (xs++[v])) from (cX g1.vis c).append (.cons r .nil))) g1.vis)⟩
theorem Q8(i:Nat)(hm:M i=true):AS M κ (z6 (Vx K "list" N5 (oJ i))) (Mi.Hg i):=fun H0 Hv0 e σ H Hv D I h=>by
 obtain⟨ds,he,h⟩:=uz (aq.mp h)
 obtain⟨p,xs,q,q1,n,c⟩:=I.list hm he
 exact⟨.ref p,q,.inl ⟨rfl,xs,.inl (.inl q1)⟩,p,xs,rfl,rfl,q1,h σ _ Hv (I.write hm he q (show dJ Hv (.d (.lst [])) (.lst []) from .nil)) (gm.refl _)⟩
theorem iY{α : Type}{o:Option α}{k:α→Prop}(h:Fin (Mi.pR o) k):∃ x,o=some x∧k x:=by
 cases o with
 | some x=>exact⟨x,rfl,h⟩
 | none=>exact h.elim
theorem Yb{n:Nat}{i:Int}{k:Nat}(h:Mi.De n i=some k):seqIndex? i n=some k:=by
 unfold Mi.De at h
 split at h
 ·split at h
  ·rw[seqIndex_of (by omega) (by omega)];exact h
  ·cases h
 ·split at h
  ·rw[seqIndex_neg (by omega) (by omega)];exact h
  ·cases h
theorem Oc{ds:List D}{i:Int}{k:D×List D→Prop}(h:Fin (Mi.JB ds i) k):-(2 ^ 63)≤i∧i < 2 ^ 63∧∃ j d,Mi.De ds.length i=some j∧ds[j]? = some d∧k (d,ds.eraseIdx j):=by
 obtain⟨⟨h1,h2⟩,h⟩:=Mi.aU h
 obtain⟨j,hj,h⟩:=iY (aq.mp h)
 obtain⟨d,hd,h⟩:=iY (aq.mp h)
 exact⟨h1,h2,j,d,hj,hd,h⟩
theorem Dr(x y:Nat)(hxy:x≠y)(hx:M x=true)(hy:M y=true)(ha:AE M qP te a):AS M κ (z6 (Xn K "list" Cj (oJ x) (jG (Xn K "list" NP (oJ y) (jG te qZ)) qZ))) (Mi.oU x y a):=fun H0 Hv0 e σ H Hv D I h=>by
 obtain⟨z,hz,h⟩:=lB (aq.mp h)
 obtain⟨i,rfl,h⟩:=Jb (aq.mp h)
 obtain⟨ds,he,h⟩:=uz (aq.mp h)
 obtain⟨h1,h2,j,d,hj,hd,h⟩:=Oc (aq.mp h)
 obtain⟨es,he2,h⟩:=uz (aq.mp h)
 obtain⟨hsz,h⟩:=Mi.aU h
 have Y8:e[x]? = some (some (.d (.lst es))):=by
  have he2:(e.set y (some (.d (.lst (ds.eraseIdx j)))))[x]? = _:=he2
  rwa [List.getElem?_set_ne (Ne.symm hxy)] at he2
 obtain⟨p,xs,q,q1,n,c⟩:=I.list hy he
 obtain⟨p',xs',q',q1',n',c'⟩:=I.list hx Y8
 have hpp:p'≠p:=I.sep x y _ _ p' p hxy Y8 he hx hy q' q
 refine⟨.ref p',q',.inl ⟨rfl,xs',.inl (.inl q1')⟩,.ref p,q,.inl ⟨rfl,xs,.inl (.inl q1)⟩,ha e σ H Hv _ I.toR0 (by
  rw[hz]
  intro v H1 Hv1 g1 r
  have I1:=I.grow g1
  cases RD.int r
  obtain⟨u,hu,ru⟩:=c.getL hd
  rw[c.len] at hj
  refine⟨p,xs,i,j,u,rfl,rfl,g1.old.at q1,h1,h2,Yb hj,hu,?_⟩
  have I2:=I1.write hy he q (show dJ Hv1 (.d (.lst (ds.eraseIdx j))) (.lst (xs.eraseIdx j)) from (cX g1.vis c).erase j)
  refine⟨p',xs',u,rfl,rfl,by rw[aH hpp];exact g1.old.at q1',by rw[← c'.len,sizeLine_eq];exact hsz,?_⟩
  exact h σ _ Hv1 (I2.write hx he2 q' (show dJ Hv1 (.d (.lst (es++[d]))) (.lst (xs'++[u])) from (cX g1.vis c').append (.cons (kY g1.vis ru) .nil))) g1.vis)⟩
theorem ou(i:Nat)(hm:M i=true):AS M qN (G9 (oJ i)) (Mi.bZ (Mi.wV i)):=fun H0 Hv0 e σ H Hv D I h=>by
 obtain⟨w,he,h⟩:=t7 (aq.mp h)
 obtain⟨p,o,q,q1,n,h0,c⟩:=I.cell hm he
 exact⟨.ref p,q,h _ H Hv I.gw ⟨p,o,rfl,h0,q1,n,c⟩⟩
theorem R1.VN{H0 Hv0:Hp}{e:Mi.Env}{σ : L2.St}{H Hv:Hp}(I:R1 M H0 Hv0 e σ H Hv){y:Nat}{w:W}(hy:M y=true)(he:e[y]? = some (some w)):∃ p Hv',σ[y]? = some (some (.ref p))∧R1 M H0 Hv0 (e.set y none) σ H Hv'∧gm Hv Hv'∧rE Hv' w (.ref p):=by
 obtain⟨p,o,q,q1,n,h0,c⟩:=I.cell hy he
 obtain⟨vw,s⟩:=I.vw.show q1 n c.nt
 have nj:∀ {j:Nat} {w':W},(e.set y none)[j]? = some (some w')→y≠j∧e[j]? = some (some w'):=fun {j w'} h=>by
  rcases iR h with ⟨_,h,_⟩|z
  ·cases h
  ·exact z
 refine⟨p,upd Hv p o,q,⟨⟨vw,by rw[List.length_set];exact I.len,fun j w' h m=>?_,fun j w' h m=>?_⟩,⟨I.gw.old,I.gw.vis.trans s,vw,fun b u z1 z2=>?_⟩,fun j w' x h m z=>?_,fun j k w1 w2 x z hjk h1 h2 m1 m2 z1 z2=>?_⟩,s,qK aP (c.same s)⟩
 ·obtain⟨_,h⟩:=nj h
  obtain⟨v,z,r⟩:=I.nob j w' h m
  exact⟨v,z,km s r⟩
 ·obtain⟨hne,h⟩:=nj h
  obtain⟨v,z,x,u,e1,q2,n2,c2⟩:=I.own j w' h m
  subst e1
  have:=I.sep y j w w' p x hne he h hy m q z
  exact⟨.ref x,z,x,u,rfl,q2,by rw[aH (Ne.symm this)];exact n2,c2.same s⟩
 ·rw[aH (aQ z1 h0)];exact I.gw.hid b u z1 z2
 ·exact I.fresh j w' x (nj h).2 m z
 ·exact I.sep j k w1 w2 x z hjk (nj h1).2 (nj h2).2 m1 m2 z1 z2
theorem CV{κ':Type}[DecidableEq κ']{H:Hp}{k:κ'}{kvs:List (κ'×D)}{kv:List (κ'×V)}(h:zH H kvs kv):match Mi.wH kvs k with
 | some d=>∃ v,sI kv k=some v∧Rep H d v
 | none=>sI kv k=none:=by
 unfold Mi.wH sI
 induction h with
 | nil=>rfl
 | @cons p q l m hpq t ih =>
  rw[List.find?_cons,List.find?_cons,hpq.1]
  by_cases hk:q.1=k
  ·rw[decide_eq_true hk]
   exact⟨q.2,rfl,hpq.2⟩
  ·rw[decide_eq_false hk]
   exact ih
theorem JS{κ':Type}[DecidableEq κ']{H:Hp}{k:κ'}{d:D}{v:V}(r:Rep H d v){kvs:List (κ'×D)}{kv:List (κ'×V)}(h:zH H kvs kv):zH H (Mi.putK k d kvs) (L2.putK kv k v):=by
 have e:(kvs.any fun x=>decide (x.1=k))=(kv.any fun x=>decide (x.1=k)):=by
  induction h with
  | nil=>rfl
  | @cons p q l m hpq t ih=>rw[List.any_cons,List.any_cons,ih,hpq.1]
 unfold Mi.putK L2.putK
 rw[e]
 split
 ·rename_i hh
  clear hh e
  induction h with
  | nil=>exact .nil
  | @cons p q l m hpq t ih =>
   rw[List.map_cons,List.map_cons]
   refine .cons ?_ ih
   ·by_cases hk:q.1=k
    ·rw[if_pos hk,if_pos (hpq.1.trans hk)];exact⟨hpq.1,r⟩
    ·rw[if_neg hk,if_neg (fun z=>hk (hpq.1.symm.trans z))];exact hpq
 ·exact P2.append h (.cons ⟨rfl,r⟩ .nil)
end
end A
namespace A
open PySem L2 PyProof.Rows
open Mi (D W Rs Fin aq Out Tg)
variable[Tb:eZ]
section
variable{X:Cx}{K:PySem.W.Frag}
def RV:R2:=fun x y H Q=>∃ i j,x=.str i∧y=.str j∧i.length+j.length≤sizeLine∧Q (.str (i++j)) H
theorem HF{pins:List (Addr×Obj)}{σ : L2.St}{H:Hp}{s:Shared}{a:Addr}{xs:List V}(I:Inv X pins σ H s)(h:Lst H a xs):∃ (its:List Value) (n:Nat),Vals xs its∧xs.length≤sizeLine∧s.heap.get? a=some { cls:=.type "list", data:=.seq its.toArray n }:=by
 rcases h with h|⟨o,h⟩
 ·obtain⟨z,its,n,r,e⟩:=I.hok a _ h
  exact⟨its,n,r,z,e⟩
 ·obtain⟨_,z,its,n,r,e⟩:=I.hok a _ h
  exact⟨its,n,r,z,e⟩
def U5:R2:=fun x y H Q=>∃ l b xs zs,x=.ref l∧y=.ref b∧Lst H l xs∧Lst H b zs∧xs.length+zs.length≤sizeLine∧∀ p,H p=none→Q (.ref p) (upd H p (.lst (xs++zs)))
theorem Sh:pJ X (binaryOp .Add) U5:=by
 intro pins s σ H x y v u Q I rx ry h
 obtain⟨l,b,xs,zs,rfl,rfl,hH,hB,hz,q⟩:=h
 cases rx
 cases ry
 obtain⟨its,n,r,z,e⟩:=HF I hH
 obtain⟨its2,n2,r2,z2,e2⟩:=HF I hB
 have hl:=r.length
 have hl2:=r2.length
 refine PySem.P.add_list e e2 ?_ (by rw[List.size_toArray,List.size_toArray];omega)
 have ea:its.toArray++its2.toArray=(its++its2).toArray:=by simp
 rw[ea]
 exact⟨.ref _,_,I.aac (t':=s.toks) (r.append r2) (by rw[List.length_append];omega),rfl,q _ I.fresh⟩
def U6:R2:=fun x y H Q=>Mq (fun i j=>.int (i+j)) x y H Q∨RV x y H Q∨U5 x y H Q
theorem cQ:pJ X (binaryOp .Add) U6:=We.or (pJ.or Ht Sh)
theorem CG{H Hv:Hp}(vw:Vw H Hv){ds:List D}{xs:List V}(r:P2 (Rep Hv) ds xs){p:Addr}(hp:H p=none):cO H Hv (upd H p (.lst xs)) Hv∧qN H (upd H p (.lst xs)) Hv (.d (.lst ds)) (.ref p) :=
 ⟨.O5 vw trivial hp,p,.lst xs,rfl,hp,aP,mZ vw hp,r⟩
theorem HB{H Hv:Hp}(vw:Vw H Hv){ds:List D}{xs:List V}(r:P2 (Rep Hv) ds xs){p:Addr}(hp:H p=none):cO H Hv (upd H p (.lst xs)) (upd Hv p (.lst xs))∧qV H (upd H p (.lst xs)) (upd Hv p (.lst xs)) (.d (.lst ds)) (.ref p):=by
 have g:cO H Hv (upd H p (.lst xs)) (upd Hv p (.lst xs)):=.new vw hp
 exact⟨g,jT.mpr ⟨p,xs,rfl,.inl aP,cX g.vis r⟩⟩
theorem vo{H Hv:Hp}(vw:Vw H Hv){ds:List D}{xs:List V}(r:P2 (Rep Hv) ds xs){p:Addr}(hp:H p=none):cO H Hv (upd H p (.tup xs)) (upd Hv p (.tup xs))∧qV H (upd H p (.tup xs)) (upd Hv p (.tup xs)) (.d (.tup ds)) (.ref p):=by
 have g:cO H Hv (upd H p (.tup xs)) (upd Hv p (.tup xs)):=.new vw hp
 exact⟨g,fQ.mpr ⟨p,xs,rfl,aP,cX g.vis r⟩⟩
theorem gQ:B2 qV U6 Mi.cV:=fun x y v u H Hv Q vw rx ry h=>by
 cases x with
 | int i=>cases y with
  | int j=>cases RD.int rx;cases RD.int ry;exact .inl ⟨i,j,rfl,rfl,h _ H Hv (.refl vw) ir⟩
  | _=>exact h.elim
 | str i=>cases y with
  | str j =>
   cases RD.str rx;cases RD.str ry
   obtain⟨hz,h⟩:=Mi.aU h
   exact .inr (.inl ⟨i,j,rfl,rfl,by rw[sizeLine_eq];exact hz,h _ H Hv (.refl vw) yg⟩)
  | _=>exact h.elim
 | lst a=>cases y with
  | lst b =>
   obtain⟨hz,h⟩:=Mi.aU h
   obtain⟨p,xs,rfl,l1,r1⟩:=RD.lst vw rx
   obtain⟨q,ys,rfl,l2,r2⟩:=RD.lst vw ry
   refine .inr (.inr ⟨p,q,xs,ys,rfl,rfl,l1,l2,by rw[← r1.len,← r2.len,sizeLine_eq];exact hz,fun a ha=>?_⟩)
   obtain⟨g,k⟩:=HB vw (r1.append r2) ha
   exact h _ _ _ g k
  | _=>exact h.elim
 | _=>cases y<;>exact h.elim
theorem Vk:B2 qV (Mq fun i j=>.int (i - j)) Mi.Dj:=fun x y v u H Hv Q vw rx ry h=>by
 cases x with
 | int i=>cases y with
  | int j=>cases RD.int rx;cases RD.int ry;exact⟨i,j,rfl,rfl,h _ H Hv (.refl vw) ir⟩
  | _=>exact h.elim
 | _=>cases y<;>exact h.elim
theorem oh:B2 qV (rI Uu fun i j=>.int (i * j)) Mi.dg:=fun x y v u H Hv Q vw rx ry h=>by
 cases x with
 | int i=>cases y with
  | int j=>cases RD.int rx;cases RD.int ry;obtain⟨hz,h⟩:=Mi.aU h;exact⟨i,j,rfl,rfl,hz,h _ H Hv (.refl vw) ir⟩
  | _=>exact h.elim
 | _=>cases y<;>exact h.elim
theorem wz:B2 qV (rI Vr fun i j=>.int (i / j)) Mi.jO:=fun x y v u H Hv Q vw rx ry h=>by
 cases x with
 | int i=>cases y with
  | int j=>cases RD.int rx;cases RD.int ry;obtain⟨hz,h⟩:=Mi.aU h;exact⟨i,j,rfl,rfl,hz,h _ H Hv (.refl vw) ir⟩
  | _=>exact h.elim
 | _=>cases y<;>exact h.elim
theorem lF:B2 qV (rI (fun _ j=>0 < j) fun i j=>.int (i % j)) Mi.fJ:=fun x y v u H Hv Q vw rx ry h=>by
 cases x with
 | int i=>cases y with
  | int j=>cases RD.int rx;cases RD.int ry;obtain⟨hz,h⟩:=Mi.aU h;exact⟨i,j,rfl,rfl,hz,h _ H Hv (.refl vw) ir⟩
  | _=>exact h.elim
 | _=>cases y<;>exact h.elim
theorem Vm:B1 qV (rU fun i=>.int (-i)) Mi.W0:=fun x v H Hv Q vw rx h=>by
 cases x with
 | int i=>cases RD.int rx;exact⟨i,rfl,h _ H Hv (.refl vw) ir⟩
 | _=>exact h.elim
def Yp:R2:=fun x y H Q=>Mq (fun i j=>.bl (decide (i < j))) x y H Q∨∃ i j,x=.str i∧y=.str j∧Q (.bl (decide (i.cps.toList < j.cps.toList))) H
theorem Cu:pJ X (compareOp .Lt) Yp:=YD.or K1
def Yz:R2:=fun x y H Q=>Mq (fun i j=>.bl (decide (j < i))) x y H Q∨∃ i j,x=.str i∧y=.str j∧Q (.bl (decide (j.cps.toList < i.cps.toList))) H
theorem Wd:pJ X (compareOp .Gt) Yz:=YG.or K4
theorem Ub:B2 qV Yp Mi.DK:=fun x y v u H Hv Q vw rx ry h=>by
 cases x with
 | int i=>cases y with
  | int j=>cases RD.int rx;cases RD.int ry;exact .inl ⟨i,j,rfl,rfl,h _ H Hv (.refl vw) gW⟩
  | _=>exact h.elim
 | str i=>cases y with
  | str j=>cases RD.str rx;cases RD.str ry;exact .inr ⟨i,j,rfl,rfl,h _ H Hv (.refl vw) gW⟩
  | _=>exact h.elim
 | _=>cases y<;>exact h.elim
theorem aaC:B2 qV Yz Mi.dGt:=fun x y v u H Hv Q vw rx ry h=>by
 cases x with
 | int i=>cases y with
  | int j=>cases RD.int rx;cases RD.int ry;exact .inl ⟨i,j,rfl,rfl,h _ H Hv (.refl vw) gW⟩
  | _=>exact h.elim
 | str i=>cases y with
  | str j=>cases RD.str rx;cases RD.str ry;exact .inr ⟨i,j,rfl,rfl,h _ H Hv (.refl vw) gW⟩
  | _=>exact h.elim
 | _=>cases y<;>exact h.elim
def RZ(K:PySem.W.Frag)(neg:Bool):R2:=fun x y H Q=>∃ d e,L2.Rep K H d x∧L2.Rep K H e y∧d.dep≤16∧Q (.bl (if neg then !Mi.cH d e else Mi.cH d e)) H
theorem uN:B2 qV (RZ K false) Mi.qW:=fun x y v u H Hv Q vw rx ry h=>by
 obtain⟨hz,h⟩:=Mi.aU h
 exact⟨x,y,oV K (RD.full vw rx),oV K (RD.full vw ry),hz,h _ H Hv (.refl vw) gW⟩
theorem IV:B2 qV (RZ K true) Mi.Am:=fun x y v u H Hv Q vw rx ry h=>by
 obtain⟨hz,h⟩:=Mi.aU h
 exact⟨x,y,oV K (RD.full vw rx),oV K (RD.full vw ry),hz,h _ H Hv (.refl vw) gW⟩
def RW(neg:Bool):R2:=fun x y H Q=>y=.non∧Q (.bl (if neg then !decide (x=.non) else decide (x=.non))) H
theorem Sg:pJ X (compareOp .Is) (RW false):=Wa
theorem Oq:pJ X (compareOp .IsNot) (RW true):=R9
theorem Nz{H Hv:Hp}{d:D}{v:V}(r:RD H Hv d v):decide (v=.non)=Mi.PQ d:=by
 cases d with
 | non=>cases RD.non r;rfl
 | bl b=>cases RD.bl r;rfl
 | int b=>cases RD.int r;rfl
 | str b=>cases RD.str r;rfl
 | lst ds =>
  rcases r with r|⟨a,o,e,_⟩
  ·obtain⟨a,xs,e,_⟩:=jT.mp r
   subst e;rfl
  ·subst e;rfl
 | tup ds =>
  obtain⟨a,xs,e,_⟩:=fQ.mp (r.KD fun _ z=>by cases z)
  subst e;rfl
theorem aaB:B2 qV (RW false) Mi.dIs:=fun x y v u H Hv Q vw rx ry h=>by
 cases y with
 | non =>
  cases RD.non ry
  refine⟨rfl,?_⟩
  show Q (.bl (decide (v=.non))) H
  rw[Nz rx]
  exact h _ H Hv (.refl vw) gW
 | _=>exact h.elim
theorem Uc:B2 qV (RW true) Mi.Qv:=fun x y v u H Hv Q vw rx ry h=>by
 cases y with
 | non =>
  cases RD.non ry
  refine⟨rfl,?_⟩
  show Q (.bl (!decide (v=.non))) H
  rw[Nz rx]
  exact h _ H Hv (.refl vw) gW
 | _=>exact h.elim
def Yx(K:PySem.W.Frag):R2:=fun x y H Q=>RX K false x y H Q∨Yy false x y H Q
theorem fZ(hu:X.A.units+64 < cLine):pJ X (compareOp .In) (Yx X.K):=(Wb hu).or Wc
theorem JD{H:Hp}{ds:List D}{xs:List V}(h:P2 (Rep H) ds xs):L2.bW K H ds xs:=wO K (iT.mpr h)
theorem qy:B2 qV (Yx K) Mi.nZ:=fun x y v u H Hv Q vw rx ry h=>by
 cases y with
 | lst ds =>
  obtain⟨hz,h⟩:=Mi.aU h
  obtain⟨p,xs,rfl,l1,r1⟩:=RD.lst vw ry
  exact .inl ⟨p,xs,x,ds,rfl,.inl l1.sq,oV K (RD.full vw rx),JD (cX vw.sub r1),hz,h _ H Hv (.refl vw) gW⟩
 | tup ds =>
  obtain⟨hz,h⟩:=Mi.aU h
  obtain⟨p,xs,rfl,l1,_,r1⟩:=RD.tup vw ry
  exact .inl ⟨p,xs,x,ds,rfl,.inr (.inl (.inl l1)),oV K (RD.full vw rx),JD (cX vw.sub r1),hz,h _ H Hv (.refl vw) gW⟩
 | str z=>cases x with
  | str c =>
   obtain⟨hz,h⟩:=Mi.aU h
   cases RD.str rx;cases RD.str ry
   obtain⟨⟨l⟩⟩:=c
   match l,hz with
   | [c],_=>exact .inr ⟨c,z,rfl,rfl,h _ H Hv (.refl vw) gW⟩
  | _=>exact h.elim
 | _=>exact h.elim
theorem j7:B2 qV (RX K true) Mi.dz:=fun x y v u H Hv Q vw rx ry h=>by
 cases y with
 | lst ds =>
  obtain⟨hz,h⟩:=Mi.aU h
  obtain⟨p,xs,rfl,l1,r1⟩:=RD.lst vw ry
  exact⟨p,xs,x,ds,rfl,.inl l1.sq,oV K (RD.full vw rx),JD (cX vw.sub r1),hz,h _ H Hv (.refl vw) gW⟩
 | tup ds =>
  obtain⟨hz,h⟩:=Mi.aU h
  obtain⟨p,xs,rfl,l1,_,r1⟩:=RD.tup vw ry
  exact⟨p,xs,x,ds,rfl,.inr (.inl (.inl l1)),oV K (RD.full vw rx),JD (cX vw.sub r1),hz,h _ H Hv (.refl vw) gW⟩
 | _=>exact h.elim
theorem Xa{α : Type}(xs:List α)(i:Int):Mi.pF xs i=L2.pF xs i:=rfl
theorem Vn{α β : Type}{F:α→β→Prop}{l:List α}{m:List β}(h:P2 F l m){i:Int}{a:α}(e:Mi.pF l i=some a):∃ b,L2.pF m i=some b∧F a b:=by
 unfold Mi.pF at e
 cases hj:Mi.De l.length i with
 | none=>rw[hj] at e;cases e
 | some j =>
  rw[hj] at e
  have e:l[j]? = some a:=e
  obtain⟨b,hb,r⟩:=h.getL e
  refine⟨b,?_,r⟩
  rw[← Xa]
  unfold Mi.pF
  rw[← h.len,hj];exact hb
theorem bV:B2 qV (rIx K) Mi.bz:=fun x y v u H Hv Q vw rx ry h=>by
 cases y with
 | int i =>
  cases RD.int ry
  cases x with
  | lst ds =>
   obtain⟨d,e,h⟩:=iY h
   obtain⟨p,xs,rfl,l1,r1⟩:=RD.lst vw rx
   obtain⟨z,ez,rz⟩:=Vn r1 e
   exact .inl ⟨p,xs,i,z,rfl,rfl,l1.sq,ez,h z H Hv (.refl vw) rz⟩
  | tup ds =>
   obtain⟨d,e,h⟩:=iY h
   obtain⟨p,xs,rfl,l1,_,r1⟩:=RD.tup vw rx
   obtain⟨z,ez,rz⟩:=Vn r1 e
   exact .inr (.inl ⟨p,xs,i,z,rfl,rfl,.inl (.inl l1),ez,h z H Hv (.refl vw) rz⟩)
  | str z =>
   cases RD.str rx
   obtain⟨hz,h⟩:=Mi.aU h
   obtain⟨c,e,h⟩:=iY (aq.mp h)
   exact .inr (.inr ⟨z,i,c,rfl,rfl,by rw[sizeLine_eq];exact hz,e,h _ H Hv (.refl vw) yg⟩)
  | _=>exact h.elim
 | _=>cases x<;>exact h.elim
theorem QB{F:D→V→Prop}{l:List D}{m:List V}(h:P2 F l m)(lo hi:Option Int):P2 F (Mi.yU l lo hi) (L2.LC m lo hi):=by
 unfold Mi.yU L2.LC
 rw[h.len]
 exact(h.drop _).take _
def Yh(K:PySem.W.Frag):V→Option Int→Option Int→Hp→VK→Prop:=fun x lo hi H Q=>V0 K x lo hi H Q∨Yj x lo hi H Q
theorem Ry:Ri X (Yh X.K):=Jt.or VD
theorem T4(z:Str)(lo hi:Option Int):LK z lo hi=Mi.qx z lo hi:=by
 unfold LK Mi.qx Mi.yU
 have:z.cps.toList.length=z.length:=by simp[Str.length]
 rw[this];rfl
theorem Ka:BS qV (Yh K) Mi.Rn:=fun x lo hi v H Hv Q vw rx h=>by
 cases x with
 | lst ds =>
  obtain⟨p,xs,rfl,l1,r1⟩:=RD.lst vw rx
  refine .inl ⟨p,xs,rfl,l1.sq,fun a ha=>?_⟩
  obtain⟨g,k⟩:=HB vw (QB r1 lo hi) ha
  exact h _ _ _ g k
 | str z =>
  cases RD.str rx
  obtain⟨hz,h⟩:=Mi.aU h
  exact .inr ⟨z,rfl,by rw[sizeLine_eq];exact hz,h _ H Hv (.refl vw) (by rw[T4];exact yg)⟩
 | _=>exact h.elim
theorem sZ{F:D→V→Prop}{d:D}{vs:List V}(h:P2 F [d] vs):∃ v,vs=[v]∧F d v:=by
 cases h with
 | cons r t=>cases t;exact⟨_,rfl,r⟩
theorem Om{F:D→V→Prop}{d e:D}{vs:List V}(h:P2 F [d,e] vs):∃ v u,vs=[v,u]∧F d v∧F e u:=by
 cases h with
 | cons r t=>cases t with
  | cons r' t=>cases t;exact⟨_,_,rfl,r,r'⟩
def Yq(K:PySem.W.Frag):List V→Hp→VK→Prop:=fun xs H Q=>∃ x n,xs=[x]∧Zt K x H n∧Q (.int n) H
theorem cW:jg X (.builtin "len") (Yq X.K):=QL
theorem dq:BN qV (Yq K) Mi.fX:=fun ds vs H Hv Q vw r h=>by
 match ds,r,h with
 | [.lst ds],r,h =>
  obtain⟨v,ev,rr⟩:=sZ r
  subst ev
  replace r:=rr
  obtain⟨p,xs,rfl,l1,r1⟩:=RD.lst vw r
  refine⟨_,xs.length,rfl,.inl ⟨xs,l1.sq,rfl⟩,?_⟩
  rw[← r1.len]
  exact h _ H Hv (.refl vw) ir
 | [.tup ds],r,h =>
  obtain⟨v,ev,rr⟩:=sZ r
  subst ev
  replace r:=rr
  obtain⟨p,xs,rfl,l1,_,r1⟩:=RD.tup vw r
  refine⟨_,xs.length,rfl,.inr ⟨xs,.inl (.inl l1),rfl⟩,?_⟩
  rw[← r1.len]
  exact h _ H Hv (.refl vw) ir
 | [.str z],r,h =>
  obtain⟨v,ev,rr⟩:=sZ r
  subst ev
  replace r:=rr
  cases RD.str r
  obtain⟨hz,h⟩:=Mi.aU h
  exact⟨_,z.length,rfl,⟨by rw[sizeLine_eq];exact hz,rfl⟩,h _ H Hv (.refl vw) ir⟩
def Yo:List V→Hp→VK→Prop:=fun xs H Q=>∃ i j z,xs=[.int i,.int j]∧max i j=z∧Q (.int z) H
def Yn:List V→Hp→VK→Prop:=fun xs H Q=>∃ i j z,xs=[.int i,.int j]∧min i j=z∧Q (.int z) H
theorem Aw(hc:X.calm=true):jg X (.builtin "max") Yo:=Iz hc
theorem Ma(hc:X.calm=true):jg X (.builtin "min") Yn:=Iw hc
theorem Gi:BN qV Yo Mi.vJ:=fun ds vs H Hv Q vw r h=>by
 match ds,r,h with
 | [.int i,.int j],r,h =>
  obtain⟨v,u,ev,rr,r'⟩:=Om r
  subst ev
  replace r:=rr
  cases RD.int r;cases RD.int r'
  exact⟨i,j,_,rfl,rfl,h _ H Hv (.refl vw) ir⟩
theorem QX:BN qV Yn Mi.Gp:=fun ds vs H Hv Q vw r h=>by
 match ds,r,h with
 | [.int i,.int j],r,h =>
  obtain⟨v,u,ev,rr,r'⟩:=Om r
  subst ev
  replace r:=rr
  cases RD.int r;cases RD.int r'
  exact⟨i,j,_,rfl,rfl,h _ H Hv (.refl vw) ir⟩
def U0(K:PySem.W.Frag):List V→Hp→VK→Prop:=fun xs H Q=>∃ p ys,xs=[.ref p]∧(xm K H p ys∨zr K H p ys)∧∀ l,H l=none→Q (.ref l) (upd H l (.lst ys))
theorem Iu:jg X (.type "list") (U0 X.K):=Dm
theorem yZ:BN qN (U0 K) Mi.QZ:=fun ds vs H Hv Q vw r h=>by
 match ds,r,h with
 | [.lst ds],r,h =>
  obtain⟨v,ev,rr⟩:=sZ r
  subst ev
  replace r:=rr
  obtain⟨p,xs,rfl,l1,r1⟩:=RD.lst vw r
  refine⟨p,xs,rfl,.inl l1.sq,fun a ha=>?_⟩
  obtain⟨g,k⟩:=CG vw r1 ha
  exact h _ _ _ g k
 | [.tup ds],r,h =>
  obtain⟨v,ev,rr⟩:=sZ r
  subst ev
  replace r:=rr
  obtain⟨p,xs,rfl,l1,_,r1⟩:=RD.tup vw r
  refine⟨p,xs,rfl,.inr (.inl (.inl l1)),fun a ha=>?_⟩
  obtain⟨g,k⟩:=CG vw r1 ha
  exact h _ _ _ g k
def NK(K:PySem.W.Frag):List V→Hp→VK→Prop:=fun xs H Q=>∃ p ys,xs=[.ref p]∧((xm K H p ys∧∀ l,H l=none→Q (.ref l) (upd H l (.tup ys)))∨(zr K H p ys∧Q (.ref p) H))
theorem lV:jg X (.type "tuple") (NK X.K):=zV
theorem eF:BN qV (NK K) Mi.vI:=fun ds vs H Hv Q vw r h=>by
 match ds,r,h with
 | [.lst ds],r,h =>
  obtain⟨v,ev,rr⟩:=sZ r
  subst ev
  replace r:=rr
  obtain⟨p,xs,rfl,l1,r1⟩:=RD.lst vw r
  refine⟨p,xs,rfl,.inl ⟨l1.sq,fun a ha=>?_⟩⟩
  obtain⟨g,k⟩:=vo vw r1 ha
  exact h _ _ _ g k
 | [.tup ds],r,h =>
  obtain⟨v,ev,rr⟩:=sZ r
  subst ev
  replace r:=rr
  obtain⟨p,xs,rfl,l1,l2,r1⟩:=RD.tup vw r
  exact⟨p,xs,rfl,.inr ⟨.inl (.inl l1),h _ H Hv (.refl vw) (fQ.mpr ⟨p,xs,rfl,l2,r1⟩)⟩⟩
end
end A
namespace A
open PySem L2 PyProof.Rows
open Mi (D W Rs Fin aq Out Tg)
variable[Tb:eZ]
section
variable{X:Cx}{pins:List (Addr×Obj)}{σ : L2.St}{H:Hp}{s:Shared}
open SeqAt in
theorem RT:∀ {d e:D} {A:Around} {x y:V} {u u':Value},d.flat=true→e.flat=true→L2.Rep X.K H d x→L2.Rep X.K H e y→RelV x u→RelV y u'→RcAt A s u u' (Mi.cH d e)∧RcNeAt A s u u' (!Mi.cH d e):=by
 intro d e A x y u u' h1 h2 r1 r2 q1 q2
 cases d with
 | non =>
  rw[L2.Rep] at r1;subst r1;cases q1
  cases e with
  | non=>rw[L2.Rep] at r2;subst r2;cases q2;exact⟨RcAt.none_none,RcNeAt.none_none⟩
  | bl b=>rw[L2.Rep] at r2;subst r2;cases q2;exact⟨RcAt.none_bool b,RcNeAt.none_bool b⟩
  | int b=>rw[L2.Rep] at r2;subst r2;obtain⟨t,rfl⟩:=q2;exact⟨RcAt.none_int b t,RcNeAt.none_int b t⟩
  | str b=>rw[L2.Rep] at r2;subst r2;obtain⟨t,rfl⟩:=q2;exact⟨RcAt.none_str b t,RcNeAt.none_str b t⟩
  | _=>cases h2
 | bl a =>
  rw[L2.Rep] at r1;subst r1;cases q1
  cases e with
  | non=>rw[L2.Rep] at r2;subst r2;cases q2;exact⟨RcAt.bool_none a,RcNeAt.bool_none a⟩
  | bl b=>rw[L2.Rep] at r2;subst r2;cases q2;rw[Mi.cH];exact⟨RcAt.bool_bool a b,RcNeAt.bool_bool a b⟩
  | int b=>rw[L2.Rep] at r2;subst r2;obtain⟨t,rfl⟩:=q2;rw[Mi.cH];exact⟨RcAt.bool_int a b t,RcNeAt.bool_int a b t⟩
  | str b=>rw[L2.Rep] at r2;subst r2;obtain⟨t,rfl⟩:=q2;exact⟨RcAt.bool_str a b t,RcNeAt.bool_str a b t⟩
  | _=>cases h2
 | int a =>
  rw[L2.Rep] at r1;subst r1;obtain⟨t1,rfl⟩:=q1
  cases e with
  | non=>rw[L2.Rep] at r2;subst r2;cases q2;exact⟨RcAt.int_none a t1,RcNeAt.int_none a t1⟩
  | bl b=>rw[L2.Rep] at r2;subst r2;cases q2;rw[Mi.cH];exact⟨RcAt.int_bool a t1 b,RcNeAt.int_bool a t1 b⟩
  | int b=>rw[L2.Rep] at r2;subst r2;obtain⟨t,rfl⟩:=q2;rw[Mi.cH];exact⟨RcAt.int_int a t1 b t,RcNeAt.int_int a t1 b t⟩
  | str b=>rw[L2.Rep] at r2;subst r2;obtain⟨t,rfl⟩:=q2;exact⟨RcAt.int_str a t1 b t,RcNeAt.int_str a t1 b t⟩
  | _=>cases h2
 | str a =>
  rw[L2.Rep] at r1;subst r1;obtain⟨t1,rfl⟩:=q1
  cases e with
  | non=>rw[L2.Rep] at r2;subst r2;cases q2;exact⟨RcAt.str_none a t1,RcNeAt.str_none a t1⟩
  | bl b=>rw[L2.Rep] at r2;subst r2;cases q2;exact⟨RcAt.str_bool a t1 b,RcNeAt.str_bool a t1 b⟩
  | int b=>rw[L2.Rep] at r2;subst r2;obtain⟨t,rfl⟩:=q2;exact⟨RcAt.str_int a t1 b t,RcNeAt.str_int a t1 b t⟩
  | str b=>rw[L2.Rep] at r2;subst r2;obtain⟨t,rfl⟩:=q2;rw[Mi.cH];exact⟨RcAt.str_str a t1 b t,RcNeAt.str_str a t1 b t⟩
  | _=>cases h2
 | _=>cases h1
open SeqAt in
theorem Yg(I:Inv X pins σ H s):∀ (d e:D) (A:Around) {x y:V} {u u':Value},d.dep≤16→A.units+17 < cLine→L2.Rep X.K H d x→L2.Rep X.K H e y→RelV x u→RelV y u'→RcAt A s u u' (Mi.cH d e)∧RcNeAt A s u u' (!Mi.cH d e):=by
 intro d e A x y u u' hd hu h h' r r'
 have hu0:A.units < cLine:=by omega
 have item:∀ {ds es:List D} {xs ys:List V} {its its':List Value},Mi.cM ds≤16→L2.bW X.K H ds xs→L2.bW X.K H es ys→Vals xs its→Vals ys its' →
  ∀ j (h1:j < its.toArray.size) (h2:j < its'.toArray.size),EqAt A.in1 s its.toArray[j] its'.toArray[j] (Mi.cH (ds.getD j .non) (es.getD j .non)):=by
  intro ds es xs ys its its' hn q q' v v' j h1 h2
  have h1':j < its.length:=by simpa using h1
  have h2':j < its'.length:=by simpa using h2
  have e1:j < xs.length:=by rw[v.length];exact h1'
  have e2:j < ys.length:=by rw[v'.length];exact h2'
  have g1:xs[j]? = some xs[j]:=by simp[e1]
  have g2:ys[j]? = some ys[j]:=by simp[e2]
  obtain⟨w1,k1,r1⟩:=v.get g1
  obtain⟨w2,k2,r2⟩:=v'.get g2
  have t1:its.toArray[j]=w1:=by obtain⟨_,k1⟩:=List.getElem?_eq_some_iff.mp k1;simpa using k1
  have t2:its'.toArray[j]=w2:=by obtain⟨_,k2⟩:=List.getElem?_eq_some_iff.mp k2;simpa using k2
  rw[t1,t2]
  have:=vD (ds:=ds) (j:=j)
  refine Ql I 16 _ _ A.in1 (by omega) ?_ (q.get g1) (q'.get g2) r1 r2
  show A.units+1+16 < cLine
  omega
 by_cases hdf:d.flat=true
 ·by_cases hef:e.flat=true
  ·exact RT hdf hef h h' r r'
  ·cases e with
   | lst es =>
    rw[L2.Rep] at h'
    obtain⟨a,xs,rfl,q,_⟩:=h'
    cases r'
    obtain⟨its,_,p,_⟩:=I.list q
    cases d with
    | non=>rw[L2.Rep] at h;subst h;cases r;exact⟨RcAt.none_list p.isList hu0,RcNeAt.none_list p.isList hu0⟩
    | bl b=>rw[L2.Rep] at h;subst h;cases r;exact⟨RcAt.bool_list b p.isList hu0,RcNeAt.bool_list b p.isList hu0⟩
    | int b=>rw[L2.Rep] at h;subst h;obtain⟨t,rfl⟩:=r;exact⟨RcAt.int_list b t p.isList hu0,RcNeAt.int_list b t p.isList hu0⟩
    | str b=>rw[L2.Rep] at h;subst h;obtain⟨t,rfl⟩:=r;exact⟨RcAt.str_list b t p.isList hu0,RcNeAt.str_list b t p.isList hu0⟩
    | _=>cases hdf
   | tup es =>
    rw[L2.Rep] at h'
    obtain⟨a,xs,rfl,q,_⟩:=h'
    cases r'
    obtain⟨its,_,p,_⟩:=I.tuple q
    cases d with
    | non=>rw[L2.Rep] at h;subst h;cases r;exact⟨RcAt.none_tuple p hu0,RcNeAt.none_tuple p hu0⟩
    | bl b=>rw[L2.Rep] at h;subst h;cases r;exact⟨RcAt.bool_tuple b p hu0,RcNeAt.bool_tuple b p hu0⟩
    | int b=>rw[L2.Rep] at h;subst h;obtain⟨t,rfl⟩:=r;exact⟨RcAt.int_tuple b t p hu0,RcNeAt.int_tuple b t p hu0⟩
    | str b=>rw[L2.Rep] at h;subst h;obtain⟨t,rfl⟩:=r;exact⟨RcAt.str_tuple b t p hu0,RcNeAt.str_tuple b t p hu0⟩
    | _=>cases hdf
   | _=>exact absurd rfl hef
 ·cases d with
  | lst ds =>
   rw[L2.Rep] at h
   obtain⟨a,xs,rfl,q,rr⟩:=h
   cases r
   obtain⟨its,v,p,_⟩:=I.list q
   have hn:Mi.cM ds≤16:=by rw[Mi.D.dep] at hd;omega
   cases e with
   | non=>rw[L2.Rep] at h';subst h';cases r';exact⟨RcAt.list_none p.isList hu0,RcNeAt.list_none p.isList hu0⟩
   | bl b=>rw[L2.Rep] at h';subst h';cases r';exact⟨RcAt.list_bool b p.isList hu0,RcNeAt.list_bool b p.isList hu0⟩
   | int b=>rw[L2.Rep] at h';subst h';obtain⟨t,rfl⟩:=r';exact⟨RcAt.list_int b t p.isList hu0,RcNeAt.list_int b t p.isList hu0⟩
   | str b=>rw[L2.Rep] at h';subst h';obtain⟨t,rfl⟩:=r';exact⟨RcAt.list_str b t p.isList hu0,RcNeAt.list_str b t p.isList hu0⟩
   | lst es =>
    rw[L2.Rep] at h'
    obtain⟨b,ys,rfl,q',rr'⟩:=h'
    cases r'
    obtain⟨its',v',p',_⟩:=I.list q'
    have l1:=rr.length
    have l2:=rr'.length
    have l3:=v.length
    have l4:=v'.length
    by_cases hl:ds.length=es.length
    ·rw[Mi.cH,m9 hl]
     have e1:its.toArray.size=ds.length:=by simp;omega
     have k1:=RcAt.lists p.isList p'.isList (by simp;omega) hu0 (item hn rr rr' v v')
     have k2:=RcNeAt.lists p.isList p'.isList (by simp;omega) hu0 (item hn rr rr' v v')
     rw[e1] at k1 k2
     exact⟨k1,k2⟩
    ·rw[Mi.cH,m8 hl]
     exact⟨RcAt.lists_lengths p.isList p'.isList (by simp;omega) hu0,RcNeAt.lists_lengths p.isList p'.isList (by simp;omega) hu0⟩
   | tup es =>
    rw[L2.Rep] at h'
    obtain⟨b,ys,rfl,q',_⟩:=h'
    cases r'
    obtain⟨its',_,p',_⟩:=I.tuple q'
    exact⟨RcAt.list_tuple p.isList p' hu0,RcNeAt.list_tuple p.isList p' hu0⟩
  | tup ds =>
   rw[L2.Rep] at h
   obtain⟨a,xs,rfl,q,rr⟩:=h
   cases r
   obtain⟨its,v,p,_⟩:=I.tuple q
   have hn:Mi.cM ds≤16:=by rw[Mi.D.dep] at hd;omega
   cases e with
   | non=>rw[L2.Rep] at h';subst h';cases r';exact⟨RcAt.tuple_none p hu0,RcNeAt.tuple_none p hu0⟩
   | bl b=>rw[L2.Rep] at h';subst h';cases r';exact⟨RcAt.tuple_bool b p hu0,RcNeAt.tuple_bool b p hu0⟩
   | int b=>rw[L2.Rep] at h';subst h';obtain⟨t,rfl⟩:=r';exact⟨RcAt.tuple_int b t p hu0,RcNeAt.tuple_int b t p hu0⟩
   | str b=>rw[L2.Rep] at h';subst h';obtain⟨t,rfl⟩:=r';exact⟨RcAt.tuple_str b t p hu0,RcNeAt.tuple_str b t p hu0⟩
   | tup es =>
    rw[L2.Rep] at h'
    obtain⟨b,ys,rfl,q',rr'⟩:=h'
    cases r'
    obtain⟨its',v',p',_⟩:=I.tuple q'
    have l1:=rr.length
    have l2:=rr'.length
    have l3:=v.length
    have l4:=v'.length
    have k1:=RcAt.tuples p p' hu0 (item hn rr rr' v v')
    have k2:=RcNeAt.tuples p p' hu0 (item hn rr rr' v v')
    have e1:its.toArray.size=ds.length:=by simp;omega
    have e2:its'.toArray.size=es.length:=by simp;omega
    rw[e1,e2] at k1 k2
    by_cases hl:ds.length=es.length
    ·rw[Mi.cH,m9 hl]
     rw[hl,Nat.min_self,beq_self_eq_true,Bool.and_true,← hl] at k1 k2
     exact⟨k1,k2⟩
    ·rw[Mi.cH,m8 hl]
     have:(ds.length == es.length)=false:=by simpa using hl
     rw[this,Bool.and_false] at k1 k2
     exact⟨k1,k2⟩
   | lst es =>
    rw[L2.Rep] at h'
    obtain⟨b,ys,rfl,q',_⟩:=h'
    cases r'
    obtain⟨its',_,p',_⟩:=I.list q'
    exact⟨RcAt.tuple_list p p'.isList hu0,RcNeAt.tuple_list p p'.isList hu0⟩
  | _=>exact absurd rfl hdf
theorem iW(hu:X.A.units+64 < cLine):pJ X (compareOp .Eq) (RZ X.K false):=by
 intro pins s σ H x y v u Q I rx ry h
 obtain⟨d,e,r1,r2,hz,q⟩:=h
 exact(Yg I d e X.A hz (by omega) r1 r2 rx ry).1 _ _ _ _ ⟨.bl _,H,I,rfl,q⟩
theorem tu(hu:X.A.units+64 < cLine):pJ X (compareOp .NotEq) (RZ X.K true):=by
 intro pins s σ H x y v u Q I rx ry h
 obtain⟨d,e,r1,r2,hz,q⟩:=h
 exact(Yg I d e X.A hz (by omega) r1 r2 rx ry).2 _ _ _ _ ⟨.bl _,H,I,rfl,q⟩
end
section
variable{X:Cx}{K:PySem.W.Frag}{M:Nat→Bool}{κ : Kd}{ta tb te:TE}{a b:Mi.E}
theorem XC{H Hv:Hp}(vw:Vw H Hv){d:D}{v:V}(r:RD H Hv d v):uQ K H v (.type (Mi.MN d)):=by
 cases d with
 | non=>cases RD.non r;exact .non
 | bl b=>cases RD.bl r;exact .bl b
 | int b=>cases RD.int r;exact .int b
 | str b=>cases RD.str r;exact .str b
 | lst ds =>
  obtain⟨p,xs,rfl,l,_⟩:=RD.lst vw r
  rcases l with l|⟨o,l⟩
  ·exact .lst l
  ·exact .frz l
 | tup ds =>
  obtain⟨p,xs,rfl,l,_⟩:=RD.tup vw r
  exact .tup l
def Xh(K:PySem.W.Frag)(T:String):Prop:=∀ d:D,PySem.W.kitOne K (.type (Mi.MN d)) (.type T)=some (Mi.Te T d)
theorem Jf{T:String}(hT:Xh K T)(ha:AE M qP ta a):AE M qV (Ru (Yw K) (jG ta (jG (tC (.ty T)) qZ))) (Mi.m1 (Mi.IW [T]) a):=fun e σ H Hv Q I h =>
 ha e σ H Hv _ I ((aq.mp h).mono fun x hx v H1 Hv1 g1 rx=>⟨v,_,T,_,rfl,XC g1.vw rx,hT x,(Mi.jZ hx) _ H1 Hv1 g1 (by
  have:([T].any fun t=>Mi.Te t x)=Mi.Te T x:=by simp
  rw[this];exact gW)⟩)
theorem ty_list(K:PySem.W.Frag):Xh K "list" := fun d=>by cases d<;>rfl
theorem ty_tuple(K:PySem.W.Frag):Xh K "tuple" := fun d=>by cases d<;>rfl
end
end A
namespace A
open PySem L2 PyProof.Rows
open Mi (D W Rs Fin aq Out Tg)
variable[Tb:eZ]
def Mo(l:List Nat):Nat→Bool:=fun i=>l.contains i
theorem Ec{M:Nat→Bool}{N:List Str}{k:Nat}{ws:List W}{vs:List V}{H Hv:Hp}(vw:Vw H Hv)(p:P2 (rE Hv) ws vs)(hk:ws.length=k)(hM:∀ i,i < k→M i=false) :
 R1 M H Hv (ws.map some++List.replicate (N.length - ws.length) none) (start N vs) H Hv:=by
 have get:∀ {i:Nat} {w:W},(ws.map some++List.replicate (N.length - ws.length) none)[i]? = some (some w)→ws[i]? = some w∧i < k:=fun {i w} h=>by
  by_cases hi:i < ws.length
  ·rw[List.getElem?_append_left (by simpa using hi),List.getElem?_map] at h
   cases e:ws[i]? with
   | none=>rw[e] at h;cases h
   | some a=>rw[e] at h;cases h;exact⟨rfl,by omega⟩
  ·rw[List.getElem?_append_right (by simpa using hi),List.getElem?_replicate] at h
   split at h<;>cases h
 have no:∀ {i:Nat} {w:W},(ws.map some++List.replicate (N.length - ws.length) none)[i]? = some (some w)→M i=true→False:=fun {i w} h m=>by
  rw[hM i (get h).2] at m;cases m
 refine⟨⟨vw,?_,fun i w h m=>?_,fun i w h m=>(no h m).elim⟩,.refl vw,fun i w a h m=>(no h m).elim,fun i j w w' a b _ h _ m=>(no h m).elim⟩
 ·unfold L2.start
  rw[List.length_append,List.length_append,List.length_map,List.length_map,List.length_replicate,List.length_replicate,p.len]
 ·obtain⟨hw,hi⟩:=get h
  obtain⟨v,hv,r⟩:=p.getL hw
  refine⟨v,?_,r⟩
  unfold L2.start
  rw[List.getElem?_append_left (by rw[List.length_map,← p.len];omega),List.getElem?_map,hv];rfl
theorem rB{f:Mi.S}{k n:Nat}{vs:List V}{H:Hp}{Q:VK}{E:XK}(h:mq (Mi.wM k n f) vs H Q E):vs.length=k:=by
 obtain⟨Hv,ws,_,p,q⟩:=h
 rw[← p.len];exact(Mi.aU q).1
theorem wJ{f:Mi.S}{k n:Nat}{vs:List V}{H:Hp}{Q:VK}{E:XK}(h:pZ (Mi.DG k n f) vs H Q E):vs.length=k:=by
 obtain⟨Hv,ws,_,p,q⟩:=h
 rw[← p.len];exact(Mi.aU q).1
theorem q9{N:List Str}{M:Nat→Bool}{k:Nat}{t:TS}{m:Mi.S}(hA:AS M qV t m)(hM:∀ i,i < k→M i=false){vs:List V}{H:Hp}{Q:VK}{E:XK}(h:mq (Mi.wM k N.length m) vs H Q E) :
 t { nx:=fun _ H'=>Q .non H',rt:=Q } (start N vs) H:=by
 obtain⟨Hv,ws,vw,p,q⟩:=h
 obtain⟨hk,q⟩:=Mi.aU q
 refine hA H Hv _ _ H Hv _ (Ec vw p hk hM) ((aq.mp q).mono fun o ho=>?_)
 cases o with
 | nx e=>exact fun σ H' Hv' I s=>ho _ H' Hv' I.gw N6
 | rt w=>exact fun v H' Hv' g r=>ho v H' Hv' g r
 | bk e=>exact ho.elim
 | ct e=>exact ho.elim
theorem runN{N:List Str}{M:Nat→Bool}{k:Nat}{t:TS}{m:Mi.S}(hA:AS M qN t m)(hM:∀ i,i < k→M i=false){vs:List V}{H:Hp}{Q:VK}{E:XK}(h:pZ (Mi.DG k N.length m) vs H Q E) :
 t { nx:=fun _ H'=>Q .non H',rt:=Q } (start N vs) H:=by
 obtain⟨Hv,ws,vw,p,q⟩:=h
 obtain⟨hk,q⟩:=Mi.aU q
 refine hA H Hv _ _ H Hv _ (Ec vw p hk hM) ((aq.mp q).mono fun o ho=>?_)
 cases o with
 | rt w=>exact fun v H' Hv' g r=>ho v H' Hv' g r
 | nx e=>exact ho.elim
 | bk e=>exact ho.elim
 | ct e=>exact ho.elim
def Ed:Sp:=fun vs H Q _=>∃ (a:Addr) (ns:List Int),vs=[.ref a]∧Lst H a (ns.map V.int)∧ns.length≤63∧iD H∧∀ H',Q (.bl true) H'
theorem ints_rep(H:Hp):∀ ns:List Int,P2 (Rep H) (ns.map D.int) (ns.map V.int)
 | []=>.nil
 | n::r=>.cons (jU.mpr rfl) (ints_rep H r)
theorem Wr{P:Program}{w:World}{K:PySem.W.Frag}{mg:Str→Option Value}{base:Heap}{CX:Jl}{k:Nat}{f:Addr}{fd:FuncData}{ps:List Str}{m:Mi.Fn}(F:dG P w K mg base CX k f fd ps (mq m))
 (h:∀ ns:List Int,ns.length≤63→m [.d (.lst (ns.map D.int))]=.ok (.d (.bl true))):dG P w K mg base CX k f fd ps Ed :=
 F.imp fun vs H Q E ⟨a,ns,e,l,hl,k,q⟩=>by
  subst e
  have l':Lst (Lb H) a (ns.map V.int):=by
   rcases l with l|⟨o,l⟩
   ·exact .inl (gY l trivial)
   ·exact .inr ⟨o,gY l trivial⟩
  refine⟨Lb H,[.d (.lst (ns.map D.int))],.all k,.cons (jT.mpr ⟨a,_,rfl,l',ints_rep _ ns⟩) .nil,?_⟩
  rw[h ns hl]
  intro v H' Hv' g r
  cases (Hm (H:=Hv')).mp r
  exact q H'
theorem G4{X:Cx}{pins:List (Addr×Obj)}{σ : L2.St}{H:Hp}{s:Shared}{fp:List Addr}{T:Addr}{o:HO}{h':Heap}{t':Nat}(I:Inv X pins σ H s)(hf:∀ b∈fp,oF X pins H b)
 (k:∀ b u,b∉fp→s.heap.get? b=some u→h'.get? b=some u) (hT:s.heap.objs.size≤T) (new:cu X.prog X.w (upd H T o) h' T o):Inv X pins σ (upd H T o) { s with heap:=h',toks:=t' }:=by
 have hn:H T=none:=I.hok.fresh hT
 have nfp:∀ b u,H b=some u→b∉fp:=fun b u e z=>by rw[(hf b z).1] at e;cases e
 refine I.call' (s':={ s with heap:=h',toks:=t' }) (ch:=fp) rfl ⟨fun b u e _ _ hb=>k b u hb e,fun b u e _ _ hb=>⟨u.slots,k b u hb e⟩,fun b u e hb _=>?_,fun b u e hb=>⟨u,k b u hb e⟩,fun b xs e=>?_,fun b q u e=>?_,fun b w ps e=>⟨#[],?_⟩⟩ ?_ I.bare
  fun b hb=>⟨(hf b hb).2.2.2.1,(hf b hb).2.1,(hf b hb).2.2.2.2.1,(hf b hb).2.2.2.2.2⟩
 ·have:b≠T:=Nat.ne_of_lt (Nat.lt_of_lt_of_le (Heap.lt_size e) hT)
  rw[aH this];exact hb
 ·rw[aH (aQ e hn)];exact e
 ·rw[aH (aQ e hn)];exact e
 ·rw[aH (aQ e hn),e];simp
 ·intro b u e
  by_cases hb:b=T
  ·subst hb;rw[aP] at e;cases e;exact new
  ·rw[aH hb] at e
   refine(I.hok b u e).stay (fun c v hc q=>k c v ?_ q) (fun c q=>by rw[aH (aQ q hn)];exact q) fun c xs q=>by rw[aH (aQ q hn)];exact q
   rcases hc with z|z
   ·rw[z];exact nfp b u e
   ·exact nfp c _ z
theorem xJ{X:Cx}{pins:List (Addr×Obj)}{σ : L2.St}{H:Hp}{s:Shared}{fp:List Addr}{h':Heap}{t':Nat}(I:Inv X pins σ H s)(hf:∀ b∈fp,oF X pins H b)
 (k:∀ b u,b∉fp→s.heap.get? b=some u→h'.get? b=some u):Inv X pins σ H { s with heap:=h',toks:=t' }:=by
 have nfp:∀ b u,H b=some u→b∉fp:=fun b u e z=>by rw[(hf b z).1] at e;cases e
 refine I.call' (s':={ s with heap:=h',toks:=t' }) (ch:=fp) rfl ⟨fun b u e _ _ hb=>k b u hb e,fun b u e _ _ hb=>⟨u.slots,k b u hb e⟩,fun b u e hb _=>hb,fun b u e hb=>⟨u,k b u hb e⟩,fun b xs e=>e,fun b q u e=>e,fun b w ps e=>⟨#[],by rw[e];simp⟩⟩ ?_ I.bare
  fun b hb=>⟨(hf b hb).2.2.2.1,(hf b hb).2.1,(hf b hb).2.2.2.2.1,(hf b hb).2.2.2.2.2⟩
 intro b u e
 refine(I.hok b u e).stay (fun c v hc q=>k c v ?_ q) (fun c q=>q) fun c xs q=>q
 rcases hc with z|z
 ·rw[z];exact nfp b u e
 ·exact nfp c _ z
section
variable{X:Cx}{elts:List Expr}{k1:Nat}{tpos:Pos}
theorem FQ:∀ {ds:List D} {k i:Nat} {d:D},ds[i]? = some d→(Mi.rW k ds)[i]? = some (.tup [.int ((k+i:Nat):Int),d])
 | [],_,_,_,h=>by simp at h
 | d::r,k,0,e,h=>by simp at h;subst h;rfl
 | d::r,k,i+1,e,h=>by
  have:=FQ (ds:=r) (k:=k+1) (i:=i) (d:=e) (by simpa using h)
  rw[Mi.rW,List.getElem?_cons_succ,this]
  rw[show k+1+i=k+(i+1) by omega]
theorem uC:∀ (ds:List D) (k:Nat),(Mi.rW k ds).length=ds.length
 | [],_=>rfl
 | d::r,k=>by rw[Mi.rW,List.length_cons,List.length_cons,uC r]
end
end A
namespace A
open PySem L2 PyProof.Rows
open Mi (D W Rs Fin aq Out Tg)
variable[Tb:eZ]
section
variable{X:Cx}{K:PySem.W.Frag}{M:Nat→Bool}{κ : Kd}{ta tb te tk:TE}{a b k:Mi.E}
theorem xj{Hv:Hp}:∀ {ds:List D} {xs:List V} {bs:List Str},Mi.zj ds=some bs→P2 (Rep Hv) ds xs→xs=bs.map V.str
 | [],_,bs,e,r=>by cases e;cases r;rfl
 | .str b::ds,_,bs,e,r=>by
  cases r with
  | cons x t =>
   cases hb:Mi.zj ds with
   | none=>rw[Mi.zj,hb] at e;cases e
   | some cs =>
    rw[Mi.zj,hb] at e
    cases e
    rw[xj hb t,oW.mp x];rfl
 | .non::_,_,_,e,_=>by cases e
 | .int _::_,_,_,e,_=>by cases e
 | .bl _::_,_,_,e,_=>by cases e
 | .lst _::_,_,_,e,_=>by cases e
 | .tup _::_,_,_,e,_=>by cases e
theorem Rf(ha:AE M qP ta a)(hb:AE M qP tb b):AE M qV (Xn K "str" (rJoin K) ta (jG tb qZ)) (Mi.m2 Mi.J6 a b):=fun e σ H Hv Q I h=>by
 obtain⟨x,hx,h⟩:=lB (aq.mp h)
 obtain⟨y,hy,h⟩:=lB (aq.mp h)
 cases x with
 | str sep=>cases y with
  | lst ds =>
   obtain⟨ys,hs,h⟩:=iY (aq.mp h)
   obtain⟨hz,h⟩:=Mi.aU h
   refine ha e σ H Hv _ I (by
    rw[hx]
    intro v H1 Hv1 g1 r1
    cases RD.str r1
    refine⟨rfl,hb e σ H1 Hv1 _ (I.grow g1) (by
     rw[hy]
     intro v2 H2 Hv2 g2 r2
     obtain⟨p,xs,rfl,l,r⟩:=RD.lst g2.vw r2
     have:=xj hs r
     subst this
     exact⟨sep,p,ys,rfl,rfl,l.sq,hz,(Mi.jZ h) _ H2 Hv2 (g1.trans g2) yg⟩)⟩)
  | _=>exact h.elim
 | _=>cases y<;>exact h.elim
def Ek:V→List V→Hp→VK→Prop:=fun x vs H Q=>∃ l b xs zs,x=.ref l∧vs=[.ref b]∧H l=some (.lst xs)∧Lst H b zs∧xs.length+zs.length≤sizeLine∧Q .non (upd H l (.lst (xs++zs)))
theorem yx:ZW X "list.extend" Ek:=by
 intro pins s σ H x vs v us Q I rx rv h
 obtain⟨l,b,xs,zs,rfl,rfl,hH,hB,hz,q⟩:=h
 cases rx
 obtain⟨u,rfl,ru⟩:=rv.one
 cases ru
 obtain⟨z,its,n,r,hl,e⟩:=I.Sy hH
 obtain⟨its2,n2,r2,z2,e2⟩:=HF I hB
 have hl2:=r2.length
 have hsz:its.toArray.size+its2.toArray.size≤sizeLine:=by rw[List.size_toArray,List.size_toArray];omega
 have JZ:¬ (!its.toArray.isEmpty && Builtin.List.listTooLong (its.toArray.size+its2.toArray.size))=true:=by
  rw[Fd hsz,Bool.and_false]
  exact Bool.false_ne_true
 refine call_meets F.slot_list_extend ⟨_,e,rfl⟩ F.entry_list_extend (F.args_list_extend_2 _ _)
  (AutoSeq1.list_extend_list_list_0 l its.toArray n b its2.toArray n2 JZ (by rw[List.size_toArray];omega) (by omega)) ⟨e,e2,?_⟩
 refine⟨.non,_,I.SJ (its':=its++its2) hH e (by simp) (r.append r2) ?_,rfl,q⟩
 rw[List.length_append]
 omega
theorem Bj(i:Nat)(hm:M i=true)(ha:AE M qV te a):AS M κ (z6 (Xn K "list" Ek (oJ i) (jG te qZ))) (Mi.lO i a):=fun H0 Hv0 e σ H Hv D I h=>by
 obtain⟨d,hd,h⟩:=lB (aq.mp h)
 obtain⟨ds,he,h⟩:=uz (aq.mp h)
 cases d with
 | lst es =>
  obtain⟨hz,h⟩:=Mi.aU h
  obtain⟨p,xs,q,q1,n,c⟩:=I.list hm he
  refine⟨.ref p,q,.inl ⟨rfl,xs,.inl (.inl q1)⟩,ha e σ H Hv _ I.toR0 (by
   rw[hd]
   intro v H1 Hv1 g1 r
   have I1:=I.grow g1
   obtain⟨b,ys,rfl,l,r⟩:=(jT (H:=Hv1)).mp r
   refine⟨p,b,xs,ys,rfl,rfl,g1.old.at q1,l.same g1.vw.sub,by rw[← c.len,← r.len,sizeLine_eq];exact hz,?_⟩
   exact h σ _ Hv1 (I1.write hm he q (show dJ Hv1 (.d (.lst (ds++es))) (.lst (xs++ys)) from (cX g1.vis c).append r)) g1.vis)⟩
 | _=>exact h.elim
theorem CW{H:Hp}{d:D}{v:V}{y:Mi.Ky}(h:Mi.Qu d=some y)(r:Rep H d v):v=kV y:=by
 cases d with
 | int i=>cases h;exact jU.mp r
 | str i=>cases h;exact oW.mp r
 | _=>cases h
theorem uv{H:Hp}:∀ {ds:List D} {vs:List V} {ys:List Mi.Ky},Mi.uE ds=some ys→P2 (Rep H) ds vs→vs=ys.map kV
 | [],_,_,h,r=>by cases h;cases r;rfl
 | d::ds,_,ys,h,r=>by
  cases r with
  | cons x t =>
   unfold Mi.uE at h
   cases h1:Mi.Qu d with
   | none=>rw[h1] at h;cases h
   | some y =>
    cases h2:Mi.uE ds with
    | none=>rw[h1,h2] at h;cases h
    | some zs =>
     rw[h1,h2] at h
     cases h
     rw[CW h1 x,uv h2 t];rfl
theorem J1{H Hv:Hp}(vw:Vw H Hv){w:W}{x:V}{d:D}{v:V}{q:Option D→Prop}(hw:RB H Hv w x)(r:Rep Hv d v)(h:Fin (Mi.Qw w d) q):∃ a o o',x=.ref a∧zE H a v o∧q o'∧match o' with
 | some d'=>∃ v',o=some v'∧Rep Hv d' v'
 | none=>o=none:=by
 cases w with
 | d x=>exact h.elim
 | ex z=>exact h.elim
 | dk kvs =>
  obtain⟨y,hy,h⟩:=iY (aq.mp h)
  have h:q (Mi.wH kvs y):=h
  have:∃ a kv,x=.ref a∧H a=some (.dK kv)∧zH Hv kvs kv:=by
   rcases hw with ⟨a,kv,e,z,c⟩|⟨a,o,e,z,c⟩
   ·exact⟨a,kv,e,vw.sub _ _ z,c⟩
   ·cases o with
    | dK kv=>exact⟨a,kv,e,z,c⟩
    | _=>exact c.elim
  obtain⟨a,kv,e,z,c⟩:=this
  have hv:=CW hy r
  subst hv
  exact⟨a,_,_,e,zE.k z,h,CV c⟩
 | dt kvs =>
  cases d with
  | tup ds =>
   obtain⟨y,hy,h⟩:=iY (aq.mp h)
   have h:q (Mi.wH kvs y):=h
   have:∃ a kv,x=.ref a∧H a=some (.dT kv)∧zH Hv kvs kv:=by
    rcases hw with ⟨a,kv,e,z,c⟩|⟨a,o,e,z,c⟩
    ·exact⟨a,kv,e,vw.sub _ _ z,c⟩
    ·cases o with
     | dT kv=>exact⟨a,kv,e,z,c⟩
     | _=>exact c.elim
   obtain⟨a,kv,e,z,c⟩:=this
   obtain⟨b,xs,rfl,l,r⟩:=fQ.mp r
   have hv:=uv hy r
   subst hv
   exact⟨a,_,_,e,zE.t z (vw.sub _ _ l),h,CV c⟩
  | _=>exact h.elim
 | df kvs =>
  cases d with
  | tup ds =>
   obtain⟨y,hy,h⟩:=iY (aq.mp h)
   have h:q (Mi.wH kvs y):=h
   have:∃ a ob kv,x=.ref a∧H a=some (.frz ob (.dT kv))∧zH Hv kvs kv:=by
    rcases hw with ⟨a,ob,kv,e,z,c⟩|⟨a,o,e,z,c⟩
    ·exact⟨a,ob,kv,e,vw.sub _ _ z,c⟩
    ·exact c.elim
   obtain⟨a,ob,kv,e,z,c⟩:=this
   obtain⟨b,xs,rfl,l,r⟩:=fQ.mp r
   have hv:=uv hy r
   subst hv
   exact⟨a,_,_,e,.inr ⟨kv,y,b,.inr ⟨ob,z⟩,rfl,vw.sub _ _ l,rfl⟩,h,CV c⟩
  | _=>exact h.elim
theorem Bl(i:Nat)(hk:AE M qV tk k):AE M qV (X3 tk (oJ i)) (Mi.nH i k):=fun e σ H Hv Q I h =>
 hk e σ H Hv _ I ((aq.mp h).mono fun d hd v H1 Hv1 g1 r=>by
  obtain⟨w,he,hd⟩:=t7 (aq.mp hd)
  have I1:=I.grow g1
  obtain⟨x,q,z⟩:=I1.any he
  obtain⟨a,o,o',e1,g,h2,m⟩:=J1 g1.vw z r (aq.mp hd)
  refine⟨x,q,a,o,e1,g,?_⟩
  have:o.isSome=o'.isSome:=by
   cases o' with
   | none=>have m:o=none:=m;rw[m];rfl
   | some d'=>obtain⟨v',m,_⟩:=m;rw[m];rfl
  rw[this]
  exact h2 _ H1 Hv1 g1 gW)
theorem zq(i:Nat)(hk:AE M qV tk k):AE M qV (Jq tk (oJ i)) (Mi.jW i k):=fun e σ H Hv Q I h =>
 hk e σ H Hv _ I ((aq.mp h).mono fun d hd v H1 Hv1 g1 r=>by
  obtain⟨w,he,hd⟩:=t7 (aq.mp hd)
  have I1:=I.grow g1
  obtain⟨x,q,z⟩:=I1.any he
  obtain⟨a,o,o',e1,g,h2,m⟩:=J1 g1.vw z r (aq.mp hd)
  refine⟨x,q,a,o,e1,g,?_⟩
  have:o.isSome=o'.isSome:=by
   cases o' with
   | none=>have m:o=none:=m;rw[m];rfl
   | some d'=>obtain⟨v',m,_⟩:=m;rw[m];rfl
  rw[this]
  exact h2 _ H1 Hv1 g1 gW)
theorem Dq{tv:TE}{v:Mi.E}(i:Nat)(hm:M i=true)(hk:AE M qV tk k)(hv:AE M qV tv v):AS M κ (L2.lQ (oJ i) tk tv) (Mi.lQ i k v):=fun H0 Hv0 e σ H Hv D I h=>by
 obtain⟨d,hd,h⟩:=lB (aq.mp h)
 obtain⟨y,hy,h⟩:=lB (aq.mp h)
 obtain⟨w,he,h⟩:=t7 (aq.mp h)
 refine hv e σ H Hv _ I.toR0 (by
  rw[hd]
  intro x H1 Hv1 g1 rx
  have I1:=I.grow g1
  obtain⟨p,o,q,q1,n,h0,c⟩:=I1.cell hm he
  refine⟨.ref p,q,hk e σ H1 Hv1 _ I1.toR0 (by
   rw[hy]
   intro u H2 Hv2 g2 ru
   have I2:=I1.grow g2
   have c2:=c.same g2.vis
   have q2:=g2.old.at q1 c.nt
   have g12:=g1.trans g2
   have rx2:=kY g2.vis rx
   cases w with
   | d x=>exact(show False from aq.mp h).elim
   | ex z=>exact(show False from aq.mp h).elim
   | df z=>exact(show False from aq.mp h).elim
   | dk kvs =>
    obtain⟨hz,h⟩:=Mi.aU (aq.mp h)
    obtain⟨ky,hky,h⟩:=iY (aq.mp h)
    cases o with
    | dK kv =>
     have c2:zH Hv2 kvs kv:=c2
     have hu:=CW hky ru
     subst hu
     refine⟨p,_,rfl,GQ.k q2 (by rw[← P2.len c2,sizeLine_eq];exact hz),?_⟩
     exact h σ _ Hv2 (I2.write hm he q (show dJ Hv2 (.dk (Mi.putK ky d kvs)) (.dK (L2.putK kv ky x)) from JS rx2 c2)) g12.vis
    | _=>exact c2.elim
   | dt kvs =>
    cases y with
    | tup ds =>
     obtain⟨hz,h⟩:=Mi.aU (aq.mp h)
     obtain⟨ky,hky,h⟩:=iY (aq.mp h)
     cases o with
     | dT kv =>
      have c2:zH Hv2 kvs kv:=c2
      obtain⟨b,xs,rfl,l,r⟩:=(fQ (H:=Hv2)).mp ru
      have hu:=uv hky r
      subst hu
      refine⟨p,_,rfl,GQ.t q2 (g2.vw.sub _ _ l) (by rw[← P2.len c2,sizeLine_eq];exact hz),?_⟩
      exact h σ _ Hv2 (I2.write hm he q (show dJ Hv2 (.dt (Mi.putK ky d kvs)) (.dT (L2.putK kv ky x)) from JS rx2 c2)) g12.vis
     | _=>exact c2.elim
    | _=>exact(show False from aq.mp h).elim)⟩)
end
end A
namespace Zp
open PySem PySem.Spec PyProof.Rows L2
variable[Tb:A.eZ]
section
variable{P:Program}{w:World}{B:Around}{F:Value→Shared→Prop}{z:Shared}
theorem Wi{c t:Addr}{i:Nat}{us:Array Value}{u:Value}{R:Value→Shared→Prop}(hc:z.heap.IsTupleIter c t i)(ht:z.heap.IsTuple t us)(hu:us[i]? = some u)
 (hR:∀ h',h'.IsTupleIter c t (i+1)→Heap.SameBut c z.heap h'→R u { z with heap:=h' }):wpAny (model P w) B (Builtin.SmallTypes.nextOf (.ref c)) R F z:=by
 obtain⟨ob,gb,cb,db⟩:=id hc
 obtain⟨ol,gl,_,nl,dl⟩:=ht
 unfold Builtin.SmallTypes.nextOf
 refine wpAny_bind (wpAny_callSpecial?_slot (name:=Str.ofString "__next__") hc.typeIs PySem.F.slot_tuple_iterator_next (wpAny_call_entry PySem.F.slot_tuple_iterator_next hc.typeIs PySem.F.entry_tuple_iterator_next ?_ (PySem.F.args_tuple_iterator_next_1 _)))
 show wpAny _ _ (field (.ref c) 0 >>= _) _ _ z
 refine wpAny_bind (wpAny_field gb db (x:=.ref t) rfl ?_)
 show wpAny _ _ (if (Value.ref t == Value.none)=true then _ else _) _ _ z
 rw[if_neg (fun q:(Value.ref t == Value.none)=true=>nomatch q)]
 show wpAny _ _ (field (.ref c) 1 >>= _) _ _ z
 refine wpAny_bind (wpAny_field gb db (x:=.int i 0) rfl ?_)
 show wpAny _ _ (seqItems? (.ref t) >>= _) _ _ z
 refine wpAny_bind (wpAny_seqItems gl dl ?_)
 simp only[Int.toNat_natCast,hu]
 refine wpAny_bind (wpAny_setField gb db (by simp) (wpAny_pure ⟨u,rfl,wpAny_pure (hR _ ?_ (Heap.SameBut.update ..))⟩))
 refine⟨_,Heap.get?_update_self _ gb (Obj.isFreed_of_fields (Obj.data_mapFields db _)),(Obj.cls_mapFields ..).trans cb,?_⟩
 rw[Obj.data_mapFields db];simp[rawInt]
theorem Hz{c t:Addr}{i:Nat}{us:Array Value}{R:Value→Shared→Prop}(hn:B.handled=none)(hc:z.heap.IsTupleIter c t i)(ht:z.heap.IsTuple t us)(hu:us[i]? = none)
 (hF:∀ h' e,Heap.ExtBut c z.heap h'→(∃ o,h'.get? e=some o∧o.cls=.type "StopIteration")→F (.ref e) { z with heap:=h' }):wpAny (model P w) B (Builtin.SmallTypes.nextOf (.ref c)) R F z:=by
 obtain⟨ob,gb,cb,db⟩:=id hc
 obtain⟨ol,gl,_,nl,dl⟩:=ht
 unfold Builtin.SmallTypes.nextOf
 refine wpAny_bind (wpAny_callSpecial?_slot (name:=Str.ofString "__next__") hc.typeIs PySem.F.slot_tuple_iterator_next (wpAny_call_entry PySem.F.slot_tuple_iterator_next hc.typeIs PySem.F.entry_tuple_iterator_next ?_ (PySem.F.args_tuple_iterator_next_1 _)))
 show wpAny _ _ (field (.ref c) 0 >>= _) _ _ z
 refine wpAny_bind (wpAny_field gb db (x:=.ref t) rfl ?_)
 show wpAny _ _ (if (Value.ref t == Value.none)=true then _ else _) _ _ z
 rw[if_neg (fun q:(Value.ref t == Value.none)=true=>nomatch q)]
 show wpAny _ _ (field (.ref c) 1 >>= _) _ _ z
 refine wpAny_bind (wpAny_field gb db (x:=.int i 0) rfl ?_)
 show wpAny _ _ (seqItems? (.ref t) >>= _) _ _ z
 refine wpAny_bind (wpAny_seqItems gl dl ?_)
 simp only[Int.toNat_natCast,hu]
 refine wpAny_bind (wpAny_rule (wpAny_bind (wpAny_setField gb db (by simp) ?_)))
 show wpAny _ _ (newExc (.type "StopIteration") [] >>= _) _ _ _
 refine wpAny_bind ?_
 simp only[newExc,newTuple]
 refine wpAny_bind (wpAny_newObj_type ?_ (by size_fits))
 refine wpAny_bind (m:=firstArgMember _ _) (wpAny_of_eq (a:=Value.none) (by simp only[firstArgMember];rfl) (wpAny_newObj_type ?_ (by size_fits)))
 simp only[raiseNew]
 refine wpAny_bind (wpAny_handled ?_)
 first|rw[show B.in1.handled=none from hn]|rw[hn]
 exact wpAny_bind (wpAny_pure (wpAny_throw (hF _ _ (((Heap.SameBut.update ..).extBut.push _).push _) ⟨_,Heap.get?_push_size _ rfl,rfl⟩)))
end
def nm:Bool→String|true => "list" | false => "tuple"
def nmI:Bool→String|true => "list_iterator" | false => "tuple_iterator"
def Rp(k:Bool)(h:Heap)(l:Addr)(us:Array Value):Prop:=∃ o,h.get? l=some o∧o.cls=.type (nm k)∧∃ n,o.data=.seq us n
def Rm(k:Bool)(h:Heap)(c l:Addr)(i:Nat):Prop:=∃ o,h.get? c=some o∧o.cls=.type (nmI k)∧o.data=.fields #[.ref l,.int i 0]
theorem Rp.at{k:Bool}{h h':Heap}{l:Addr}{us:Array Value}(x:Rp k h l us)(f:∀ o,h.get? l=some o→h'.get? l=some o):Rp k h' l us:=let ⟨o,e,r⟩:=x;⟨o,f o e,r⟩
theorem Rm.at{k:Bool}{h h':Heap}{c l:Addr}{i:Nat}(x:Rm k h c l i)(f:∀ o,h.get? c=some o→h'.get? c=some o):Rm k h' c l i:=let ⟨o,e,r⟩:=x;⟨o,f o e,r⟩
theorem Rm.cell{k:Bool}{h:Heap}{c l:Addr}{i:Nat}(x:Rm k h c l i):∃ o,h.get? c=some o∧∀ v,o.data≠.cell v:=let ⟨o,e,_,d⟩:=x;⟨o,e,fun v q=>by rw[d] at q;cases q⟩
section
variable{P:Program}{w:World}{B:Around}{F:Value→Shared→Prop}{z:Shared}
theorem nx{k:Bool}{c t:Addr}{i:Nat}{us:Array Value}{u:Value}{R:Value→Shared→Prop}(hc:Rm k z.heap c t i)(ht:Rp k z.heap t us)(hu:us[i]? = some u)
 (hR:∀ h',Rm k h' c t (i+1)→Heap.SameBut c z.heap h'→R u { z with heap:=h' }):wpAny (model P w) B (Builtin.SmallTypes.nextOf (.ref c)) R F z:=by
 cases k
 ·exact Wi hc ht hu hR
 ·exact wpAny_nextOf_list_item hc ht hu hR
theorem Wj{k:Bool}{c t:Addr}{i:Nat}{us:Array Value}{R:Value→Shared→Prop}(hn:B.handled=none)(hc:Rm k z.heap c t i)(ht:Rp k z.heap t us)(hu:us[i]? = none)
 (hF:∀ h' e,Heap.ExtBut c z.heap h'→(∃ o,h'.get? e=some o∧o.cls=.type "StopIteration")→F (.ref e) { z with heap:=h' }):wpAny (model P w) B (Builtin.SmallTypes.nextOf (.ref c)) R F z:=by
 cases k
 ·exact Hz hn hc ht hu hF
 ·exact wpAny_nextOf_list_end hn hc ht hu hF
abbrev itO(k:Bool)(l:Addr):Obj:={ cls:=.type (nmI k),data:=.fields #[.ref l,.int 0 0] }
theorem PN{k:Bool}{l:Addr}{us:Array Value}{R:Value→Shared→Prop}(h:Rp k z.heap l us)(hR:R (.ref z.heap.objs.size) { z with heap:=z.heap.push (itO k l) }):wpAny (model P w) B (pyIter (.ref l)) R F z:=by
 cases k
 ·exact wpAny_pyIter_tuple h hR
 ·exact wpAny_pyIter_list h hR
end
theorem Qp{P:Program}{w:World}{B:Around}(hn:B.handled=none)(k:Bool)(c l:Addr)(hne:l≠c)(us:Array Value) :
 Draws P w B c [c,l] us.size (fun i v=>us[i]? = some v) (fun i h=>Rm k h c l i∧Rp k h l us) where
 live:=fun _ _ st=>let ⟨o,ho,_⟩:=st.1;⟨o,ho⟩
 frame:=fun _ _ _ st f=>⟨st.1.at fun o e=>f c (by simp) o e,st.2.at fun o e=>f l (by simp) o e⟩
 item:=fun i s Q E hi st hQ=>nx st.1 st.2 (u:=us[i]) (by simp[hi]) fun h' a b=>hQ _ h' s.toks (by simp[hi]) ⟨a,st.2.at fun o e=>b.extBut _ _ hne e⟩ b
 done:=fun s Q E st hE=>Wj hn st.1 st.2 (by simp) hE
end Zp
namespace Zp
end Zp
namespace Zp
end Zp
namespace Zp
open PySem PySem.Spec PyProof.Rows L2 A
variable[Tb:A.eZ]
def DN(H:Hp)(s:Bool×Addr)(xs:List V):Prop:=match s.1 with
 | true=>Lst H s.2 xs
 | false=>H s.2=some (.tup xs)
theorem DN.nn{H:Hp}{s:Bool×Addr}{xs:List V}(h:DN H s xs):H s.2≠none:=by
 obtain⟨k,a⟩:=s
 cases k
 ·have h:H a=_:=h
  show H a≠none
  rw[h];simp
 ·rcases (show Lst H a xs from h) with h|⟨o,h⟩
  ·show H a≠none
   rw[h];simp
  ·show H a≠none
   rw[h];simp
theorem DN.inj{H:Hp}{s:Bool×Addr}{xs ys:List V}(h:DN H s xs)(h':DN H s ys):xs=ys:=by
 obtain⟨k,a⟩:=s
 cases k
 ·have h:H a=some (.tup xs):=h
  have h':H a=some (.tup ys):=h'
  rw[h] at h';cases h';rfl
 ·rcases (show Lst H a xs from h) with h|⟨o,h⟩<;>rcases (show Lst H a ys from h') with h'|⟨o',h'⟩<;>rw[h] at h'<;>cases h'<;>rfl
theorem DN.at{X:Cx}{pins:List (Addr×Obj)}{σ : L2.St}{H:Hp}{s:Shared}{k:Bool}{a:Addr}{xs:List V}(I:Inv X pins σ H s)(h:DN H (k,a) xs):∃ its:List Value,Vals xs its∧Rp k s.heap a its.toArray:=by
 cases k
 ·have h:H a=some (.tup xs):=h
  obtain⟨_,its,rv,o,e,c,_,d⟩:=I.hok a _ h
  exact⟨its,rv,o,e,c,d⟩
 ·have h:Lst H a xs:=h
  obtain⟨its,rv,⟨o,n,e,c,_,d⟩,_⟩:=I.list h.sq
  exact⟨its,rv,o,e,c,n,d⟩
end Zp
namespace Mi
def J5:D→Rs (List D)
 | .lst ds=>.ok ds
 | .tup ds=>.ok ds
 | _=>.no
end Mi
namespace Zp
open PySem PySem.Spec PyProof.Rows L2 A
open Mi (D W Rs Fin aq)
variable[Tb:A.eZ]
theorem DN.same{H H':Hp}{s:Bool×Addr}{xs:List V}(h:gm H H')(q:DN H s xs):DN H' s xs:=by
 obtain⟨k,a⟩:=s
 cases k
 ·exact h _ _ q
 ·exact Lst.same (a:=a) h q
theorem Zf{x:D}{k:List D→Prop}(h:Fin (Mi.J5 x) k):∃ ds,(x=.lst ds∨x=.tup ds)∧k ds:=by
 cases x with
 | lst b=>exact⟨b,.inl rfl,h⟩
 | tup b=>exact⟨b,.inr rfl,h⟩
 | _=>exact h.elim
theorem WY{H:Hp}{x:D}{ds:List D}{v:V}(h:x=.lst ds∨x=.tup ds)(r:Rep H x v):∃ k a xs,v=.ref a∧DN H (k,a) xs∧P2 (Rep H) ds xs:=by
 rcases h with rfl|rfl
 ·obtain⟨a,xs,e,l,r⟩:=jT.mp r
  exact⟨true,a,xs,e,l,r⟩
 ·obtain⟨a,xs,e,l,r⟩:=fQ.mp r
  exact⟨false,a,xs,e,l,r⟩
end Zp
namespace Zp
end Zp
namespace Mi
def tG(a:E):I:=fun e=>(a e).bind fun x=>(J5 x).bind fun ds=>.ok (rW 0 ds)
end Mi
namespace Zp
open PySem PySem.Spec PyProof.Rows L2 A
open Mi (D W Rs Fin aq)
open AutoSeq1 (wpAny_loadPart')
variable[Tb:A.eZ]
abbrev eO(c:Addr):Obj:={ cls:=.type "enumerate", data:=.fields #[.none,.bool false,.ref c,rawInt 0,.none,.none] }
theorem mkE(l:Addr)(us:Array Value)(n:Nat)(dd:Option Addr)(sl:Array (Option Value)) :
 Meets (Builtin.«enumerate.__new__» ⟨[.type "enumerate", .ref l],[]⟩) (fun _ R s=>s.heap.get? l=some { cls:=.type "tuple", dict:=dd,data:=.seq us n,slots:=sl } ∧
  ∀ h1:Heap,h1=s.heap.push (itO false l)→R (.ok (.ret (.ref h1.objs.size))) { s with heap:=h1.push (eO s.heap.objs.size) }) :=
 .of_wp fun prog w A R s h=>by
  obtain⟨hp,g,d,tk,os⟩:=s;obtain⟨ht,h⟩:=h
  have hsub:=sub_enumerate
  have hQ:Rp false (Shared.heap ⟨hp,g,d,tk,os⟩) l us:=⟨_,ht,rfl,n,rfl⟩
  wp_walk using wpAny_loadPart' ht
  refine wpAny_stack_any fun st=>wpAny_pure ?_
  split
  ·rename_i c _ _ _ _ _
   cases (c == Value.type "enumerate")
   ·wp_walk using wpAny_loadPart' ht,PN hQ
    exact⟨_,rfl,h _ rfl⟩
   ·wp_walk using wpAny_loadPart' ht,PN hQ
    exact⟨_,rfl,h _ rfl⟩
  ·wp_walk using wpAny_loadPart' ht,PN hQ
   exact⟨_,rfl,h _ rfl⟩
theorem Iv{P:Program}{w:World}{B:Around}{E':Value→Shared→Prop}{s:Shared}{k:Bool}{l:Addr}{us:Array Value}{R:Value→Shared→Prop}(hQ:Rp k s.heap l us)
 (h:∀ h',IsEnum h' (s.heap.objs.size+1) s.heap.objs.size 0 .none→Rm k h' s.heap.objs.size l 0→(∀ b o,s.heap.get? b=some o→h'.get? b=some o)→R (.ref (s.heap.objs.size+1)) { s with heap:=h' }) :
 wpAny (model P w) B (call (.type "enumerate") [.ref l]) R E' s:=by
 cases k
 ·obtain⟨⟨c,dd,dt,sl⟩,hl,hc,n,hd⟩:=hQ
  replace hc:c=.type "tuple" := hc
  replace hd:dt=.seq us n:=hd
  subst hc hd
  refine callType_new F.called_enumerate (by decide) (F.typeCall_enumerate_1 _) (F.newCall_enumerate_1 _) (fun obj=>F.args_object_init_2 obj _) F.entry_enumerate_new (mkE l us n dd sl) ⟨hl,?_⟩
  intro h1 e1
  have z1:h1.objs.size=s.heap.objs.size+1:=by rw[e1];exact Heap.size_push ..
  have g1:h1.get? s.heap.objs.size=some (itO false l):=by rw[e1];exact Heap.get?_push_size _ rfl
  have g2:(h1.push (eO s.heap.objs.size)).get? h1.objs.size=some (eO s.heap.objs.size):=Heap.get?_push_size _ rfl
  show _∧_
  refine⟨⟨_,g2,rfl⟩,?_⟩
  rw[z1] at g2 ⊢
  exact h _ g2 ⟨_,Heap.get?_push_of_some _ g1,rfl,rfl⟩ fun b o x=>Heap.get?_push_of_some _ (by rw[e1];exact Heap.get?_push_of_some _ x)
 ·exact call_enumerate_list hQ fun h' a b _ d=>h h' a b d
def Zv(q:Bool×Addr):It :=
 ⟨fun i H=>∃ xs x,DN H q xs∧xs[i]? = some x,fun i H v H'=>∃ p x,(∀ xs,DN H q xs→xs[i]? = some x)∧H p=none∧v=.ref p∧H'=upd H p (.tup [.int i,x]),fun i H=>∃ xs,DN H q xs∧xs.length=i⟩
theorem G7{P:Program}{w:World}{K:PySem.W.Frag}{elts:List Expr}{k1:Nat}{pos:Pos}(k:Bool)(a e it:Addr)(hne:e≠it):Turn P w K (.Tuple elts k1 pos) (Zv (k,a)) [e,it] e (fun i h=>(∃ old,IsEnum h e it i old)∧Rm k h it a i) where
 mem:=by simp
 obj:=fun i h st b hb=>by
  obtain⟨⟨old,he⟩,hi⟩:=st
  rcases List.mem_cons.mp hb with rfl|hb
  ·exact⟨_,he,fun v z=>by cases z⟩
  ·have e1:b=it:=by simpa using hb
   subst e1
   exact hi.cell
 keep:=fun i h h' st kk=>⟨let ⟨old,he⟩:=st.1;⟨old,kk e (by simp) _ he⟩,st.2.at fun o q=>kk it (by simp) o q⟩
 item:=by
  intro X hP hw hK hc i pins s σ H E I hf st hg
  subst hP hw hK
  obtain⟨xs,x,hq,hx⟩:=hg
  obtain⟨its,rv,p⟩:=hq.at I
  obtain⟨u,hu,ru⟩:=rv.get hx
  obtain⟨⟨old,he⟩,hli⟩:=st
  have hlt:i < its.toArray.size:=by rw[List.size_toArray];exact(List.getElem?_eq_some_iff.mp hu).1
  have hai:a≠it:=fun z=>hq.nn (by show H a=none;rw[z];exact(hf it (by simp)).1)
  have hea:e≠a:=fun z=>hq.nn (by show H a=none;rw[← z];exact(hf e (by simp)).1)
  refine wpAny_pyNext_enum_itemD (Qp (by first|exact I.ok.hd hc|(simp;exact I.ok.hd hc)) k it a hai its.toArray) he ⟨hli,p⟩ hlt hne (by simp[hne,hea]) fun y h' tk hy ho hs' hT hsz hk=>?_
  have hy:y=u:=by
   have hu':its.toArray[i]? = some u:=by simpa using hu
   rw[hu'] at hy;exact(Option.some.inj hy).symm
  subst hy
  refine⟨_,rfl,wpAny_letOwnedTupleGo_enum ho fun h2 he2 hs2=>?_⟩
  have kk:∀ b o,b∉[e,it]→s.heap.get? b=some o→h2.get? b=some o:=fun b o hb q=>by
   simp at hb
   exact(hs2.2 b hb.1).trans (hk b o hb.1 hb.2 q)
  have hTn:s.heap.objs.size≠e:=fun z=>absurd (Heap.lt_size he) (by rw[z];exact Nat.lt_irrefl _)
  refine⟨.ref s.heap.objs.size,upd H s.heap.objs.size (.tup [.int i,x]),G4 (s:=s) (t':=tk+1) I hf kk (Nat.le_refl _) ?_,rfl,⟨_,x,fun ys hy=>by rw[hy.inj hq];exact hx,I.hok.fresh (Nat.le_refl _),rfl,rfl⟩,⟨⟨_,he2⟩,?_⟩,fun b hb=>?_⟩
  ·exact⟨by simp only[List.length_cons,List.length_nil];rw[sizeLine_eq];decide,[.int i tk,y],.cons ⟨_,rfl⟩ (.cons ru .nil),⟨_,(hs2.2 _ hTn).trans hT,rfl,rfl,_,rfl⟩⟩
  ·exact hs'.1.at fun o q=>(hs2.2 it (Ne.symm hne)).trans q
  ·have:b≠s.heap.objs.size:=fun z=>by
    subst z
    rcases List.mem_cons.mp hb with z|z
    ·exact hTn z
    ·have z:s.heap.objs.size=it:=by simpa using z
     obtain⟨o,ho,_⟩:=hli
     exact absurd (Heap.lt_size ho) (by rw[← z];exact Nat.lt_irrefl _)
   rw[aH this];exact(hf b hb).1
 done:=by
  intro X hP hw hK hc i pins s σ H E I hf st hg
  subst hP hw hK
  obtain⟨xs,hq,hx⟩:=hg
  obtain⟨its,rv,p⟩:=hq.at I
  obtain⟨⟨old,he⟩,hli⟩:=st
  have hl:=rv.length
  have hai:a≠it:=fun z=>hq.nn (by show H a=none;rw[z];exact(hf it (by simp)).1)
  subst hx
  have D:=Qp (P:=X.prog) (w:=X.w) (B:=X.A.in1) (by first|exact I.ok.hd hc|(simp;exact I.ok.hd hc)) k it a hai its.toArray
  have hn:its.toArray.size=xs.length:=by simp;omega
  rw[hn] at D
  exact wpAny_pyNext_enum_endD D he ⟨hli,p⟩ fun h' hx=>⟨rfl,xJ (s:=s) (t':=s.toks) I hf fun b o hb q=>hx b o (fun z=>hb (by simp[z])) q⟩
 self:=fun _ i s Q E st h=>let ⟨⟨old,he⟩,_⟩:=st;wpAny_pyIter_enum he h
section
variable{X:Cx}{elts:List Expr}{k1:Nat}{tpos:Pos}{M:Nat→Bool}
def P0(tl:TE):TI:=fun σ H R=>tl σ H fun x H1=>∃ k a,[x]=[V.ref a]∧(∃ xs,DN H1 (k,a) xs)∧R (Zv (k,a)) H1
theorem En{a:Expr}{ta:TE}{p pos:Pos}(hg:Gl X "enumerate")(hm:X.mg "enumerate" = none)(ha:PE X a ta)(hs:starEach [a] X.env=[(false,eval a X.env)]:=by rfl)(hs0:starEach [a] X.env=(false,eval a X.env)::starEach [] X.env:=by rfl) :
 PI X (.Tuple elts k1 tpos) (.Call (.Name "enumerate" p) [a] [] pos) (P0 ta):=by
 intro pins s σ H R I h
 refine Call_ (vz I hg hm boot_enumerate (PyProof.Rows.callWith_type1 (eX (aj ha aA hs0 pos pins s σ H (fun vs H1=>∃ k l,vs=[.ref l]∧(∃ xs,DN H1 (k,l) xs)∧R (Zv (k,l)) H1) I ?_) fun us s1 ⟨vs,H1,I1,r1,q1⟩=>?_) hs rfl))
 ·exact h
 ·obtain⟨k,l,e,⟨xs,hq⟩,q⟩:=q1
  subst e
  obtain⟨u,rfl,ru⟩:=vals1 r1
  cases ru
  obtain⟨its,rv,pl⟩:=hq.at I1
  refine Iv pl fun h' hE hI hk=>?_
  refine wpAny_pyIter_enum hE ?_
  have I2:Inv X pins σ H1 { s1 with heap:=h' }:=I1.kept (t':=s1.toks) fun b o e=>hk b o e
  refine⟨_,[s1.heap.objs.size+1,s1.heap.objs.size],_,_,H1,rfl,I2,G7 k l (s1.heap.objs.size+1) s1.heap.objs.size (Nat.ne_of_gt (Nat.lt_succ_self _)),⟨⟨_,hE⟩,hI⟩,fun b hb=>?_,q⟩
  have hb:s1.heap.objs.size≤b:=by
   rcases List.mem_cons.mp hb with z|z
   ·rw[z];exact Nat.le_succ _
   ·have z:b=s1.heap.objs.size:=by simpa using z
    rw[z];exact Nat.le_refl _
  exact I1.uA hb (I1.hok.fresh hb)
theorem Lk{q:Bool×Addr}{ds:List D}{P:Hp→Hp→Prop}(ok:∀ H Hv,P H Hv→Vw H Hv→∃ xs,DN H q xs∧P2 (Rep Hv) ds xs):Zx (Zv q) P (Mi.rW 0 ds):=by
 refine⟨fun i H Hv p v hi=>?_,fun i H Hv x H' p v hi y=>?_,fun H Hv p v=>?_⟩
 ·obtain⟨xs,l,r⟩:=ok H Hv p v
  rw[uC] at hi
  obtain⟨x,hx,_⟩:=r.getL (i:=i) (a:=ds[i]) (by simp[hi])
  exact⟨xs,x,l,hx⟩
 ·obtain⟨xs,l,r⟩:=ok H Hv p v
  rw[uC] at hi
  obtain⟨q,z,hz,hq,rfl,rfl⟩:=y
  obtain⟨x,hx,rx⟩:=r.getL (i:=i) (a:=ds[i]) (by simp[hi])
  rw[hz xs l] at hx
  cases hx
  obtain⟨g,k⟩:=vo v (ds:=[.int i,ds[i]]) (xs:=[.int i,z]) (.cons (jU.mpr rfl) (.cons rx .nil)) hq
  refine⟨_,.tup [.int i,ds[i]],g,?_,k⟩
  rw[FQ (i:=i) (d:=ds[i]) (by simp[hi])]
  simp
 ·obtain⟨xs,l,r⟩:=ok H Hv p v
  exact⟨xs,l,by rw[uC,r.len]⟩
theorem Gz{ta:TE}{a:Mi.E}(ha:AE M qV ta a):Mp M (P0 ta) (Mi.tG a):=fun e σ H Hv R I h =>
 ha e σ H Hv _ I ((aq.mp h).mono fun x hx v H1 Hv1 g1 rx=>by
  obtain⟨ds,hd,hk⟩:=Zf (aq.mp hx)
  obtain⟨k,p,xs,rfl,l,r⟩:=WY hd (show Rep Hv1 x v from rx)
  exact⟨k,p,rfl,⟨xs,l.same g1.vw.sub⟩,hk (Zv (k,p)) H1 Hv1 (fun H Hv=>DN Hv (k,p) xs∧P2 (Rep Hv) ds xs) g1 (Lk fun H Hv z v=>⟨xs,z.1.same v.sub,z.2⟩) ⟨l,r⟩ fun H1 Hv1 H2 Hv2 z s v=>⟨z.1.same s,cX s z.2⟩⟩)
end
end Zp
namespace Mi
end Mi
namespace Zp
open PySem PySem.Spec PyProof.Rows L2 A
open Mi (D W Rs Fin aq)
variable[Tb:A.eZ]
end Zp
namespace Mi
abbrev SN:=List D→List D→Env→Rs Out
end Mi
namespace Zp
open PySem PySem.Spec PyProof.Rows L2 A
open Mi (D W Rs Fin aq Out)
variable[Tb:A.eZ]
end Zp
namespace A
end A
namespace A
end A
namespace Mi
open PySem
def zU(x:D)(lo hi:Option Int):Rs D:=match x with
 | .lst ds=>.ok (.lst (yU ds lo hi))
 | .tup ds=>match lo,hi with
  | some a,none=>aR (1≤a∧a≤(ds.length:Int)∧ds.length≤16777216) (.ok (.tup (ds.drop a.toNat)))
  | _,_=>.no
 | _=>.no
end Mi
namespace A
end A
namespace A
open PySem L2 PyProof.Rows
open Mi (D W Rs Fin aq Out Tg met)
variable[Tb:eZ]
section
variable{X:Cx}{K:PySem.W.Frag}{M:Nat→Bool}{te ta tb:TE}{a b:Mi.E}
def Yi(K:PySem.W.Frag):V→Option Int→Option Int→Hp→VK→Prop:=fun x lo hi H Q=>∃ p xs a,x=.ref p∧zr K H p xs∧lo=some a∧hi=none∧1≤a∧a≤(xs.length:Int)∧xs.length≤sizeLine∧∀ q,H q=none→Q (.ref q) (upd H q (.tup (xs.drop a.toNat)))
theorem VB:Ri X (Yi X.K):=by
 intro pins s σ H x v vl vu lo hi sl Q I rx hs pl pu h
 obtain⟨p,xs,a,rfl,hx,rfl,rfl,h1,h2,hz,q⟩:=h
 cases rx
 obtain⟨its,r,ht,_⟩:=I.tuple hx
 have hl:=r.length
 refine⟨"tuple", _,slot_tuple_getitem.lookup,ht.typeIs,?_⟩
 cases pl with
 | int _ t =>
 cases pu
 obtain⟨n,rfl⟩ : ∃ n:Nat,a=n:=⟨a.toNat,by omega⟩
 refine getItem_tuple_from ht hs (by omega) (by rw[List.size_toArray];omega) ?_ (by rw[List.size_toArray];omega)
 rw[show (its.toArray.toList.drop n)=its.drop n by simp]
 have q:=q _ (I.hok.fresh (Nat.le_refl _))
 rw[Int.toNat_natCast] at q
 exact⟨.ref s.heap.objs.size,_,I.laid (t':=s.toks) (o:=.tup (xs.drop n)) (fun b ob q=>Heap.get?_push_of_some _ q) (Nat.le_refl _) ⟨by rw[List.length_drop];omega,_,r.drop n,⟨_,Heap.get?_push_size _ rfl,rfl,rfl,0,rfl⟩⟩,rfl,q⟩
def Yk(K:PySem.W.Frag):V→Option Int→Option Int→Hp→VK→Prop:=fun x lo hi H Q=>V0 K x lo hi H Q∨Yi K x lo hi H Q
theorem X8:Ri X (Yk X.K):=Jt.or VB
theorem Vl:BS qV (Yk K) Mi.zU:=fun x lo hi v H Hv Q vw rx h=>by
 cases x with
 | lst ds =>
  obtain⟨p,xs,rfl,l1,r1⟩:=RD.lst vw rx
  refine .inl ⟨p,xs,rfl,l1.sq,fun a ha=>?_⟩
  obtain⟨g,k⟩:=HB vw (QB r1 lo hi) ha
  exact h _ _ _ g k
 | tup ds =>
  obtain⟨p,xs,rfl,l1,_,r1⟩:=RD.tup vw rx
  cases lo with
  | none=>exact h.elim
  | some a=>cases hi with
   | some c=>exact h.elim
   | none =>
    obtain⟨⟨z1,z2,z3⟩,h⟩:=Mi.aU h
    refine .inr ⟨p,xs,a,rfl,.inl (.inl l1),rfl,rfl,z1,by rw[← r1.len];exact z2,by rw[← r1.len,sizeLine_eq];exact z3,fun c hc=>?_⟩
    obtain⟨g,k⟩:=vo vw (r1.drop a.toNat) hc
    exact h _ _ _ g k
 | _=>exact h.elim
end
end A
namespace So
open PySem PySem.W PyProof.Rows
def GX{α : Type}(n:Nat)(lt:Nat→Nat→Bool):KasT α→(α→Prop)→Prop
 | .ret a,Q=>Q a
 | .ask i j k,Q=>i < n∧j < n∧GX n lt (k (lt i j)) Q
theorem mX{α β : Type}{n:Nat}{lt:Nat→Nat→Bool}{f:α→KasT β}{Q:β→Prop}:∀ {t:KasT α},GX n lt t (fun a=>GX n lt (f a) Q)→GX n lt (t.bind f) Q
 | .ret _,h=>h
 | .ask _ _ k,h=>⟨h.1,h.2.1,mX (t:=k _) h.2.2⟩
theorem gV{α : Type}{n:Nat}{lt:Nat→Nat→Bool}{Q Q':α→Prop}(m:∀ a,Q a→Q' a):∀ {t:KasT α},GX n lt t Q→GX n lt t Q'
 | .ret _,h=>m _ h
 | .ask _ _ k,h=>⟨h.1,h.2.1,gV m (t:=k _) h.2.2⟩
theorem Mw{α : Type}{n:Nat}{lt:Nat→Nat→Bool}{cmp:Nat→Nat→(Bool→Shared→Prop)→Shared→Prop}{s:Shared}(hc:∀ i j C,i < n→j < n→C (lt i j) s→cmp i j C s){Q:α→Prop}:∀ {t:KasT α},GX n lt t Q→t.kasWp cmp (fun a s'=>s'=s∧Q a) s
 | .ret _,h=>⟨rfl,h⟩
 | .ask i j k,h=>hc i j _ h.1 h.2.1 (Mw hc (t:=k _) h.2.2)
section
variable{n:Nat}{lt:Nat→Nat→Bool}
structure Zq(n:Nat)(lt:Nat→Nat→Bool):Prop where
 tot:∀ i j,i < n→j < n→i≠j→lt i j=true∨lt j i=true
 asy:∀ i j,i < n→j < n→lt i j=true→lt j i=false
 tr:∀ i j k,i < n→j < n→k < n→lt i j=true→lt j k=true→lt i k=true
abbrev at'(p:Array Nat)(i:Nat):Nat:=p.getD i 0
structure Pm(n:Nat)(p:Array Nat):Prop where
 pm:p.Perm (List.toArray (List.range n))
theorem Pm.size{p:Array Nat}(h:Pm n p):p.size=n:=by have:=h.pm.size_eq;simpa using this
theorem Gu{p:Array Nat}{i:Nat}(h:i < p.size):at' p i=p[i]:=by simp[at',Array.getD,h]
theorem Pm.bd{p:Array Nat}(h:Pm n p){i:Nat}(hi:i < n):at' p i < n:=by
 have hs:i < p.size:=by rw[h.size];exact hi
 rw[Gu hs]
 have:p[i]∈(List.toArray (List.range n)).toList:=(Array.perm_iff_toList_perm.mp h.pm).mem_iff.mp (by simp)
 simpa using this
theorem Pm.inj{p:Array Nat}(h:Pm n p){i j:Nat}(hi:i < n)(hj:j < n)(e:at' p i=at' p j):i=j:=by
 have si:i < p.size:=by rw[h.size];exact hi
 have sj:j < p.size:=by rw[h.size];exact hj
 rw[Gu si,Gu sj] at e
 have nd:p.toList.Nodup:=(Array.perm_iff_toList_perm.mp h.pm).nodup_iff.mpr (by simpa using List.nodup_range)
 have e2:p.toList[i]'(by simpa using si)=p.toList[j]'(by simpa using sj):=by simpa using e
 exact(List.getElem_inj nd).mp e2
def Sd(lt:Nat→Nat→Bool)(p:Array Nat)(k:Nat):Prop:=∀ i j,i < j→j < k→lt (at' p i) (at' p j)=true
def Dd(lt:Nat→Nat→Bool)(p:Array Nat)(k:Nat):Prop:=∀ i j,i < j→j < k→lt (at' p j) (at' p i)=true
variable(O:Zq n lt)
include O
theorem not_lt{p:Array Nat}(h:Pm n p){i j:Nat}(hi:i < n)(hj:j < n)(ne:i≠j)(e:lt (at' p i) (at' p j)=false):lt (at' p j) (at' p i)=true:=by
 rcases O.tot _ _ (h.bd hi) (h.bd hj) (fun z=>ne (h.inj hi hj z)) with z|z
 ·rw[e] at z;cases z
 ·exact z
theorem Sd.more{p:Array Nat}(h:Pm n p){k:Nat}(s:Sd lt p k)(hk:1≤k)(hkn:k < n)(e:lt (at' p (k - 1)) (at' p k)=true):Sd lt p (k+1):=fun i j hij hj=>by
 by_cases hjk:j < k
 ·exact s i j hij hjk
 ·obtain rfl:j=k:=by omega
  by_cases hi:i=j - 1
  ·subst hi;exact e
  ·exact O.tr _ _ _ (h.bd (by omega)) (h.bd (by omega)) (h.bd hkn) (s i (j - 1) (by omega) (by omega)) e
theorem Dd.more{p:Array Nat}(h:Pm n p){k:Nat}(s:Dd lt p k)(hk:1≤k)(hkn:k < n)(e:lt (at' p k) (at' p (k - 1))=true):Dd lt p (k+1):=fun i j hij hj=>by
 by_cases hjk:j < k
 ·exact s i j hij hjk
 ·obtain rfl:j=k:=by omega
  by_cases hi:i=j - 1
  ·subst hi;exact e
  ·exact O.tr _ _ _ (h.bd hkn) (h.bd (by omega)) (h.bd (by omega)) e (s i (j - 1) (by omega) (by omega))
theorem I9{p:Array Nat}(h:Pm n p):∀ (f k:Nat),1≤k→k+f≤n→Sd lt p k→GX n lt (kas_asc p f k) fun m=>k≤m∧m≤k+f∧Sd lt p m∧(m=k+f∨lt (at' p m) (at' p (m - 1))=true)
 | 0,k,_,_,s=>⟨Nat.le_refl _,Nat.le_refl _,s,.inl rfl⟩
 | f+1,k,h1,h2,s=>by
  refine⟨h.bd (by omega),h.bd (by omega),?_⟩
  cases e:lt (p.getD k 0) (p.getD (k - 1) 0) with
  | true=>exact⟨Nat.le_refl _,by omega,s,.inr e⟩
  | false =>
   dsimp only
   rw[if_neg Bool.false_ne_true]
   refine gV (fun m hm=>?_) (I9 h f (k+1) (by omega) (by omega) (Sd.more O h s h1 (by omega) (not_lt O h (by omega) (by omega) (by omega) e)))
   refine⟨by omega,by omega,hm.2.2.1,?_⟩
   rcases hm.2.2.2 with z|z
   ·exact .inl (by omega)
   ·exact .inr z
theorem J2{p:Array Nat}(h:Pm n p):∀ (f k:Nat),1≤k→k+f≤n→Dd lt p k→GX n lt (kas_desc f p k 0) fun r=>r.1=p∧k≤r.2.1∧r.2.1≤k+f∧r.2.2=0∧Dd lt p r.2.1
 | 0,k,_,_,s=>⟨rfl,Nat.le_refl _,Nat.le_refl _,rfl,s⟩
 | f+1,k,h1,h2,s=>by
  refine⟨h.bd (by omega),h.bd (by omega),?_⟩
  cases e:lt (p.getD k 0) (p.getD (k - 1) 0) with
  | true =>
   dsimp only
   rw[if_pos rfl,if_neg (by omega)]
   refine gV (fun r hr=>⟨hr.1,by omega,by omega,hr.2.2.2⟩) (J2 h f (k+1) (by omega) (by omega) (Dd.more O h s h1 (by omega) e))
  | false =>
   dsimp only
   rw[if_neg Bool.false_ne_true]
   refine⟨h.bd (by omega),h.bd (by omega),?_⟩
   dsimp only
   rw[show lt (p.getD (k - 1) 0) (p.getD k 0)=true from not_lt O h (by omega) (by omega) (by omega) e,if_pos rfl]
   exact⟨rfl,Nat.le_refl _,by show k≤_;omega,rfl,s⟩
theorem Q4{p:Array Nat}{k:Nat}(hk:k≤p.size)(i:Nat):at' (kas_rev p 0 k) i=if i < k then at' p (k - 1 - i) else at' p i:=by
 have e:=getElem?_mirror_all (xs:=p) (i:=0) (j:=k) hk i
 show (kas_rev p 0 k).getD i 0=_
 have g:∀ (q:Array Nat) (j:Nat),q.getD j 0=(q[j]?).getD 0:=fun q j=>by simp
 rw[g]
 unfold kas_rev
 rw[e]
 by_cases hi:i < k
 ·rw[if_pos ⟨Nat.zero_le _,hi⟩,if_pos hi,← g,show 0+k - 1 - i=k - 1 - i by omega]
 ·rw[if_neg (by omega),if_neg hi,← g]
theorem Nu{p:Array Nat}(h:Pm n p)(k:Nat):Pm n (kas_rev p 0 k):=⟨(mirror_perm _ _ _ _).trans h.pm⟩
theorem Rt{p:Array Nat}(h:Pm n p){k:Nat}(h1:1≤k)(h2:k≤n)(s:Dd lt p k):GX n lt (kas_tail3 k n p) fun r=>Pm n r.2∧1≤r.1∧r.1≤n∧Sd lt r.2 r.1:=by
 have sz:k≤p.size:=by rw[h.size];exact h2
 have s':Sd lt (kas_rev p 0 k) k:=fun i j hij hj=>by
  rw[Q4 O sz,Q4 O sz,if_pos (by omega),if_pos hj]
  exact s _ _ (by omega) (by omega)
 refine mX (gV (fun m hm=>?_) (I9 O (Nu O h k) (n - k) k h1 (by omega) s'))
 exact⟨Nu O h k,by omega,by omega,hm.2.2.1⟩
theorem FW{p:Array Nat}(h:Pm n p){k:Nat}(h2:k+1≤n)(s:Dd lt p (k+1)):GX n lt (kas_descPart k n p) fun r=>Pm n r.2∧1≤r.1∧r.1≤n∧Sd lt r.2 r.1:=by
 refine mX (gV (fun r hr=>?_) (J2 O h (n - (k+1)) (k+1) (by omega) (by omega) s))
 obtain⟨e1,l1,l2,e2,d⟩:=hr
 rw[e2,if_neg (by omega),e1]
 exact Rt O h (by omega) (by omega) d
theorem yW{p:Array Nat}(h:Pm n p)(h1:1≤n):GX n lt (kas_count n p) fun r=>Pm n r.2∧1≤r.1∧r.1≤n∧Sd lt r.2 r.1:=by
 refine mX (gV (fun m hm=>?_) (I9 O h (n - 1) 1 (Nat.le_refl _) (by omega) (fun i j hij hj=>by omega)))
 obtain⟨m1,m2,s,e⟩:=hm
 by_cases hn:m=n
 ·rw[if_pos (by simpa using hn)]
  exact⟨h,m1,by omega,s⟩
 ·rw[if_neg (by simpa using hn)]
  have e:=e.resolve_left (by omega)
  by_cases hg:m > 1
  ·rw[if_pos hg]
   refine⟨h.bd (by omega),h.bd (by omega),?_⟩
   dsimp only
   rw[show lt (p.getD 0 0) (p.getD (m - 1) 0)=true from s 0 (m - 1) (by omega) (by omega),if_pos rfl]
   exact⟨h,m1,by omega,s⟩
  ·rw[if_neg hg]
   obtain rfl:m=1:=by omega
   refine FW O h (by omega) fun i j hij hj=>?_
   obtain rfl:i=0:=by omega
   obtain rfl:j=1:=by omega
   exact e
theorem yl{p:Array Nat}(h:Pm n p){k:Nat}(hk:k < n)(s:Sd lt p k):∀ (f l r:Nat),l≤r→r≤k→r - l≤f→(∀ i,i < l→lt (at' p i) (at' p k)=true)→(∀ i,r≤i→i < k→lt (at' p k) (at' p i)=true) →
 GX n lt (kas_place p k f l r) fun m=>m≤k∧(∀ i,i < m→lt (at' p i) (at' p k)=true)∧(∀ i,m≤i→i < k→lt (at' p k) (at' p i)=true)
 | 0,l,r,h1,h2,h3,a,b=>by
  obtain rfl:l=r:=by omega
  exact⟨h2,a,b⟩
 | f+1,l,r,h1,h2,h3,a,b=>by
  unfold kas_place
  by_cases g:l ≥ r
  ·rw[if_pos g]
   obtain rfl:l=r:=by omega
   exact⟨h2,a,b⟩
  ·rw[if_neg g]
   refine⟨h.bd hk,h.bd (by omega),?_⟩
   cases e:lt (p.getD k 0) (p.getD ((l+r) / 2) 0) with
   | true =>
    dsimp only
    rw[if_pos rfl]
    refine yl h hk s f l ((l+r) / 2) (by omega) (by omega) (by omega) a fun i hi hk'=>?_
    by_cases z:i=(l+r) / 2
    ·subst z;exact e
    ·exact O.tr _ _ _ (h.bd hk) (h.bd (by omega)) (h.bd (by omega)) e (s _ _ (by omega) hk')
   | false =>
    dsimp only
    rw[if_neg Bool.false_ne_true]
    have e':=not_lt O h hk (by omega) (by omega) e
    refine yl h hk s f ((l+r) / 2+1) r (by omega) h2 (by omega) (fun i hi=>?_) b
    by_cases z:i=(l+r) / 2
    ·subst z;exact e'
    ·exact O.tr _ _ _ (h.bd (by omega)) (h.bd (by omega)) (h.bd hk) (s _ _ (by omega) (by omega)) e'
theorem Q6{p:Array Nat}{k d:Nat}(hk:k < p.size)(hd:d≤k)(i:Nat):at' (bubble p k d) i=if i=k - d then at' p k else if k - d < i∧i≤k then at' p (i - 1) else at' p i:=by
 have e:=getElem?_bubble hk d hd i
 have g:∀ (q:Array Nat) (j:Nat),q.getD j 0=(q[j]?).getD 0:=fun q j=>by simp
 show (bubble p k d).getD i 0=_
 rw[g,e]
 by_cases h1:i=k - d
 ·rw[if_pos h1,if_pos h1,← g]
 ·rw[if_neg h1,if_neg h1]
  by_cases h2:k - d < i∧i≤k
  ·rw[if_pos h2,if_pos h2,← g]
  ·rw[if_neg h2,if_neg h2,← g]
theorem QV:∀ (f:Nat) (p:Array Nat) (k:Nat),Pm n p→k+f≤n→Sd lt p k→GX n lt (kas_bin f p k) fun q=>Pm n q∧Sd lt q (k+f)
 | 0,p,k,h,_,s=>⟨h,s⟩
 | f+1,p,k,h,hk,s=>by
  have sz:k < p.size:=by rw[h.size];omega
  refine mX (gV (fun l hl=>?_) (yl O h (by omega) s k 0 k (by omega) (Nat.le_refl _) (by omega) (fun i hi=>by omega) (fun i h1 h2=>by omega)))
  obtain⟨l1,lo,hi⟩:=hl
  have s':Sd lt (bubble p k (k - l)) (k+1):=fun i j hij hj=>by
   rw[Q6 O sz (d:=k - l) (by omega),Q6 O sz (d:=k - l) (by omega),show k - (k - l)=l by omega]
   by_cases c1:i=l
   ·rw[if_pos c1,if_neg (by omega),if_pos (by omega)]
    exact hi _ (by omega) (by omega)
   ·rw[if_neg c1]
    by_cases c2:l < i∧i≤k
    ·rw[if_pos c2,if_neg (by omega),if_pos (by omega)]
     exact s _ _ (by omega) (by omega)
    ·rw[if_neg c2]
     by_cases c3:j=l
     ·rw[if_pos c3]
      exact lo _ (by omega)
     ·rw[if_neg c3]
      by_cases c4:l < j∧j≤k
      ·rw[if_pos c4]
       exact s _ _ (by omega) (by omega)
      ·rw[if_neg c4]
       exact s _ _ (by omega) (by omega)
  refine gV (fun q hq=>⟨hq.1,?_⟩) (QV f (bubble p k (k - l)) (k+1) ⟨(bubble_perm _ _ _).trans h.pm⟩ (by omega) s')
  rw[show k+(f+1)=k+1+f by omega];exact hq.2
theorem Rx(h1:1≤n):GX n lt (kas_sort n) fun q=>Pm n q∧Sd lt q n:=by
 refine mX (gV (fun r hr=>?_) (yW O ⟨Array.Perm.refl _⟩ h1))
 obtain⟨pm,r1,r2,s⟩:=hr
 by_cases hl:r.1 < n
 ·rw[if_pos hl]
  refine gV (fun q hq=>⟨hq.1,?_⟩) (QV O (n - max r.1 1) r.2 (max r.1 1) pm (by omega) (by rw[show max r.1 1=r.1 by omega];exact s))
  rw[show n=max r.1 1+(n - max r.1 1) by omega];exact hq.2
 ·rw[if_neg hl]
  exact⟨pm,by rw[show n=r.1 by omega];exact s⟩
end
end So
namespace So
open PySem PySem.W PyProof.Rows PySem.MeetsSeq3
def gD:List Int→List Int→Bool
 | [],[]=>false
 | [],_::_=>true
 | _::_,[]=>false
 | a::r,b::t=>if a == b then gD r t else decide (a < b)
section
variable{prog:Program}{w:World}{Ar:Around}
theorem wY{vs:List Value}{ns:List Int}(h:IntsAre vs ns):∀ {i:Nat} {n:Int},ns[i]? = some n→∃ t,vs[i]? = some (.int n t):=by
 induction h with
 | nil=>intro i n e;simp at e
 | cons a t h ih =>
  intro i n e
  cases i with
  | zero=>simp at e;subst e;exact⟨t,rfl⟩
  | succ i=>exact ih (by simpa using e)
theorem YQ{R:Result→Shared→Prop}{s:Shared}{l b:Addr}{us vs:List Value}{xs ys:List Int}{o o2:Obj}{n n2:Nat}(ho:s.heap.get? l=some o)(hd:o.data=.seq us.toArray n)(ho2:s.heap.get? b=some o2)(hd2:o2.data=.seq vs.toArray n2)(hu:IntsAre us xs)(hv:IntsAre vs ys) :
 ∀ (k i:Nat),xs.length - i≤k→i≤xs.length→i≤ys.length→R (.ok (.ret (.bool (gD (xs.drop i) (ys.drop i))))) s→codeAny (model prog w) Ar (.builtin "list.__eq__.loop" ⟨[.ref l,.ref b,rawInt i,rawInt 0],[]⟩) R s:=by
 have l1:=hu.length
 have l2:=hv.length
 have gx:∀ i,i < xs.length→∃ t,us.toArray[i]? = some (.int (xs.getD i 0) t):=fun i hi=>by
  obtain⟨t,e⟩:=wY hu (i:=i) (n:=xs.getD i 0) (by simp[hi])
  exact⟨t,by simpa using e⟩
 have gy:∀ i,i < ys.length→∃ t,vs.toArray[i]? = some (.int (ys.getD i 0) t):=fun i hi=>by
  obtain⟨t,e⟩:=wY hv (i:=i) (n:=ys.getD i 0) (by simp[hi])
  exact⟨t,by simpa using e⟩
 have nx:∀ i,¬ i < xs.length→us.toArray[i]? = none:=fun i hi=>by simp;omega
 have ny:∀ i,¬ i < ys.length→vs.toArray[i]? = none:=fun i hi=>by simp;omega
 have Qm:∀ i,i=xs.length→i≤ys.length→decide (us.toArray.size < vs.toArray.size)=gD (xs.drop i) (ys.drop i):=fun i hi hj=>by
  rw[List.drop_eq_nil_of_le (by omega:xs.length≤i),List.size_toArray,List.size_toArray,l1,l2]
  by_cases h:i < ys.length
  ·rw[List.drop_eq_getElem_cons h]
   simp[gD];omega
  ·rw[List.drop_eq_nil_of_le (by omega:ys.length≤i)]
   simp[gD];omega
 have WQ:∀ i,i < xs.length→i=ys.length→decide (us.toArray.size < vs.toArray.size)=gD (xs.drop i) (ys.drop i):=fun i hi hj=>by
  rw[List.drop_eq_nil_of_le (by omega:ys.length≤i),List.drop_eq_getElem_cons hi,List.size_toArray,List.size_toArray,l1,l2]
  simp[gD];omega
 have fin:∀ (i:Nat),(us.toArray[i]? = none∨vs.toArray[i]? = none)→R (.ok (.ret (.bool (decide (us.toArray.size < vs.toArray.size))))) s→codeAny (model prog w) Ar (.builtin "list.__eq__.loop" ⟨[.ref l,.ref b,rawInt i,rawInt 0],[]⟩) R s:=fun i hn h=>by
  refine codeAny_builtin entry_eq_loop (by
   rw[Around.under_plainId plain_eq_loop _]
   unfold Builtin.«list.__eq__.loop»
   show wpAny _ _ (Builtin.List.listItems (.ref l) >>= _) _ _ _
   refine wpAny_bind (listItems_at ho hd (wpAny_bind (listItems_at ho2 hd2 ?_)))
   simp only[Int.toNat_natCast]
   rcases hn with e|e
   ·rw[e]
    dsimp only
    refine wpAny_bind (listItems_at ho hd (wpAny_bind (listItems_at ho2 hd2 ?_)))
    exact wpAny_pure h
   ·rw[e]
    cases us.toArray[i]? <;>
    ·dsimp only
     refine wpAny_bind (listItems_at ho hd (wpAny_bind (listItems_at ho2 hd2 ?_)))
     exact wpAny_pure h)
 intro k
 induction k with
 | zero =>
  intro i hk h1 h2 h
  refine fin i (.inl (nx i (by omega))) ?_
  rw[Qm i (by omega) h2];exact h
 | succ k ih =>
  intro i hk h1 h2 h
  by_cases hi:i < xs.length
  ·by_cases hj:i < ys.length
   ·obtain⟨t,e1⟩:=gx i hi
    obtain⟨u,e2⟩:=gy i hj
    have dx:xs.drop i=xs.getD i 0::xs.drop (i+1):=by rw[List.drop_eq_getElem_cons hi];simp[hi]
    have dy:ys.drop i=ys.getD i 0::ys.drop (i+1):=by rw[List.drop_eq_getElem_cons hj];simp[hj]
    rw[dx,dy] at h
    refine codeAny_builtin entry_eq_loop (by
     rw[Around.under_plainId plain_eq_loop _]
     unfold Builtin.«list.__eq__.loop»
     show wpAny _ _ (Builtin.List.listItems (.ref l) >>= _) _ _ _
     refine wpAny_bind (listItems_at ho hd (wpAny_bind (listItems_at ho2 hd2 ?_)))
     simp only[Int.toNat_natCast]
     rw[e1,e2]
     dsimp only
     refine wpAny_bind (wpAny_eqBool_int ?_)
     cases hb:(xs.getD i 0 == ys.getD i 0) with
     | true =>
      rw[if_pos rfl]
      rw[gD,hb,if_pos rfl] at h
      refine wpAny_pure ⟨plainId_quiet plain_eq_loop _,?_⟩
      have:=ih (i+1) (by omega) hi hj h
      rw[show rawInt ((i+1:Nat):Int)=rawInt ((i:Int)+1) from by rw[show ((i+1:Nat):Int)=(i:Int)+1 by omega]] at this
      exact this
     | false =>
      rw[if_neg Bool.false_ne_true]
      rw[gD,hb,if_neg Bool.false_ne_true] at h
      refine wpAny_bind (listItems_at ho hd (wpAny_bind (listItems_at ho2 hd2 ?_)))
      rw[e1,e2]
      show wpAny _ _ (richCompare .Lt _ _ >>= _) _ _ _
      exact wpAny_bind (show wpAny _ _ (compareOp .Lt _ _) _ _ _ from wpAny_lt_int (wpAny_pure h)))
   ·refine fin i (.inr (ny i hj)) ?_
    rw[WQ i hi (by omega)];exact h
  ·refine fin i (.inl (nx i hi)) ?_
   rw[Qm i (by omega) h2];exact h
theorem Pr{E:Value→Shared→Prop}{s:Shared}{l b:Addr}{us vs:List Value}{xs ys:List Int}{o o2:Obj}{n n2:Nat}{Q:Bool→Shared→Prop}(ho:s.heap.get? l=some o)(hc:o.cls=.type "list")(hd:o.data=.seq us.toArray n)(ho2:s.heap.get? b=some o2)(hc2:o2.cls=.type "list")(hd2:o2.data=.seq vs.toArray n2)(hu:IntsAre us xs)(hv:IntsAre vs ys)
 (hun:Ar.units < cLine) (h:Q (gD xs ys) s):wpAny (model prog w) Ar (keyLt' oneType' (.ref l) (.ref b)) Q E s:=by
 have t1:s.TypeIs (.ref l) "list" := ⟨_,ho,hc⟩
 have t2:s.TypeIs (.ref b) "list" := ⟨_,ho2,hc2⟩
 rw[keyLt'_oneType,oneLt'_eq]
 simp only[if_true]
 refine wpAny_bind (wpAny_cRoomFor hun ?_)
 refine wpAny_bind (wpAny_callSpecialIfBound?_slot t1 PySem.F.slot_list_lt (wpAny_call (codeAny_call_builtin PySem.F.slot_list_lt.plain PySem.F.entry_list_lt (PySem.F.slot_list_lt.check _ _ _ _ _ _ _ _ t1 (PySem.F.args_list_lt_2 _ _) ?_))))
 unfold Builtin.«list.__lt__»
 have sub:isSubtype (.type "list") (.type "list")=pure true:=by rw[isSubtype_type];kernel_rfl
 show wpAny _ _ (isInstance (.ref b) (.type "list") >>= _) _ _ _
 refine wpAny_bind (wpAny_isInstance t2 sub ?_)
 refine wpAny_pure ⟨plainId_quiet plain_eq_loop _,?_⟩
 refine YQ ho hd ho2 hd2 hu hv xs.length 0 (by omega) (Nat.zero_le _) (Nat.zero_le _) ?_
 exact wpAny_truthy_bool h
end
end So
namespace So
open PySem PySem.W PyProof.Rows
section
variable{prog:Program}{w:World}{A:Around}{E:Value→Shared→Prop}{s:Shared}
def tm(n:Nat):List Addr:=[n,n+1,n+2,n+3]
def tY(lt:Nat→Nat→Bool)(vs out:List Value):Prop:=∃ p:Array Nat,Pm vs.length p∧Sd lt p vs.length∧out=p.toList.map fun i=>vs.getD i Value.none
theorem tY.len{lt:Nat→Nat→Bool}{vs out:List Value}(h:tY lt vs out):out.length=vs.length:=by
 obtain⟨p,pm,_,rfl⟩:=h
 rw[List.length_map,Array.length_toList,pm.size]
theorem xN{a kS:Addr}{e e1:Nat}{ks out:List Value}{st:SortSt}{P:PySem.Fin→Shared→Prop}(hk:s.heap.get? kS=some (seqObj "list" (List.toArray ks) e))(ha:s.heap.get? a=some (seqObj "list" #[] e1))(ne:a≠kS)
 (hks:ks.length < 64) (ho:out.length < 64) (hout:(arrOf st).map (·.2)=List.toArray out) (hf:failedOf st=none)
 (h:∀ h' c,(∀ b o,b≠a→b≠kS→s.heap.get? b=some o→h'.get? b=some o)→(∃ o,h'.get? kS=some o)→h'.get? a=some (seqObj "list" (List.toArray out) c)→P (.done (.ret .none)) { s with heap:=h' }) :
 wpAny (model prog w) A (ksk_tail a false e1 (.ref kS) st) P E s:=by
 have s1:=Heap.SameBut.update s.heap kS (Obj.mapSeq fun _=>(#[]:Array Value))
 have ha1:=(s1.2 a ne).trans ha
 have s2:=Heap.SameBut.update (s.heap.update kS (Obj.mapSeq fun _=>(#[]:Array Value))) a (Obj.mapSeq fun _=>List.toArray out)
 obtain⟨c,hc⟩ : ∃ c,((s.heap.update kS (Obj.mapSeq fun _=>(#[]:Array Value))).update a (Obj.mapSeq fun _=>List.toArray out)).get? a=some (seqObj "list" (List.toArray out) c):=⟨_,get?_update_seq ha1 fun _=>List.toArray out⟩
 unfold ksk_tail
 dsimp only
 rw[hout]
 refine wpAny_bind (listUpdate_at hk rfl ?_ (by rw[List.size_toArray,sizeLine_eq];omega) (Nat.zero_le _))
 refine wpAny_bind (wpAny_letGo (wpAny_bind (seqEpoch_at ha1 rfl ?_)))
 refine wpAny_bind (listUpdate_at ha1 rfl ?_ (Nat.zero_le _) (by show (List.toArray out).size≤_;rw[List.size_toArray,sizeLine_eq];omega))
 rw[hf]
 simp only[bne_self_eq_false,Bool.false_eq_true,if_false]
 exact wpAny_pure (h _ c (fun b o n1 n2 q=>(s2.2 b n1).trans ((s1.2 b n2).trans q)) ⟨_,(s2.2 kS (Ne.symm ne)).trans (get?_update_seq hk fun _=>#[])⟩ hc)
theorem HR{a kS f:Addr}{e1:Nat}{P:PySem.Fin→Shared→Prop}(J:List Value→Shared→Prop){vs:List Value}(h64:vs.length < 64)
 (jk:∀ ks s1 h',J ks s1→(∀ b o,b≠kS→s1.heap.get? b=some o→h'.get? b=some o)→(∃ o,h'.get? kS=some o)→J ks { s1 with heap:=h' })
 (jc:∀ i x ks s1,vs[i]? = some x→ks.length=i→J ks s1→wpAny (model prog w) A (call (.ref f) [x]) (fun k s2=>J (ks++[k]) s2∧∀ b o,(b=a∨b=kS)→s1.heap.get? b=some o→s2.heap.get? b=some o) (fun _ _=>False) s1)
 (ne:a≠kS) (hk:s.heap.get? kS=some (seqObj "list" #[] 0)) (ha:s.heap.get? a=some (seqObj "list" #[] e1)) (j0:J [] s)
 (fin:∀ ks e s1,ks.length=vs.length→J ks s1→s1.heap.get? kS=some (seqObj "list" (List.toArray ks) e)→s1.heap.get? a=some (seqObj "list" #[] e1)→wpAny (model prog w) A (ksk_end a false vs.toArray e1 (.ref kS) (List.toArray ks)) P E s1) :
 wpAny (model prog w) A (ksk_rest a (.ref f) false vs.toArray e1 (.ref kS)) P E s:=by
 unfold ksk_rest
 refine wpAny_bind (wpAny_rule ?_)
 rw[List.forIn_toArray]
 refine wpAny_bind (ksk_fold (I:=fun i s1=>∃ ks e,ks.length=i∧J ks s1∧s1.heap.get? kS=some (seqObj "list" (List.toArray ks) e)∧s1.heap.get? a=some (seqObj "list" #[] e1)) vs 0 s ⟨[],0,rfl,j0,hk,ha⟩ (fun j x s1 hx hI=>?_) fun s1 hI=>?_)
 ·obtain⟨ks,e,hl,hJ,hk1,ha1⟩:=hI
  rw[Nat.zero_add] at hl ⊢
  have hlt:j < vs.length:=(List.getElem?_eq_some_iff.mp hx).1
  refine wpAny_bind (wpAny_attempt (wpAny_mono (jc j x ks s1 hx hl hJ) (fun k s2 h2=>?_) fun _ _ z=>z.elim))
  obtain⟨hJ2,kp⟩:=h2
  have hk2:=kp kS _ (.inr rfl) hk1
  have ha2:=kp a _ (.inl rfl) ha1
  have su:=Heap.SameBut.update s2.heap kS (Obj.mapSeq (·.push k))
  have ea:(List.toArray ks).push k=List.toArray (ks++[k]):=by simp
  obtain⟨c2,hc2⟩ : ∃ c2,(s2.heap.update kS (Obj.mapSeq (·.push k))).get? kS=some (seqObj "list" (List.toArray (ks++[k])) c2):=⟨_,by rw[← ea];exact get?_update_seq hk2 (·.push k)⟩
  dsimp only
  refine wpAny_bind (listUpdate_at hk2 rfl ?_ (by rw[List.size_toArray,sizeLine_eq];omega) (Nat.le_trans (Nat.le_of_eq (Array.size_push ..)) (by rw[List.size_toArray,sizeLine_eq];omega)))
  exact wpAny_pure ⟨rfl,ks++[k],c2,by rw[List.length_append,hl];rfl,jk _ _ _ hJ2 (fun b o n q=>(su.2 b n).trans q) ⟨_,hc2⟩,hc2,(su.2 a ne).trans ha2⟩
 ·obtain⟨ks,e,hl,hJ,hk1,ha1⟩:=hI
  refine wpAny_bind (listItems_at hk1 rfl ?_)
  exact fin ks e s1 (by simpa using hl) hJ hk1 ha1
theorem Lx{a kS:Addr}{e e1:Nat}{ks vs:List Value}{lt:Nat→Nat→Bool}{P:PySem.Fin→Shared→Prop}(hl:ks.length=vs.length)(h64:vs.length < 64)(O:Zq vs.length lt)
 (hkk:2≤vs.length→∀ (Q:SortKind→Shared→Prop),Q oneType' s→wpAny (model prog w) A (keyKind' (List.toArray ks)) Q (fun _ _=>False) s)
 (hcmp:∀ i j C,i < vs.length→j < vs.length→C (lt i j) s→kas_ask prog w A oneType' ks i j C s)
 (hk:s.heap.get? kS=some (seqObj "list" (List.toArray ks) e)) (ha:s.heap.get? a=some (seqObj "list" #[] e1)) (ne:a≠kS)
 (h:∀ out h' c,tY lt vs out→(∀ b o,b≠a→b≠kS→s.heap.get? b=some o→h'.get? b=some o)→(∃ o,h'.get? kS=some o)→h'.get? a=some (seqObj "list" (List.toArray out) c)→P (.done (.ret .none)) { s with heap:=h' }) :
 wpAny (model prog w) A (ksk_end a false vs.toArray e1 (.ref kS) (List.toArray ks)) P E s:=by
 have Tq:∀ {n:Nat},Pm n (List.toArray (List.range n)):=⟨Array.Perm.refl _⟩
 unfold ksk_end
 dsimp only
 rw[if_neg Bool.false_ne_true,if_neg Bool.false_ne_true]
 by_cases h2:vs.toArray.size < 2
 ·rw[if_pos h2,if_pos h2]
  rw[List.size_toArray] at h2
  refine wpAny_bind (wpAny_pure ?_)
  rw[StateT.run_pure]
  refine wpAny_bind (wpAny_pure ?_)
  dsimp only
  have hout:tY lt vs vs:=⟨List.toArray (List.range vs.length),Tq,fun i j hij hj=>by omega,by
   apply List.ext_getElem (by simp)
   intro i h1 h2
   simp[h1]⟩
  refine xN (out:=vs) hk ha ne (by omega) h64 ?_ rfl fun h' c kp ex hc=>h vs h' c hout kp ex hc
  show ((List.toArray ks).zip vs.toArray).map (·.2)=vs.toArray
  apply Array.toList_inj.mp
  rw[Array.toList_map,Array.toList_zip]
  simp only[]
  rw[List.map_snd_zip (by omega)]
 ·rw[if_neg h2,if_neg h2]
  rw[List.size_toArray] at h2
  refine wpAny_bind (wpAny_mono (hkk (by omega) (fun κ s'=>κ = oneType'∧s'=s) ⟨rfl,rfl⟩) (fun κ s' hh=>?_) fun _ _ z=>z.elim)
  obtain⟨rfl,rfl⟩:=hh
  have wp:=Mw (cmp:=kas_ask prog w A oneType' ks) (s:=s') hcmp (Rx O (by omega))
  refine wpAny_bind (wpAny_mono (kat_run (E:=E) (Q:=fun st' s2=>s2=s'∧∃ p:Array Nat,Pm vs.length p∧Sd lt p vs.length∧arrOf st'=p.map (kas_item (ks.toArray.zip vs.toArray))∧failedOf st'=none) hl (by omega) h64 (fun p st' s2 _ a2 a3 a4=>⟨a4.1,p,a4.2.1,a4.2.2,a2,a3⟩) wp) ?_ fun _ _ z=>z)
  rintro ⟨⟨⟩,st'⟩ s2 ⟨rfl,p,pm,sd,har,hf⟩
  dsimp only
  have hout:tY lt vs (p.toList.map fun i=>vs.getD i Value.none):=⟨p,pm,sd,rfl⟩
  exact xN hk ha ne (by omega) (by rw[hout.len];exact h64) (kat_snds hl har) hf fun h' c kp ex hc=>h _ h' c hout kp ex hc
theorem BX{f l:Addr}{vs:List Value}{Q:Value→Shared→Prop}(J:List Value→Shared→Prop)(hl:s.heap.IsList l vs.toArray)(h64:vs.length < 64)
 (j0:∀ h':Heap,(∀ b o,s.heap.get? b=some o→h'.get? b=some o)→(∀ b∈tm s.heap.objs.size,∃ o,h'.get? b=some o)→J [] { s with heap:=h' })
 (jk:∀ ks s1 h',J ks s1→(∀ b o,b∉tm s.heap.objs.size→s1.heap.get? b=some o→h'.get? b=some o)→(∀ b o,s1.heap.get? b=some o→∃ o',h'.get? b=some o')→J ks { s1 with heap:=h' })
 (jc:∀ i x ks s1,vs[i]? = some x→ks.length=i→J ks s1→wpAny (model prog w) A.in1.in1 (call (.ref f) [x]) (fun k s2=>J (ks++[k]) s2∧∀ b o,b∈tm s.heap.objs.size→s1.heap.get? b=some o→s2.heap.get? b=some o) (fun _ _=>False) s1)
 (je:∀ ks s1,ks.length=vs.length→J ks s1→∃ lt,Zq vs.length lt∧(2≤vs.length→∀ (Q:SortKind→Shared→Prop),Q oneType' s1→wpAny (model prog w) A.in1.in1 (keyKind' (List.toArray ks)) Q (fun _ _=>False) s1) ∧
  (∀ i j C,i < vs.length→j < vs.length→C (lt i j) s1→kas_ask prog w A.in1.in1 oneType' ks i j C s1) ∧
  ∀ out h' c,tY lt vs out→(∀ b o,b∉tm s.heap.objs.size→s1.heap.get? b=some o→h'.get? b=some o)→(∀ b o,s1.heap.get? b=some o→∃ o',h'.get? b=some o')→h'.get? (s.heap.objs.size+1)=some (seqObj "list" (List.toArray out) c)→Q (.ref (s.heap.objs.size+1)) { s1 with heap:=h' }) :
 wpAny (model prog w) A (call (.builtin "sorted") [.ref l] [(Str.ofString "key", .ref f)]) Q E s:=by
 refine call_function_entry_kw kind_sorted plain_sorted entry_sorted (ksk_s1 _ _) ?_
 unfold Builtin.«sorted»
 refine wpAny_bind (m:=checkCount "sorted" 1 1 _) (wpAny_pure ?_)
 refine wpAny_bind (collect_list hl ?_ (by rw[sizeLine_eq];omega))
 refine wpAny_bind (wpAny_newList ?_ (by rw[sizeLine_eq];omega))
 generalize hn:s.heap.objs.size=n at *
 generalize hh1:((s.heap.push (seqObj "list" #[] 0)).update n (Obj.mapSeq (· ++ vs.toArray)))=h1
 have hsz:h1.objs.size=n+1:=by rw[← hh1,Heap.size_update,size_push',hn]
 have k1:∀ b o,s.heap.get? b=some o→h1.get? b=some o:=fun b o q=>by
  have hlt:b < n:=by rw[← hn];exact Heap.lt_size q
  rw[← hh1,Heap.get?_update_ne _ _ _ _ (Nat.ne_of_lt hlt),Heap.get?_push_ne _ _ _ (by rw[hn];exact Nat.ne_of_lt hlt)]
  exact q
 have hoL:(h1.push (seqObj "list" vs.toArray 0)).get? (n+1)=some (seqObj "list" vs.toArray 0):=by rw[← hsz];exact Heap.get?_push_size _ rfl
 show wpAny _ _ _ _ _ { s with heap:=h1.push (seqObj "list" vs.toArray 0) }
 rw[hsz]
 refine wpAny_bind (wpAny_holding (wpAny_call_entry_kw slot_list_sort ⟨_,hoL,rfl⟩ entry_list_sort ?_ (ksk_l1 _ _)))
 show wpAny (model prog w) A.in1.in1 (Builtin.«list.sort» ⟨[.ref (n+1)],[(Str.ofString "key", .ref f)]⟩) _ _ _
 rw[ksk_t1]
 generalize hh2:h1.push (seqObj "list" vs.toArray 0)=h2 at hoL ⊢
 have k2:∀ b o,s.heap.get? b=some o→h2.get? b=some o:=fun b o q=>by rw[← hh2];exact Heap.get?_push_of_some _ (k1 b o q)
 have z2:h2.objs.size=n+2:=by rw[← hh2,Heap.size_push,hsz]
 obtain⟨e1,ho1⟩ : ∃ e1,(h2.update (n+1) (Obj.mapSeq fun _=>(#[]:Array Value))).get? (n+1)=some (seqObj "list" #[] e1):=⟨_,get?_update_seq hoL fun _=>#[]⟩
 have su:=Heap.SameBut.update h2 (n+1) (Obj.mapSeq fun _=>(#[]:Array Value))
 unfold ksk_tree
 refine wpAny_bind (listItems_at (s:={ s with heap:=h2 }) hoL rfl ?_)
 refine wpAny_bind (listUpdate_at (s:={ s with heap:=h2 }) hoL rfl ?_ (by rw[List.size_toArray,sizeLine_eq];omega) (Nat.zero_le _))
 refine wpAny_bind (seqEpoch_at (s:={ s with heap:=h2.update (n+1) (Obj.mapSeq fun _=>(#[]:Array Value)) }) ho1 rfl ?_)
 refine wpAny_bind (wpAny_newTuple ?_ (by show vs.length≤_;rw[sizeLine_eq];omega))
 refine wpAny_bind (wpAny_newList ?_ (Nat.zero_le _))
 refine wpAny_holding ?_
 generalize hh3:h2.update (n+1) (Obj.mapSeq fun _=>(#[]:Array Value))=h3 at ho1 su ⊢
 have z3:h3.objs.size=n+2:=by rw[← hh3,Heap.size_update,z2]
 have z4:(h3.push (seqObj "tuple" vs.toArray 0)).objs.size=n+3:=by rw[Heap.size_push,z3]
 show wpAny (model prog w) A.in1.in1 (ksk_rest (n+1) (.ref f) false vs.toArray e1 (.ref (h3.push (seqObj "tuple" vs.toArray 0)).objs.size)) _ _ { s with heap:=(h3.push (seqObj "tuple" vs.toArray 0)).push (seqObj "list" #[] 0) }
 rw[z4]
 have aag:∀ b o,s.heap.get? b=some o→((h3.push (seqObj "tuple" vs.toArray 0)).push (seqObj "list" #[] 0)).get? b=some o:=fun b o q=>by
  have hlt:b < n:=by rw[← hn];exact Heap.lt_size q
  exact Heap.get?_push_of_some _ (Heap.get?_push_of_some _ ((su.2 b (Nat.ne_of_lt (Nat.lt_succ_of_lt hlt))).trans (k2 b o q)))
 refine HR (kS:=n+3) (a:=n+1) J h64 (fun ks s1 h' hJ kp ex=>jk ks s1 h' hJ (fun b o hb q=>kp b o (fun z=>hb (by simp[tm,z])) q) fun b o q=>by
  by_cases z:b=n+3
  ·rw[z];exact ex
  ·exact⟨o,kp b o z q⟩)
  (fun i x ks s1 hx hl' hJ=>wpAny_mono (jc i x ks s1 hx hl' hJ) (fun k s2 h2=>⟨h2.1,fun b o hb q=>h2.2 b o (by rcases hb with z|z<;>simp[tm,z]) q⟩) fun _ _ z=>z) (show (n+1:Nat)≠n+3 by omega)
  (by rw[← z4];exact Heap.get?_push_size _ rfl) (Heap.get?_push_of_some _ (Heap.get?_push_of_some _ ho1)) (j0 _ aag fun b hb=>?ex) fun ks e s1 hlk hJ hk1 ha1=>?_
 case ex =>
  have e0:∃ o,h3.get? n=some o:=by
   have q0:(s.heap.push (seqObj "list" #[] 0)).get? n=some (seqObj "list" #[] 0):=by rw[← hn];exact Heap.get?_push_size _ rfl
   obtain⟨o1,q1⟩ : ∃ o1,h1.get? n=some o1:=by rw[← hh1];exact⟨_,get?_update_seq q0 (· ++ vs.toArray)⟩
   exact⟨_,(su.2 n (show (n:Nat)≠n+1 by omega)).trans (by rw[← hh2];exact Heap.get?_push_of_some _ q1)⟩
  simp only[tm,List.mem_cons,List.not_mem_nil,or_false] at hb
  rcases hb with rfl|rfl|rfl|rfl
  ·obtain⟨o,q⟩:=e0
   exact⟨o,Heap.get?_push_of_some _ (Heap.get?_push_of_some _ q)⟩
  ·exact⟨_,Heap.get?_push_of_some _ (Heap.get?_push_of_some _ ho1)⟩
  ·exact⟨_,Heap.get?_push_of_some _ (by rw[← z3];exact Heap.get?_push_size _ rfl)⟩
  ·exact⟨_,by rw[← z4];exact Heap.get?_push_size _ rfl⟩
 obtain⟨lt,O,hkk,hcmp,fin⟩:=je ks s1 hlk hJ
 refine Lx hlk h64 O hkk hcmp hk1 ha1 (show (n+1:Nat)≠n+3 by omega) fun out h' c so kp ex hc=>?_
 exact⟨_,rfl,wpAny_pure ⟨_,rfl,fin out h' c so (fun b o hb q=>kp b o (fun z=>hb (by simp[tm,z])) (fun z=>hb (by simp[tm,z])) q) (fun b o q=>by
  by_cases y1:b=n+1
  ·rw[y1];exact⟨_,hc⟩
  ·by_cases y2:b=n+3
   ·rw[y2];exact ex
   ·exact⟨o,kp b o y1 y2 q⟩) hc⟩⟩
end
end So
namespace L2
open PySem PySem.Spec PyProof.Rows
def cxL(X:Cx)(A:Around)(N':List Str)(env:Env)(s:Shared)(H:Hp):Cx :=
 { X with A:=A.deeper env,N:=N',s₀:=s,H₀:=H,env:=env,outer:=X.stack,stack:=env::X.stack,ex:=[],fn:=fun _=>false,calm:=true,pn:=[],xe:=fun _ _=>False }
abbrev CQ(qual:Str)(scope:Scope)(s:Shared)(f c':Addr)(cl:List (Str×Addr)):Env:=PySem.W.envX qual scope s.heap.objs.size f (.ref c') cl
structure Bm(X:Cx)(x:Str)(ρ : List Nat)(N':List Str)(sc:Scope)(cl:List (Str×Addr)):Prop where
 kind:sc.kind=.function
 co:sc.isCoroutine=false
 gen:sc.isGenerator=false
 yu:∀ y∈sc.names,y.2≠.cell
 par:sc.names.lookup x=some .local
 clo:∀ y c,cl.lookup y=some c→X.env.cells.lookup y=some c
 has:∀ y,sc.names.lookup y=some .free→∃ c,cl.lookup y=some c
 N:∃ ys,N'=x::ys∧ys.length = ρ.length∧∀ (i j:Nat) y,ρ[i]? = some j→ys[i]? = some y→X.N[j]? = some y∧sc.names.lookup y=some .free∧(X.env.kindOf y=some .cell∨X.env.kindOf y=some .free)
section
variable{X:Cx}{pins:List (Addr×Obj)}{σ : St}{H:Hp}{s:Shared}{A:Around}{k:Nat}{qual x:Str}{ps:Arguments}{body:Expr}{sc:Scope}{cl:List (Str×Addr)}{pm ctv:Value}{f c':Addr}{ρ : List Nat}{N':List Str}
def lR(ρ : List Nat)(σ : St)(v:V):St:=some v :: ρ.map fun j=>(σ[j]?).join
theorem SX{h1:Heap}{tk:Nat}{v:V}{u:Value}(I:Inv X pins σ H s)(hA:A.frames=some X.stack)(hd:A.handled=none)(S:Bm X x ρ N' sc cl)(rv:RelV v u)
 (hns:h1.Ns s.heap.objs.size fun y=>[(x,u)].reverse.lookup y) (hk:∀ b o,s.heap.get? b=some o→h1.get? b=some o) :
 Inv (cxL X A N' (CQ qual sc s f c' cl) s H) [] (lR ρ σ v) H { s with heap:=h1,toks:=tk }:=by
 obtain⟨ys,eN,el,ix⟩:=S.N
 have noA:∀ b:Addr,b∉([]:List Addr):=fun b z=>absurd z (by simp)
 refine⟨⟨I.mod,S.kind,rfl,rfl,Nat.le_refl _,fun y z c h1 h2=>I.ok.inj y z c (S.clo y c h1) (S.clo z c h2),fun y hy=>?_,fun y c z=>(nomatch z),fun _=>hd,Around.frames_deeper hA,.inr ⟨rfl,rfl⟩,fun b z=>absurd z (noA b),I.bs,Nat.le_trans I.ok.bsz I.sz,fun b _ _=>noA b,fun b z=>absurd z (noA b),I.stack,I.BW⟩,
  rfl,I.bare,Un.kept hk,⟨_,hns,fun i y w h2 h3 h4=>?_⟩,fun y c e=>?_,I.hok.fresh (Nat.le_refl _),fun y c e=>I.nR y c (S.clo y c e),fun p hp=>absurd (show p∈([]:List (Addr×Obj)) from hp) (by simp),I.hok.kept hk,?_⟩
 ·have hy:sc.names.lookup y=some .cell∨sc.names.lookup y=some .free:=hy
  rcases hy with hy|hy
  ·exact absurd rfl (S.yu _ (PySem.mem_of_lookup hy))
  ·exact S.has y hy
 ·have h2:N'[i]? = some y:=h2
  subst eN
  cases i with
  | zero =>
   have e:x=y:=by simpa using h2
   subst e
   have e2:v=w:=by simpa [lR] using h3
   subst e2
   exact⟨u,rv,.inl ⟨S.par,by simp⟩⟩
  | succ i =>
   have hy:ys[i]? = some y:=by simpa using h2
   have h3:(ρ.map fun j=>(σ[j]?).join)[i]? = some (some w):=by simpa [lR] using h3
   rw[List.getElem?_map] at h3
   obtain⟨j,hj,e⟩:=Option.map_eq_some_iff.mp h3
   have e2:σ[j]? = some (some w):=by
    cases q:σ[j]? with
    | none=>rw[q] at e;cases e
    | some z=>rw[q] at e;exact congrArg some e
   obtain⟨n1,n2,n3⟩:=ix i j y hj hy
   obtain⟨m,hm,hl⟩:=I.loc
   have vis:ZR X.env.scope y:=by
    rcases n3 with z|z
    ·exact .inr (.inl z)
    ·exact .inr (.inr z)
   obtain⟨u2,r2,lk⟩:=hl j y w n1 e2 vis
   refine⟨u2,r2,.inr ⟨.inr n2,?_⟩⟩
   obtain⟨c,hc⟩:=S.has y n2
   refine⟨c,hc,?_⟩
   have hX:=S.clo y c hc
   rcases lk with ⟨z,_⟩|⟨_,c2,e3,ic⟩
   ·rcases n3 with y1|y1
    ·rw[z] at y1;cases y1
    ·rw[z] at y1;cases y1
   ·rw[hX] at e3;cases e3
    obtain⟨o,ho,hd⟩:=ic
    exact⟨o,hk _ _ ho,hd⟩
 ·obtain⟨v2,o,ho,hd⟩:=I.cell y c (S.clo y c e)
  exact⟨v2,o,hk _ _ ho,hd⟩
 ·subst eN
  show (lR ρ σ v).length=(x::ys).length
  simp[lR,el]
theorem SQ{u:Value}{v:V}{tb:TE}{Q:VK}(I:Inv X pins σ H s)(hA:A.frames=some X.stack)(hr:jx (k+1) A)(S:Bm X x ρ N' sc cl)
 (ho:s.heap.get? f=some (PySem.W.kla_obj "<lambda>" qual ps body sc cl pm c' ctv)) (hcd:s.heap.CodeRec (.ref c') qual)
 (hbind:bindArgs (PySem.W.kla_fn "<lambda>" qual ps body sc cl pm (.ref c') ctv) ⟨[u],[]⟩=pure [(x,u)]) (rv:RelV v u)
 (hb:∀ env:Env,jx k (A.deeper env)→env=CQ qual sc s f c' cl→PE (cxL X A N' env s H) body tb) (h:tb (lR ρ σ v) H Q) :
 wpAny (model X.prog X.w) A (call (.ref f) [u]) (CE X.stack X.prog X.w H s Q) (fun _ _=>False) s:=by
 refine wpAny_call (PySem.W.kla_callFunE hr.depth ho rfl S.co S.gen rfl hcd ?_)
 rw[hbind]
 refine wpAny_pure (wpAny_newFunctionEnv S.yu (fun y hy=>by
  have e:y=(x,u):=by simpa using hy
  rw[e];exact S.par) (fun h1 hns hsb=>⟨(I.nolimit).fresh _ hsb,?_⟩) S.kind)
 show codeAny _ _ (.expr body (CQ qual sc s f c' cl)) _ _
 have hk:∀ b o,s.heap.get? b=some o→h1.get? b=some o:=fun b o e=>hsb.extBut b o (Nat.ne_of_lt (Heap.lt_size e)) (Heap.get?_push_of_some _ e)
 have J:=SX (tk:=s.toks+[(x,u)].length) (qual:=qual) (f:=f) (c':=c') I hA hr.hd S rv hns hk
 refine PySem.W.kla_codeExpr (wpAny_mono (hb _ (hr.deeper _) rfl [] _ (lR ρ σ v) H Q J h) (fun k' s' hq=>?_) fun _ _ z=>z.elim)
 obtain⟨v2,H2,I2,r2,q⟩:=hq
 exact⟨v2,H2,I2.os,I2.bare,I2.base,I2.hok,r2,q⟩
end
end L2
namespace So
theorem JN:∀ {a b:List Int},a≠b→gD a b=true∨gD b a=true
 | [],[],h=>absurd rfl h
 | [],_::_,_=>.inl rfl
 | _::_,[],_=>.inr rfl
 | a::r,b::t,h=>by
  rw[gD,gD]
  by_cases e:a=b
  ·subst e
   simp only[beq_self_eq_true,if_true]
   exact JN fun z=>h (by rw[z])
  ·have e':¬ b=a:=fun z=>e z.symm
   simp only[beq_iff_eq,e,e',if_false,decide_eq_true_eq]
   omega
theorem JP:∀ {a b:List Int},gD a b=true→gD b a=false
 | [],[],h=>by simp[gD] at h
 | [],_::_,_=>rfl
 | _::_,[],h=>by simp[gD] at h
 | a::r,b::t,h=>by
  rw[gD] at h ⊢
  by_cases e:a=b
  ·subst e
   simp only[beq_self_eq_true,if_true] at h ⊢
   exact JP h
  ·have e':¬ b=a:=fun z=>e z.symm
   simp only[beq_iff_eq,e,e',if_false,decide_eq_true_eq,decide_eq_false_iff_not] at h ⊢
   omega
theorem Py:∀ {a b c:List Int},gD a b=true→gD b c=true→gD a c=true
 | [],[],_,h,_=>by simp[gD] at h
 | [],_::_,[],_,h=>by simp[gD] at h
 | [],_::_,_::_,_,_=>rfl
 | _::_,[],_,h,_=>by simp[gD] at h
 | _::_,_::_,[],_,h=>by simp[gD] at h
 | a::r,b::t,c::u,h,k=>by
  rw[gD] at h k ⊢
  by_cases e:a=b
  ·subst e
   simp only[beq_self_eq_true,if_true] at h
   by_cases f:a=c
   ·subst f
    simp only[beq_self_eq_true,if_true] at k ⊢
    exact Py h k
   ·simp only[beq_iff_eq,f,if_false] at k ⊢
    exact k
  ·simp only[beq_iff_eq,e,if_false,decide_eq_true_eq] at h
   by_cases f:b=c
   ·subst f
    simp only[beq_iff_eq,e,if_false,decide_eq_true_eq]
    exact h
   ·simp only[beq_iff_eq,f,if_false,decide_eq_true_eq] at k
    have:¬ a=c:=by omega
    simp only[beq_iff_eq,this,if_false,decide_eq_true_eq]
    omega
def Sx(kz:List (List Int))(i j:Nat):Bool:=gD (kz.getD i []) (kz.getD j [])
theorem CN{kz:List (List Int)}(nd:kz.Nodup):Zq kz.length (Sx kz):=by
 have inj:∀ i j,i < kz.length→j < kz.length→i≠j→kz.getD i []≠kz.getD j []:=fun i j hi hj ne e=>by
  rw[List.getD_eq_getElem?_getD,List.getElem?_eq_getElem hi,List.getD_eq_getElem?_getD,List.getElem?_eq_getElem hj] at e
  exact ne ((List.getElem_inj nd).mp e)
 exact⟨fun i j hi hj ne=>JN (inj i j hi hj ne),fun i j _ _ h=>JP h,fun i j k _ _ _ h g=>Py h g⟩
def Jh{α : Type}(d:α)(kz:List (List Int))(xs ys:List α):Prop:=∃ p:Array Nat,Pm xs.length p∧Sd (Sx kz) p xs.length∧ys=p.toList.map fun i=>xs.getD i d
end So
namespace L2
open PySem PySem.Spec PyProof.Rows A So
variable[Tb:eZ]
def Tab(T:Addr)(q:Str)(H H':Hp):Prop:=H'=H∨∃ ps ps' c,H T=some (.tbl q ps)∧H c=none∧c≠T∧H'=upd (upd H T (.tbl q ps')) c (.ext (lC c q))∧iD H'
theorem BR{c:Value}{p:Pos}:∀ {l:List Value},TriplesOk l→TriplesOk (l++[rawInt p.line,rawInt p.col,c]):=fun {l} h=>by
 fun_induction TriplesOk l with
 | case1=>exact trivial
 | case2 a b c' d e rest ih=>exact ih h
 | case3 _ _=>exact h.elim
theorem Jd{c v:Value}{p p2:Pos}:∀ {l:List Value},TriplesOk l→codeAmong p2 (l++[rawInt p.line,rawInt p.col,c])=some v→codeAmong p2 l=some v∨v=c:=fun {l} h e=>by
 fun_induction TriplesOk l with
 | case1 =>
  simp only[List.nil_append,codeAmong,rawInt] at e
  split at e
  ·exact .inr (by cases e;rfl)
  ·cases e
 | case2 a b c' d e' rest ih =>
  simp only[List.cons_append,codeAmong] at e ⊢
  split at e
  ·rename_i q
   rw[if_pos q];exact .inl e
  ·rename_i q
   rw[if_neg q];exact ih h e
 | case3 _ _=>exact h.elim
def BM(mg:Str→Option Value)(base:Heap):Prop:=∃ bm o,mg "__builtins__" = some (.ref bm)∧bm≠builtinsNs∧bm≠mainGlobals∧base.get? bm=some o∧o.cls=.type "module" ∧ o.dict=some builtinsNs∧o.data=.plain
section
variable{X:Cx}{pins:List (Addr×Obj)}{σ : St}{H:Hp}{s:Shared}{qual x:Str}{ps:Arguments}{body:Expr}{sc:Scope}{cl:List (Str×Addr)}{c T:Addr}{pos:Pos}
theorem Ip(c:Addr)(q:Str):∀ h1 h2:Heap,lC c q h1→(∀ o,h1.get? c=some o→h2.get? c=some o)→lC c q h2:=fun h1 h2 ⟨o,vs,t,e,d,r⟩ k=>⟨o,vs,t,k o e,d,r⟩
theorem PJ{Q:Value→Shared→Prop}{E:Value→Shared→Prop}(I:Inv X pins σ H s)(hc:X.env.code=.ref c)(C:PySem.W.CodeHd X.base c T)(k:iD H){tps:Array Value}(hT:H T=some (.tbl qual tps))(hB:BM X.mg X.base)
 (hdef:defaultsOf ps X.env=([],[])) (hq:X.env.qual ++ "<lambda>" = qual) (hcl:closureFor sc X.env=pure cl)
 (h:∀ f c' ctv pm s' H',Tab T qual H H'→H' c'=some (.ext (lC c' qual))→s'.heap.get? f=some (PySem.W.kla_obj "<lambda>" qual ps body sc cl pm c' ctv)→Inv X pins σ H' s'→oF X pins H' f→Q (.ref f) s') :
 wpAny (model X.prog X.w) X.A (eval (.Lambda ps body sc pos) X.env) Q E s:=by
 obtain⟨ok1,ok2⟩:=k.cd T qual tps hT
 have hP:s.heap.get? T=some (PySem.W.tabObj tps):=I.hok T _ hT
 have hg:s.heap.Ns mainGlobals X.mg:=I.mod.glob.keeps I.bk
 have C':PySem.W.CodeHd s.heap c T:=C.keeps I.bk
 obtain⟨bm,bo,b1,b2,b3,b4,b5,b6,b7⟩:=hB
 have nT:∀ b o,X.base.get? b=some o→b≠T:=fun b o e z=>by
  have:=(I.bs b o e).2
  rw[z,hT] at this;cases this
 have hb:s.heap.BuiltinsAt X.mg T:=⟨bm,bo,b1,b2,b3,nT _ _ b4,I.bk _ _ b4,b5,b6,b7⟩
 have hgT:mainGlobals≠T:=by
  obtain⟨o,es,ep,e,_⟩:=I.mod.glob
  exact nT _ _ e
 refine PySem.W.kla_eval hdef ?_
 rw[hq]
 cases hf:codeAmong pos tps.toList with
 | some v =>
  obtain⟨c',rfl,hc'⟩:=ok2 pos v hf
  refine PySem.W.kla_makeFunctionHit hcl I.ok.glob hg hc C' hP ok1 hf hb fun ctv h' tk kp sz=>?_
  have I':Inv X pins σ H { s with heap:=h'.push _,toks:=tk }:=I.kept (h':=h'.push (PySem.W.kla_obj "<lambda>" qual ps body sc cl ((X.mg "__name__").getD .none) c' ctv)) fun b o e=>Heap.get?_push_of_some _ (kp b o e)
  exact h _ c' ctv _ _ H (.inl rfl) hc' (Heap.get?_push_size _ rfl) I' (I.uA sz (I.hok.fresh sz))
 | none =>
  refine PySem.W.kla_makeFunction hcl I.ok.glob hg hc C' hP ok1 hf hgT hb fun c' ctv h' tk kp h1 h2 hrec htb=>?_
  have nc:H c'=none:=I.hok.fresh h1
  have cT:c'≠T:=fun z=>by rw[z,hT] at nc;cases nc
  have hx:lC c' qual h':=by
   obtain⟨c2,o,vs,t,e,r⟩:=hrec
   cases e
   exact⟨o,vs,t,r⟩
  obtain⟨oc,hoc⟩ : ∃ o,h'.get? c'=some o:=let ⟨o,_,_,e,_⟩:=hx;⟨o,e⟩
  have u1:Un X.fs [] H (upd H T (.tbl qual (tps ++ #[rawInt pos.line,rawInt pos.col,.ref c']))) s.heap h':=by
   have nn:∀ b,H b=none→b≠T:=fun b n z=>by rw[z,hT] at n;cases n
   refine⟨fun b o e n _ _=>kp b o (nn b n) e,fun b o e n _ _=>⟨o.slots,kp b o (nn b n) e⟩,fun b o e n _=>by rw[aH (nn b n)];exact n,fun b o e _=>?_,fun b xs e=>?_,fun b o u e=>?_,fun b w ps e=>?_⟩
   ·by_cases z:b=T
    ·rw[z];exact⟨_,htb⟩
    ·exact⟨o,kp b o z e⟩
   ·rw[aH (fun z=>by rw[z,hT] at e;cases e)];exact e
   ·rw[aH (fun z=>by rw[z,hT] at e;cases e)];exact e
   ·by_cases z:b=T
    ·subst z
     rw[hT] at e;cases e
     exact⟨_,aP⟩
    ·exact⟨#[],by rw[aH z,e];simp⟩
  have aal:qX X.prog X.w (upd H T (.tbl qual (tps ++ #[rawInt pos.line,rawInt pos.col,.ref c']))) h':=fun b u e=>by
   by_cases z:b=T
   ·subst z;rw[aP] at e;cases e;exact htb
   ·rw[aH z] at e
    refine(I.hok b u e).stay (fun y v hy q=>kp y v ?_ q) (fun y q=>by rw[aH (fun w=>by rw[w,hT] at q;cases q)];exact q) fun y xs q=>by rw[aH (fun w=>by rw[w,hT] at q;cases q)];exact q
    rcases hy with w|w
    ·rw[w];exact z
    ·exact fun w2=>by rw[w2,hT] at w;cases w
  have I1:Inv X pins σ (upd H T (.tbl qual (tps ++ #[rawInt pos.line,rawInt pos.col,.ref c']))) { s with heap:=h',toks:=tk }:=I.un u1 aal
  have nc1:upd H T (.tbl qual (tps ++ #[rawInt pos.line,rawInt pos.col,.ref c'])) c'=none:=by rw[aH cT];exact nc
  have I2:Inv X pins σ (upd (upd H T (.tbl qual (tps ++ #[rawInt pos.line,rawInt pos.col,.ref c']))) c' (.ext (lC c' qual))) { s with heap:=h',toks:=tk }:=by
   have F:oF X pins (upd H T (.tbl qual (tps ++ #[rawInt pos.line,rawInt pos.col,.ref c']))) c':=⟨nc1,(I.uA (H':=H) h1 nc).2⟩
   have Ot:∀ b u,(upd H T (.tbl qual (tps ++ #[rawInt pos.line,rawInt pos.col,.ref c']))) b=some u→b≠c':=fun b u e=>aQ e nc1
   refine I1.call' (s':={ s with heap:=h',toks:=tk }) (ch:=[c']) rfl ⟨fun b u e _ _ _=>e,fun b u e _ _ _=>⟨u.slots,e⟩,fun b u e n hb=>?_,fun b u e hb=>⟨u,e⟩,fun b xs e=>by rw[aH (Ot _ _ e)];exact e,fun b q u e=>by rw[aH (Ot _ _ e)];exact e,fun b w ps e=>⟨#[],by rw[aH (Ot _ _ e),e];simp⟩⟩ ?_ I.bare
    fun b hb=>by
     obtain rfl:b=c':=by simpa using hb
     exact⟨F.2.2.2.1,F.2.1,F.2.2.2.2.1,F.2.2.2.2.2⟩
   ·rw[aH (fun z=>hb (by simp[z]))];exact n
   ·intro b u e
    by_cases z:b=c'
    ·subst z;rw[aP] at e;cases e
     exact⟨hx,⟨oc,hoc⟩,Ip b qual⟩
    ·rw[aH z] at e
     exact(I1.hok b u e).stay (fun y v hy q=>q) (fun y q=>by rw[aH (Ot _ _ q)];exact q) fun y xs q=>by rw[aH (Ot _ _ q)];exact q
  have Y6:∀ b o,h'.get? b=some o→(h'.push (PySem.W.kla_obj "<lambda>" qual ps body sc cl ((X.mg "__name__").getD .none) c' ctv)).get? b=some o:=fun b o e=>Heap.get?_push_of_some _ e
  have I3:=I2.kept (t':=tk) Y6
  have szs:s.heap.objs.size≤h'.objs.size:=Nat.le_trans h1 (Nat.le_of_lt h2)
  have ck:iD (upd (upd H T (.tbl qual (tps ++ #[rawInt pos.line,rawInt pos.col,.ref c']))) c' (.ext (lC c' qual))):=by
   have nT':∀ {b:Addr} {o:HO},H b=some o→NT o→upd (upd H T (.tbl qual (tps ++ #[rawInt pos.line,rawInt pos.col,.ref c']))) c' (.ext (lC c' qual)) b=some o:=fun {b o} e n=>by
    rw[aH (aQ e nc),aH (fun z=>by rw[z,hT] at e;cases e;exact n)];exact e
   refine⟨fun r hr=>?_,fun T2 q2 ps2 e=>?_⟩
   ·obtain⟨p0,e0⟩:=k.has r hr
    by_cases z:r.1=T
    ·rw[z,hT] at e0
     have:qual=r.2:=by injection e0 with e0;injection e0
     exact⟨_,by rw[aH (by rw[z];exact Ne.symm cT),z,aP,this]⟩
    ·exact⟨p0,by rw[aH (aQ e0 nc),aH z];exact e0⟩
   ·by_cases z:T2=c'
    ·subst z;rw[aP] at e;cases e
    ·rw[aH z] at e
     by_cases z2:T2=T
     ·subst z2
      rw[aP] at e
      have e1:qual=q2:=by injection e with e;injection e
      have e2:tps ++ #[rawInt pos.line,rawInt pos.col,.ref c']=ps2:=by injection e with e;injection e
      subst e1 e2
      refine⟨by rw[Array.toList_append];exact BR ok1,fun p2 v hv=>?_⟩
      rw[Array.toList_append] at hv
      rcases Jd ok1 hv with q|q
      ·obtain⟨y,y1,y2⟩:=ok2 p2 v q
       exact⟨y,y1,nT' y2 trivial⟩
      ·exact⟨c',q,aP⟩
     ·rw[aH z2] at e
      obtain⟨t1,t2⟩:=k.cd T2 q2 ps2 e
      refine⟨t1,fun p2 v hv=>?_⟩
      obtain⟨y,y1,y2⟩:=t2 p2 v hv
      exact⟨y,y1,nT' y2 trivial⟩
  refine h h'.objs.size c' ctv _ _ _ (.inr ⟨tps,_,c',hT,nc,cT,rfl,ck⟩) aP (Heap.get?_push_size _ rfl) I3 ?_
  refine I.uA szs ?_
  rw[aH (Nat.ne_of_gt h2),aH (fun z=>?_)]
  ·exact I.hok.fresh szs
  ·have:=I.hok.fresh szs
   rw[z,hT] at this;cases this
end
end L2
namespace L2
open PySem PySem.Spec PyProof.Rows A So
variable[Tb:eZ]
section
variable{X:Cx}{pins:List (Addr×Obj)}{σ : St}{H:Hp}{s:Shared}
theorem adopt{fp:List Addr}{D:Addr}{o:HO}{h':Heap}{t':Nat}(I:Inv X pins σ H s)(hf:∀ b∈fp,oF X pins H b)(hD:D∈fp)(k:∀ b u,b∉fp→s.heap.get? b=some u→h'.get? b=some u)
 (new:cu X.prog X.w (upd H D o) h' D o):Inv X pins σ (upd H D o) { s with heap:=h',toks:=t' }:=by
 have hn:H D=none:=(hf D hD).1
 have nfp:∀ b u,H b=some u→b∉fp:=fun b u e z=>by rw[(hf b z).1] at e;cases e
 refine I.call' (s':={ s with heap:=h',toks:=t' }) (ch:=fp) rfl ⟨fun b u e _ _ hb=>k b u hb e,fun b u e _ _ hb=>⟨u.slots,k b u hb e⟩,fun b u e hb hx=>?_,fun b u e hb=>⟨u,k b u hb e⟩,fun b xs e=>?_,fun b q u e=>?_,fun b w ps e=>⟨#[],?_⟩⟩ ?_ I.bare
  fun b hb=>⟨(hf b hb).2.2.2.1,(hf b hb).2.1,(hf b hb).2.2.2.2.1,(hf b hb).2.2.2.2.2⟩
 ·rw[aH (fun z=>hx (by rw[z];exact hD))];exact hb
 ·rw[aH (aQ e hn)];exact e
 ·rw[aH (aQ e hn)];exact e
 ·rw[aH (aQ e hn),e];simp
 ·intro b u e
  by_cases hb:b=D
  ·subst hb;rw[aP] at e;cases e;exact new
  ·rw[aH hb] at e
   refine(I.hok b u e).stay (fun c v hc q=>k c v ?_ q) (fun c q=>by rw[aH (aQ q hn)];exact q) fun c xs q=>by rw[aH (aQ q hn)];exact q
   rcases hc with z|z
   ·rw[z];exact nfp b u e
   ·exact nfp c _ z
theorem xx:∀ {ns:List Int} {its:List Value},Vals (ns.map V.int) its→IntsAre its ns
 | [],_,.nil=>.nil
 | n::r,_,.cons h t=>by
  obtain⟨t1,rfl⟩:=h
  exact .cons n t1 (xx t)
end
def Dv(c':Addr)(q:Str)(tk:V→Hp→VK→Prop):List V→Hp→(List V→Hp→Prop)→Prop
 | [],H,R=>R [] H
 | x::xs,H,R=>tk x H fun k H1=>H1 c'=some (.ext (lC c' q))∧Dv c' q tk xs H1 fun ks H2=>R (k::ks) H2
def KeysAre(H:Hp)(kz:List (List Int))(ks:List V):Prop:=P2 (fun z k=>∃ p,k=V.ref p∧H p=some (.lst (z.map V.int))) kz ks
def X6(T:Addr)(q:Str)(ρ : List Nat)(σ : St)(tb:TE)(Q:VK):VK:=fun x H1=>∃ a xs tps,x=.ref a∧xs.length < 64∧H1 T=some (.tbl q tps)∧iD H1 ∧
 ∀ H2 c',Tab T q H1 H2→H2 c'=some (.ext (lC c' q))→Lst H2 a xs∧Dv c' q (fun v H K=>tb (lR ρ σ v) H K) xs H2 fun ks H3=>∃ kz:List (List Int),kz.length=xs.length∧kz.Nodup∧KeysAre H3 kz ks ∧
  ∀ p ys,H3 p=none→Jh .non kz xs ys→Q (.ref p) (upd H3 p (.lst ys))
def M4(T:Addr)(q:Str)(ρ : List Nat)(te tb:TE):TE:=fun σ H Q=>te σ H (X6 T q ρ σ tb Q)
theorem Ku{kz:List (List Int)}{xs:List V}{its out:List Value}(r:Vals xs its)(hz:kz.length=xs.length)(h:tY (Sx kz) its out):∃ ys,Jh .non kz xs ys∧Vals ys out:=by
 obtain⟨p,pm,sd,rfl⟩:=h
 have hl:=r.length
 rw[← hl] at pm sd
 refine⟨p.toList.map fun i=>xs.getD i .non,⟨p,pm,sd,rfl⟩,?_⟩
 have key:∀ l:List Nat,(∀ i∈l,i < xs.length)→Vals (l.map fun i=>xs.getD i .non) (l.map fun i=>its.getD i Value.none):=fun l hl'=>by
  induction l with
  | nil=>exact .nil
  | cons i t ih =>
   have hi:=hl' i List.mem_cons_self
   refine .cons ?_ (ih fun j hj=>hl' j (List.mem_cons_of_mem _ hj))
   have e1:xs[i]? = some (xs.getD i .non):=by simp[hi]
   obtain⟨u,e2,r2⟩:=r.get e1
   have:its.getD i Value.none=u:=by simp[e2]
   show RelV (xs.getD i .non) (its.getD i Value.none)
   rw[this];exact r2
 refine key _ fun i hi=>?_
 have:=(Array.perm_iff_toList_perm.mp pm.pm).mem_iff.mp hi
 simpa using this
section
variable{X:Cx}{x qual:Str}{e:Expr}{ps:Arguments}{body:Expr}{sc:Scope}{cl:List (Str×Addr)}{c T:Addr}{p pos YS aae:Pos}{k:Nat}{ρ : List Nat}{N':List Str}{te tb:TE}
theorem Og(hg:Gl X "sorted")(hm:X.mg "sorted" = none)(he:PE X e te)(hr:jx (k+3) X.A)(hc:X.env.code=.ref c)(C:PySem.W.CodeHd X.base c T)(hB:BM X.mg X.base)(hdef:defaultsOf ps X.env=([],[]))(hq:X.env.qual ++ "<lambda>" = qual)(hcl:closureFor sc X.env=pure cl)
 (S:Bm X x ρ N' sc cl) (hbind:∀ (pm:Value) (c':Addr) (ctv u:Value),bindArgs (PySem.W.kla_fn "<lambda>" qual ps body sc cl pm (.ref c') ctv) ⟨[u],[]⟩=pure [(x,u)])
 (hb:∀ (A:Around) (f c':Addr) (s:Shared) (H:Hp) (env:Env),jx k (A.deeper env)→env=CQ qual sc s f c' cl→PE (cxL X A N' env s H) body tb)
 (hs:starEach [e] X.env=(false,eval e X.env)::starEach [] X.env:=by rfl) (hpl:(backTo pos (starEach [e] X.env)).any (·.1)=false:=by rfl) :
 PE X (.Call (.Name "sorted" p) [e] [⟨some "key", .Lambda ps body sc YS,aae⟩] pos) (M4 T qual ρ te tb):=by
 intro pins s σ H Q I h
 have hboot:bootBuiltins "sorted" = some (.builtin "sorted"):=by kernel_rfl
 refine wpAny_Call_Name_kw (vz I hg hm hboot ?_)
 refine callWith_kw ?_ (by rw[hs];rfl) hpl rfl rfl
 rw[hs]
 show wpAny _ _ (spliced ((false,eval e X.env)::backTo pos (starEach [] X.env))) _ _ s
 refine Calls.spliced_cons (eX (he pins s σ H _ I h) fun u s1 ⟨x1,H1,I1,r1,q1⟩=>Calls.spliced_nil ?_)
 obtain⟨a,xs,tps,rfl,h64,hT,ck,q2⟩:=q1
 cases r1
 show wpAny _ _ (evalAll ((do let v ← eval (.Lambda ps body sc YS) X.env;standAt pos;pure v)::((backToKw pos (keywordEach [] X.env)).map (·.2)))) _ _ s1
 refine wpAny_evalAll_cons (wpAny_bind (PJ I1 hc C ck hT hB hdef hq hcl fun f c' ctv pm s2 H2 tab hc' hf I2 fpf=>wpAny_bind (wpAny_standAt (wpAny_pure (wpAny_evalAll_nil ?_)))))
 obtain⟨hl2,kr⟩:=q2 H2 c' tab hc'
 show wpAny (model X.prog X.w) X.A (call (.builtin "sorted") [.ref a] [(Str.ofString "key", .ref f)]) (EP X pins σ Q) X.xe s2
 obtain⟨its,n0,rv,hz,ho⟩:=HF I2 hl2
 have hli:=rv.length
 let Fn:List V→Hp→Prop:=fun ks H3=>∃ kz:List (List Int),kz.length=xs.length∧kz.Nodup∧KeysAre H3 kz ks∧∀ p ys,H3 p=none→Jh .non kz xs ys→Q (.ref p) (upd H3 p (.lst ys))
 have flt:f < s2.heap.objs.size:=Heap.lt_size hf
 have fnt:f∉tm s2.heap.objs.size:=fun z=>by
  simp only[tm,List.mem_cons,List.not_mem_nil,or_false] at z
  have:(f:Nat) < s2.heap.objs.size:=flt
  rcases z with z|z|z|z
  ·exact absurd this (by rw[z];exact Nat.lt_irrefl _)
  ·exact absurd this (by rw[z];exact Nat.not_lt.mpr (Nat.le_add_right _ _))
  ·exact absurd this (by rw[z];exact Nat.not_lt.mpr (Nat.le_add_right _ _))
  ·exact absurd this (by rw[z];exact Nat.not_lt.mpr (Nat.le_add_right _ _))
 refine BX (vs:=its) (J:=fun ks s3=>∃ Hc kv,Inv X pins σ Hc s3∧Vals kv ks∧s3.heap.get? f=some (PySem.W.kla_obj "<lambda>" qual ps body sc cl pm c' ctv)∧oF X pins Hc f∧(∀ b∈tm s2.heap.objs.size,oF X pins Hc b∧∃ o,s3.heap.get? b=some o) ∧
  Hc c'=some (.ext (lC c' qual))∧Dv c' qual (fun v H K=>tb (lR ρ σ v) H K) (xs.drop ks.length) Hc fun ks' H3=>Fn (kv++ks') H3) ⟨_,ho,rfl,_,rfl⟩ (by omega) ?j0 ?jk ?jc ?je
 case j0 =>
  intro h' kp ex
  refine⟨H2,[],I2.kept kp,.nil,kp _ _ hf,fpf,fun b hb=>⟨I2.uA ?_ (I2.hok.fresh ?_),ex b hb⟩,hc',kr⟩
  all_goals (simp only[tm,List.mem_cons,List.not_mem_nil,or_false] at hb;rcases hb with z|z|z|z<;>rw[z]<;>first|exact Nat.le_refl _|exact Nat.le_add_right _ _)
 case jk =>
  rintro ks s3 h' ⟨Hc,kv,I3,rk,hf3,fp3,tm3,hc3,kr3⟩ kp ex
  refine⟨Hc,kv,xJ (t':=s3.toks) I3 (fp:=tm s2.heap.objs.size) (fun b hb=>(tm3 b hb).1) (fun b u hb q=>kp b u hb q),rk,kp _ _ fnt hf3,fp3,fun b hb=>⟨(tm3 b hb).1,?_⟩,hc3,kr3⟩
  obtain⟨o,q⟩:=(tm3 b hb).2
  exact ex b o q
 case jc =>
  rintro i u ks s3 hu hks ⟨Hc,kv,I3,rk,hf3,fp3,tm3,hc3,kr3⟩
  obtain⟨v,hv,ruv⟩ : ∃ v,xs[i]? = some v∧RelV v u:=by
   have hi:i < xs.length:=by rw[hli];exact(List.getElem?_eq_some_iff.mp hu).1
   have e1:xs[i]? = some xs[i]:=by simp[hi]
   obtain⟨u2,e2,r2⟩:=rv.get e1
   rw[hu] at e2;cases e2
   exact⟨_,e1,r2⟩
  have hd:xs.drop ks.length=v::xs.drop (ks.length+1):=by
   obtain⟨hi,e⟩:=List.getElem?_eq_some_iff.mp hv
   rw[hks,List.drop_eq_getElem_cons hi,e]
  rw[hd] at kr3
  have hrec:s3.heap.CodeRec (.ref c') qual:=by
   obtain⟨⟨o,vs,t,e1,e2,e3⟩,_⟩:=I3.hok c' _ hc3
   exact⟨c',o,vs,t,rfl,e1,e2,e3⟩
  have hA:X.A.in1.in1.frames=some X.stack:=I3.ok.frames
  refine wpAny_mono (SQ (k:=k) I3 hA hr.in1.in1 S hf3 hrec (hbind pm c' ctv u) ruv (fun env h1 h2=>hb _ f c' s3 Hc env h1 h2) kr3) (fun kk s4 hce=>?_) fun _ _ z=>z
  have aa4:=hce
  obtain⟨kvv,H4,os4,Zh,un4,aak,rk4,hc4,kr4⟩:=hce
  have noF:∀ b,oF X pins Hc b→b∉frs X.stack:=fun b hb z=>by
   rcases List.mem_cons.mp (I3.BV b z) with y|y
   ·exact hb.2.1 y
   ·exact hb.2.2.1 y
  have I4:Inv X pins σ H4 s4:=I3.call' os4 (ch:=[]) un4 aak Zh (fun b z=>absurd z (by simp))
  have fpk:∀ b,oF X pins Hc b→(∃ o,s3.heap.get? b=some o)→oF X pins H4 b:=fun b hb ⟨o,q⟩=>⟨un4.free b o q hb.1 (by simp),hb.2⟩
  refine⟨⟨H4,kv++[kvv],I4,rk.append (.cons rk4 .nil),un4.keep _ _ hf3 fp3.1 (noF _ fp3) (by simp),fpk f fp3 ⟨_,hf3⟩,fun b hb=>⟨fpk b (tm3 b hb).1 (tm3 b hb).2,?_⟩,hc4,?_⟩,fun b o hb q=>un4.keep b o q (tm3 b hb).1.1 (noF _ (tm3 b hb).1) (by simp)⟩
  ·obtain⟨o,q⟩:=(tm3 b hb).2
   exact un4.there b o q (by simp)
  ·rw[List.length_append]
   simp only[List.append_assoc,List.singleton_append]
   exact kr4
 case je =>
  rintro ks s3 hks ⟨Hc,kv,I3,rk,hf3,fp3,tm3,hc3,kr3⟩
  rw[List.drop_eq_nil_of_le (by omega)] at kr3
  obtain⟨kz,hz1,nd,ka,fin⟩:=kr3
  rw[List.append_nil] at ka
  have lk:=rk.length
  have at_:∀ i,i < its.length→∃ pp o us nn,ks.getD i Value.none=.ref pp∧s3.heap.get? pp=some o∧o.cls=.type "list" ∧ o.data=.seq (List.toArray us) nn∧IntsAre us (kz.getD i []):=fun i hi=>by
   have hzi:i < kz.length:=by omega
   have e1:kz[i]? = some (kz.getD i []):=by simp[hzi]
   obtain⟨kvi,e2,pp,rfl,hp⟩:=P2.getL ka e1
   obtain⟨u,e3,r3⟩:=rk.get e2
   cases r3
   obtain⟨_,us,nn,vu,ho⟩:=I3.hok pp _ hp
   exact⟨pp,_,us,nn,by simp[e3],ho,rfl,rfl,xx vu⟩
  have hord:=CN nd
  rw[hz1,hli] at hord
  refine⟨Sx kz,hord,fun h2 Q' hq'=>?_,fun i j C hi hj hC=>?_,fun out h' cc so kp ex hD=>?_⟩
  ·refine PySem.W.kas_kind (T:=Value.type "list") (by omega) (fun v hv=>?_) (by decide) (by decide) hq'
   obtain⟨i,hi⟩:=List.getElem?_of_mem hv
   have hil:=(List.getElem?_eq_some_iff.mp hi).1
   obtain⟨pp,o,us,nn,e1,e2,e3,_⟩:=at_ i (by omega)
   have:v=.ref pp:=by
    rw[← e1];simp[hi]
   rw[this,← e3]
   exact(PySem.W.Looks.ld e2).andThen .now
  ·obtain⟨p1,o1,us1,n1,a1,a2,a3,a4,a5⟩:=at_ i hi
   obtain⟨p2,o2,us2,n2,b1,b2,b3,b4,b5⟩:=at_ j hj
   unfold PySem.W.kas_ask
   rw[a1,b1]
   exact Pr a2 a3 a4 b2 b3 b4 a5 b5 (by have:=hr.un;show X.A.units+1+1 < cLine;omega) hC
  ·obtain⟨ys,sy,vy⟩:=Ku rv hz1 so
   have hD':s2.heap.objs.size+1∈tm s2.heap.objs.size:=by simp[tm]
   have ly:ys.length=xs.length:=by rw[vy.length,so.len,hli]
   have nD:Hc (s2.heap.objs.size+1)=none:=(tm3 _ hD').1.1
   refine⟨.ref (s2.heap.objs.size+1),_,adopt (t':=s3.toks) (o:=.lst ys) I3 (fun b hb=>(tm3 b hb).1) hD' (fun b u hb q=>kp b u hb q) ⟨by rw[ly];exact hz,out,cc,vy,hD⟩,rfl,fin _ ys nD sy⟩
end
end L2
namespace Mi
open PySem
def Ui:D→Option (List Str)
 | .tup ds=>zj ds
 | .lst ds=>zj ds
 | _=>none
def vG(x y:D):Rs D:=match y with
 | .str z=>(pR (Ui x)).bind fun ys=>aR (z∈ys∧ys.length≤1000) (.ok (.int (ys.idxOf z:Nat)))
 | _=>.no
def jd:List Int→List Int→Bool
 | [],[]=>false
 | [],_::_=>true
 | _::_,[]=>false
 | a::r,b::t=>if a == b then jd r t else decide (a < b)
def rD:List D→Option (List Int)
 | []=>some []
 | .int i::r=>(rD r).map (i :: ·)
 | _=>none
def Gw:D→Rs (List Int)
 | .lst ds=>pR (rD ds)
 | _=>.no
def insI(lt:Nat→Nat→Bool)(i:Nat):List Nat→List Nat
 | []=>[i]
 | j::r=>if lt i j=true then i::j::r else j::insI lt i r
def sortI(lt:Nat→Nat→Bool):List Nat→List Nat
 | []=>[]
 | i::r=>insI lt i (sortI lt r)
def wI(kz:List (List Int))(n:Nat):List Nat:=sortI (fun i j=>jd (kz.getD i []) (kz.getD j [])) (List.range n)
def sortBy(kz:List (List Int))(ds:List D):List D:=(wI kz ds.length).map fun i=>ds.getD i .non
def CT(ρ : List Nat)(e:Env)(d:D):Env:=some (.d d) :: ρ.map fun j=>(e[j]?).join
def nJ(ρ : List Nat)(kf:E)(e:Env):List D→Rs (List (List Int))
 | []=>.ok []
 | d::r=>(kf (CT ρ e d)).bind fun k=>(Gw k).bind fun z=>(nJ ρ kf e r).bind fun zs=>.ok (z::zs)
def CJ(ρ : List Nat)(a kf:E):E:=fun e=>(a e).bind fun x=>(An x).bind fun ds=>aR (ds.length < 64) ((nJ ρ kf e ds).bind fun kz=>aR kz.Nodup (.ok (.lst (sortBy kz ds))))
end Mi
namespace A
open PySem L2 PyProof.Rows
open Mi (D W Rs Fin aq Out Tg)
variable[Tb:eZ]
section
variable{prog:Program}{w:World}{Ar:Around}
theorem qG(x y:Str)(t u:Tok):PySem.MeetsSeq.EqGives (.str x t) (.str y u) (x.cps.toList == y.cps.toList):=PySem.SeqRoads2.EqGives.str x y t u
theorem t8{ys:List Str}{us:List Value}(r:Vals (ys.map V.str) us){i:Nat}(h:i < ys.length):∃ t,us[i]? = some (.str (ys.getD i Str.empty) t):=by
 have e:(ys.map V.str)[i]? = some (.str (ys.getD i Str.empty)):=by simp[h]
 obtain⟨u,e2,r2⟩:=r.get e
 obtain⟨t,rfl⟩:=r2
 exact⟨t,e2⟩
theorem Fy{ys:List Str}{z:Str}(h:z∈ys):ys.idxOf z < ys.length∧ys.getD (ys.idxOf z) Str.empty=z∧∀ m,m < ys.idxOf z→ys.getD m Str.empty≠z:=by
 have hl:=List.idxOf_lt_length_of_mem h
 refine⟨hl,by simp[hl],fun m hm e=>?_⟩
 have:m < ys.length:=Nat.lt_trans hm hl
 have e2:ys[m]=z:=by simpa [this] using e
 have:=List.not_of_lt_findIdx (p:=(· == z)) (xs:=ys) (i:=m) hm
 simp[e2] at this
theorem Ti{E:Value→Shared→Prop}{s:Shared}{t:Addr}{us:List Value}{ys:List Str}{z:Str}{tz:Tok}{Q:Value→Shared→Prop}(ht:IsTup s.heap t us.toArray)(r:Vals (ys.map V.str) us)(hz:z∈ys)
 (h:Q (.int (ys.idxOf z:Nat) s.toks) { s with toks:=s.toks+1 }):wpAny (model prog w) Ar (call (.builtin "tuple.index") [.ref t,.str z tz]) Q E s:=by
 obtain⟨h1,h2,h3⟩:=Fy hz
 have hl:=r.length
 rw[List.length_map] at hl
 refine wpAny_call_entry PySem.F.slot_tuple_index ht.typeIs PySem.F.entry_tuple_index ?_ (PySem.F.args_tuple_index_2 _ _)
 show wpAny _ _ (Builtin.Tuple.tupleItemsOf (.ref t) >>= _) _ _ s
 refine wpAny_bind (tupleItemsOf_ ht ?_)
 refine wpAny_bind (wpAny_pure (wpAny_bind (wpAny_pure ?_)))
 dsimp only
 rw[Std.Legacy.Range.forIn_eq_forIn_range']
 have hsz:([0:min us.toArray.size us.toArray.size]:Std.Legacy.Range).size=us.length:=by simp[Std.Legacy.Range.size]
 rw[hsz]
 show wpAny _ _ (forIn (List.range' 0 us.length 1) _ _ >>= _) _ _ _
 have go:∀ (k i:Nat),ys.idxOf z=i+k→∀ (G:Option PySem.Fin×Unit→Shared→Prop),G (some (.done (.ret (.int (ys.idxOf z:Nat) s.toks))),()) { s with toks:=s.toks+1 } →
  wpAny (model prog w) Ar.in1 (forIn (List.range' i (us.length - i) 1) ((none, ()) : Option PySem.Fin × Unit) fun (i : Nat) (__s : Option PySem.Fin × Unit) => (match us.toArray[i]? with
          | some y=>do
           let b ← eqBool y (Value.str z tz)
           if b=true then do
            let r ← retInt (i:Int)
            pure (ForInStep.done (some r,()))
            else pure (ForInStep.yield (none,()))
          | x=>pure (ForInStep.yield (none,())):Sem (ForInStep (Option PySem.Fin×Unit)))) G E s:=by
  intro k
  induction k with
  | zero =>
   intro i hi G hG
   have hlt:i < us.length:=by omega
   obtain⟨t1,e1⟩:=t8 r (i:=i) (by omega)
   rw[show us.length - i=(us.length - i - 1)+1 by omega,List.range'_succ,List.forIn_cons]
   have e2:us.toArray[i]? = some (.str (ys.getD i Str.empty) t1):=by simpa using e1
   rw[e2]
   have hz2:ys.getD i Str.empty=z:=by rw[← h2,hi];rfl
   rw[hz2]
   refine wpAny_bind (wpAny_bind (qG z z t1 tz prog w _ _ _ _ ?_))
   simp only[beq_self_eq_true,if_true]
   refine wpAny_bind (wpAny_bind (wpAny_mkInt (wpAny_pure (wpAny_pure ?_))))
   rw[show (i:Nat)=ys.idxOf z from hi.symm]
   exact wpAny_pure hG
  | succ k ih =>
   intro i hi G hG
   have hlt:i < us.length:=by omega
   obtain⟨t1,e1⟩:=t8 r (i:=i) (by omega)
   rw[show us.length - i=(us.length - (i+1))+1 by omega,List.range'_succ,List.forIn_cons]
   have e2:us.toArray[i]? = some (.str (ys.getD i Str.empty) t1):=by simpa using e1
   rw[e2]
   have hz2:=h3 i (by omega)
   refine wpAny_bind (wpAny_bind (qG _ z t1 tz prog w _ _ _ _ ?_))
   have:((ys.getD i Str.empty).cps.toList == z.cps.toList)=false:=by
    rw[beq_eq_false_iff_ne]
    intro e
    apply hz2
    cases hq:ys.getD i Str.empty with
    | mk c=>cases z with
     | mk d =>
      rw[hq] at e
      have:c=d:=Array.toList_inj.mp e
      rw[this]
   rw[this]
   simp only[Bool.false_eq_true,if_false]
   exact wpAny_pure (ih (i+1) (by omega) G hG)
 refine wpAny_bind (go (ys.idxOf z) 0 (by omega) _ ?_)
 exact wpAny_pure ⟨_,rfl,h⟩
theorem Tj{E:Value→Shared→Prop}{s:Shared}{t:Addr}{us:List Value}{ys:List Str}{z:Str}{tz:Tok}{n:Nat}{Q:Value→Shared→Prop}(ht:s.heap.get? t=some { cls:=.type "list", data:=.seq us.toArray n })(r:Vals (ys.map V.str) us)(hz:z∈ys)(hl:ys.length≤1000)
 (h:Q (.int (ys.idxOf z:Nat) s.toks) { s with toks:=s.toks+1 }):wpAny (model prog w) Ar (call (.builtin "list.index") [.ref t,.str z tz]) Q E s:=by
 obtain⟨h1,h2,h3⟩:=Fy hz
 have hlu:=r.length
 rw[List.length_map] at hlu
 let e:Value→Bool:=fun y=>match y with
  | .str a _=>a.cps.toList == z.cps.toList
  | _=>false
 have he:∀ y,y∈us.toArray→PySem.MeetsSeq.EqGives y (.str z tz) (e y):=fun y hy=>by
  obtain⟨i,hi⟩:=List.getElem?_of_mem (by simpa using hy:y∈us)
  have hil:=(List.getElem?_eq_some_iff.mp hi).1
  obtain⟨t1,e1⟩:=t8 r (i:=i) (by omega)
  rw[e1] at hi;cases hi
  exact qG _ z t1 tz
 have ei:∀ i (hi:i < us.toArray.size),e us.toArray[i]=decide (ys.getD i Str.empty=z):=fun i hi=>by
  have hi':i < us.length:=by simpa using hi
  obtain⟨t1,e1⟩:=t8 r (i:=i) (by omega)
  have:us.toArray[i]=.str (ys.getD i Str.empty) t1:=by
   have:=(List.getElem?_eq_some_iff.mp e1).2
   simpa using this
  rw[this]
  show ((ys.getD i Str.empty).cps.toList == z.cps.toList)=_
  by_cases q:ys.getD i Str.empty=z
  ·rw[q];simp
  ·rw[decide_eq_false q,beq_eq_false_iff_ne]
   intro y
   apply q
   cases hq:ys.getD i Str.empty with
   | mk c=>cases z with
    | mk d =>
     rw[hq] at y
     have:c=d:=Array.toList_inj.mp y
     rw[this]
 refine call_meets PySem.F.slot_list_index ⟨_,ht,rfl⟩ PySem.F.entry_list_index (PySem.F.args_list_index_2 _ _) (PySem.MeetsSeq.list_index t us.toArray n (.str z tz) e he (ys.idxOf z) (by simp;omega) (by omega) (by rw[ei];simp only[h2];simp) (fun m hm hj=>by rw[ei];simp only[h3 m hj];simp)) ⟨ht,h⟩
end
section
variable{X:Cx}{K:PySem.W.Frag}{M:Nat→Bool}{to ta tb:TE}{t:TA}{o e:Expr}{es:List Expr}{apos cpos:Pos}{a b:Mi.E}
theorem Sv:Ro X "tuple.index" (fun x xs H Q=>∃ (p:Addr) (ys:List Str) (z:Str),x=.ref p∧xs=[.str z]∧z∈ys∧H p=some (.tup (ys.map V.str))∧Q (.int (ys.idxOf z:Nat)) H):=by
 intro pins s σ H x xs v us Q I rx rv h
 obtain⟨p,ys,z,rfl,rfl,hz,hp,q⟩:=h
 cases rx
 obtain⟨u,rfl,ru⟩:=vals1 rv
 obtain⟨tz,rfl⟩:=ru
 obtain⟨its,r,pt,_⟩:=I.tuple (.inl (.inl hp))
 exact Ti pt r hz ⟨.int _,H,I.tok _,⟨_,rfl⟩,q⟩
theorem Sw:Ro X "list.index" (fun x xs H Q=>∃ (p:Addr) (ys:List Str) (z:Str),x=.ref p∧xs=[.str z]∧z∈ys∧ys.length≤1000∧Lst H p (ys.map V.str)∧Q (.int (ys.idxOf z:Nat)) H):=by
 intro pins s σ H x xs v us Q I rx rv h
 obtain⟨p,ys,z,rfl,rfl,hz,hl,hp,q⟩:=h
 cases rx
 obtain⟨u,rfl,ru⟩:=vals1 rv
 obtain⟨tz,rfl⟩:=ru
 obtain⟨its,n,r,_,ho⟩:=HF I hp
 exact Tj ho r hz hl ⟨.int _,H,I.tok _,⟨_,rfl⟩,q⟩
def X4(K:PySem.W.Frag)(T2:String)(r1 r2:V→List V→Hp→VK→Prop)(to:TE)(t:TA):TE:=fun σ H Q=>to σ H fun x H1=>((∃ p xs,x=V.ref p∧H1 p=some (.tup xs))∧t σ H1 fun xs H2=>r1 x xs H2 Q)∨(ZC K T2 x H1∧t σ H1 fun xs H2=>r2 x xs H2 Q)
theorem Hs{T2 id1 id2:String}{r1 r2:V→List V→Hp→VK→Prop}{name:Str}(pa1:PlainAttrs "tuple")(slot1:Slot "tuple" name id1)(aaj:typeOf (.builtin id1)=pure (.type "method_descriptor"))(hm1:Ro X id1 r1)
 (pa2:PlainAttrs T2) (X7:Slot T2 name id2) (aai:typeOf (.builtin id2)=pure (.type "method_descriptor")) (hm2:Ro X id2 r2) (ho:PE X o to) (ha:PA X (e::es) t)
 (hbase:attributeBase o name X.env (eval o X.env)=eval o X.env:=by rfl)
 (hfew:((backTo cpos (starEach (e::es) X.env)).all (fun x=>!x.1) && (backToKw cpos (keywordEach [] X.env)).all (fun x=>x.1.isSome)
  && decide ((e::es).length+([]:List Keyword).length+(if ([]:List Keyword).isEmpty then 0 else 1) < 30))=true:=by rfl)
 (hline:(apos.endLine == cpos.line)=true:=by rfl) (hs:starEach (e::es) X.env=(false,eval e X.env)::starEach es X.env:=by rfl) (hplain:(backTo cpos (starEach es X.env)).any (·.1)=false:=by rfl) :
 PE X (.Call (.Attribute o name apos) (e::es) [] cpos) (X4 X.K T2 r1 r2 to t):=by
 intro pins s σ H Q I h
 refine wpAny_Call_method_late hbase hfew hline rfl (eX (ho pins s σ H _ I h) fun v s1 ⟨x,H1,I1,rx,q⟩=>?_)
 rcases q with ⟨ty,q1⟩|⟨ty,q1⟩
 ·obtain⟨p,xs,rfl,hp⟩:=ty
  cases rx
  have h12:s1.TypeIs (.ref p) "tuple" ∧ ∀ a,Value.ref p=.ref a→∃ ob,s1.heap.get? a=some ob∧ob.dict=none:=by
   obtain⟨_,its,_,ob,e1,e2,e3,_⟩:=(show cu X.prog X.w H1 s1.heap p (.tup xs) from I1.hok p _ hp)
   exact⟨⟨ob,e1,e2⟩,fun a z=>by cases z;exact⟨ob,e1,e3⟩⟩
  obtain⟨h1,h2⟩:=h12
  have rx:RelV (.ref p) (Value.ref p):=rfl
  refine⟨"tuple", id1,pa1,slot1,aaj,h1,h2,?_⟩
  have hA:=ha cpos pins s1 σ H1 _ I1 q1
  rw[hs] at hA ⊢
  refine Calls.callWith_builtin (by show (false || (backTo cpos (starEach es X.env)).any (·.1))=false;rw[hplain]<;>rfl) (Calls.evalArgs_plain ?_)
  exact eX hA fun us s2 ⟨vs,H2,I2,r2',q2⟩=>hm1 pins s2 σ H2 _ vs _ us Q I2 rx r2' q2
 ·obtain⟨h1,h2⟩:=G3 I1 rx ty
  refine⟨T2,id2,pa2,X7,aai,h1,h2,?_⟩
  have hA:=ha cpos pins s1 σ H1 _ I1 q1
  rw[hs] at hA ⊢
  refine Calls.callWith_builtin (by show (false || (backTo cpos (starEach es X.env)).any (·.1))=false;rw[hplain]<;>rfl) (Calls.evalArgs_plain ?_)
  exact eX hA fun us s2 ⟨vs,H2,I2,r2',q2⟩=>hm2 pins s2 σ H2 x vs v us Q I2 rx r2' q2
end
end A
namespace So
open PySem
theorem CP:∀ a b:List Int,gD a b=Mi.jd a b
 | [],[]=>rfl
 | [],_::_=>rfl
 | _::_,[]=>rfl
 | a::r,b::t=>by rw[gD,Mi.jd,CP r t]
theorem yJ(lt:Nat→Nat→Bool)(i:Nat):∀ l:List Nat,(Mi.insI lt i l).Perm (i::l)
 | []=>List.Perm.refl _
 | j::r=>by
  unfold Mi.insI
  split
  ·exact List.Perm.refl _
  ·exact((yJ lt i r).cons j).trans (List.Perm.swap i j r)
theorem m7(lt:Nat→Nat→Bool):∀ l:List Nat,(Mi.sortI lt l).Perm l
 | []=>List.Perm.refl _
 | i::r=>(yJ lt i _).trans ((m7 lt r).cons i)
section
variable{n:Nat}{lt:Nat→Nat→Bool}(O:Zq n lt)
include O
theorem yI{i:Nat}(hi:i < n):∀ {l:List Nat},(∀ x∈l,x < n)→i∉l→l.Pairwise (fun a b=>lt a b=true)→(Mi.insI lt i l).Pairwise (fun a b=>lt a b=true)
 | [],_,_,_=>List.pairwise_singleton _ _
 | j::r,hl,hn,hp=>by
  have hp':=List.pairwise_cons.mp hp
  have hj:=hl j List.mem_cons_self
  unfold Mi.insI
  split
  ·rename_i h
   refine List.pairwise_cons.mpr ⟨fun x hx=>?_,hp⟩
   rcases List.mem_cons.mp hx with rfl|hx
   ·exact h
   ·exact O.tr _ _ _ hi hj (hl x (List.mem_cons_of_mem _ hx)) h (hp'.1 x hx)
  ·rename_i h
   have hji:lt j i=true:=(O.tot i j hi hj fun z=>hn (by rw[z];exact List.mem_cons_self)).resolve_left h
   refine List.pairwise_cons.mpr ⟨fun x hx=>?_,yI hi (fun x hx=>hl x (List.mem_cons_of_mem _ hx)) (fun z=>hn (List.mem_cons_of_mem _ z)) hp'.2⟩
   rcases List.mem_cons.mp ((yJ lt i r).mem_iff.mp hx) with rfl|hx
   ·exact hji
   ·exact hp'.1 x hx
theorem p6:∀ {l:List Nat},(∀ x∈l,x < n)→l.Nodup→(Mi.sortI lt l).Pairwise (fun a b=>lt a b=true)
 | [],_,_=>.nil
 | i::r,hl,nd=>by
  have nd:=List.nodup_cons.mp nd
  have hr:∀ x∈r,x < n:=fun x hx=>hl x (List.mem_cons_of_mem _ hx)
  exact yI O (hl i List.mem_cons_self) (fun x hx=>hr x ((m7 lt r).mem_iff.mp hx)) (fun z=>nd.1 ((m7 lt r).mem_iff.mp z)) (p6 hr nd.2)
theorem Et:∀ {a b:List Nat},(∀ x∈a,x < n)→a.Perm b→a.Pairwise (fun x y=>lt x y=true)→b.Pairwise (fun x y=>lt x y=true)→a=b
 | [],b,_,p,_,_=>p.nil_eq
 | x::r,b,hl,p,ha,hb=>by
  cases b with
  | nil=>exact absurd p.length_eq (by simp)
  | cons y t =>
   have hx:x∈y::t:=p.mem_iff.mp List.mem_cons_self
   have hy:y∈x::r:=p.mem_iff.mpr List.mem_cons_self
   have e:x=y:=by
    rcases List.mem_cons.mp hx with h|h
    ·exact h
    ·rcases List.mem_cons.mp hy with h'|h'
     ·exact h'.symm
     ·have a1:=(List.pairwise_cons.mp ha).1 y h'
      have a2:=(List.pairwise_cons.mp hb).1 x h
      rw[O.asy _ _ (hl x List.mem_cons_self) (hl y hy) a1] at a2;cases a2
   subst e
   rw[Et (fun z hz=>hl z (List.mem_cons_of_mem _ hz)) (List.Perm.cons_inv p) (List.pairwise_cons.mp ha).2 (List.pairwise_cons.mp hb).2]
end
theorem R8{kz:List (List Int)}(nd:kz.Nodup){p:Array Nat}(pm:Pm kz.length p)(sd:Sd (Sx kz) p kz.length):p.toList=Mi.wI kz kz.length:=by
 have O:=CN nd
 have e:Mi.wI kz kz.length=Mi.sortI (Sx kz) (List.range kz.length):=by
  unfold Mi.wI Sx
  congr 1
  funext i j
  exact(CP _ _).symm
 have hp:p.toList.Perm (List.range kz.length):=by have:=Array.perm_iff_toList_perm.mp pm.pm;simpa using this
 have hb:∀ x∈p.toList,x < kz.length:=fun x hx=>by simpa using hp.mem_iff.mp hx
 rw[e]
 refine Et O hb (hp.trans (m7 _ _).symm) ?_ (p6 O (fun x hx=>by simpa using hx) List.nodup_range)
 rw[List.pairwise_iff_getElem]
 intro i j hi hj hij
 have hi':i < p.size:=by simpa using hi
 have hj':j < p.size:=by simpa using hj
 have:=sd i j hij (by rw[← pm.size];exact hj')
 rw[Gu hi',Gu hj'] at this
 simpa using this
end So
namespace A
open PySem L2 PyProof.Rows So
open Mi (D W Rs Fin aq Out Tg)
variable[Tb:eZ]
theorem MT{T:Addr}{q:Str}{H H' Hv:Hp}(v:Vw H Hv)(t:Tab T q H H'):cO H Hv H' Hv:=by
 rcases t with rfl|⟨ps,ps',c,hT,hc,ne,rfl,ck⟩
 ·exact .refl v
 ·have get:∀ {a o},H a=some o→NT o→upd (upd H T (.tbl q ps')) c (.ext (lC c q)) a=some o:=fun {a o} e n=>by
   rw[aH (aQ e hc),aH (fun z=>by rw[z,hT] at e;cases e;exact n)];exact e
  have back:∀ {a o},upd (upd H T (.tbl q ps')) c (.ext (lC c q)) a=some o→(∀ w ps,o≠.tbl w ps)→(∀ φ,o≠.ext φ)→H a=some o:=fun {a o} e n1 n2=>by
   by_cases z:a=c
   ·subst z;rw[aP] at e;cases e;exact absurd rfl (n2 _)
   ·rw[aH z] at e
    by_cases z2:a=T
    ·subst z2;rw[aP] at e;cases e;exact absurd rfl (n1 _ _)
    ·rw[aH z2] at e;exact e
  refine⟨⟨fun a o e n=>get e n,fun a e=>?_,fun a w p0 e=>?_⟩,gm.refl _,⟨fun a o e=>get (v.sub a o e) (v.nv a o e),fun a xs e=>v.tup a xs (back e (fun _ _ z=>by cases z) (fun _ z=>by cases z)),fun a o u e=>v.frz a o u (back e (fun _ _ z=>by cases z) (fun _ z=>by cases z)),ck,v.nv⟩,fun _ _ _ n=>n⟩
  ·by_cases z:a=c
   ·subst z;exact hc
   ·rw[aH z] at e
    by_cases z2:a=T
    ·subst z2;rw[aP] at e;cases e
    ·rw[aH z2] at e;exact e
  ·by_cases z2:a=T
   ·subst z2
    rw[hT] at e;cases e
    exact⟨ps',by rw[aH (Ne.symm ne),aP]⟩
   ·exact⟨p0,by rw[aH (aQ e hc),aH z2];exact e⟩
theorem Kh{Hv:Hp}:∀ {ds:List D} {xs:List V} {bs:List Int},Mi.rD ds=some bs→P2 (Rep Hv) ds xs→xs=bs.map V.int
 | [],_,bs,e,r=>by cases e;cases r;rfl
 | .int b::ds,_,bs,e,r=>by
  cases r with
  | cons x t =>
   cases hb:Mi.rD ds with
   | none=>rw[Mi.rD,hb] at e;cases e
   | some cs =>
    rw[Mi.rD,hb] at e
    cases e
    rw[Kh hb t,jU.mp x];rfl
section
variable{X:Cx}{K:PySem.W.Frag}{M:Nat→Bool}{te tb ta:TE}{a b kf:Mi.E}{T:Addr}{q:Str}{ρ : List Nat}
theorem Ws{e:Mi.Env}{σ : L2.St}{H Hv:Hp}(I:R0 M e σ H Hv)(hM:∀ j∈ρ,M j=false){d:D}{v:V}(r:Rep Hv d v):R0 (fun _=>false) (Mi.CT ρ e d) (lR ρ σ v) H Hv:=by
 refine⟨I.vw,by simp[Mi.CT,lR],fun i w h _=>?_,fun i w h m=>by cases m⟩
 cases i with
 | zero =>
  have:W.d d=w:=by simpa [Mi.CT] using h
  subst this
  exact⟨v,rfl,r⟩
 | succ i =>
  have h:(ρ.map fun j=>(e[j]?).join)[i]? = some (some w):=by simpa [Mi.CT] using h
  rw[List.getElem?_map] at h
  obtain⟨j,hj,e2⟩:=Option.map_eq_some_iff.mp h
  have e3:e[j]? = some (some w):=by
   cases z:e[j]? with
   | none=>rw[z] at e2;cases e2
   | some y=>rw[z] at e2;exact congrArg some e2
  obtain⟨u,hu,ru⟩:=I.nob j w e3 (hM j (List.mem_of_getElem? hj))
  exact⟨u,by simp[lR,List.getElem?_map,hj,hu],ru⟩
theorem JV{c':Addr}(hk:AE (fun _=>false) qN tb kf)(hM:∀ j∈ρ,M j=false){e:Mi.Env}{σ : L2.St}:∀ {ds:List D} {xs:List V} {kz:List (List Int)} {H Hv:Hp} {R:List V→Hp→Prop},R0 M e σ H Hv→P2 (Rep Hv) ds xs→H c'=some (.ext (lC c' q))→Mi.nJ ρ kf e ds=.ok kz →
 (∀ ks H3 Hv3,cO H Hv H3 Hv3→KeysAre H3 kz ks→R ks H3)→Dv c' q (fun v H K=>tb (lR ρ σ v) H K) xs H R
 | [],_,kz,H,Hv,R,I,.nil,_,hz,h=>by
  have:kz=[]:=by rw[Mi.nJ] at hz;cases hz;rfl
  subst this
  exact h [] H Hv (.refl I.vw) .nil
 | d::ds,_,kz,H,Hv,R,I,.cons (b:=v) (m:=xs) r t,hc,hz,h=>by
  rw[Mi.nJ] at hz
  show tb (lR ρ σ v) H _
  cases hkd:kf (Mi.CT ρ e d) with
  | no=>rw[hkd] at hz;cases hz
  | ex z=>rw[hkd] at hz;cases hz
  | ok kd =>
   rw[hkd,Mi.aC] at hz
   cases kd with
   | lst es =>
    cases hes:Mi.rD es with
    | none=>rw[show Mi.Gw (.lst es)=.no from by show Mi.pR (Mi.rD es)=_;rw[hes];rfl] at hz;cases hz
    | some z =>
     rw[show Mi.Gw (.lst es)=.ok z from by show Mi.pR (Mi.rD es)=_;rw[hes];rfl,Mi.aC] at hz
     cases hzs:Mi.nJ ρ kf e ds with
     | no=>rw[hzs] at hz;cases hz
     | ex y=>rw[hzs] at hz;cases hz
     | ok zs =>
      rw[hzs] at hz
      have hz:kz=z::zs:=by cases hz;rfl
      subst hz
      refine hk _ _ H Hv _ (Ws I hM r) ?_
      rw[hkd]
      intro kv H1 Hv1 g1 kq
      obtain⟨p,o,rfl,n0,hp,nv,ci⟩:=kq
      cases o with
      | lst vs =>
       have hv:vs=z.map V.int:=Kh hes ci
       subst hv
       refine⟨g1.old.at hc,JV hk hM (I.grow g1) (cX g1.vis t) (g1.old.at hc) hzs fun ks H3 Hv3 g3 ka=>h _ H3 Hv3 (g1.trans g3) (.cons ⟨p,rfl,g3.old.at hp⟩ ka)⟩
      | _=>exact ci.elim
   | _=>cases hz
theorem JF{F:D→V→Prop}{ds:List D}{xs:List V}(h:P2 F ds xs):∀ l:List Nat,(∀ i∈l,i < ds.length)→P2 F (l.map fun i=>ds.getD i .non) (l.map fun i=>xs.getD i .non)
 | [],_=>.nil
 | i::r,hl=>by
  have hi:=hl i List.mem_cons_self
  have e1:ds[i]? = some (ds.getD i .non):=by simp[hi]
  obtain⟨y,e2,f⟩:=h.getL e1
  have:xs.getD i .non=y:=by simp[e2]
  refine .cons ?_ (JF h r fun j hj=>hl j (List.mem_cons_of_mem _ hj))
  show F (ds.getD i .non) (xs.getD i .non)
  rw[this];exact f
theorem Um(hT:(T,q)∈Tb.l)(hM:∀ j∈ρ,M j=false)(ha:AE M qP te a)(hk:AE (fun _=>false) qN tb kf):AE M qN (M4 T q ρ te tb) (Mi.CJ ρ a kf):=fun e σ H Hv Q I h =>
 ha e σ H Hv _ I ((aq.mp h).mono fun x hx v H1 Hv1 g1 rx=>by
  cases x with
  | lst ds =>
   obtain⟨h64,hx⟩:=Mi.aU (show Fin (Mi.aR (ds.length < 64) _) _ from hx)
   obtain⟨kz,hkz,hx⟩:=lB (aq.mp hx)
   obtain⟨nd,hx⟩:=Mi.aU hx
   have hx:=Mi.jZ hx
   obtain⟨p,xs,rfl,l,r⟩:=RD.lst g1.vw rx
   have lx:=r.len
   have I1:=I.grow g1
   obtain⟨tps,ht⟩:=g1.vw.cd.has _ hT
   refine⟨p,xs,tps,rfl,by omega,ht,g1.vw.cd,fun H2 c' tab hc'=>?_⟩
   have g2:=MT g1.vw tab
   refine⟨l.old g2.old,JV hk hM (I1.grow g2) r hc' hkz fun ks H3 Hv3 g3 ka=>?_⟩
   have lk:kz.length=ds.length:=by
    have:∀ (ds:List D) (kz:List (List Int)),Mi.nJ ρ kf e ds=.ok kz→kz.length=ds.length:=fun ds=>by
     induction ds with
     | nil=>intro kz h;rw[Mi.nJ] at h;cases h;rfl
     | cons d ds ih =>
      intro kz h
      rw[Mi.nJ] at h
      cases h1:kf (Mi.CT ρ e d) with
      | no=>rw[h1] at h;cases h
      | ex z=>rw[h1] at h;cases h
      | ok kd =>
       rw[h1,Mi.aC] at h
       cases h2:Mi.Gw kd with
       | no=>rw[h2] at h;cases h
       | ex z=>rw[h2] at h;cases h
       | ok z =>
        rw[h2,Mi.aC] at h
        cases h3:Mi.nJ ρ kf e ds with
        | no=>rw[h3] at h;cases h
        | ex y=>rw[h3] at h;cases h
        | ok zs=>rw[h3] at h;cases h;rw[List.length_cons,List.length_cons,ih zs h3]
    exact this ds kz hkz
   refine⟨kz,by omega,nd,ka,fun p2 ys hp2 so=>?_⟩
   obtain⟨pa,pm,sd,rfl⟩:=so
   have e0:pa.toList=Mi.wI kz ds.length:=by
    rw[← lk]
    exact R8 nd (by rw[lk,lx];exact pm) (by rw[lk,lx];exact sd)
   have rr:P2 (Rep Hv3) (Mi.sortBy kz ds) (pa.toList.map fun i=>xs.getD i .non):=by
    unfold Mi.sortBy
    rw[← e0]
    refine JF (cX (g2.vis.trans g3.vis) r) _ fun i hi=>?_
    have:=(Array.perm_iff_toList_perm.mp pm.pm).mem_iff.mp hi
    rw[lx];simpa using this
   obtain⟨g4,kk⟩:=CG g3.vw rr hp2
   have gg:=g1.trans (g2.trans (g3.trans g4))
   exact hx _ _ _ gg (KM.mono (κ:=qN) (g1.old.trans (g2.old.trans g3.old)) kk)
  | _=>exact hx.elim)
end
end A
namespace L2
open PySem PySem.Spec PyProof.Rows A So
structure Rj(K:PySem.W.Frag)(x qual:Str)(st:Stmt)(c f:Addr)(fd:FuncData):Prop where
 ex:∃ (oc:Value) (od:Option Addr) (kV doc pm:Value) (an:Option Addr) (ct:Value) (osl:Array (Option Value)),
  fd=PySem.W.fnOf x qual (j4 st) (jf st) (aX st) .none kV doc pm an (.ref c) ct∧K.lookup f=some ⟨oc,od,.func fd,osl⟩∧PySem.W.codeIn K (.ref c) qual=true
section
variable{P:Program}{w:World}{K:PySem.W.Frag}{mg:Str→Option Value}{base:Heap}
theorem Rj.ok{x qual:Str}{st:Stmt}{c f:Addr}{fd:FuncData}{N ps:List Str}{k:Nat}{sp:Sp}(F:Rj K x qual st c f fd)(S:bL N ps (aX st))(len:∀ vs H Q E,sp vs H Q E→vs.length=ps.length)
 (hbody:∀ (A:Around) (outer:List Env) (s:Shared) (H:Hp) (vs:List V) (Q:VK) (E:XK),jx k (A.deeper (envOfC qual (aX st) s.heap.objs.size f (.ref c)))→sp vs H Q E →
  ∃ t,Km (Im dm P w K mg base N qual (aX st) f (.ref c) A outer s H E).Xp (jf st) t∧t { nx:=fun _ H'=>Q .non H',rt:=Q } (start N vs) H):dG P w K mg base dm (k+1) f fd ps sp:=by
 obtain⟨oc,od,kV,doc,pm,an,ct,osl,rfl,lk,hcd⟩:=F.ex
 refine Vg lk hcd S len fun A outer s H vs Q E hr hsp=>?_
 obtain⟨t,h,q⟩:=hbody A outer s H vs Q E hr hsp
 exact⟨t,h.Xp,q⟩
end
structure Us(K:PySem.W.Frag)(mg:Str→Option Value)(x:Str)(st:Stmt)(ps:List Str)(c:Addr):Prop where
 ex:∃ (f:Addr) (fd:FuncData),mg x=some (.ref f)∧PySem.W.keepIn K (.ref f)=true∧Binds K fd ps []∧Rj K x x st c f fd
theorem Tv{K:PySem.W.Frag}{h:Heap}{mg:Str→Option Value}{x:Str}{st:Stmt}{ps:List Str}{f c:Addr}{oc:Value}{od an:Option Addr}{osl:Array (Option Value)}{kV doc pm ct:Value}(X:K.In h)(G:h.Ns mainGlobals mg)
 (hb:∀ (kV doc pm:Value) (an:Option Addr) (cdv ct:Value) (us:List Value),us.length=ps.length→bindArgs (PySem.W.fnOf x x (j4 st) (jf st) (aX st) .none kV doc pm an cdv ct) ⟨us,[]⟩=pure (ps.zip us))
 (a:PySem.W.nsIn K mainGlobals x=some (some (.ref f))) (l:K.lookup f=some ⟨oc,od,.func (PySem.W.fnOf x x (j4 st) (jf st) (aX st) .none kV doc pm an (.ref c) ct),osl⟩)
 (cc:PySem.W.codeIn K (.ref c) x=true) (k:PySem.W.keepIn K (.ref f)=true):Us K mg x st ps c:=by
 have F:=Qh (st:=st) l cc k
 exact⟨f,_,PySem.W.mg_of X G a,k,F.binds hb,⟨oc,od,kV,doc,pm,an,ct,osl,rfl,l,cc⟩⟩
theorem Us.cal{P:Program}{w:World}{K:PySem.W.Frag}{mg:Str→Option Value}{base:Heap}{CX:Jl}{k:Nat}{x:Str}{st:Stmt}{ps:List Str}{c:Addr}{sp:Sp}(F:Us K mg x st ps c)(h:∀ f fd,Rj K x x st c f fd→dG P w K mg base CX k f fd ps sp) :
 mW P w K mg base CX k x ps sp:=by
 obtain⟨f,fd,h1,h2,h3,h4⟩:=F.ex
 exact⟨f,fd,h1,h2,h3,h f fd h4⟩
theorem Bm.one{X:Cx}{x y:Str}{j:Nat}{sc:Scope}{c:Addr}(hn:sc.names=[(x,.local),(y,.free)])(hxy:(y == x)=false)(hk:sc.kind=.function)(co:sc.isCoroutine=false)(gen:sc.isGenerator=false)(hc:X.env.cells=[(y,c)])(hN:X.N[j]? = some y)(hy:X.env.kindOf y=some .cell) :
 Bm X x [j] [x,y] sc [(y,c)]:=by
 have hl:sc.names.lookup y=some .free:=by
  rw[hn,List.lookup,hxy]
  show List.lookup y [(y,NameKind.free)]=_
  rw[List.lookup,beq_self_eq_true]
 refine⟨hk,co,gen,fun z hz=>?_,by rw[hn,List.lookup,beq_self_eq_true],fun z d h=>by rw[hc];exact h,fun z h=>?_,[y],rfl,rfl,fun i k z h1 h2=>?_⟩
 ·rw[hn] at hz
  rcases List.mem_cons.mp hz with rfl|hz
  ·exact fun q=>by cases q
  ·rw[List.mem_singleton.mp hz];exact fun q=>by cases q
 ·rw[hn,List.lookup] at h
  split at h
  ·cases h
  ·rw[List.lookup] at h
   split at h
   ·rename_i q
    exact⟨c,by rw[List.lookup,q]⟩
   ·cases h
 ·cases i with
  | zero =>
   have e1:j=k:=by simpa using h1
   have e2:y=z:=by simpa using h2
   subst e1 e2
   exact⟨hN,hl,.inl hy⟩
  | succ i=>simp at h1
section
variable[Tb:eZ]
theorem Lf{P:Program}{w:World}{K:PySem.W.Frag}{mg mb:Str→Option Value}{k:Nat}{fa a c T:Addr}{q:Str}{fd:FuncData}{x:Str}{s₁:Shared}{vs:List Value}{ns:List Int}(hTb:Tb.l=[(T,q)])
 (KX:K.In s₁.heap) (hns:s₁.heap.Ns mainGlobals mg) (hb:s₁.heap.Ns builtinsNs mb) (hbb:∀ x:Str,x ≠ "__name__" → mb x=bootBuiltins x) (hlim:s₁.heap.NoLimit) (hg:s₁.gens = #[])
 (ha:s₁.heap.get? a=some { cls:=.type "list", data:=.seq vs.toArray }) (hi:IntsAre vs ns) (hl:ns.length≤63) (hr:jx k callerA)
 (hKa:K.lookup a=none) (hKT:K.lookup T=none) (C:PySem.W.CodeHd s₁.heap c T) (hT:s₁.heap.get? T=some (PySem.W.tabObj #[])) (hB:BM mg s₁.heap)
 (F:∀ base:Heap,K.In base→base.Ns mainGlobals mg→BM mg base→PySem.W.CodeHd base c T→dG P w K mg base dm k fa fd [x] Ed) (hbind:∀ (s:Shared) (u:Value),BindsTo s fd ⟨[u],[]⟩ [(x,u)]) :
 codeAny (model P w) callerA (.call (.ref fa) ⟨[.ref a],[]⟩) (fun r s'=>r=.ok (.ret (.bool true))∧OldK s₁.heap s'.heap∧s'.os=s₁.os∧AllBare s'.gens) s₁:=by
 have rv:=zZ hi
 have lenV:=hi.length
 have aT:a≠T:=fun z=>by rw[z,hT] at ha;cases ha
 let H:Hp:=fun b=>if b=a then some (.frz { cls:=.type "list", data:=.seq vs.toArray } (.lst (ns.map V.int))) else if b=T then some (.tbl q #[]) else none
 have Ha:H a=some (.frz { cls:=.type "list", data:=.seq vs.toArray } (.lst (ns.map V.int))):=if_pos rfl
 have HT:H T=some (.tbl q #[]):=by show (if T=a then _ else _)=_;rw[if_neg (Ne.symm aT),if_pos rfl]
 have Hn:∀ b,b≠a→b≠T→H b=none:=fun b h1 h2=>by show (if b=a then _ else _)=_;rw[if_neg h1,if_neg h2]
 have Hd:∀ {b u},H b=some u→(b=a∧u=.frz { cls:=.type "list", data:=.seq vs.toArray } (.lst (ns.map V.int)))∨(b=T∧u=.tbl q #[]):=fun {b u} e=>by
  by_cases h1:b=a
  ·subst h1;rw[Ha] at e;cases e;exact .inl ⟨rfl,rfl⟩
  ·by_cases h2:b=T
   ·subst h2;rw[HT] at e;cases e;exact .inr ⟨rfl,rfl⟩
   ·rw[Hn b h1 h2] at e;cases e
 have hok:qX P w H s₁.heap:=fun b u e=>by
  rcases Hd e with ⟨rfl,rfl⟩|⟨rfl,rfl⟩
  ·exact⟨ha,by rw[List.length_map,sizeLine_eq];omega,vs,_,rv,ha⟩
  ·exact hT
 have free:∀ {b:Addr} {o:Obj},s₁.heap.get? b=some o→o.cls≠.type "list" → o≠PySem.W.tabObj #[]→H b=none:=fun {b o} e h1 h2=>by
  refine Hn b (fun z=>?_) fun z=>?_
  ·rw[z,ha] at e;cases e;exact h1 rfl
  ·rw[z,hT] at e;cases e;exact h2 rfl
 have xg:∀ {b:Addr} {o:Obj},s₁.heap.get? b=some o→H b=none→(yM s₁.heap H).get? b=some o:=fun e n=>Qe e n
 have nsK:∀ {b:Addr} {m:Str→Option Value},s₁.heap.Ns b m→(yM s₁.heap H).Ns b m:=fun {b m} ⟨o,es,ep,e,d,r⟩=>⟨o,es,ep,xg e (Hn b (fun z=>by rw[z,ha] at e;cases e;cases d) fun z=>by rw[z,hT] at e;cases e;cases d),d,r⟩
 have hKb:K.In (yM s₁.heap H):=fun b o e=>xg (KX b o e) (Hn b (fun z=>by rw[z,hKa] at e;cases e) fun z=>by rw[z,hKT] at e;cases e)
 have hM:Mod K mg (yM s₁.heap H):=⟨hKb,nsK hns,⟨mb,nsK hb,hbb⟩,let ⟨mc,h1,h2⟩:=hlim;⟨mc,nsK h1,h2⟩⟩
 have e0:Ut P w K mg (yM s₁.heap H) callerA [] s₁ H:=⟨rfl,hM,fun b o e=>Sq e,Nat.le_of_eq (Ls _ _),trivial,fun b hb=>absurd (show b∈([]:List Addr) from hb) (by simp),hok,.of_eq hg⟩
 have hB':BM mg (yM s₁.heap H):=by
  obtain⟨bm,bo,b1,b2,b3,b4,b5,b6,b7⟩:=hB
  exact⟨bm,bo,b1,b2,b3,xg b4 (free b4 (by rw[b5];decide) (fun z=>by rw[z] at b5;cases b5)),b5,b6,b7⟩
 have C':PySem.W.CodeHd (yM s₁.heap H) c T:=by
  obtain⟨o,vs2,file,tf,flags,tg,inF,text,tt,e,h1,r⟩:=C
  exact⟨o,vs2,file,tf,flags,tg,inF,text,tt,xg e (free e (by rw[h1];decide) (fun z=>by rw[z] at h1;cases h1)),h1,r⟩
 have ck:iD H:=⟨fun r hr=>by
  rw[hTb] at hr
  obtain rfl:r=(T,q):=by simpa using hr
  exact⟨#[],HT⟩,fun T2 q2 ps e=>by
  rcases Hd e with ⟨_,z⟩|⟨_,z⟩
  ·cases z
  ·cases z;exact⟨trivial,fun pos v hv=>by cases hv⟩⟩
 refine codeAny_mono ((F _ hKb (nsK hns) hB' C').run callerA [] s₁ H ⟨[.ref a],[]⟩ [.ref a] [.ref a] (fun v _=>v=.bl true) (fun _ _ _=>False) hr e0 (hbind s₁ (.ref a)) (.cons rfl .nil) ⟨a,ns,rfl,.inr ⟨_,Ha⟩,hl,ck,fun _=>rfl⟩) fun r s' h=>?_
 cases r with
 | error e=>exact h.elim
 | ok fl =>
  cases fl with
  | next=>exact False.elim h
  | brk=>exact False.elim h
  | cont=>exact False.elim h
  | ret u =>
   obtain⟨v,H',os,bare,un,hok',r',q'⟩:=h
   have q':v=.bl true:=q'
   subst q'
   obtain rfl:u=Value.bool true:=r'
   have old:∀ b o,s₁.heap.get? b=some o→asItWas s₁.heap s'.heap b o:=fun b o e=>by
    by_cases h1:b=a
    ·subst h1
     have z2:=un.zT b _ _ Ha
     obtain⟨e2,_⟩:=hok' b _ z2
     rw[ha] at e;cases e
     exact .inl e2
    ·by_cases h2:b=T
     ·subst h2
      obtain⟨more,z2⟩:=un.zJ b _ _ HT
      have e2:s'.heap.get? b=some (PySem.W.tabObj (#[]++more)):=hok' b _ z2
      rw[hT] at e;cases e
      obtain⟨oc,vs2,_,_,_,_,_,_,_,f1,f2,f3,f4,_⟩:=C
      exact .inr (.inl ⟨⟨c,oc,vs2,f1,f2,f3,f4⟩,rfl,#[],more,rfl,e2⟩)
     ·exact .inl (un.keep b o e (Hn b h1 h2) (by intro z;exact absurd (show b∈([]:List Addr) from z) (by simp)) (by simp))
   exact⟨rfl,⟨old,fun b o e=>un.there b o e (by simp)⟩,os,bare⟩
theorem MF{l:PySem.W.OpenLaw}{k:Nat}{q:Program}{loose:List Str}{XP:(Str→Option Value)→Heap→Prop}{YP:World→Heap→Prop}{d:DefRec}{K:Params→PySem.W.Frag}{x dn:Str}{c T:Addr}{qn:Str}(hTb:Tb.l=[(T,qn)])
 (hn:l.most=some 63) (hdf:d.params.defaults=[]) (hr:jx k callerA)
 (hY:∀ (w:World) (h:Heap),YP w h→(K w.params).In h) (hL:∀ w:World,∀ a o,(K w.params).lookup a=some o→o.cls≠.type "list") (hK:∀ w:World,(K w.params).lookup T=none)
 (hrec:∃ d,(recsOf q).find? (fun e=>e.name == dn)=some d) (htab:∀ w:World,PySem.W.tabIn (K w.params) dn=some (c,T))
 (F:∀ (w:World) (mg:Str→Option Value) (fa:Addr) (h:Heap),(K w.params).In h→h.Ns mainGlobals mg→mg d.name=some (.ref fa) →
  ∃ fd:FuncData,(∀ (s:Shared) (u:Value),BindsTo s fd ⟨[u],[]⟩ [(x,u)]) ∧
   ∀ base:Heap,(K w.params).In base→base.Ns mainGlobals mg→BM mg base→PySem.W.CodeHd base c T→dG l.prog w (K w.params) mg base dm k fa fd [x] Ed) :
 PySem.W.WalkO q loose XP YP l.row.toRowW d [] (fun f vs=>PySem.call f vs):=by
 refine Att.Gs hn hdf fun w s₀ s₁ mg mb fa o pm cd doc a vs ns G Y ho hd hcd hmg hobj hints hlen hg=>?_
 have KX:=hY w _ Y
 obtain⟨fd,hb,hF⟩:=F w mg fa _ KX G.T.g hmg
 obtain⟨dd,hdd⟩:=hrec
 obtain⟨C,hT⟩:=PySem.W.tab_of G.T KX hdd (htab w)
 have hB:BM mg s₁.heap:=by
  obtain⟨bm,ob,b1,b2,b3,b4,b5,b6⟩:=G.T.bmain
  refine⟨bm,ob,b1,b2,fun z=>?_,b3,b4,b5,b6⟩
  obtain⟨o2,es,ep,e,d2,_⟩:=G.T.g
  rw[z,e] at b3;cases b3;rw[d2] at b6;cases b6
 have hKa:(K w.params).lookup a=none:=by
  cases z:(K w.params).lookup a with
  | none=>rfl
  | some o2 =>
   have e:=KX a o2 z
   rw[hobj] at e;cases e
   exact absurd rfl (hL w a _ z)
 exact Lf hTb KX G.T.g G.T.b G.T.builtins G.T.nolimit hg hobj hints hlen hr hKa (hK w) C hT hB hF hb
end
end L2
namespace A
open PySem L2 PyProof.Rows So
open Mi (D W Rs Fin aq Out Tg)
variable[Tb:eZ]
section
variable{K:PySem.W.Frag}{M:Nat→Bool}{ta tb:TE}{a b:Mi.E}
def U3:V→List V→Hp→VK→Prop:=fun x xs H Q=>∃ (p:Addr) (ys:List Str) (z:Str),x=.ref p∧xs=[.str z]∧z∈ys∧H p=some (.tup (ys.map V.str))∧Q (.int (ys.idxOf z:Nat)) H
def U4:V→List V→Hp→VK→Prop:=fun x xs H Q=>∃ (p:Addr) (ys:List Str) (z:Str),x=.ref p∧xs=[.str z]∧z∈ys∧ys.length≤1000∧Lst H p (ys.map V.str)∧Q (.int (ys.idxOf z:Nat)) H
theorem Pa{X:Cx}:Ro X "tuple.index" U3:=Sv
theorem Pb{X:Cx}:Ro X "list.index" U4:=Sw
theorem Rg(ha:AE M qP ta a)(hb:AE M qP tb b):AE M qV (X4 K "list" U3 U4 ta (jG tb qZ)) (Mi.m2 Mi.vG a b):=fun e σ H Hv Q I h =>
 ha e σ H Hv _ I ((aq.mp h).mono fun x hx v H1 Hv1 g1 rx=>by
  obtain⟨y,hy,hk⟩:=lB (aq.mp hx)
  cases y with
  | str z =>
   obtain⟨ys,ey,q1⟩:=iY (aq.mp hk)
   obtain⟨⟨hz,hl⟩,q2⟩:=Mi.aU q1
   have q3:=Mi.jZ q2
   clear hk q1 q2 hx
   cases x with
   | tup ds =>
    obtain⟨p,us,rfl,l,_,r⟩:=RD.tup g1.vw rx
    have:=xj ey r
    subst this
    refine .inl ⟨⟨p,_,rfl,l⟩,hb e σ H1 Hv1 _ (I.grow g1) ?_⟩
    rw[hy]
    intro v2 H2 Hv2 g2 ry
    cases RD.str ry
    exact⟨p,ys,z,rfl,rfl,hz,g2.old.at l,q3 _ _ _ (g1.trans g2) ir⟩
   | lst ds =>
    obtain⟨p,us,rfl,l,r⟩:=RD.lst g1.vw rx
    have:=xj ey r
    subst this
    refine .inr ⟨.inl ⟨rfl,_,l.sq⟩,hb e σ H1 Hv1 _ (I.grow g1) ?_⟩
    rw[hy]
    intro v2 H2 Hv2 g2 ry
    cases RD.str ry
    exact⟨p,ys,z,rfl,rfl,hz,hl,l.old g2.old,q3 _ _ _ (g1.trans g2) ir⟩
   | _=>cases ey
  | _=>exact hk.elim)
end
end A
namespace Mi
end Mi
namespace A
open PySem L2 PyProof.Rows So
open Mi (D W Rs Fin aq Out Tg)
variable[Tb:eZ]
section
variable{K:PySem.W.Frag}{M:Nat→Bool}{t:TE}{m:Mi.E}{w:Mi.EW}
theorem Mh(y:Nat)(hy:M y=true)(ha:AW (fun j=>M j && !(j == y)) qN t w):AS M qN (G9 t) (Mi.bZ w):=fun H0 Hv0 e σ H Hv D I h=>by
 have nb:∀ {j:Nat},(M j && !(j == y))=false→M j=false∨j=y:=fun {j} z=>by
  cases q:M j with
  | false=>exact .inl rfl
  | true=>rw[q] at z;exact .inr (by simpa using z)
 have nt:∀ {j:Nat},(M j && !(j == y))=true→M j=true∧j≠y:=fun {j} z=>by simpa using z
 have fin:∀ Hv',cO H0 Hv0 H Hv'→R0 (fun j=>M j && !(j == y)) e σ H Hv'→G9 t D σ H:=fun Hv' gw R =>
  ha e σ H Hv' _ R ((aq.mp h).mono fun d hd v H1 Hv1 g1 r=>hd v H1 Hv1 (gw.trans g1) (KM.mono (κ:=qN) gw.old r))
 have other:(∀ w0,e[y]?≠some (some w0))→G9 t D σ H:=fun none=>fin Hv I.gw ⟨I.vw,I.len,fun j w' z q=>by
  rcases nb q with q|rfl
  ·exact I.nob j w' z q
  ·exact absurd z (none w'),fun j w' z q=>I.own j w' z (nt q).1⟩
 cases he:e[y]? with
 | none=>exact other fun w0 z=>by rw[he] at z;cases z
 | some ow =>
  cases ow with
  | none=>exact other fun w0 z=>by rw[he] at z;cases z
  | some w0 =>
   obtain⟨p,Hv',q,I',s,r⟩:=I.VN hy he
   refine fin Hv' I'.gw ⟨I'.vw,I.len,fun j w' z q2=>?_,fun j w' z q2=>?_⟩
   ·by_cases hj:j=y
    ·subst hj
     rw[he] at z;cases z
     exact⟨_,q,r⟩
    ·exact I'.nob j w' (by rw[List.getElem?_set_ne (Ne.symm hj)];exact z) ((nb q2).resolve_right hj)
   ·obtain⟨m1,hj⟩:=nt q2
    exact I'.own j w' (by rw[List.getElem?_set_ne (Ne.symm hj)];exact z) m1
end
end A
namespace L2
end L2
namespace L2
end L2
namespace L2
end L2
namespace Mi
open PySem
def Jk{α : Type}(r:Rs α)(k:α→Prop)(x:Vq→Prop):Prop:=match r with
 | .ok a=>k a
 | .ex z=>x z
 | .no=>False
theorem qT{α β : Type}{r:Rs α}{f:α→Rs β}{k:β→Prop}{x:Vq→Prop}:Jk (r.bind f) k x↔Jk r (fun a=>Jk (f a) k x) x:=by cases r<;>exact Iff.rfl
end Mi
namespace A
open PySem L2 PyProof.Rows So
open Mi (D W Rs Fin Jk aq qT Out Tg Vq)
variable[Tb:eZ]
end A
namespace L2
end L2
namespace L2
end L2
namespace L2
open PySem PySem.Spec PyProof.Rows
end L2
namespace Mi
open PySem
end Mi
namespace A
open PySem L2 PyProof.Rows So
open Mi (D W Rs Fin Jk aq qT Out Tg Vq)
variable[Tb:eZ]
end A
namespace PySem.W
end PySem.W
namespace L2
open PySem PySem.Spec PyProof.Rows
open A (Zb)
end L2
namespace Mi
open PySem
end Mi
namespace A
open PySem L2 PyProof.Rows So
open Mi (D W Rs Fin Jk aq qT Out Tg Vq)
variable[Tb:eZ]
end A
namespace Mi
open PySem
end Mi
namespace L2
open PySem PySem.Spec PyProof.Rows
end L2
namespace A
open PySem L2 PyProof.Rows So
open Mi (D W Rs Fin aq)
variable[Tb:eZ]
end A
namespace Mi
end Mi
namespace A
open PySem L2 PyProof.Rows So
open Mi (D W Rs Fin aq Out Tg)
variable[Tb:eZ]
end A
namespace Mi
open PySem
end Mi
namespace L2
open PySem PySem.Spec PyProof.Rows
end L2
namespace A
open PySem L2 PyProof.Rows So
open Mi (D W Rs Fin aq)
variable[Tb:eZ]
end A
namespace Mi
open PySem
end Mi
namespace A
open PySem L2 PyProof.Rows So
open Mi (D W Rs Fin Jk aq qT Out Tg Vq)
variable[Tb:eZ]
end A
namespace L2
open PySem PySem.Spec PyProof.Rows
end L2
namespace Mi
open PySem
end Mi
namespace A
open PySem L2 PyProof.Rows So
open Mi (D W Rs Fin aq Out Tg)
variable[Tb:eZ]
end A
namespace Mi
open PySem
def TQ(x:D)(lo hi:Option Int):Rs D:=match x,lo,hi with
 | .tup ds,some a,none=>aR (0≤a∧a≤(ds.length:Int)∧ds.length≤16777216) (.ok (.tup (ds.drop a.toNat)))
 | .tup ds,none,some b=>aR (0≤b∧b≤(ds.length:Int)∧ds.length≤16777216) (.ok (.tup (ds.take b.toNat)))
 | _,_,_=>.no
end Mi
namespace L2
open PySem PySem.Spec PyProof.Rows
section
variable{pr:Program}{wo:World}{Ar:Around}{Ex:Value→Shared→Prop}{z:Shared}
theorem Qy{sl:Addr}{b n:Nat}{u:Tok}{R:Int×Int×Nat→Shared→Prop}(hs:z.heap.IsSliceOf sl .none (.int b u) .none)(hb:b≤n)(h:R (((0:Nat):Int),1,b) z) :
 wpAny (model pr wo) Ar (Builtin.Slice.sliceApplied (.ref sl) (pure (n:Int))) R Ex z:=by
 obtain⟨o,ho,hc,hd⟩:=id hs
 unfold Builtin.Slice.sliceApplied Builtin.Slice.sliceFields
 refine wpAny_bind (wpAny_bind (wpAny_field ho hd (x:=.none) rfl (wpAny_bind (wpAny_field ho hd (x:=.int b u) rfl (wpAny_bind (wpAny_field ho hd (x:=.none) rfl (wpAny_pure ?_)))))))
 refine wpAny_bind (slicePart_none ?_)
 show wpAny _ _ (if ((1:Int) == 0)=true then _ else _) _ _ z
 rw[if_neg (show ¬ ((1:Int) == 0)=true by decide)]
 refine wpAny_bind (slicePart_none (wpAny_bind (slicePart_int (wpAny_bind (wpAny_pure ?_)))))
 have e1:Builtin.Slice.sliceAdjust none (some (b:Int)) 1 (n:Int)=((0:Int),(b:Int)):=by
  unfold Builtin.Slice.sliceAdjust
  have a1:¬ ((1:Int) < 0):=by omega
  have a2:¬ ((b:Int) < 0):=by omega
  simp only[a1,a2,if_false]
  congr 1
  omega
 have e2:Builtin.Slice.slicePlaces (0:Int) (b:Int) 1=b:=by
  unfold Builtin.Slice.slicePlaces
  simp only[show (1:Int) > 0 by omega,if_true,Int.ediv_one]
  split<;>omega
 show wpAny _ _ (match Builtin.Slice.sliceAdjust none (some (b:Int)) 1 (n:Int) with|(p,q)=>pure (p,(1:Int),Builtin.Slice.slicePlaces p q 1)) _ _ z
 rw[e1]
 show wpAny _ _ (pure ((0:Int),(1:Int),Builtin.Slice.slicePlaces (0:Int) (b:Int) 1)) _ _ z
 rw[e2]
 exact wpAny_pure h
theorem Rr{t sl:Addr}{zs:Array Value}{lo k:Nat}{vl vu:Value}{Q:Value→Shared→Prop}(ht:IsTup z.heap t zs)(hs:z.heap.IsSliceOf sl vl vu .none)(hk:lo+k≤zs.size)
 (ap:∀ (B:Around) (F:Value→Shared→Prop) (R:Int×Int×Nat→Shared→Prop),R ((lo:Int),1,k) z→wpAny (model pr wo) B (Builtin.Slice.sliceApplied (.ref sl) (pure (zs.size:Int))) R F z)
 (h1:lo=0→k=zs.size→Q (.ref t) z) (h2:¬ (lo=0∧k=zs.size)→Q (.ref z.heap.objs.size) { z with heap:=z.heap.push { cls:=.type "tuple", data:=.seq ((zs.toList.drop lo).take k).toArray } }) (hz:zs.size≤sizeLine) :
 wpAny (model pr wo) Ar (getItem (.ref t) (.ref sl)) Q Ex z:=by
 have big:sizeOk (.seq ((zs.toList.drop lo).take k).toArray):=by
  show ((zs.toList.drop lo).take k).toArray.size≤sizeLine
  rw[List.size_toArray,List.length_take,List.length_drop,Array.length_toList];omega
 obtain⟨o,ho,hc,hd⟩:=id hs
 have ty:z.TypeIs (.ref sl) "slice" := ⟨o,ho,hc⟩
 unfold getItem
 try with_reducible refine wpAny_holding ?_
 first|refine wpAny_bind (wpAny_pure ?_)|skip
 refine wpAny_bind (wpAny_sequenceKey ht.typeIs (by decide) ?_)
 refine wpAny_bind (wpAny_callSpecial?_slot (name:=Str.ofString "__getitem__") ht.typeIs slot_tuple_getitem (wpAny_call_entry slot_tuple_getitem ht.typeIs entry_tuple_getitem ?_ (args_tuple_getitem _ _)))
 show wpAny _ _ (Builtin.Tuple.tupleItemsOf (.ref t) >>= _) _ _ z
 refine wpAny_bind (tupleItemsOf_ ht (wpAny_bind (wpAny_typeOf ty ?_)))
 rw[if_pos (by decide)]
 refine wpAny_bind (ap _ _ _ ?_)
 show wpAny _ _ (if ((lo:Int) == 0 && (1:Int) == 1 && k == zs.size)=true then _ else _) _ _ z
 by_cases w:lo=0∧k=zs.size
 ·rw[if_pos (by simp[w.1,w.2])]
  refine wpAny_bind (wpAny_bind (wpAny_typeOf ht.typeIs (wpAny_pure ?_)))
  rw[if_pos (by decide)]
  refine wpAny_bind (wpAny_rule ?_)
  first
   | exact wpAny_bind (wpAny_pure (wpAny_pure ⟨_,rfl,wpAny_pure (h1 w.1 w.2)⟩))
   | exact wpAny_pure ⟨_,rfl,wpAny_pure (h1 w.1 w.2)⟩
 ·have no:¬ (((lo:Int) == 0 && (1:Int) == 1 && k == zs.size)=true):=fun y=>by
   simp only[Bool.and_eq_true,beq_iff_eq] at y
   exact w ⟨by omega,y.2⟩
  rw[if_neg no]
  have e:((List.range k).filterMap fun (j:Nat)=>zs[((lo:Int)+(j:Int) * 1).toNat]?)=(zs.toList.drop lo).take k:=by
   have f:(fun (j:Nat)=>zs[((lo:Int)+(j:Int) * 1).toNat]?)=fun j=>zs[lo+j]?:=by
    funext j
    rw[show ((lo:Int)+(j:Int) * 1).toNat=lo+j by omega]
   have g:=pick_run zs lo k
   rw[List.filterMap_map] at g
   rw[f];exact g
  rw[e]
  have h2:=h2 w
  first
   | exact wpAny_bind (m:=Builtin.Tuple.tupleExact _) (wpAny_newObj_type (wpAny_pure ⟨_,rfl,wpAny_pure h2⟩) big)
   | exact wpAny_bind (m:=Builtin.Tuple.tupleExact _) (wpAny_newObj_type (wpAny_bind (wpAny_pure (wpAny_pure ⟨_,rfl,wpAny_pure h2⟩))) big)
   | exact wpAny_bind (wpAny_bind (m:=Builtin.Tuple.tupleExact _) (wpAny_newObj_type (wpAny_pure (wpAny_pure ⟨_,rfl,wpAny_pure h2⟩)) big))
   | exact wpAny_bind (wpAny_bind (m:=Builtin.Tuple.tupleExact _) (wpAny_newObj_type (wpAny_pure ⟨_,rfl,wpAny_pure h2⟩) big))
end
end L2
namespace A
open PySem L2 PyProof.Rows
open Mi (D W Rs Fin aq)
variable[Tb:eZ]
section
variable{X:Cx}{K:PySem.W.Frag}
def Yl(K:PySem.W.Frag):V→Option Int→Option Int→Hp→VK→Prop:=fun x lo hi H Q=>∃ p xs i k,x=.ref p∧zr K H p xs∧xs.length≤sizeLine∧i+k≤xs.length∧((lo=some (i:Int)∧hi=none∧i+k=xs.length)∨(lo=none∧hi=some (k:Int)∧i=0)) ∧
 (i=0→k=xs.length→Q (.ref p) H)∧∀ q,H q=none→Q (.ref q) (upd H q (.tup ((xs.drop i).take k)))
theorem ZZ:Ri X (Yl X.K):=by
 intro pins s σ H x v vl vu lo hi sl Q I rx hs pl pu h
 obtain⟨p,xs,i,k,rfl,hx,hz,hk,hc,q1,q2⟩:=h
 cases rx
 obtain⟨its,r,ht,_⟩:=I.tuple hx
 have hl:=r.length
 refine⟨"tuple", _,slot_tuple_getitem.lookup,ht.typeIs,?_⟩
 have q2:=q2 _ (I.hok.fresh (Nat.le_refl _))
 have sz:its.toArray.size=xs.length:=by rw[List.size_toArray];omega
 refine Rr (zs:=its.toArray) (lo:=i) (k:=k) ht hs (by rw[sz];exact hk) (fun B F R hr=>?_) (fun e1 e2=>⟨.ref p,H,I,rfl,q1 e1 (by rw[e2,sz])⟩) (fun _=>?_) (by rw[sz];exact hz)
 ·rcases hc with ⟨rfl,rfl,e⟩|⟨rfl,rfl,e⟩
  ·cases pl with
   | int _ t =>
   cases pu
   rw[sz]
   refine sliceApplied_from hs (by omega) ?_
   rw[show xs.length - i=k by omega];exact hr
  ·cases pu with
   | int _ t =>
   cases pl
   subst e
   rw[sz]
   exact Qy hs (by omega) hr
 ·rw[show its.toArray.toList=its from rfl]
  exact⟨.ref s.heap.objs.size,_,I.laid (t':=s.toks) (o:=.tup ((xs.drop i).take k)) (fun b ob q=>Heap.get?_push_of_some _ q) (Nat.le_refl _) ⟨by rw[List.length_take,List.length_drop];omega,_,(r.drop i).take k,⟨_,Heap.get?_push_size _ rfl,rfl,rfl,0,rfl⟩⟩,rfl,q2⟩
theorem Zi:BS qV (Yl K) Mi.TQ:=fun x lo hi v H Hv Q vw rx h=>by
 cases x with
 | tup ds =>
  obtain⟨p,xs,rfl,l1,v1,r1⟩:=RD.tup vw rx
  have hl:=r1.len
  cases lo with
  | some a=>cases hi with
   | some c=>exact h.elim
   | none =>
    obtain⟨⟨z1,z2,z3⟩,h⟩:=Mi.aU h
    obtain⟨i,rfl⟩ : ∃ i:Nat,a=i:=⟨a.toNat,by omega⟩
    rw[Int.toNat_natCast] at h
    refine⟨p,xs,i,xs.length - i,rfl,.inl (.inl l1),by rw[← hl,sizeLine_eq];exact z3,by omega,.inl ⟨rfl,rfl,by omega⟩,fun e1 _=>?_,fun c hc=>?_⟩
    ·subst e1
     exact h _ H Hv (.refl vw) (fQ.mpr ⟨p,xs,rfl,v1,r1⟩)
    ·obtain⟨g,k⟩:=vo vw (r1.drop i) hc
     rw[List.take_of_length_le (by rw[List.length_drop];exact Nat.le_refl _)]
     exact h _ _ _ g k
  | none=>cases hi with
   | none=>exact h.elim
   | some c =>
    obtain⟨⟨z1,z2,z3⟩,h⟩:=Mi.aU h
    obtain⟨k,rfl⟩ : ∃ k:Nat,c=k:=⟨c.toNat,by omega⟩
    rw[Int.toNat_natCast] at h
    refine⟨p,xs,0,k,rfl,.inl (.inl l1),by rw[← hl,sizeLine_eq];exact z3,by omega,.inr ⟨rfl,rfl,rfl⟩,fun _ e2=>?_,fun c hc=>?_⟩
    ·have h:=h (.ref p) H Hv (.refl vw)
     rw[List.take_of_length_le (by omega)] at h
     exact h (fQ.mpr ⟨p,xs,rfl,v1,r1⟩)
    ·obtain⟨g,kk⟩:=vo vw (r1.take k) hc
     rw[List.drop_zero]
     exact h _ _ _ g kk
 | _=>exact h.elim
end
end A
namespace Mi
open PySem
end Mi
namespace L2
open PySem PySem.Spec PyProof.Rows
end L2
namespace A
open PySem L2 PyProof.Rows
open Mi (D W Rs Fin aq)
variable[Tb:eZ]
end A
namespace Mi
open PySem
end Mi
namespace A
open PySem L2 PyProof.Rows So
open Mi (D W Rs Fin aq Out Tg)
variable[Tb:eZ]
end A
namespace L2
open PySem PySem.Spec PyProof.Rows
def oA(h:Heap)(d:Addr)(es:Array DictEntry)(ep:Nat):Prop:=∃ o,h.get? d=some o∧o.ExactDict∧o.data=.dict es ep
theorem oA.ty{s:Shared}{d:Addr}{es:Array DictEntry}{ep:Nat}(x:oA s.heap d es ep):s.TypeIs (.ref d) "dict" := let ⟨o,e,c,_⟩:=x;⟨o,e,c.1⟩
theorem oA.lt{h:Heap}{d:Addr}{es:Array DictEntry}{ep:Nat}(x:oA h d es ep):d < h.objs.size:=let ⟨_,e,_⟩:=x;Heap.lt_size e
theorem oA.go{h h':Heap}{d:Addr}{es:Array DictEntry}{ep:Nat}(x:oA h d es ep)(k:∀ o,h.get? d=some o→h'.get? d=some o):oA h' d es ep:=let ⟨o,e,r⟩:=x;⟨o,k o e,r⟩
section
variable{P:Program}{w:World}{A:Around}{E:Value→Shared→Prop}{s:Shared}{d it:Addr}{es:Array DictEntry}{ep i:Nat}
theorem RQ{Q:Value→Shared→Prop}(nd:(d == sysModules)=false)(x:oA s.heap d es ep)
 (q:Q (.ref s.heap.objs.size) { s with heap:=s.heap.push { cls:=.type "dict_keyiterator", data:=.fields #[.ref d,.int 0 0,.int es.size 0,.int ep 0] } }):wpAny (model P w) A (pyIter (.ref d)) Q E s:=by
 obtain⟨o,e,c,dt⟩:=id x
 have ty:=x.ty
 refine wpAny_pyIter_slot ty F.slot_dict_iter (wpAny_call_entry F.slot_dict_iter ty F.entry_dict_iter ?_ (F.args_dict_iter_1 _))
 unfold Builtin.«dict.__iter__» Builtin.Dict.dictSlotNone
 refine wpAny_bind (wpAny_bind (wpAny_notOrdered_dict ty ?_))
 show wpAny _ _ (pure (Value.ref d)) _ _ s
 refine wpAny_pure ?_
 show wpAny _ _ (Builtin.Dict.showsAll d >>= _) _ _ s
 unfold Builtin.Dict.showsAll
 rw[if_neg (by rw[nd];exact Bool.false_ne_true)]
 refine wpAny_bind (wpAny_pure (wpAny_bind (wpAny_dictEntries e dt (wpAny_bind (wpAny_dictEpoch e dt ?_)))))
 refine wpAny_bind (wpAny_newObj_type (wpAny_pure ⟨_,rfl, "dict_keyiterator", _,⟨_,Heap.get?_push_size _ rfl,rfl⟩,F.slot_dict_keyiterator_next.lookup,?_⟩))
 simpa [rawInt] using q
theorem RP{Q:Option Value→Shared→Prop}(hI:s.heap.IsKeyIter it d i es.size ep)(x:oA s.heap d es ep)(lt:i < es.size)
 (q:∀ h',h'.IsKeyIter it d (i+1) es.size ep→Heap.SameBut it s.heap h'→Q (some es[i].key) { s with heap:=h' }):wpAny (model P w) A (pyNext (.ref it)) Q E s:=by
 obtain⟨oi,ei,ci,di⟩:=id hI
 obtain⟨o,e,c,dt⟩:=id x
 unfold pyNext
 refine wpAny_bind (wpAny_attempt (wpAny_callSpecial?_slot (name:=Str.ofString "__next__") hI.typeIs F.slot_dict_keyiterator_next (wpAny_call_entry F.slot_dict_keyiterator_next hI.typeIs F.entry_dict_keyiterator_next ?_ (F.args_dict_keyiterator_next_1 _))))
 refine wpAny_bind (wpAny_pure (wpAny_bind (wpAny_bind ?_)))
 first|refine wpAny_bind (wpAny_typeNameOfWhole_keyiter hI.typeIs (wpAny_pure ?_))|refine wpAny_bind (wpAny_typeNameOf_keyiter hI.typeIs (wpAny_pure ?_))
 refine wpAny_bind (wpAny_fieldsOf ei di ?_)
 simp only[show Builtin.Dict_items.ownsTuple "dict_keyiterator" = false by decide,Bool.false_eq_true,if_false]
 show wpAny _ _ (if (Value.ref d == Value.none)=true then _ else _) _ _ s
 rw[if_neg (by exact Bool.false_ne_true)]
 refine wpAny_bind (wpAny_pure (wpAny_bind (wpAny_dictEntries e dt ?_)))
 rw[if_neg (by simp)]
 refine wpAny_bind (wpAny_pure (wpAny_bind (wpAny_dictEpoch e dt ?_)))
 rw[if_neg (by simp)]
 refine wpAny_pure ?_
 simp only[show ¬ ((i:Int) < 0) from by omega,if_false,Int.toNat_natCast,Array.getElem?_eq_getElem lt]
 refine wpAny_bind ?_
 first|refine wpAny_bind (wpAny_typeNameOfWhole_keyiter hI.typeIs (wpAny_pure ?_))|refine wpAny_bind (wpAny_typeNameOf_keyiter hI.typeIs (wpAny_pure ?_))
 refine wpAny_bind (wpAny_isOneOf_keyiter hI.typeIs ?_)
 show wpAny _ _ (setField (.ref it) 1 (rawInt ((i:Int)+1)) >>= _) _ _ s
 refine wpAny_bind (wpAny_setField ei di (by simp) ?_)
 have hJ:(s.heap.update it (Obj.mapFields (·.setIfInBounds 1 (rawInt ((i:Int)+1))))).IsKeyIter it d (i+1) es.size ep :=
  ⟨_,Heap.get?_update_self _ ei (Obj.isFreed_of_fields (Obj.data_mapFields di _)),(Obj.cls_mapFields ..).trans ci,by rw[Obj.data_mapFields di];simp[rawInt]⟩
 refine wpAny_bind (wpAny_holding (wpAny_bind (wpAny_isOneOf_keyiter (s:={ s with heap:=s.heap.update it (Obj.mapFields (·.setIfInBounds 1 (rawInt ((i:Int)+1)))) }) hJ.typeIs ?_)))
 show wpAny _ _ (pure es[i].key) _ _ _
 exact wpAny_pure (wpAny_pure ⟨_,rfl,wpAny_pure (q _ hJ (Heap.SameBut.update ..))⟩)
theorem VV{Q:Option Value→Shared→Prop}(hh:A.handled=none)(hI:s.heap.IsKeyIter it d i es.size ep)(x:oA s.heap d es ep)(ge:es.size≤i)
 (q:∀ h',Heap.ExtBut it s.heap h'→Q none { s with heap:=h' }):wpAny (model P w) A (pyNext (.ref it)) Q E s:=by
 obtain⟨oi,ei,ci,di⟩:=id hI
 obtain⟨o,e,c,dt⟩:=id x
 unfold pyNext
 refine wpAny_bind (wpAny_attempt (wpAny_callSpecial?_slot (name:=Str.ofString "__next__") hI.typeIs F.slot_dict_keyiterator_next (wpAny_call_entry F.slot_dict_keyiterator_next hI.typeIs F.entry_dict_keyiterator_next ?_ (F.args_dict_keyiterator_next_1 _))))
 refine wpAny_bind (wpAny_pure (wpAny_bind (wpAny_bind ?_)))
 first|refine wpAny_bind (wpAny_typeNameOfWhole_keyiter hI.typeIs (wpAny_pure ?_))|refine wpAny_bind (wpAny_typeNameOf_keyiter hI.typeIs (wpAny_pure ?_))
 refine wpAny_bind (wpAny_fieldsOf ei di ?_)
 simp only[show Builtin.Dict_items.ownsTuple "dict_keyiterator" = false by decide,Bool.false_eq_true,if_false]
 show wpAny _ _ (if (Value.ref d == Value.none)=true then _ else _) _ _ s
 rw[if_neg (by exact Bool.false_ne_true)]
 refine wpAny_bind (wpAny_pure (wpAny_bind (wpAny_dictEntries e dt ?_)))
 rw[if_neg (by simp)]
 refine wpAny_bind (wpAny_pure (wpAny_bind (wpAny_dictEpoch e dt ?_)))
 rw[if_neg (by simp)]
 refine wpAny_pure ?_
 simp only[show ¬ ((i:Int) < 0) from by omega,if_false,Int.toNat_natCast,Array.getElem?_eq_none ge]
 refine wpAny_bind ?_
 first|refine wpAny_bind (wpAny_typeNameOfWhole_keyiter hI.typeIs (wpAny_pure ?_))|refine wpAny_bind (wpAny_typeNameOf_keyiter hI.typeIs (wpAny_pure ?_))
 show wpAny _ _ (setField (.ref it) 0 .none >>= _) _ _ s
 refine wpAny_bind (wpAny_setField ei di (by simp) ?_)
 show wpAny _ _ (newExc (.type "StopIteration") [] >>= _) _ _ _
 refine wpAny_bind ?_
 simp only[newExc,newTuple]
 refine wpAny_bind (wpAny_newObj_type ?_ (by size_fits))
 refine wpAny_bind (m:=firstArgMember _ _) (wpAny_of_eq (a:=Value.none) (by first|rfl|(simp only[firstArgMember];rfl)) (wpAny_newObj_type ?_ (by size_fits)))
 simp only[raiseNew]
 refine wpAny_bind (wpAny_handled ?_)
 rw[show A.in1.handled=none from hh]
 refine wpAny_bind (wpAny_pure (wpAny_throw ?_))
 exact wpAny_bind (wpAny_isInstance (b:=true) (T := "StopIteration") ⟨_,Heap.get?_push_size _ rfl,rfl⟩ isSubtype_stop (wpAny_pure (q _ (((Heap.SameBut.update ..).extBut.push _).push _))))
end
end L2
namespace So
def pW:List Int→List Int→Bool
 | [],_=>true
 | _::_,[]=>false
 | a::r,b::t=>if a == b then pW r t else decide (a≤b)
end So
namespace Mi
open PySem
def YX:Ky→D
 | .inl i=>.int i
 | .inr x=>.str x
def asF:W→Rs W
 | .dt kvs=>.ok (.df kvs)
 | _=>.no
def MJ(m:EW):EW:=fun e=>(m e).bind asF
def Df(i:Nat):I:=fun e=>(wV i e).bind fun w=>match w with
 | .df kvs=>.ok (kvs.map fun kv=>.tup (kv.1.map YX))
 | _=>.no
def yz(i:Nat):E:=fun e=>(wV i e).bind fun w=>match w with
 | .dt kvs=>.ok (.int kvs.length)
 | .df kvs=>.ok (.int kvs.length)
 | _=>.no
def Pq(i:Nat):E:=fun e=>(wV i e).bind fun w=>match w with
 | .dt kvs=>.ok (.lst (kvs.map (·.2)))
 | _=>.no
def Ja:W→Rs D
 | .d (.lst ds)=>aR (ux ds=true) (.ok (.lst ds))
 | _=>.no
def qm(f:Fn)(as:List EW):E:=fun e=>(jm f as e).bind Ja
def FZ:D→Rs D
 | .tup ds=>aR (ds.length≤1000) (.ok (.tup ds.reverse))
 | _=>.no
def Lz:D→D→Rs D
 | .int i,.int j=>.ok (.bl (decide (i≤j)))
 | .lst a,.lst b=>(pR (rD a)).bind fun xs=>(pR (rD b)).bind fun ys=>.ok (.bl (So.pW xs ys))
 | _,_=>.no
end Mi
namespace L2
open PySem PySem.Spec PyProof.Rows
theorem Inv.aan{X:Cx}{pins:List (Addr×Obj)}{σ : St}{H:Hp}{s:Shared}{a:Addr}{kv:List (List Key×V)}(I:Inv X pins σ H s)(h:H a=some (.dT kv)):∃ ob,Inv X pins σ (upd H a (.frz ob (.dT kv))) s:=by
 obtain⟨z1,z2,xs,r,ob,es,ep,e,c⟩:=(show cu X.prog X.w H s.heap a (.dT kv) from I.hok a _ h)
 have ne:∀ b u,H b=some u→u≠.dT kv→b≠a:=fun b u q n z=>by subst z;rw[h] at q;exact n (Option.some.inj q).symm
 have st:∀ b u,cu X.prog X.w H s.heap b u→cu X.prog X.w (upd H a (.frz ob (.dT kv))) s.heap b u:=fun b u q =>
  q.stay (fun _ _ _ q=>q) (fun c q=>by rw[aH (ne c _ q (by simp))];exact q) fun c xs q=>by rw[aH (ne c _ q (by simp))];exact q
 refine⟨ob,I.un (t':=s.toks) ⟨fun b o q _ _ _=>q,fun b o q _ _ _=>⟨o.slots,q⟩,fun b o q n _=>by rw[aH (fun z=>by subst z;rw[h] at n;cases n)];exact n,fun b o q _=>⟨o,q⟩,
  fun b xs q=>by rw[aH (ne b _ q (by simp))];exact q,fun b o u q=>by rw[aH (ne b _ q (by simp))];exact q,fun b w ps q=>⟨#[],by rw[aH (ne b _ q (by simp)),q];simp⟩⟩ fun b u q=>?_⟩
 by_cases hb:b=a
 ·subst hb;rw[aP] at q;cases q
  exact⟨e,st b _ (I.hok b _ h)⟩
 ·rw[aH hb] at q
  exact st b u (I.hok b u q)
def XS(te:TE):TE:=fun σ H Q=>te σ H fun v H1=>∃ a kv,v=.ref a∧H1 a=some (.dT kv)∧∀ ob,Q v (upd H1 a (.frz ob (.dT kv)))
theorem Oi{X:Cx}{e:Expr}{te:TE}(h:PE X e te):PE X e (XS te):=fun pins s σ H Q I q =>
 eX (h pins s σ H _ I q) fun v s1 ⟨x,H1,I1,r1,a,kv,e,q1,q2⟩=>by
  obtain⟨ob,I2⟩:=I1.aan q1
  exact⟨x,_,I2,r1,q2 ob⟩
def Itd(a:Addr)(ob:Obj)(kv:List (List Key×V)):It :=
 ⟨fun i H=>H a=some (.frz ob (.dT kv))∧i < kv.length,fun i H x H'=>H'=H∧∃ b k v,kv[i]? = some (k,v)∧x=.ref b∧H b=some (.tup (k.map kV)),fun i H=>H a=some (.frz ob (.dT kv))∧kv.length≤i⟩
theorem vm{α β : Type}{F:α→β→Prop}:∀ {l:List α} {m:List β} {i:Nat} {x:α},Paired F l m→l[i]? = some x→∃ y,m[i]? = some y∧F x y
 | _,_,_,_,.nil,e=>by simp at e
 | _,_,0,_,.cons r _,e=>by simp at e;subst e;exact⟨_,rfl,r⟩
 | _,_,i+1,x,.cons _ t,e=>by
  obtain⟨u,h1,h2⟩:=vm (i:=i) (x:=x) t (by simpa using e)
  exact⟨u,by simpa using h1,h2⟩
theorem Ig{X:Cx}{pins:List (Addr×Obj)}{σ : St}{H:Hp}{s:Shared}{a:Addr}{ob:Obj}{kv:List (List Key×V)}(I:Inv X pins σ H s)(q:H a=some (.frz ob (.dT kv))) :
 (a == sysModules)=false∧kv.length≤sizeLine∧∃ es ep,ob.data=.dict es ep∧oA s.heap a es ep∧es.size=kv.length∧∀ i k v,kv[i]? = some (k,v)→∃ (lt:i < es.size) (b:Addr),es[i].key=.ref b∧H b=some (.tup (k.map kV))∧RelV v es[i].val:=by
 obtain⟨e,z1,z2,xs,r,ob',es,ep,e',c1,c2,c3,c4⟩:=(show cu X.prog X.w H s.heap a (.frz ob (.dT kv)) from I.hok a _ q)
 rw[e] at e';cases e'
 have hl:es.size=xs.length:=size_of_entries c3
 have hl2:kv.length=xs.length:=Paired.length r
 refine⟨z2,z1,es,ep,c2,⟨ob,e,c1,c2⟩,by omega,fun i k v hk=>?_⟩
 obtain⟨x,hx,h1,h2,h3⟩:=vm r hk
 have lt:i < es.size:=by rw[hl];exact(List.getElem?_eq_some_iff.mp hx).1
 have he:=entry_at c3 i
 rw[hx,Option.map_some,Array.getElem?_eq_getElem lt] at he
 have he:=Option.some.inj he
 refine⟨lt,x.2.1,by rw[he];rfl,h2,by rw[he];exact h3⟩
theorem Kr{P:Program}{w:World}{K:PySem.W.Frag}{tg:Expr}(a it:Addr)(ob:Obj)(es:Array DictEntry)(ep:Nat)(kv:List (List Key×V))(hd:ob.data=.dict es ep) :
 Turn P w K tg (Itd a ob kv) [it] it (fun i h=>h.IsKeyIter it a i es.size ep) where
 mem:=List.mem_singleton.mpr rfl
 obj:=fun i h st b hb=>by
  cases List.mem_singleton.mp hb
  obtain⟨o,e,c,d⟩:=st
  exact⟨o,e,fun v z=>by rw[d] at z;cases z⟩
 keep:=fun i h h' st k=>st.at fun o e=>k it (List.mem_singleton.mpr rfl) o e
 item:=by
  intro X hP hw hK hc i pins s σ H E I hf st hg
  subst hP hw hK
  obtain⟨q,lt⟩:=hg
  obtain⟨_,_,es',ep',d',R,hl,at_⟩:=Ig I q
  rw[hd] at d';cases d'
  obtain⟨f0,f1,f2,f3,f4,f5⟩:=hf it (List.mem_singleton.mpr rfl)
  obtain⟨⟨k,v⟩,hk⟩ : ∃ p,kv[i]? = some p:=⟨kv[i],by simp[lt]⟩
  obtain⟨lt',b,ek,hb,_⟩:=at_ i k v hk
  refine RP st R lt' fun h' st' sb=>?_
  have I1:Inv X pins σ H { s with heap:=h' }:=I.turned (t':=s.toks) (fun b o hb e=>(sb.2 b hb).trans e) f0 f1 f3 f4 f5
  obtain⟨o,e,c,d⟩:=id st'
  exact⟨_,rfl,FN (s:={ s with heap:=h' }) e c d (by decide) ⟨.ref b,H,I1,ek,⟨rfl,b,k,v,hk,rfl,hb⟩,st',fun b hb=>(hf b hb).1⟩⟩
 done:=by
  intro X hP hw hK hc i pins s σ H E I hf st hg
  subst hP hw hK
  obtain⟨q,ge⟩:=hg
  obtain⟨_,_,es',ep',d',R,hl,at_⟩:=Ig I q
  rw[hd] at d';cases d'
  obtain⟨f0,f1,f2,f3,f4,f5⟩:=hf it (List.mem_singleton.mpr rfl)
  exact VV (I.ok.hd hc) st R (by omega) fun h' eb=>⟨rfl,I.turned (t':=s.toks) (fun b o hb e=>eb b o hb e) f0 f1 f3 f4 f5⟩
 self:=fun _ _ _ _ _ st h=>wpAny_pyIter_keyiter st h
def Df(tl:TE):TI:=fun σ H R=>tl σ H fun x H1=>∃ a ob kv,x=.ref a∧H1 a=some (.frz ob (.dT kv))∧R (Itd a ob kv) H1
theorem R4{X:Cx}{tg l:Expr}{tl:TE}(hl:PE X l tl):PI X tg l (Df tl):=by
 intro pins s σ H R I h
 refine eX (hl pins s σ H _ I h) fun v s1 ⟨x,H1,I1,r1,a,ob,kv,e,hq,q⟩=>?_
 subst e
 cases r1
 obtain⟨nd,_,es,ep,d,Rw,hn,_⟩:=Ig I1 hq
 refine RQ nd Rw ⟨s1.heap.objs.size,[s1.heap.objs.size],_,_,H1,rfl,I1.kept (t':=s1.toks) fun b o e=>Heap.get?_push_of_some _ e,Kr a _ ob es ep kv d,⟨_,Heap.get?_push_size _ rfl,rfl,rfl⟩,fun b hb=>?_,q⟩
 cases List.mem_singleton.mp hb
 exact I1.uA (Nat.le_refl _) (I1.hok.fresh (Nat.le_refl _))
end L2
namespace A
open PySem L2 PyProof.Rows
open Mi (D W Rs Fin aq)
variable[Tb:eZ]{M:Nat→Bool}
theorem HN{H:Hp}:∀ (k:List Key),P2 (Rep H) (k.map Mi.YX) (k.map kV)
 | []=>.nil
 | .inl i::r=>.cons (jU.mpr rfl) (HN r)
 | .inr x::r=>.cons (oW.mpr rfl) (HN r)
theorem Wx{H Hv H' Hv':Hp}(g:cO H Hv H' Hv'){a:Addr}{kv:List (List Key×V)}{kvs:List (List Mi.Ky×D)}(n:H a=none)(q:H' a=some (.dT kv))(nv:Hv' a=none)(c:zH Hv' kvs kv)(ob:Obj) :
 ∃ zu,cO H Hv (upd H' a (.frz ob (.dT kv))) zu∧rE zu (.df kvs) (.ref a):=by
 have ne:∀ b u,H b=some u→b≠a:=fun b u e z=>by subst z;rw[n] at e;cases e
 have sm:gm Hv' (upd Hv' a (.frz ob (.dT kv))):=qg nv
 refine⟨upd Hv' a (.frz ob (.dT kv)),⟨?_,g.vis.trans sm,⟨fun b u e=>?_,fun b xs e=>?_,fun b o u e=>?_,g.vw.cd.put q trivial trivial,fun b u e=>?_⟩,fun b u e m=>?_⟩,a,ob,kv,rfl,aP,c.same sm⟩
 ·exact g.old.put n q
 ·by_cases hb:b=a
  ·subst hb;rw[aP] at e ⊢;exact e
  ·rw[aH hb] at e ⊢;exact g.vw.sub b u e
 ·by_cases hb:b=a
  ·subst hb;rw[aP] at e;cases e
  ·rw[aH hb] at e ⊢;exact g.vw.tup b xs e
 ·by_cases hb:b=a
  ·subst hb;rw[aP] at e ⊢;exact e
  ·rw[aH hb] at e ⊢;exact g.vw.frz b o u e
 ·by_cases hb:b=a
  ·subst hb;rw[aP] at e;cases e;trivial
  ·rw[aH hb] at e;exact g.vw.nv b u e
 ·rw[aH (ne b u e)];exact g.hid b u e m
theorem Q0{t:TE}{m:Mi.EW}(h:AW M qN t m):AW M qV (XS t) (Mi.MJ m):=fun e σ H Hv Q I q =>
 h e σ H Hv _ I ((aq.mp q).mono fun w z v H' Hv' g k=>by
  obtain⟨a,o,rfl,n,q1,nv,c⟩:=k
  cases w with
  | dt kvs=>cases o with
   | dT kv =>
    refine⟨a,kv,rfl,q1,fun ob=>?_⟩
    obtain⟨zu,g',r⟩:=Wx g n q1 nv c ob
    exact z (.ref a) _ zu g' r
   | _=>exact c.elim
  | _=>exact z.elim)
theorem Ul(i:Nat)(hm:M i=false):Mp M (Df (oJ i)) (Mi.Df i):=fun e σ H Hv R I h=>by
 obtain⟨w,he,h⟩:=t7 (aq.mp h)
 obtain⟨v,hv,r⟩:=I.nob i w he hm
 cases w with
 | df kvs =>
  obtain⟨a,ob,kv,rfl,q,c⟩:=r
  refine⟨.ref a,hv,a,ob,kv,rfl,I.vw.sub _ _ q,h (Itd a ob kv) H Hv (fun H Hv=>Hv a=some (.frz ob (.dT kv))∧zH Hv kvs kv) (.refl I.vw) ⟨fun i H Hv p v hi=>?_,fun i H Hv x H' p v hi y=>?_,fun H Hv p v=>?_⟩ ⟨q,c⟩ fun H1 Hv1 H2 Hv2 z s v=>⟨s _ _ z.1,z.2.same s⟩⟩
  ·exact⟨v.sub _ _ p.1,by rw[← P2.len p.2];simpa using hi⟩
  ·obtain⟨rfl,b,k,v',hk,rfl,hb⟩:=y
   obtain⟨kd,hkd,e1,_⟩:=P2.Y9 p.2 hk
   refine⟨Hv,.tup (kd.1.map Mi.YX),.refl v,by rw[List.getElem?_map,hkd];rfl,fQ.mpr ⟨b,_,rfl,v.tup _ _ hb,?_⟩⟩
   have e1:kd.1=k:=e1
   rw[e1]
   exact HN k
  ·exact⟨v.sub _ _ p.1,by rw[← P2.len p.2];simp⟩
 | _=>exact h.elim
end A
namespace L2
open PySem PySem.Spec PyProof.Rows
section
variable{P:Program}{w:World}{A:Around}{E:Value→Shared→Prop}{s:Shared}{d it:Addr}{es:Array DictEntry}{ep i:Nat}
theorem VR{Q:Value→Shared→Prop}(nd:(d == sysModules)=false)(x:oA s.heap d es ep)(hf:(es.size:Int) < 2 ^ 63)(q:Q (.int es.size (s.toks+1)) { s with toks:=s.toks+1+1 }):wpAny (model P w) A (call (.builtin "len") [.ref d]) Q E s:=by
 have m:MeetsIn P w (Builtin.«dict.__len__» ⟨[.ref d],[]⟩) (fun _ R s=>(∃ ep,oA s.heap d es ep)∧R (.ok (.ret (.int es.size s.toks))) { s with toks:=s.toks+1 }):=.of_wp fun A R s ⟨⟨ep,o,e,c,dt⟩,h⟩=>by
  show wpAny _ _ (dictSize d >>= _) _ _ s
  unfold dictSize
  refine wpAny_bind (wpAny_bind (wpAny_dictEntries e dt (wpAny_pure ?_)))
  show wpAny _ _ (Builtin.Dict.pendingCount d >>= _) _ _ s
  refine wpAny_bind (wpAny_pendingCount_other nd (wpAny_ret_mkInt ?_))
  rw[Nat.add_zero];exact h
 refine Calls.call_function_entry kind_len plain_len entry_len (args_len1 _) ?_
 unfold Builtin.«len»
 refine wpAny_bind (m:=oneArg "len" _) (wpAny_pure (wpAny_bind (m:=callSpecial? (.ref d) (Str.ofString "__len__")) (wpAny_callSpecial?_slot (name:=Str.ofString "__len__") x.ty F.slot_dict_len (call_meetsIn F.slot_dict_len x.ty F.entry_dict_len (F.args_dict_len_1 _) m ⟨⟨ep,x⟩,?_⟩))))
 show wpAny _ _ _ _ _ { s with toks:=s.toks+1 }
 refine wpAny_bind (wpAny_holding (wpAny_pure (wpAny_bind (wpAny_letGo ?_))))
 show wpAny _ _ (if ((es.size:Nat):Int) < 0 then _ else _) _ _ _
 rw[if_neg (by omega)]
 show wpAny _ _ (if ((es.size:Nat):Int) ≥ 2 ^ 63 then _ else _) _ _ _
 rw[if_neg (by omega)]
 exact wpAny_bind (wpAny_mkInt (wpAny_pure ⟨_,rfl,q⟩))
theorem RN(nd:(d == sysModules)=false):MeetsIn P w (Builtin.«dict.values» ⟨[.ref d],[]⟩) (fun _ R s=>(∃ es ep,oA s.heap d es ep)∧R (.ok (.ret (.ref s.heap.objs.size))) { s with heap:=s.heap.push { cls:=.type "dict_values", data:=.fields #[.ref d] } }) :=
 .of_wp fun A R s ⟨⟨es,ep,x⟩,h⟩=>by
  refine wpAny_bind ?_
  unfold Builtin.Dict.noArgs
  refine wpAny_bind (wpAny_notOrdered_dict x.ty ?_)
  show wpAny _ _ (pure d) _ _ s
  refine wpAny_pure ?_
  show wpAny _ _ (Builtin.Dict.showsAll d >>= _) _ _ s
  unfold Builtin.Dict.showsAll
  rw[if_neg (by rw[nd];exact Bool.false_ne_true)]
  exact wpAny_bind (wpAny_pure (wpAny_bind (wpAny_newObj_type (wpAny_pure ⟨_,rfl,h⟩))))
theorem Ny{v:Addr}{Q:Value→Shared→Prop}(hv:s.heap.IsValuesView v d)(x:oA s.heap d es ep)
 (q:Q (.ref s.heap.objs.size) { s with heap:=s.heap.push { cls:=.type "dict_valueiterator", data:=.fields #[.ref d,.int 0 0,.int es.size 0,.int ep 0] } }):wpAny (model P w) A (pyIter (.ref v)) Q E s:=by
 obtain⟨ov,ev,cv,dv⟩:=id hv
 obtain⟨o,e,c,dt⟩:=id x
 refine wpAny_pyIter_slot hv.typeIs F.slot_dict_values_iter (wpAny_call_entry F.slot_dict_values_iter hv.typeIs F.entry_dict_values_iter ?_ (F.args_dict_values_iter_1 _))
 unfold Builtin.«dict_values.__iter__»
 refine wpAny_bind (wpAny_pure (wpAny_bind ?_))
 unfold Builtin.Dict_items.dictOf
 refine wpAny_bind (wpAny_field ev dv (x:=.ref d) rfl (wpAny_pure (wpAny_bind ?_)))
 unfold Builtin.Dict_items.newIterator
 refine wpAny_bind (wpAny_dictEntries e dt (wpAny_bind (wpAny_dictEpoch e dt ?_)))
 simp only[show Builtin.Dict_items.ownsTuple "dict_valueiterator" = false by decide,Bool.false_eq_true,if_false]
 refine wpAny_newObj_type (wpAny_pure ⟨_,rfl, "dict_valueiterator", _,⟨_,Heap.get?_push_size _ rfl,rfl⟩,F.slot_dict_valueiterator_next.lookup,?_⟩)
 simpa [rawInt] using q
theorem Nx{Q:Option Value→Shared→Prop}(hI:s.heap.IsValIter it d i es.size ep)(x:oA s.heap d es ep)(lt:i < es.size)
 (q:∀ h',h'.IsValIter it d (i+1) es.size ep→Heap.SameBut it s.heap h'→Q (some es[i].val) { s with heap:=h' }):wpAny (model P w) A (pyNext (.ref it)) Q E s:=by
 obtain⟨oi,ei,ci,di⟩:=id hI
 obtain⟨o,e,c,dt⟩:=id x
 unfold pyNext
 refine wpAny_bind (wpAny_attempt (wpAny_callSpecial?_slot (name:=Str.ofString "__next__") hI.typeIs F.slot_dict_valueiterator_next (wpAny_call_entry F.slot_dict_valueiterator_next hI.typeIs F.entry_dict_valueiterator_next ?_ (F.args_dict_valueiterator_next_1 _))))
 refine wpAny_bind (wpAny_pure (wpAny_bind (wpAny_bind ?_)))
 first|refine wpAny_bind (wpAny_typeNameOfWhole_valiter hI.typeIs (wpAny_pure ?_))|refine wpAny_bind (wpAny_typeNameOf_valiter hI.typeIs (wpAny_pure ?_))
 refine wpAny_bind (wpAny_fieldsOf ei di ?_)
 simp only[show Builtin.Dict_items.ownsTuple "dict_valueiterator" = false by decide,Bool.false_eq_true,if_false]
 show wpAny _ _ (if (Value.ref d == Value.none)=true then _ else _) _ _ s
 rw[if_neg (by exact Bool.false_ne_true)]
 refine wpAny_bind (wpAny_pure (wpAny_bind (wpAny_dictEntries e dt ?_)))
 rw[if_neg (by simp)]
 refine wpAny_bind (wpAny_pure (wpAny_bind (wpAny_dictEpoch e dt ?_)))
 rw[if_neg (by simp)]
 refine wpAny_pure ?_
 simp only[show ¬ ((i:Int) < 0) from by omega,if_false,Int.toNat_natCast,Array.getElem?_eq_getElem lt]
 refine wpAny_bind ?_
 first|refine wpAny_bind (wpAny_typeNameOfWhole_valiter hI.typeIs (wpAny_pure ?_))|refine wpAny_bind (wpAny_typeNameOf_valiter hI.typeIs (wpAny_pure ?_))
 refine wpAny_bind (wpAny_isOneOf_valiter hI.typeIs ?_)
 show wpAny _ _ (setField (.ref it) 1 (rawInt ((i:Int)+1)) >>= _) _ _ s
 refine wpAny_bind (wpAny_setField ei di (by simp) ?_)
 have hJ:(s.heap.update it (Obj.mapFields (·.setIfInBounds 1 (rawInt ((i:Int)+1))))).IsValIter it d (i+1) es.size ep :=
  ⟨_,Heap.get?_update_self _ ei (Obj.isFreed_of_fields (Obj.data_mapFields di _)),(Obj.cls_mapFields ..).trans ci,by rw[Obj.data_mapFields di];simp[rawInt]⟩
 refine wpAny_bind (wpAny_holding (wpAny_bind (wpAny_isOneOf_valiter (s:={ s with heap:=s.heap.update it (Obj.mapFields (·.setIfInBounds 1 (rawInt ((i:Int)+1)))) }) hJ.typeIs ?_)))
 refine wpAny_bind (wpAny_isOneOf_valiter (s:={ s with heap:=s.heap.update it (Obj.mapFields (·.setIfInBounds 1 (rawInt ((i:Int)+1)))) }) hJ.typeIs ?_)
 show wpAny _ _ (pure es[i].val) _ _ _
 exact wpAny_pure (wpAny_pure ⟨_,rfl,wpAny_pure (q _ hJ (Heap.SameBut.update ..))⟩)
theorem RM{Q:Option Value→Shared→Prop}(hh:A.handled=none)(hI:s.heap.IsValIter it d i es.size ep)(x:oA s.heap d es ep)(ge:es.size≤i)
 (q:∀ h',Heap.ExtBut it s.heap h'→Q none { s with heap:=h' }):wpAny (model P w) A (pyNext (.ref it)) Q E s:=by
 obtain⟨oi,ei,ci,di⟩:=id hI
 obtain⟨o,e,c,dt⟩:=id x
 unfold pyNext
 refine wpAny_bind (wpAny_attempt (wpAny_callSpecial?_slot (name:=Str.ofString "__next__") hI.typeIs F.slot_dict_valueiterator_next (wpAny_call_entry F.slot_dict_valueiterator_next hI.typeIs F.entry_dict_valueiterator_next ?_ (F.args_dict_valueiterator_next_1 _))))
 refine wpAny_bind (wpAny_pure (wpAny_bind (wpAny_bind ?_)))
 first|refine wpAny_bind (wpAny_typeNameOfWhole_valiter hI.typeIs (wpAny_pure ?_))|refine wpAny_bind (wpAny_typeNameOf_valiter hI.typeIs (wpAny_pure ?_))
 refine wpAny_bind (wpAny_fieldsOf ei di ?_)
 simp only[show Builtin.Dict_items.ownsTuple "dict_valueiterator" = false by decide,Bool.false_eq_true,if_false]
 show wpAny _ _ (if (Value.ref d == Value.none)=true then _ else _) _ _ s
 rw[if_neg (by exact Bool.false_ne_true)]
 refine wpAny_bind (wpAny_pure (wpAny_bind (wpAny_dictEntries e dt ?_)))
 rw[if_neg (by simp)]
 refine wpAny_bind (wpAny_pure (wpAny_bind (wpAny_dictEpoch e dt ?_)))
 rw[if_neg (by simp)]
 refine wpAny_pure ?_
 simp only[show ¬ ((i:Int) < 0) from by omega,if_false,Int.toNat_natCast,Array.getElem?_eq_none ge]
 refine wpAny_bind ?_
 first|refine wpAny_bind (wpAny_typeNameOfWhole_valiter hI.typeIs (wpAny_pure ?_))|refine wpAny_bind (wpAny_typeNameOf_valiter hI.typeIs (wpAny_pure ?_))
 show wpAny _ _ (setField (.ref it) 0 .none >>= _) _ _ s
 refine wpAny_bind (wpAny_setField ei di (by simp) ?_)
 show wpAny _ _ (newExc (.type "StopIteration") [] >>= _) _ _ _
 refine wpAny_bind ?_
 simp only[newExc,newTuple]
 refine wpAny_bind (wpAny_newObj_type ?_ (by size_fits))
 refine wpAny_bind (m:=firstArgMember _ _) (wpAny_of_eq (a:=Value.none) (by first|rfl|(simp only[firstArgMember];rfl)) (wpAny_newObj_type ?_ (by size_fits)))
 simp only[raiseNew]
 refine wpAny_bind (wpAny_handled ?_)
 rw[show A.in1.handled=none from hh]
 refine wpAny_bind (wpAny_pure (wpAny_throw ?_))
 exact wpAny_bind (wpAny_isInstance (b:=true) (T := "StopIteration") ⟨_,Heap.get?_push_size _ rfl,rfl⟩ isSubtype_stop (wpAny_pure (q _ (((Heap.SameBut.update ..).extBut.push _).push _))))
theorem Xy{h h':Heap}{it d:Addr}{i n ep:Nat}(x:h.IsValIter it d i n ep)(e:∀ o,h.get? it=some o→h'.get? it=some o):h'.IsValIter it d i n ep:=let ⟨o,ho,r⟩:=x;⟨o,e _ ho,r⟩
theorem Nv(hh:A.handled=none)(I d:Addr)(hne:d≠I)(es:Array DictEntry)(ep:Nat):Walks P w A I [I,d] [I] es.size (fun i v=>∃ lt:i < es.size,v=es[i].val) (fun i h=>h.IsValIter I d i es.size ep∧oA h d es ep) where
 sub:=fun b hb=>by cases List.mem_singleton.mp hb;simp
 frame:=fun _ _ _ st hk=>⟨Xy st.1 fun o e=>hk I (by simp) o e,st.2.go fun o e=>hk d (by simp) o e⟩
 item:=fun i s Q E hi st hQ=>Nx st.1 st.2 hi fun h' st' hs=>hQ _ h' s.toks ⟨hi,rfl⟩ ⟨st',st.2.go fun o e=>hs.extBut d o hne e⟩ fun b o hb e=>hs.extBut b o (fun z=>hb (by simp[z])) e
 done:=fun s Q E st hQ=>RM hh st.1 st.2 (Nat.le_refl _) fun h' he=>hQ h' s.toks fun b o hb e=>he b o (fun z=>hb (by simp[z])) e
 self:=fun _ _ _ _ st hQ=>wpAny_pyIter_valiter st.1 hQ
theorem VP{r d:Addr}:PySem.W.KdlSrc P w "dict_values" r d es.size (fun i v=>∃ lt:i < es.size,v=es[i].val) (fun h=>h.IsValuesView r d∧oA h d es ep) where
 type:=fun _ hm=>hm.1.typeIs
 there:=fun _ hm=>⟨let ⟨_,ho,_⟩:=hm.1;Heap.lt_size ho,hm.2.lt⟩
 keep:=fun _ _ hm hk=>⟨let ⟨o,ho,x⟩:=hm.1;⟨o,hk r (.inl rfl) o ho,x⟩,hm.2.go fun o e=>hk d (.inr rfl) o e⟩
 notList:=by decide
 notTuple:=by decide
 hint:=fun _ _ _ _ hm hq=>PySem.W.kdl_hint_values hm.1.typeIs hq
 iter:=fun _ _ hh hm=>⟨_,_,(fun _ _ hq=>Ny hm.1 hm.2 hq),Nv hh _ d (Nat.ne_of_lt hm.2.lt) es ep,⟨⟨_,Heap.get?_push_size _ rfl,rfl,rfl⟩,hm.2.go fun o e=>Heap.get?_push_of_some _ e⟩⟩
end
section
variable{X:Cx}{pins:List (Addr×Obj)}{σ : St}{H:Hp}{s:Shared}{a:Addr}{kv:List (List Key×V)}
theorem Ij(I:Inv X pins σ H s)(q:Rd H a (.dT kv)):(a == sysModules)=false∧kv.length≤sizeLine∧∃ es ep,oA s.heap a es ep∧es.size=kv.length∧∀ i k v,kv[i]? = some (k,v)→∃ lt:i < es.size,RelV v es[i].val:=by
 obtain⟨z1,z2,xs,r,ob,es,ep,e,c1,c2,c3,c4⟩:=(show cu X.prog X.w H s.heap a (.dT kv) from q.ok I.hok)
 have hl:es.size=xs.length:=size_of_entries c3
 have hl2:kv.length=xs.length:=Paired.length r
 refine⟨z2,z1,es,ep,⟨ob,e,c1,c2⟩,by omega,fun i k v hk=>?_⟩
 obtain⟨x,hx,h1,h2,h3⟩:=vm r hk
 have lt:i < es.size:=by rw[hl];exact(List.getElem?_eq_some_iff.mp hx).1
 have he:=entry_at c3 i
 rw[hx,Option.map_some,Array.getElem?_eq_getElem lt] at he
 have he:=Option.some.inj he
 exact⟨lt,by rw[he];exact h3⟩
def NZ:List V→Hp→VK→Prop:=fun xs H Q=>∃ a kv,xs=[V.ref a]∧Rd H a (.dT kv)∧Q (.int kv.length) H
theorem Ax:jg X (.builtin "len") NZ:=by
 intro pins s σ H xs us Q I r h
 obtain⟨a,kv,rfl,ha,q⟩:=h
 obtain⟨u,rfl,ru⟩:=vals1 r
 cases ru
 obtain⟨nd,z,es,ep,x,hl,_⟩:=Ij I ha
 rw[sizeLine_eq] at z
 refine VR nd x (by omega) ⟨.int kv.length,H,I.tok _,⟨_,by rw[hl]⟩,q⟩
def DR(p a:Addr):Heap→Prop:=fun h=>h.IsValuesView p a
def UT:V→List V→Hp→VK→Prop:=fun x xs H Q=>∃ a kv,x=.ref a∧xs=[]∧H a=some (.dT kv)∧∀ p,H p=none→Q (.ref p) (upd H p (.ext (DR p a)))
theorem Su:Ro X "dict.values" UT:=by
 intro pins s σ H x xs v us Q I rx r h
 obtain⟨a,kv,rfl,rfl,ha,q⟩:=h
 cases rx
 cases r
 obtain⟨nd,z,es,ep,x,hl,_⟩:=Ij I (.inl ha)
 refine call_meetsIn PySem.F.slot_dict_values x.ty PySem.F.entry_dict_values (PySem.F.args_dict_values_1 _) (RN nd) ⟨⟨es,ep,x⟩,.ref s.heap.objs.size,_,I.laid (a:=s.heap.objs.size) (o:=.ext (DR s.heap.objs.size a)) (t':=s.toks) (fun _ _ q=>Heap.get?_push_of_some _ q) (Nat.le_refl _) ⟨⟨_,Heap.get?_push_size _ rfl,rfl,rfl⟩,⟨_,Heap.get?_push_size _ rfl⟩,fun h1 h2 z k=>let ⟨o,e,y⟩:=z;⟨o,k o e,y⟩⟩,rfl,q _ I.fresh⟩
def NQ:List V→Hp→VK→Prop:=fun xs H Q=>∃ p a kv,xs=[V.ref p]∧H p=some (.ext (DR p a))∧H a=some (.dT kv)∧∀ r,H r=none→Q (.ref r) (upd H r (.lst (kv.map (·.2))))
theorem Ir(hc:X.calm=true):jg X (.type "list") NQ:=by
 intro pins s σ H xs us Q I r h
 obtain⟨p,a,kv,rfl,hp,ha,q⟩:=h
 obtain⟨u,rfl,ru⟩:=vals1 r
 cases ru
 obtain⟨nd,z,es,ep,x,hl,at_⟩:=Ij I (.inl ha)
 obtain⟨vw,_,_⟩:=(show cu X.prog X.w H s.heap p (.ext (DR p a)) from I.hok p _ hp)
 refine PySem.W.kdl_call (VP (es:=es) (ep:=ep)) (I.ok.hd hc) ⟨vw,x⟩ (by omega) fun h' tk acc c' hk hD hacc=>?_
 refine⟨.ref s.heap.objs.size,_,I.laid (a:=s.heap.objs.size) (o:=.lst (kv.map (·.2))) (t':=tk) hk (Nat.le_refl _) ⟨by rw[List.length_map];exact z,acc.toList,c',?_,by rw[Array.toArray_toList];exact hD⟩,rfl,q _ I.fresh⟩
 have hn:acc.size=es.size:=hacc.1
 have all:∀ (l:List (List Key×V)) (m:List Value),l.length=m.length→(∀ (i:Nat) p v,l[i]? = some p→m[i]? = some v→RelV p.2 v)→Vals (l.map (·.2)) m:=by
  intro l
  induction l with
  | nil=>intro m e _;cases m with
   | nil=>exact .nil
   | cons _ _=>cases e
  | cons p l ih=>intro m e f;cases m with
   | nil=>cases e
   | cons v m=>exact .cons (f 0 p v rfl rfl) (ih m (by simpa using e) fun i p v h1 h2=>f (i+1) p v (by simpa using h1) (by simpa using h2))
 refine all kv acc.toList (by rw[show acc.toList.length=acc.size from Array.length_toList];omega) fun i p v h1 h2=>?_
 obtain⟨lt,rv⟩:=at_ i p.1 p.2 h1
 obtain⟨lt',e⟩:=hacc.2 i v (by rw[← Array.getElem?_toList];exact h2)
 rw[e];exact rv
end
end L2
namespace A
open PySem L2 PyProof.Rows
open Mi (D W Rs Fin aq)
variable[Tb:eZ]{M:Nat→Bool}{K:PySem.W.Frag}
theorem Rh(i:Nat):AE M qV (Ru NZ (jG (oJ i) qZ)) (Mi.yz i):=fun e σ H Hv Q I h=>by
 obtain⟨w,he,h⟩:=t7 (aq.mp h)
 obtain⟨x,q,z⟩:=I.any he
 have fin:∀ kvs:List (List Mi.Ky×D),(∃ a kv,x=.ref a∧Rd H a (.dT kv)∧kvs.length=kv.length)→Fin (Rs.ok (D.int kvs.length)) (fun d=>∀ v H' Hv',cO H Hv H' Hv'→qV H H' Hv' (.d d) v→Q v H')→Ru NZ (jG (oJ i) qZ) σ H Q:=fun kvs ⟨a,kv,e1,r,e2⟩ h =>
  ⟨x,q,a,kv,by rw[e1],r,by rw[← e2];exact h _ H Hv (.refl I.vw) ir⟩
 cases w with
 | dt kvs =>
  refine fin kvs ?_ h
  rcases z with ⟨a,kv,e,z,c⟩|⟨a,o,e,z,c⟩
  ·exact⟨a,kv,e,.inl (I.vw.sub _ _ z),P2.len c⟩
  ·cases o with
   | dT kv=>exact⟨a,kv,e,.inl z,P2.len c⟩
   | _=>exact c.elim
 | df kvs =>
  refine fin kvs ?_ h
  rcases z with ⟨a,ob,kv,e,z,c⟩|⟨a,o,e,z,c⟩
  ·exact⟨a,kv,e,.inr ⟨ob,I.vw.sub _ _ z⟩,P2.len c⟩
  ·exact c.elim
 | _=>exact h.elim
theorem DQ{H:Hp}:∀ {kvs:List (List Mi.Ky×D)} {kv:List (List Key×V)},zH H kvs kv→P2 (Rep H) (kvs.map (·.2)) (kv.map (·.2))
 | _,_,.nil=>.nil
 | _,_,.cons x t=>.cons x.2 (DQ t)
theorem Uo(i:Nat):AE M qN (Ru NQ (jG (Vx K "dict" UT (oJ i)) qZ)) (Mi.Pq i):=fun e σ H Hv Q I h=>by
 obtain⟨w,he,h⟩:=t7 (aq.mp h)
 obtain⟨x,q,z⟩:=I.any he
 cases w with
 | dt kvs =>
  have:∃ a kv,x=.ref a∧H a=some (.dT kv)∧zH Hv kvs kv:=by
   rcases z with ⟨a,kv,e,z,c⟩|⟨a,o,e,z,c⟩
   ·exact⟨a,kv,e,I.vw.sub _ _ z,c⟩
   ·cases o with
    | dT kv=>exact⟨a,kv,e,z,c⟩
    | _=>exact c.elim
  obtain⟨a,kv,rfl,ha,c⟩:=this
  refine⟨.ref a,q,.inr (.inr (.inl ⟨rfl,.inr ⟨kv,ha⟩⟩)),a,kv,rfl,rfl,ha,fun p hp=>?_⟩
  have g1:cO H Hv (upd H p (.ext (DR p a))) Hv:=.O5 I.vw trivial hp
  refine⟨p,a,kv,rfl,aP,by rw[aH (aQ ha hp)];exact ha,fun r hr=>?_⟩
  obtain⟨g2,k⟩:=CG g1.vw (DQ c) hr
  exact h (.ref r) _ Hv (g1.trans g2) (KM.mono (κ:=qN) g1.old k)
 | _=>exact h.elim
theorem Kl{fn:Mi.Fn}{ws:List Mi.EW}{tr:TA}{E:XK}(ha:AAW M qP tr (Mi.bc ws)):AE M qV (vQ (pZ fn) [] E tr) (Mi.qm fn ws):=fun e σ H Hv Q I h =>
 ha e σ H Hv _ I ((aq.mp (aq.mp h)).mono fun ds hx vs H1 Hv1 g1 rx=>by
  rw[List.append_nil]
  refine⟨Lb H1,ds,.all g1.vw.cd,rx.imp fun w v z=>RB.Vf g1.vw z,hx.mono fun w hd v H3 Hv3 g3 rw=>?_⟩
  cases w with
  | d x =>
   cases x with
   | lst xs =>
    obtain⟨hi,hd⟩:=Mi.aU hd
    obtain⟨a,o,rfl,n,q,nv,c⟩:=rw
    cases o with
    | lst ys =>
     have g4:=z9 g1.vw g3.old g3.vw.cd
     have c:P2 (Rep Hv3) xs ys:=c
     refine hd (.ref a) H3 _ (g1.trans g4) (jT.mpr ⟨a,ys,rfl,.inl ?_,iT.mp (yf g4.vw.tup hi (qJ g3.vw.sub (iT.mpr c)))⟩)
     unfold seen
     rw[mZ g1.vw n,n]
     exact gY q trivial
    | _=>exact c.elim
   | _=>exact hd.elim
  | _=>exact hd.elim)
end A
namespace L2
open PySem PySem.Spec PyProof.Rows
namespace Rv
theorem nx:Slot "reversed" "__next__" "reversed.__next__" :=
 .of (owner := "reversed") (n := "__next__") (by rw[typeLookup_type,builtinLookup_eq_fast];kernel_rfl) (by decide +kernel) (by decide +kernel) (by decide +kernel) (by first|exact .inl (by decide +kernel)|exact .inr (by decide +kernel)) (by rw[isSubtype_type];kernel_rfl)
theorem ne_:entryFor table "reversed.__next__" = some Builtin.«reversed.__next__»:=entryFor_of_tree (by kernel_rfl)
theorem own:Manifest.owners.lookup (String.ofList ['d','e','s','r','e','v','e','r'].reverse)=some Manifest.sig_reversed:=by kernel_rfl
theorem na(a:Value):argsOk "reversed.__next__" ⟨[a],[]⟩:=by
 unfold argsOk;rw[signature?_of (id := "reversed.__next__") (n:=['_','_','t','x','e','n','_','_']) (o:=['d','e','s','r','e','v','e','r']) (by kernel_rfl) own];kernel_rfl
theorem it:Slot "reversed" "__iter__" "reversed.__iter__" :=
 .of (owner := "reversed") (n := "__iter__") (by rw[typeLookup_type,builtinLookup_eq_fast];kernel_rfl) (by decide +kernel) (by decide +kernel) (by decide +kernel) (by first|exact .inl (by decide +kernel)|exact .inr (by decide +kernel)) (by rw[isSubtype_type];kernel_rfl)
theorem ia(a:Value):argsOk "reversed.__iter__" ⟨[a],[]⟩:=by
 unfold argsOk;rw[signature?_of (id := "reversed.__iter__") (n:=['_','_','r','e','t','i','_','_']) (o:=['d','e','s','r','e','v','e','r']) (by kernel_rfl) own];kernel_rfl
theorem ie:entryFor table "reversed.__iter__" = some Builtin.«dict_keyiterator.__iter__» :=
 entryFor_alias (id' := "dict_keyiterator.__iter__") (by kernel_rfl) (by first|rfl|decide +kernel|(unfold String.splitOn;simp +decide [String.splitOnAux])) (by decide +kernel) (by kernel_rfl)
theorem tr:typeLookup (.type "tuple") "__reversed__" = pure none:=by rw[typeLookup_type,builtinLookup_eq_fast];kernel_rfl
theorem sl:Slot "reversed" "__init__" "object.__init__" :=
 .of (owner := "object") (n := "__init__") (by rw[typeLookup_type,builtinLookup_eq_fast];kernel_rfl) (by decide +kernel) (by decide +kernel) (by decide +kernel) (by first|exact .inl (by decide +kernel)|exact .inr (by decide +kernel)) (by rw[isSubtype_type];kernel_rfl)
theorem cl:TypeCalled "reversed" "reversed.__new__" "object.__init__" :=
 ⟨by decide +kernel,by decide +kernel,⟨_,_,F.mro_reversed⟩,F.made_reversed,by decide +kernel,by rw[isSubtype_type];kernel_rfl,sl⟩
end Rv
section
variable{P:Program}{w:World}{A:Around}{E:Value→Shared→Prop}{s:Shared}{t it:Addr}{its:Array Value}
def Yd(t:Addr)(i:Int):Obj:={ cls:=.type "reversed", data:=.fields #[.ref t,rawInt i] }
theorem VJ{Q:Value→Shared→Prop}(ht:s.heap.IsTuple t its)(hf:(its.size:Int) < 2 ^ 62)(h:∀ tk,Q (.ref s.heap.objs.size) { s with heap:=s.heap.push (Yd t ((its.size:Int) - 1)),toks:=tk }) :
 wpAny (model P w) A (call (.type "reversed") [.ref t]) Q E s:=by
 refine callType_codes (Q₁:=fun obj s₁=>s₁.TypeIs obj "reversed" ∧ Q obj s₁) Rv.cl (F.typeCall_reversed_1 _) F.entry_object_init ?_ fun obj s₁ h₁=>?_
 ·refine codeAny_of_tree ?_
  show wpAny _ _ (do checkBuiltinCall "reversed.__new__" ⟨[.type "reversed", .ref t],[]⟩;again (.builtin "reversed.__new__" ⟨[.type "reversed", .ref t],[]⟩)) _ _ s
  refine wpAny_bind (wpAny_of_eq (F.newCall_reversed_1 _) (wpAny_pure ⟨plainId_quiet F.plain_reversed_new _,codeAny_builtin F.entry_reversed_new ?_⟩))
  rw[Around.under_plainId F.plain_reversed_new _]
  unfold Builtin.«reversed.__new__»
  refine wpAny_bind (wpAny_of_eq (newClass_reversed _) ?_)
  try dsimp only
  refine wpAny_bind (wpAny_of_eq (a:=()) (by first|rfl|kernel_rfl) (wpAny_bind (wpAny_of_eq (a:=()) (by first|rfl|kernel_rfl) ?_)))
  try dsimp only
  refine wpAny_bind (wpAny_specialOf ht.typeIs Rv.tr ?_)
  try dsimp only
  refine wpAny_bind ?_
  wp_delta
  refine wpAny_bind (wpAny_isInstance (T := "tuple") (b:=false) ht.typeIs (by rw[isSubtype_type];kernel_rfl) ?_)
  rw[if_neg (by decide)]
  refine wpAny_bind (wpAny_specialOf (name:=Str.ofString "__getitem__") ht.typeIs PyProof.Rows.slot_tuple_getitem.lookup ?_)
  try dsimp only
  rw[if_pos (by decide +kernel)]
  refine wpAny_pure ?_
  rw[if_neg (by decide)]
  refine wpAny_bind (PyProof.Rows.len_tuple ht (by omega) ?_)
  refine wpAny_bind (wpAny_of_eq (a:=some (its.size:Int)) rfl ?_)
  dsimp only
  refine wpAny_bind ?_
  unfold Builtin.SmallTypes.newRecord
  refine wpAny_newObj_type (wpAny_pure ⟨⟨_,Heap.get?_push_size _ rfl,rfl⟩,h _⟩)
 ·exact⟨h₁.1,F.args_object_init_2 obj _,object_init_meets Rv.cl.init.lookup Rv.cl.made (by decide) P w A.in1 _ s₁ ⟨h₁.1,rfl,h₁.2⟩⟩
def qD(h:Heap)(it t:Addr)(i:Int):Prop:=∃ o,h.get? it=some o∧o.cls=.type "reversed" ∧ o.data=.fields #[.ref t,rawInt i]
theorem qD.ty{i:Int}(x:qD s.heap it t i):s.TypeIs (.ref it) "reversed" := let ⟨o,e,c,_⟩:=x;⟨o,e,c⟩
theorem qD.go{h h':Heap}{i:Int}(x:qD h it t i)(k:∀ o,h.get? it=some o→h'.get? it=some o):qD h' it t i:=let ⟨o,e,r⟩:=x;⟨o,k o e,r⟩
theorem RJ{i:Nat}{v:Value}{Q:Option Value→Shared→Prop}(x:qD s.heap it t (i:Int))(ht:s.heap.IsTuple t its)(hne:t≠it)(hv:its[i]? = some v)(hf:(its.size:Int) < 2 ^ 62)
 (q:∀ h' tk,qD h' it t ((i:Int) - 1)→Heap.SameBut it s.heap h'→Q (some v) { s with heap:=h',toks:=tk }):wpAny (model P w) A (pyNext (.ref it)) Q E s:=by
 obtain⟨o,e,c,d⟩:=id x
 have lt:i < its.size:=by
  rcases Nat.lt_or_ge i its.size with h|h
  ·exact h
  ·rw[Array.getElem?_eq_none h] at hv;cases hv
 unfold pyNext
 refine wpAny_bind (wpAny_attempt (wpAny_callSpecial?_slot (name:=Str.ofString "__next__") x.ty Rv.nx (wpAny_call_entry Rv.nx x.ty Rv.ne_ ?_ (Rv.na _))))
 unfold Builtin.«reversed.__next__»
 refine wpAny_bind (wpAny_of_eq (a:=(Value.ref it,[])) rfl ?_)
 try dsimp only
 refine wpAny_bind (wpAny_field e d (x:=.ref t) rfl (wpAny_bind (wpAny_field e d (x:=rawInt (i:Int)) rfl ?_)))
 show wpAny _ _ (if (i:Int) < 0 then _ else _) _ _ s
 rw[if_neg (by omega)]
 refine wpAny_bind (wpAny_specialOf (name:=Str.ofString "__getitem__") ht.typeIs PyProof.Rows.slot_tuple_getitem.lookup ?_)
 rw[if_neg (by decide)]
 refine wpAny_bind (wpAny_mkInt ?_)
 refine wpAny_bind (wpAny_attempt (PyProof.Rows.getItem_tuple (s:={ s with toks:=s.toks+1 }) ht (by omega) (by omega) (j:=i) (by unfold seqIndex?;simp[lt,show ¬ ((i:Int) < 0) by omega]) hv ?_))
 try dsimp only
 refine wpAny_bind (wpAny_field (s:={ s with toks:=s.toks+1 }) e d (x:=rawInt (i:Int)) rfl ?_)
 show wpAny _ _ (setField (.ref it) 1 (rawInt ((i:Int) - 1)) >>= _) _ _ _
 refine wpAny_bind (wpAny_setField (s:={ s with toks:=s.toks+1 }) e d (by simp) (wpAny_pure ⟨v,rfl,wpAny_pure (q _ _ ?_ (Heap.SameBut.update ..))⟩))
 exact⟨_,Heap.get?_update_self _ e (Obj.isFreed_of_fields (Obj.data_mapFields d _)),(Obj.cls_mapFields ..).trans c,by rw[Obj.data_mapFields d];simp⟩
theorem VL{Q:Option Value→Shared→Prop}(hh:A.handled=none)(x:qD s.heap it t (-1))(q:∀ h',Heap.ExtBut it s.heap h'→Q none { s with heap:=h' }):wpAny (model P w) A (pyNext (.ref it)) Q E s:=by
 obtain⟨o,e,c,d⟩:=id x
 unfold pyNext
 refine wpAny_bind (wpAny_attempt (wpAny_callSpecial?_slot (name:=Str.ofString "__next__") x.ty Rv.nx (wpAny_call_entry Rv.nx x.ty Rv.ne_ ?_ (Rv.na _))))
 unfold Builtin.«reversed.__next__»
 refine wpAny_bind (wpAny_of_eq (a:=(Value.ref it,[])) rfl ?_)
 try dsimp only
 refine wpAny_bind (wpAny_field e d (x:=.ref t) rfl (wpAny_bind (wpAny_field e d (x:=rawInt (-1)) rfl ?_)))
 show wpAny _ _ (if (-1:Int) < 0 then _ else _) _ _ s
 rw[if_pos (by decide)]
 refine wpAny_bind (wpAny_rule (wpAny_bind ?_))
 show wpAny _ _ (setField (.ref it) 1 (rawInt (-1)) >>= fun _=>setField (.ref it) 0 .none) _ _ s
 refine wpAny_bind (wpAny_setField e d (by simp) ?_)
 have e2:=Heap.get?_update_self (Obj.mapFields (·.setIfInBounds 1 (rawInt (-1)))) e (Obj.isFreed_of_fields (Obj.data_mapFields d _))
 have d2:=Obj.data_mapFields d (·.setIfInBounds 1 (rawInt (-1)))
 refine wpAny_setField (s:={ s with heap:=s.heap.update it (Obj.mapFields (·.setIfInBounds 1 (rawInt (-1)))) }) e2 d2 (by simp) ?_
 show wpAny _ _ (Builtin.SmallTypes.stopIteration >>= _) _ _ _
 unfold Builtin.SmallTypes.stopIteration
 refine wpAny_bind (wpAny_bind ?_)
 simp only[newExc,newTuple]
 refine wpAny_bind (wpAny_newObj_type ?_ (by size_fits))
 refine wpAny_bind (m:=firstArgMember _ _) (wpAny_of_eq (a:=Value.none) (by first|rfl|(simp only[firstArgMember];rfl)) (wpAny_newObj_type ?_ (by size_fits)))
 simp only[raiseNew]
 refine wpAny_bind (wpAny_handled ?_)
 rw[show A.in1.handled=none from hh]
 refine wpAny_bind (wpAny_pure (wpAny_throw ?_))
 exact wpAny_bind (wpAny_isInstance (b:=true) (T := "StopIteration") ⟨_,Heap.get?_push_size _ rfl,rfl⟩ isSubtype_stop (wpAny_pure (q _ ((((Heap.SameBut.update ..).extBut.trans (Heap.SameBut.update ..).extBut).push _).push _))))
theorem RC{i:Int}{Q:Value→Shared→Prop}(x:qD s.heap it t i)(h:Q (.ref it) s):wpAny (model P w) A (pyIter (.ref it)) Q E s:=by
 refine wpAny_pyIter_slot x.ty Rv.it (wpAny_call_entry Rv.it x.ty Rv.ie ?_ (Rv.ia _))
 show wpAny _ _ (ret (.ref it)) _ _ s
 exact wpAny_pure ⟨_,rfl, "reversed", _,x.ty,Rv.nx.lookup,h⟩
theorem Nj(hh:A.handled=none)(I t:Addr)(hne:t≠I)(its:Array Value)(hf:(its.size:Int) < 2 ^ 62) :
 Walks P w A I [I,t] [I] its.size (fun i v=>its[its.size - 1 - i]? = some v) (fun i h=>i≤its.size∧qD h I t ((its.size:Int) - 1 - (i:Int))∧h.IsTuple t its) where
 sub:=fun b hb=>by cases List.mem_singleton.mp hb;simp
 frame:=fun _ _ _ x hk=>⟨x.1,x.2.1.go fun o e=>hk I (by simp) o e,let ⟨o,e,r⟩:=x.2.2;⟨o,hk t (by simp) o e,r⟩⟩
 item:=fun i s Q E hi x hQ=>by
  have y:=x.2.1
  rw[show (its.size:Int) - 1 - (i:Int)=((its.size - 1 - i:Nat):Int) by omega] at y
  have hv:its[its.size - 1 - i]? = some (its[its.size - 1 - i]'(by omega)):=Array.getElem?_eq_getElem (by omega)
  refine RJ y x.2.2 hne hv hf fun h' tk z sb=>?_
  rw[show ((its.size - 1 - i:Nat):Int) - 1=(its.size:Int) - 1 - ((i+1:Nat):Int) by omega] at z
  exact hQ _ h' tk hv ⟨hi,z,let ⟨o,e,r⟩:=x.2.2;⟨o,(sb.2 t hne).trans e,r⟩⟩ fun b o hb e=>sb.extBut b o (fun z=>hb (by simp[z])) e
 done:=fun s Q E x hQ=>by
  have y:=x.2.1
  rw[show (its.size:Int) - 1 - (its.size:Int) = -1 by omega] at y
  exact VL hh y fun h' he=>hQ h' s.toks fun b o hb e=>he b o (fun z=>hb (by simp[z])) e
 self:=fun _ _ _ _ x hQ=>RC x.2.1 hQ
theorem Nm:typeLookup (.type "reversed") "__len__" = pure none:=by rw[typeLookup_type,builtinLookup_eq_fast];kernel_rfl
theorem Jw:typeLookup (.type "reversed") "__length_hint__" = pure (some (.builtin "reversed.__length_hint__")):=by rw[typeLookup_type,builtinLookup_eq_fast];kernel_rfl
theorem Rv.ls:Slot "reversed" "__length_hint__" "reversed.__length_hint__" :=
 .of (owner := "reversed") (n := "__length_hint__") Jw (by decide +kernel) (by decide +kernel) (by decide +kernel) (by first|exact .inl (by decide +kernel)|exact .inr (by decide +kernel)) (by rw[isSubtype_type];kernel_rfl)
theorem Rv.le_:entryFor table "reversed.__length_hint__" = some Builtin.«reversed.__length_hint__»:=entryFor_of_tree (by kernel_rfl)
theorem Rv.la(a:Value):argsOk "reversed.__length_hint__" ⟨[a],[]⟩:=by
 unfold argsOk;rw[signature?_of (id := "reversed.__length_hint__") (n:=['_','_','t','n','i','h','_','h','t','g','n','e','l','_','_']) (o:=['d','e','s','r','e','v','e','r']) (by kernel_rfl) Rv.own];kernel_rfl
theorem RG{Q:Bool→Shared→Prop}(x:qD s.heap it t ((its.size:Int) - 1))(ht:s.heap.IsTuple t its)(hf:its.size≤1000)(h:∀ b tk,s.toks≤tk→Q b { s with toks:=tk }):wpAny (model P w) A (Builtin.List.listLengthHint (.ref it)) Q E s:=by
 obtain⟨o,e,c,d⟩:=id x
 unfold Builtin.List.listLengthHint
 refine wpAny_bind (wpAny_specialOf x.ty Nm ?_)
 show wpAny _ A (specialOf (Value.ref it) (Str.ofString "__length_hint__") >>= _) _ _ _
 refine wpAny_bind (wpAny_specialOf x.ty Jw ?_)
 generalize hid:("reversed.__length_hint__" : String)=id0
 (fail_if_success (clear hid id0))
 wp_delta
 rw[show splitId id0=some ("reversed", "__length_hint__") from by subst hid;decide +kernel]
 subst hid
 refine wpAny_bind (wpAny_isInstance (b:=true) x.ty F.sub_reversed_self ?_)
 rw[if_neg (by decide)]
 dsimp only
 rw[if_neg (by decide +kernel)]
 refine wpAny_bind (wpAny_rule (wpAny_bind (wpAny_of_eq (Rv.ls.bind _) ?_)))
 try dsimp only
 refine wpAny_bind (wpAny_attempt (wpAny_call_entry Rv.ls x.ty Rv.le_ ?_ (Rv.la _)))
 unfold Builtin.«reversed.__length_hint__»
 refine wpAny_bind (wpAny_of_eq (a:=Value.ref it) rfl ?_)
 refine wpAny_bind (wpAny_field e d (x:=.ref t) rfl ?_)
 rw[if_neg (by exact Bool.false_ne_true)]
 refine wpAny_bind (PyProof.Rows.len_tuple ht (by omega) (wpAny_bind (wpAny_of_eq (a:=some (its.size:Int)) rfl ?_)))
 dsimp only
 refine wpAny_bind (wpAny_field (s:={ s with toks:=s.toks+1+1 }) e d (x:=rawInt ((its.size:Int) - 1)) rfl ?_)
 show wpAny _ _ (if (its.size:Int) < ((its.size:Int) - 1)+1 then _ else _) _ _ _
 rw[if_neg (by omega)]
 refine wpAny_ret_mkInt ?_
 have e1:((its.size:Int) - 1)+1=(its.size:Int):=by omega
 rw[e1]
 generalize hk0:({ heap:=s.heap,gens:=s.gens,drawn:=s.drawn,toks:=s.toks+1+1,os:=s.os }:Shared).toks=tk0
 dsimp only
 have ea:asInt? (Value.int (its.size:Int) tk0)=pure (some (its.size:Int)):=by unfold asInt?;rfl
 rw[ea,pure_bind]
 dsimp only
 rw[if_neg (by unfold Builtin.List.listFitsIndex;simp;omega),if_neg (by omega),if_neg (by rw[Int.toNat_natCast,Fd (by rw[sizeLine_eq];omega)];decide)]
 exact wpAny_pure (h _ _ (by have hk0:s.toks+1+1=tk0:=hk0;omega))
end
section
variable{P:Program}{w:World}{A:Around}{E:Value→Shared→Prop}{s:Shared}{I:Addr}{fp wr:List Addr}{G:Array GenState→Array GenState→Prop}{n:Nat}{Pv:Nat→Value→Prop}{St:Nat→Shared→Prop}
theorem Hi{Q:List Value→Shared→Prop}(W:WalksS P w A.in1 I fp wr G n Pv St)(hT:∀ i s,St i s→s.TypeIs (.ref I) "reversed")(hst:St 0 s)(hfp:∀ b∈fp,b < s.heap.objs.size)(hI:I∈fp)
 (hint:∀ (s:Shared) (Q:Bool→Shared→Prop) (E:Value→Shared→Prop),St 0 s→(∀ b tk,s.toks≤tk→Q b { s with toks:=tk })→wpAny (model P w) A.in1 (Builtin.List.listLengthHint (.ref I)) Q E s)
 (hQ:∀ s' acc,Moved wr G s s'→ItemsOf Pv acc n→Q acc.toList s') (hn:n≤sizeLine):wpAny (model P w) A (collect (.ref I)) Q E s:=by
 have nf:s.heap.objs.size∉fp:=fun hm=>Nat.lt_irrefl _ (hfp _ hm)
 have nI:s.heap.objs.size≠I:=fun e=>nf (e ▸ hI)
 unfold collect
 refine wpAny_bind (wpAny_runValue (codeAny_builtin F.entry_proto_collect ?_))
 rw[Around.under_plainId F.plain_proto_collect _]
 show wpAny _ A.in1 (newList [] >>= fun l=>again (.builtin "list.__iadd__" ⟨[l,.ref I],[]⟩)) _ _ s
 refine wpAny_bind (wpAny_newObj_type (wpAny_pure ⟨plainId_quiet F.plain_list_iadd _,codeAny_builtin F.entry_list_iadd ?_⟩))
 rw[Around.under_plainId F.plain_list_iadd _]
 have st1:=W.frame 0 s (s.heap.push { cls:=.type "list", data:=.seq ([]:List Value).toArray }) s.toks hst (Nat.le_refl _) fun b _ o e=>Heap.get?_push_of_some _ e
 have hS:(s.heap.push { cls:=.type "list", data:=.seq ([]:List Value).toArray }).get? s.heap.objs.size=some { cls:=.type "list", data:=.seq ([]:List Value).toArray }:=Heap.get?_push_size _ rfl
 have h1:Builtin.List.listSameRef (.ref s.heap.objs.size) (.ref I)=false:=by simp[Builtin.List.listSameRef,nI]
 show wpAny _ A.in1 (Builtin.List.listExtendWith (.ref s.heap.objs.size) (.ref I) (.ref s.heap.objs.size)) _ _ _
 unfold Builtin.List.listExtendWith
 refine wpAny_bind (wpAny_typeOf (hT 0 _ st1) ?_)
 rw[if_neg (by rw[h1];decide)]
 refine wpAny_bind (W.self 0 _ _ _ st1 (wpAny_bind (wpAny_holding ?_)))
 refine hint _ _ _ st1 fun b tk htk=>?_
 have fin:∀ (R:Result→Shared→Prop) (h:Heap) (c₁:Nat),(∀ b∈fp,∀ o,s.heap.get? b=some o→h.get? b=some o)→(∀ b o,b≠s.heap.objs.size→s.heap.get? b=some o→h.get? b=some o)→h.get? s.heap.objs.size=some { cls:=.type "list", data:=.seq #[] c₁ } →
  (∀ s' acc c',Moved wr G s s'→ItemsOf Pv acc n→s'.heap.get? s.heap.objs.size=some { cls:=.type "list", dict:=none,data:=.seq acc c',slots:=#[] }→R (.ok (.ret (.ref s.heap.objs.size))) s') →
  codeAny (model P w) A (.builtin "list.extend.loop" ⟨[.ref s.heap.objs.size,.ref I,.ref s.heap.objs.size],[]⟩) R { s with heap:=h,toks:=tk }:=fun R h c₁ kf ka hS₁ hR=>by
  refine codeAny_extend_loopS W hn _ nf _ n 0 _ _ _ rfl (Nat.zero_le _) (W.frame 0 s h tk hst htk kf) hS₁ (ItemsOf.nil Pv) fun s' acc' c' hm hS' hacc=>hR s' acc' c' ⟨fun b o hb e=>?_,hm.gens,hm.drawn,hm.os,Nat.le_trans htk hm.toks⟩ hacc hS'
  have nb:b≠s.heap.objs.size:=fun z=>absurd (Heap.lt_size e) (by rw[z];exact Nat.lt_irrefl _)
  exact hm.heap b o (fun z=>(List.mem_cons.mp z).elim nb hb) (ka b o nb e)
 have end_:∀ s' acc c',Moved wr G s s'→ItemsOf Pv acc n→s'.heap.get? s.heap.objs.size=some { cls:=.type "list", dict:=none,data:=.seq acc c',slots:=#[] }→wpAny (model P w) A (load s.heap.objs.size >>= fun o=>match o.data with
  | .seq xs _=>pure xs.toList
  | _=>unsupported "internal:collect") Q E s':=fun s' acc c' mv it g=>wpAny_bind (wpAny_load g (wpAny_pure (hQ s' acc mv it)))
 refine wpAny_ite_split (fun _=>?_) (fun _=>wpAny_pure ⟨plainId_quiet F.plain_extend_loop _,fin _ _ _ (fun b _ o e=>Heap.get?_push_of_some _ e) (fun b o _ e=>Heap.get?_push_of_some _ e) hS fun s' acc c' mv it g=>end_ s' acc c' mv it g⟩)
 refine wpAny_bind (wpAny_rule (wpAny_bind ?_))
 show wpAny _ _ (updateSeq s.heap.objs.size (·.push .none) >>= fun _=>updateSeq s.heap.objs.size (·.pop)) _ _ _
 refine wpAny_bind (wpAny_updateSeq hS rfl ?_)
 have hS₂:=Heap.get?_update_self (Obj.mapSeq (·.push Value.none)) hS rfl
 refine wpAny_updateSeq (hz:=by seq_fits) hS₂ rfl ?_
 have hS₃:=Heap.get?_update_self (Obj.mapSeq (·.pop)) hS₂ rfl
 have oth:∀ b o,b≠s.heap.objs.size→s.heap.get? b=some o→(((s.heap.push { cls:=.type "list", data:=.seq ([]:List Value).toArray }).update s.heap.objs.size (Obj.mapSeq (·.push Value.none))).update s.heap.objs.size (Obj.mapSeq (·.pop))).get? b=some o :=
  fun b o hb e=>(Heap.get?_update_other _ _ (Ne.symm hb)).trans ((Heap.get?_update_other _ _ (Ne.symm hb)).trans (Heap.get?_push_of_some _ e))
 exact wpAny_pure ⟨plainId_quiet F.plain_extend_loop _,fin _ _ _ (fun b hb o e=>oth b o (fun z=>nf (z ▸ hb)) e) oth hS₃ fun s' acc c' mv it g=>end_ s' acc c' mv it g⟩
end
end L2
namespace L2
open PySem PySem.Spec PyProof.Rows
open PySem.AutoSeq1 (wpAny_loadPart')
section
variable{P:Program}{w:World}{A:Around}{E:Value→Shared→Prop}{s:Shared}{t I:Addr}{its:Array Value}
theorem RK{Q:Value→Shared→Prop}(hh:A.handled=none)(x:qD s.heap I t ((its.size:Int) - 1))(ht:s.heap.IsTuple t its)(hne:t≠I)(hf:its.size≤1000)
 (h:∀ s' acc,Moved [I] (fun a b=>b=a) s s'→ItemsOf (fun i v=>its[its.size - 1 - i]? = some v) acc its.size→Q (.ref s'.heap.objs.size) { s' with heap:=s'.heap.push { cls:=.type "tuple", data:=.seq acc } }) :
 codeAny (model P w) A (.call (.builtin "tuple.__new__") ⟨[.type "tuple", .ref I],[]⟩) (wants Q E) s:=by
 refine codeAny_of_tree ?_
 show wpAny _ _ (do checkBuiltinCall "tuple.__new__" ⟨[.type "tuple", .ref I],[]⟩;again (.builtin "tuple.__new__" ⟨[.type "tuple", .ref I],[]⟩)) _ _ s
 refine wpAny_bind (wpAny_of_eq (F.newCall_tuple_1 _) (wpAny_pure ⟨plainId_quiet F.plain_tuple_new _,codeAny_builtin F.entry_tuple_new ?_⟩))
 rw[Around.under_plainId F.plain_tuple_new _]
 have hsub:=sub_tuple_self
 have hinit:=init_tuple_lookup
 have hmh:=madeHere_tuple
 have hTI:=x.ty
 have W:=(Nj (P:=P) (w:=w) (A:=A.in1.in1) hh I t hne its (by omega)).toS
 have st0:(fun i (s:Shared)=>i≤its.size∧qD s.heap I t ((its.size:Int) - 1 - (i:Int))∧s.heap.IsTuple t its) 0 s:=⟨Nat.zero_le _,by rw[show (its.size:Int) - 1 - ((0:Nat):Int)=(its.size:Int) - 1 by omega];exact x,ht⟩
 have lt:∀ b∈[I,t],b < s.heap.objs.size:=fun b hb=>by
  rcases List.mem_cons.mp hb with rfl|hb
  ·obtain⟨o,e,_⟩:=x;exact Heap.lt_size e
  ·cases List.mem_singleton.mp hb;obtain⟨o,e,_⟩:=ht;exact Heap.lt_size e
 have hint:∀ (s:Shared) (Q:Bool→Shared→Prop) (E:Value→Shared→Prop),(0≤its.size∧qD s.heap I t ((its.size:Int) - 1 - ((0:Nat):Int))∧s.heap.IsTuple t its)→(∀ b tk,s.toks≤tk→Q b { s with toks:=tk })→wpAny (model P w) A.in1.in1 (Builtin.List.listLengthHint (.ref I)) Q E s:=fun s Q E st h=>by
  have y:=st.2.1
  rw[show (its.size:Int) - 1 - ((0:Nat):Int)=(its.size:Int) - 1 by omega] at y
  exact RG y st.2.2 hf h
 wp_walk using wpAny_typeOf hTI,Hi (hn:=by rw[sizeLine_eq];omega) W (fun i s st=>st.2.1.ty) st0 lt (by simp) hint
 intro s' acc hm hacc
 show wpAny _ _ (Builtin.Tuple.tupleExact acc.toList.toArray >>= fun v=>ret v) _ _ _
 unfold Builtin.Tuple.tupleExact
 refine wpAny_bind (wpAny_newObj_type ?_ (by show acc.toList.toArray.size≤sizeLine;simp only[Array.toArray_toList];rw[hacc.1,sizeLine_eq];omega))
 rw[show acc.toList.toArray=acc by simp]
 exact wpAny_pure (h s' acc hm hacc)
theorem Li{acc:Array Value}(h:ItemsOf (fun i v=>its[its.size - 1 - i]? = some v) acc its.size):acc.toList=its.toList.reverse:=by
 have hl:acc.size=its.size:=h.1
 refine List.ext_getElem? fun i=>?_
 rcases Nat.lt_or_ge i its.size with lt|ge
 ·have lt':i < acc.size:=by omega
  have:=h.2 i acc[i] (Array.getElem?_eq_getElem lt')
  rw[Array.getElem?_toList,Array.getElem?_eq_getElem lt',List.getElem?_reverse (by simpa using lt),Array.length_toList,Array.getElem?_toList]
  exact this.symm
 ·rw[List.getElem?_eq_none (by rw[Array.length_toList];omega),List.getElem?_eq_none (by rw[List.length_reverse,Array.length_toList];omega)]
theorem Nk{Q:Value→Shared→Prop}(hh:A.handled=none)(x:qD s.heap I t ((its.size:Int) - 1))(ht:s.heap.IsTuple t its)(hne:t≠I)(hf:its.size≤1000)
 (q:∀ (h':Heap) (tk:Nat),(∀ b o,b≠I→s.heap.get? b=some o→h'.get? b=some o)→Q (.ref h'.objs.size) { s with heap:=h'.push { cls:=.type "tuple", data:=.seq its.toList.reverse.toArray },toks:=tk }):wpAny (model P w) A (call (.type "tuple") [.ref I]) Q E s:=by
 refine callType_codes (Q₁:=fun obj s₁=>s₁.TypeIs obj "tuple" ∧ Q obj s₁) F.called_tuple (F.typeCall_tuple_1 _) F.entry_object_init (RK hh x ht hne hf fun s' acc mv hi=>⟨⟨_,Heap.get?_push_size _ rfl,rfl⟩,?_⟩) fun obj s₁ h₁=>?_
 ·have e:acc=its.toList.reverse.toArray:=by rw[← Li hi]
  obtain⟨h',g',d',t',o'⟩:=s'
  obtain⟨m1,m2,m3,m4,m5⟩:=mv
  dsimp only at m1 m2 m3 m4 m5 ⊢
  subst m2 m3 m4 e
  exact q h' t' fun b o hb z=>m1 b o (fun y=>hb (List.mem_singleton.mp y)) z
 ·exact⟨h₁.1,F.args_object_init_2 obj _,object_init_meets F.called_tuple.init.lookup F.called_tuple.made (by decide) P w A.in1 _ s₁ ⟨h₁.1,rfl,h₁.2⟩⟩
end
section
variable{X:Cx}
def Xo(p a:Addr)(n:Nat):Heap→Prop:=fun h=>qD h p a ((n:Int) - 1)
def Vh(H:Hp)(p:Addr):Hp:=fun b=>if b=p then none else H b
theorem tO{H:Hp}{p b:Addr}(h:b≠p):Vh H p b=H b:=by unfold Vh;rw[if_neg h]
def Ym(X:Cx):List V→Hp→VK→Prop:=fun xs H Q=>∃ a ys,xs=[V.ref a]∧H a=some (.tup ys)∧ys.length≤1000∧∀ p,H p=none→X.s₀.heap.objs.size≤p→Q (.ref p) (upd H p (.ext (Xo p a ys.length)))
theorem QK:jg X (.type "reversed") (Ym X):=by
 intro pins s σ H xs us Q I r h
 obtain⟨a,ys,rfl,ha,hl,q⟩:=h
 obtain⟨u,rfl,ru⟩:=vals1 r
 cases ru
 obtain⟨_,its,rv,tn⟩:=(show cu X.prog X.w H s.heap a (.tup ys) from I.hok a _ ha)
 have e:=rv.length
 refine VJ (its:=its.toArray) tn.tup (by rw[List.size_toArray];omega) fun tk=>?_
 refine⟨.ref s.heap.objs.size,_,I.laid (a:=s.heap.objs.size) (o:=.ext (Xo s.heap.objs.size a ys.length)) (t':=tk) (fun _ _ q=>Heap.get?_push_of_some _ q) (Nat.le_refl _) ⟨⟨_,Heap.get?_push_size _ rfl,rfl,?_⟩,⟨_,Heap.get?_push_size _ rfl⟩,fun h1 h2 z k=>z.go k⟩,rfl,q _ I.fresh I.sz⟩
 show Data.fields _=_
 rw[List.size_toArray,e]
def UW(X:Cx):List V→Hp→VK→Prop:=fun xs H Q=>∃ p a ys,xs=[V.ref p]∧H p=some (.ext (Xo p a ys.length))∧X.s₀.heap.objs.size≤p∧H a=some (.tup ys)∧ys.length≤1000∧∀ r,Vh H p r=none→Q (.ref r) (upd (Vh H p) r (.tup ys.reverse))
theorem DP:∀ {xs:List V} {us:List Value},Vals xs us→Vals xs.reverse us.reverse
 | _,_,.nil=>.nil
 | _,_,.cons r t=>by rw[List.reverse_cons,List.reverse_cons];exact(DP t).append (.cons r .nil)
theorem LR(hc:X.calm=true):jg X (.type "tuple") (UW X):=by
 intro pins s σ H xs us Q I r h
 obtain⟨p,a,ys,rfl,hp,hs0,ha,hl,q⟩:=h
 obtain⟨u,rfl,ru⟩:=vals1 r
 cases ru
 obtain⟨hz,its,rv,tn⟩:=(show cu X.prog X.w H s.heap a (.tup ys) from I.hok a _ ha)
 obtain⟨x,_,_⟩:=(show cu X.prog X.w H s.heap p (.ext (Xo p a ys.length)) from I.hok p _ hp)
 have e:=rv.length
 have x:qD s.heap p a ((its.toArray.size:Int) - 1):=by rw[List.size_toArray,← e];exact x
 have hne:a≠p:=fun z=>by subst z;rw[ha] at hp;cases hp
 have np:∀ b,H b=none→b≠p:=fun b n z=>by subst z;rw[hp] at n;cases n
 have nt:∀ b u,H b=some u→u≠.ext (Xo p a ys.length)→b≠p:=fun b u n m z=>by subst z;rw[hp] at n;exact m (Option.some.inj n).symm
 refine Nk (I.ok.hd hc) x tn.tup hne (by rw[List.size_toArray];omega) fun h' tk hk=>?_
 have I1:Inv X pins σ (Vh H p) { s with heap:=h',toks:=tk }:=by
  refine I.step (g':=s.gens) (d':=s.drawn) (ch:=[p]) (fun b hb=>?_) (fun b o _ _ hc e _=>hk b o (fun z=>hc (by simp[z])) e) (fun b o _ _ hc e _=>⟨o.slots,hk b o (fun z=>hc (by simp[z])) e⟩) (fun b o hc e n=>by rw[tO (fun z=>hc (by simp[z]))];exact n)
   (fun b o hc e=>⟨o,hk b o (fun z=>hc (by simp[z])) e⟩) (fun b xs e=>by rw[tO (nt b _ e (by simp))];exact e) (fun b o u e=>by rw[tO (nt b _ e (by simp))];exact e) (fun b w ps e=>⟨#[],by rw[tO (nt b _ e (by simp)),e];simp⟩) (fun m hm=>?_) (fun b u e=>?_) I.bare
  ·cases List.mem_singleton.mp hb
   exact⟨.inr hs0,(np _ I.free).symm,fun x c e=>np c (I.nR x c e),fun y hy=>np y.1 (I.pin y hy).2.1⟩
  ·obtain⟨o,es,ep,ho,r⟩:=hm
   exact⟨o,es,ep,hk _ o (np _ I.free) ho,r⟩
  ·have hb:b≠p:=fun z=>by subst z;unfold Vh at e;rw[if_pos rfl] at e;cases e
   rw[tO hb] at e
   refine(I.hok b u e).stay (fun c v hc z=>hk c v ?_ z) (fun c z=>by rw[tO (nt c _ z (by simp))];exact z) fun c xs z=>by rw[tO (nt c _ z (by simp))];exact z
   rcases hc with rfl|hc
   ·exact hb
   ·exact nt c _ hc (by simp)
 refine⟨.ref h'.objs.size,_,I1.laid (a:=h'.objs.size) (o:=.tup ys.reverse) (t':=tk) (fun _ _ q=>Heap.get?_push_of_some _ q) (Nat.le_refl _) ⟨by rw[List.length_reverse];exact hz,its.reverse,DP rv,?_⟩,rfl,q _ I1.fresh⟩
 exact Jg.new h' _
end
end L2
namespace A
open PySem L2 PyProof.Rows
open Mi (D W Rs Fin aq)
variable[Tb:eZ]{M:Nat→Bool}
theorem Xf{X:Cx}{ta:TE}{a:Mi.E}(ha:AE M qP ta a):AE M qV (Ru (UW X) (jG (Ru (Ym X) (jG ta qZ)) qZ)) (Mi.m1 Mi.FZ a):=fun e σ H Hv Q I h =>
 ha e σ H Hv _ I ((aq.mp h).mono fun d hd v H1 Hv1 g1 r=>by
  cases d with
  | tup ds =>
   obtain⟨hl,hd⟩:=Mi.aU hd
   obtain⟨a,xs,rfl,ha,hv,c⟩:=RD.tup g1.vw r
   have e:=c.len
   refine⟨a,xs,rfl,ha,by omega,fun p hp hs=>⟨p,a,xs,rfl,aP,hs,by rw[aH (aQ ha hp)];exact ha,by omega,fun r hr=>?_⟩⟩
   have ed:Vh (upd H1 p (.ext (Xo p a xs.length))) p=H1:=by
    funext b
    unfold Vh
    split
    ·rename_i z;rw[z,hp]
    ·rename_i z;exact aH z
   rw[ed] at hr ⊢
   obtain⟨g2,k⟩:=vo g1.vw c.rev hr
   exact hd (.ref r) _ _ (g1.trans g2) k
  | _=>exact hd.elim)
end A
namespace So
open PySem PySem.W PyProof.Rows PySem.MeetsSeq3
section
variable{prog:Program}{w:World}{Ar:Around}
theorem YW{R:Result→Shared→Prop}{s:Shared}{l b:Addr}{us vs:List Value}{xs ys:List Int}{o o2:Obj}{n n2:Nat}(ho:s.heap.get? l=some o)(hd:o.data=.seq us.toArray n)(ho2:s.heap.get? b=some o2)(hd2:o2.data=.seq vs.toArray n2)(hu:IntsAre us xs)(hv:IntsAre vs ys) :
 ∀ (k i:Nat),xs.length - i≤k→i≤xs.length→i≤ys.length→R (.ok (.ret (.bool (pW (xs.drop i) (ys.drop i))))) s→codeAny (model prog w) Ar (.builtin "list.__eq__.loop" ⟨[.ref l,.ref b,rawInt i,rawInt 1],[]⟩) R s:=by
 have l1:=hu.length
 have l2:=hv.length
 have gx:∀ i,i < xs.length→∃ t,us.toArray[i]? = some (.int (xs.getD i 0) t):=fun i hi=>by
  obtain⟨t,e⟩:=wY hu (i:=i) (n:=xs.getD i 0) (by simp[hi])
  exact⟨t,by simpa using e⟩
 have gy:∀ i,i < ys.length→∃ t,vs.toArray[i]? = some (.int (ys.getD i 0) t):=fun i hi=>by
  obtain⟨t,e⟩:=wY hv (i:=i) (n:=ys.getD i 0) (by simp[hi])
  exact⟨t,by simpa using e⟩
 have nx:∀ i,¬ i < xs.length→us.toArray[i]? = none:=fun i hi=>by simp;omega
 have ny:∀ i,¬ i < ys.length→vs.toArray[i]? = none:=fun i hi=>by simp;omega
 have Qm:∀ i,i=xs.length→i≤ys.length→decide (us.toArray.size≤vs.toArray.size)=pW (xs.drop i) (ys.drop i):=fun i hi hj=>by
  rw[List.drop_eq_nil_of_le (by omega:xs.length≤i),List.size_toArray,List.size_toArray,l1,l2]
  by_cases h:i < ys.length
  ·rw[List.drop_eq_getElem_cons h]
   simp[pW];omega
  ·rw[List.drop_eq_nil_of_le (by omega:ys.length≤i)]
   simp[pW];omega
 have WQ:∀ i,i < xs.length→i=ys.length→decide (us.toArray.size≤vs.toArray.size)=pW (xs.drop i) (ys.drop i):=fun i hi hj=>by
  rw[List.drop_eq_nil_of_le (by omega:ys.length≤i),List.drop_eq_getElem_cons hi,List.size_toArray,List.size_toArray,l1,l2]
  simp[pW];omega
 have fin:∀ (i:Nat),(us.toArray[i]? = none∨vs.toArray[i]? = none)→R (.ok (.ret (.bool (decide (us.toArray.size≤vs.toArray.size))))) s→codeAny (model prog w) Ar (.builtin "list.__eq__.loop" ⟨[.ref l,.ref b,rawInt i,rawInt 1],[]⟩) R s:=fun i hn h=>by
  refine codeAny_builtin entry_eq_loop (by
   rw[Around.under_plainId plain_eq_loop _]
   unfold Builtin.«list.__eq__.loop»
   show wpAny _ _ (Builtin.List.listItems (.ref l) >>= _) _ _ _
   refine wpAny_bind (listItems_at ho hd (wpAny_bind (listItems_at ho2 hd2 ?_)))
   simp only[Int.toNat_natCast]
   rcases hn with e|e
   ·rw[e]
    dsimp only
    refine wpAny_bind (listItems_at ho hd (wpAny_bind (listItems_at ho2 hd2 ?_)))
    exact wpAny_pure h
   ·rw[e]
    cases us.toArray[i]? <;>
    ·dsimp only
     refine wpAny_bind (listItems_at ho hd (wpAny_bind (listItems_at ho2 hd2 ?_)))
     exact wpAny_pure h)
 intro k
 induction k with
 | zero =>
  intro i hk h1 h2 h
  refine fin i (.inl (nx i (by omega))) ?_
  rw[Qm i (by omega) h2];exact h
 | succ k ih =>
  intro i hk h1 h2 h
  by_cases hi:i < xs.length
  ·by_cases hj:i < ys.length
   ·obtain⟨t,e1⟩:=gx i hi
    obtain⟨u,e2⟩:=gy i hj
    have dx:xs.drop i=xs.getD i 0::xs.drop (i+1):=by rw[List.drop_eq_getElem_cons hi];simp[hi]
    have dy:ys.drop i=ys.getD i 0::ys.drop (i+1):=by rw[List.drop_eq_getElem_cons hj];simp[hj]
    rw[dx,dy] at h
    refine codeAny_builtin entry_eq_loop (by
     rw[Around.under_plainId plain_eq_loop _]
     unfold Builtin.«list.__eq__.loop»
     show wpAny _ _ (Builtin.List.listItems (.ref l) >>= _) _ _ _
     refine wpAny_bind (listItems_at ho hd (wpAny_bind (listItems_at ho2 hd2 ?_)))
     simp only[Int.toNat_natCast]
     rw[e1,e2]
     dsimp only
     refine wpAny_bind (wpAny_eqBool_int ?_)
     cases hb:(xs.getD i 0 == ys.getD i 0) with
     | true =>
      rw[if_pos rfl]
      rw[pW,hb,if_pos rfl] at h
      refine wpAny_pure ⟨plainId_quiet plain_eq_loop _,?_⟩
      have:=ih (i+1) (by omega) hi hj h
      rw[show rawInt ((i+1:Nat):Int)=rawInt ((i:Int)+1) from by rw[show ((i+1:Nat):Int)=(i:Int)+1 by omega]] at this
      exact this
     | false =>
      rw[if_neg Bool.false_ne_true]
      rw[pW,hb,if_neg Bool.false_ne_true] at h
      refine wpAny_bind (listItems_at ho hd (wpAny_bind (listItems_at ho2 hd2 ?_)))
      rw[e1,e2]
      show wpAny _ _ (richCompare .LtE _ _ >>= _) _ _ _
      exact wpAny_bind (show wpAny _ _ (compareOp .LtE _ _) _ _ _ from PySem.P.le_int (wpAny_pure h)))
   ·refine fin i (.inr (ny i hj)) ?_
    rw[WQ i hi (by omega)];exact h
  ·refine fin i (.inl (nx i hi)) ?_
   rw[Qm i (by omega) h2];exact h
theorem PB{A:Around}{E:Value→Shared→Prop}{s:Shared}{l b:Addr}{us vs:List Value}{xs ys:List Int}{o o2:Obj}{n n2:Nat}{Q:Value→Shared→Prop}(ho:s.heap.get? l=some o)(hc:o.cls=.type "list")(hd:o.data=.seq us.toArray n)(ho2:s.heap.get? b=some o2)(hc2:o2.cls=.type "list")(hd2:o2.data=.seq vs.toArray n2)(hu:IntsAre us xs)(hv:IntsAre vs ys)
 (hun:A.units < cLine) (h:Q (.bool (pW xs ys)) s):wpAny (model prog w) A (compareOp .LtE (.ref l) (.ref b)) Q E s:=by
 have t1:s.TypeIs (.ref l) "list" := ⟨_,ho,hc⟩
 have t2:s.TypeIs (.ref b) "list" := ⟨_,ho2,hc2⟩
 show wpAny _ _ (richCompare .LtE _ _) _ _ _
 refine wpAny_richCompare_same_room t1 t2 PySem.F.slot_list_le (wpAny_call (codeAny_call_builtin PySem.F.slot_list_le.plain PySem.F.entry_list_le (PySem.F.slot_list_le.check _ _ _ _ _ _ _ _ t1 (PySem.F.args_list_le_2 _ _) ?_))) hun
 unfold Builtin.«list.__le__»
 have sub:isSubtype (.type "list") (.type "list")=pure true:=by rw[isSubtype_type];kernel_rfl
 show wpAny _ _ (isInstance (.ref b) (.type "list") >>= _) _ _ _
 refine wpAny_bind (wpAny_isInstance t2 sub (wpAny_pure ⟨plainId_quiet plain_eq_loop _,?_⟩))
 exact YW ho hd ho2 hd2 hu hv xs.length 0 (by omega) (Nat.zero_le _) (Nat.zero_le _) ⟨by simp,h⟩
end
end So
namespace L2
open PySem PySem.Spec PyProof.Rows
variable{X:Cx}[Tb:A.eZ]
theorem xF:∀ {ns:List Int} {us:List Value},Vals (ns.map V.int) us→IntsAre us ns
 | [],_,.nil=>.nil
 | n::ns,_,.cons ⟨t,e⟩ r=>by subst e;exact .cons n t (xF r)
def Ys:R2:=fun x y H Q=>∃ l b xs ys,x=.ref l∧y=.ref b∧A.Lst H l (xs.map V.int)∧A.Lst H b (ys.map V.int)∧Q (.bl (So.pW xs ys)) H
theorem V9(hu:X.A.units+64 < cLine):pJ X (compareOp .LtE) Ys:=by
 intro pins s σ H x y v u Q I rx ry h
 obtain⟨l,b,xs,ys,rfl,rfl,hl,hb,q⟩:=h
 cases rx
 cases ry
 obtain⟨its,n,r,z,e⟩:=A.HF I hl
 obtain⟨its2,n2,r2,z2,e2⟩:=A.HF I hb
 exact So.PB e rfl rfl e2 rfl rfl (xF r) (xF r2) (by omega) ⟨.bl _,H,I,rfl,q⟩
def Yr:R2:=fun x y H Q=>Mq (fun i j=>.bl (decide (i≤j))) x y H Q∨Ys x y H Q
theorem V8(hu:X.A.units+64 < cLine):pJ X (compareOp .LtE) Yr:=YF.or (V9 hu)
end L2
namespace A
open PySem L2 PyProof.Rows
open Mi (D W Rs Fin aq)
variable[Tb:eZ]{M:Nat→Bool}
theorem vA{H:Hp}:∀ {ds:List D} {xs:List V} {ns:List Int},Mi.rD ds=some ns→P2 (Rep H) ds xs→xs=ns.map V.int
 | [],_,ns,h,.nil=>by cases h;rfl
 | d::ds,_,ns,h,.cons x t=>by
  cases d with
  | int i =>
   rw[Mi.rD] at h
   cases hr:Mi.rD ds with
   | none=>rw[hr] at h;cases h
   | some ms =>
    rw[hr] at h
    cases h
    rw[jU.mp x,vA hr t];rfl
  | _=>cases h
theorem Zj:B2 qV Yr Mi.Lz:=fun x y v u H Hv Q vw rx ry h=>by
 cases x with
 | int i=>cases y with
  | int j=>cases RD.int rx;cases RD.int ry;exact .inl ⟨i,j,rfl,rfl,h _ H Hv (.refl vw) gW⟩
  | _=>exact h.elim
 | lst a=>cases y with
  | lst b =>
   obtain⟨xs,ex,h⟩:=iY (aq.mp h)
   obtain⟨ys,ey,h⟩:=iY (aq.mp h)
   obtain⟨l,ls,rfl,l1,r1⟩:=RD.lst vw rx
   obtain⟨m,ms,rfl,l2,r2⟩:=RD.lst vw ry
   rw[vA ex r1] at l1
   rw[vA ey r2] at l2
   exact .inr ⟨l,m,xs,ys,rfl,rfl,l1,l2,h _ H Hv (.refl vw) gW⟩
  | _=>exact h.elim
 | _=>exact h.elim
end A
namespace Mr
open PySem Mi
def lE:S :=
 (jR (pN (mV 1)) (.n 2)
 (iM (cB (m2 dz (mV 2) (mV 0)))
 vf
 bG))
def cU:Fn:=wM 2 3 lE
def Be:S :=
 (bj (cG 2 (mC (.str "etaoinshrdlucmfwypvbgkqjxz")))
 (bj (iM (cB (m2 DK (m2 fJ (mV 0) (mC (.int 4))) (mC (.int 2))))
 (bj (cG 3 (m2 J6 (mC (.str "")) (d9 [some 2,some 0,none] (gF (mC (.int 8))) (.n 2) iB (m2 bz (mV 0) (m2 fJ (m2 jO (mV 1) (m2 cV (mC (.int 4)) (m2 dg (mC (.int 3)) (mV 2)))) (mC (.int 26)))))))
 (bj (iM (cB (m2 qW (m2 fJ (mV 0) (mC (.int 4))) (mC (.int 0))))
 (bZ (wD (d9 [some 3,none] (gF (mV 1)) (.n 1) iB (ji Rn (mV 0) none (some (m2 cV (mV 1) (mC (.int 1))))))))
 bG)
 (bZ (wD (d9 [some 3,none] (gF (mV 1)) (.n 1) iB (ji Rn (mV 0) (some (m2 Dj (mC (.int 7)) (mV 1))) none))))))
 bG)
 (bj (cG 4 (m2 fJ (m2 jO (mV 0) (mC (.int 4))) (mC (.int 8))))
 (bj (cG 5 (m2 J6 (mC (.str "")) (d9 [some 2,some 0,none] (gF (mV 4)) (.n 2) iB (m2 bz (mV 0) (m2 fJ (m2 cV (m2 cV (m2 jO (mV 1) (mC (.int 32))) (m2 dg (mC (.int 5)) (mV 2))) (m2 dg (mV 2) (mV 2))) (mC (.int 26)))))))
 (bj (cG 6 (m2 fJ (m2 jO (mV 0) (mC (.int 256))) (m2 cV (mV 4) (mC (.int 1)))))
 (bZ (wD (d9 [some 5,some 2,some 6,some 0,none] (gF (mV 1)) (.n 4) iB (m2 cV (m2 cV (ji Rn (mV 0) none (some (mV 2))) (m2 bz (mV 1) (m2 fJ (m2 cV (m2 jO (mV 3) (mC (.int 7))) (m2 dg (mC (.int 5)) (mV 4))) (mC (.int 26))))) (ji Rn (mV 0) (some (mV 2)) none))))))))))
def nu:Fn:=DG 2 7 Be
def Gk:S :=
 (bj (iM (cB (m2 DK (mV 1) (mN fX [(mV 0)])))
 (bZ (wD (m2 bz (mV 0) (mV 1))))
 bG)
 (bj (cG 2 (m2 cV (mC (.int 30011)) (m2 dg (m2 dg (mC (.int 709)) (mV 1)) (mV 1))))
 (bj (iM (cB (m2 dGt (mN fX [(mV 0)]) (mC (.int 0))))
 (cG 2 (m2 cV (mV 2) (m2 dg (m2 fJ (m2 bz (mV 0) (mC (.int 0))) (mC (.int 99991))) (m2 cV (m2 cV (m2 dg (mV 1) (mV 1)) (m2 dg (mC (.int 2)) (mV 1))) (mC (.int 5))))))
 bG)
 (bZ (wD (mV 2))))))
def eU:Fn:=wM 2 3 Gk
def wj:S :=
 (bj (cG 2 (d9 [none] (gF (mV 1)) (.n 0) iB (mV 0)))
 (bj (cG 3 (mN pC []))
 (bj (cG 4 (m2 fJ (mV 0) (mC (.int 2147483647))))
 (bj (jR (gF (mV 1)) (.n 5)
 (bj (cG 4 (m2 fJ (m2 cV (m2 cV (m2 dg (mV 4) (mC (.int 48271))) (m2 dg (mC (.int 7)) (mV 5))) (mC (.int 1))) (mC (.int 2147483647))))
 (oU 3 2 (m2 fJ (m2 jO (mV 4) (mC (.int 32))) (mN fX [(mV 2)])))))
 (bZ (wV 3))))))
def jJ:Fn:=DG 2 6 wj
def Bg:S :=
 (bj (cG 2 (m2 cV (mC (.int 1)) (m2 fJ (aW eU [(wD (mV 0)),(wD (mC (.int 0)))]) (mV 1))))
 (bj (cG 3 (aW nu [(wD (aW eU [(wD (mV 0)),(wD (mC (.int 1)))])),(wD (mV 2))]))
 (bj (cG 4 (aW jJ [(wD (aW eU [(wD (mV 0)),(wD (mC (.int 2)))])),(wD (mV 2))]))
 (bj (cG 5 (m2 bz (mN pC [(mC (.int 4)),(mC (.int 1)),(mC (.int 2)),(mC (.int 3)),(mC (.int 2)),(mC (.int 3))]) (m2 fJ (aW eU [(wD (mV 0)),(wD (mC (.int 3)))]) (mC (.int 6)))))
 (bj (cG 6 (mN pC []))
 (bj (jR (gF (mV 2)) (.n 7)
 (jR (gF (mV 2)) (.n 8)
 (bj (cG 9 (aW eU [(wD (mV 0)),(wD (m2 cV (m2 cV (mC (.int 4)) (m2 jO (m2 dg (mN vJ [(mV 7),(mV 8)]) (m2 Dj (mN vJ [(mV 7),(mV 8)]) (mC (.int 1)))) (mC (.int 2)))) (mN Gp [(mV 7),(mV 8)])))]))
 (iM (n6 (cB (m2 DK (m2 bz (mV 4) (mV 7)) (m2 bz (mV 4) (mV 8)))) (cB (m2 DK (m2 fJ (m2 jO (m2 fJ (m2 dg (mV 9) (mC (.int 48271))) (mC (.int 2147483647))) (mC (.int 16))) (mC (.int 4))) (mV 5))))
 (dH 6 (mN dTup [(m2 bz (mV 3) (mV 7)),(m2 bz (mV 3) (mV 8))]))
 bG))))
 (bZ (wD (mN dTup [(mN vI [(mV 3)]),(mN vI [(mV 6)])])))))))))
def nA:Fn:=wM 2 10 Bg
def Gj:S :=
 (bZ (wD (Pn (m2 nZ (mN dTup [(mV 1),(mV 2)]) (m2 bz (mV 0) (mC (.int 1)))) (m2 nZ (mN dTup [(mV 2),(mV 1)]) (m2 bz (mV 0) (mC (.int 1)))))))
def bT:Fn:=wM 3 3 Gj
def zc:S :=
 (bj (Jv (aW cU [(wD (m2 bz (mV 0) (mC (.int 0)))),(wD (mN pC [(mV 1),(mV 2)]))]))
 (bZ (wD (Pn (m2 nZ (mN dTup [(mV 1),(mV 2)]) (m2 bz (mV 0) (mC (.int 1)))) (m2 nZ (mN dTup [(mV 2),(mV 1)]) (m2 bz (mV 0) (mC (.int 1))))))))
def dY:Fn:=wM 3 3 zc
def rY:S :=
 (bZ (wD (CJ [0] (mV 1) (d9 [some 1,none] (pN (mV 0)) (.n 1) iB (m2 vG (mV 0) (mV 1))))))
def bY:Fn:=DG 2 2 rY
def tV:S :=
 (bj (cG 1 (mN pC []))
 (bj (jR (tG (mV 0)) (.t [2,3])
 (lO 1 (d9 [some 3,none] (pN (ji zU (mV 0) (some (m2 cV (mV 2) (mC (.int 1)))) none)) (.n 1) iB (mN dTup [(mV 0),(mV 1)]))))
 (bZ (wV 1))))
def cL:Fn:=DG 1 4 tV
def Bc:S :=
 (bZ (wD (d9 [some 0,none,none] (pN (aW cL [(wD (m2 bz (mV 0) (mC (.int 0))))])) (.t [1,2]) (cB (aW dY [(wD (mV 0)),(wD (mV 1)),(wD (mV 2))])) (mN dTup [(mV 1),(mV 2)]))))
def gC:Fn:=DG 1 1 Bc
def uO:S :=
 (bj (Yc (.t [1,2]) (mV 0))
 (bj (cG 3 (mN pC []))
 (bj (jR (pN (aW cL [(wD (mV 1))])) (.t [4,5])
 (iM (gJ (cB (aW dY [(wD (mV 0)),(wD (mV 4)),(wD (mV 5))])))
 (bj (cG 6 (d9 [some 2,some 4,some 5,none] (pN (mV 1)) (.n 3) (n6 (cB (m2 nZ (mN dTup [(mV 1),(mV 3)]) (mV 0))) (cB (m2 nZ (mN dTup [(mV 2),(mV 3)]) (mV 0)))) (mV 3)))
 (lO 3 (d9 [some 4,some 5,none] (pN (mV 6)) (.n 2) iB (mN dTup [(mV 0),(mV 2),(mV 1)]))))
 bG))
 (bZ (wD (aW bY [(wD (mV 1)),(wD (mV 3))]))))))
def dw:Fn:=DG 1 7 uO
def Bh:S :=
 (bZ (wD (rA (CK Xu Xu (mC (.int 1)) (mN fX [(mV 0)]) (mC (.int 8))) (mN W9 [(d9 [none] (pN (mV 0)) (.n 0) iB (m2 nZ (mV 0) (mC (.str "abcdefghijklmnopqrstuvwxyz"))))]))))
def nF:Fn:=wM 1 1 Bh
def wg:S :=
 (bZ (wD (d9 [some 1,none,none] (pN (mV 0)) (.t [1,2]) (n6 (cB (m2 dz (mN dTup [(mV 1),(mV 2)]) (mV 0))) (cB (m2 dz (mN dTup [(mV 2),(mV 1)]) (mV 0)))) (mN dTup [(mV 1),(mV 2)]))))
def iI:Fn:=DG 2 2 wg
def rZ:S :=
 (bZ (wD (rA (m2 Am (mV 0) (mV 2)) (rA (jW 3 (mN dTup [(mV 0),(mV 2)])) (jW 4 (mN dTup [(mV 0),(mV 1),(mV 2)]))))))
def cz:Fn:=wM 5 5 rZ
def yX:S :=
 (bj (cG 6 (mN pC []))
 (bj (jR (pN (mV 2)) (.n 7)
 (bj (iM (cB (nH 4 (mN dTup [(mV 0),(mV 1),(mV 7)])))
 (dH 6 (mN dTup [(mV 0),(mV 1),(mC (.str "corner")),(mN dTup [(mV 7)])]))
 bG)
 (bj (iM (n6 (cB (nH 5 (mN dTup [(mV 7),(mV 0)]))) (cB (aW cz [(wD (mV 7)),(wD (mV 0)),(wD (mV 1)),(wV 3),(wV 4)])))
 (dH 6 (mN dTup [(mV 0),(mV 1),(mC (.str "on")),(mN dTup [(mV 7)])]))
 bG)
 (iM (n6 (cB (nH 5 (mN dTup [(mV 0),(mV 7)]))) (cB (nH 5 (mN dTup [(mV 7),(mV 1)]))))
 (dH 6 (mN dTup [(mV 0),(mV 1),(mC (.str "over")),(mN dTup [(mV 7)])]))
 bG))))
 (bj (cG 8 (d9 [some 5,some 3,some 1,some 0,none] (pN (mV 2)) (.n 4) (n6 (cB (nH 0 (mN dTup [(mV 4),(mV 2)]))) (cB (nH 1 (mN dTup [(mV 4),(mV 3)])))) (mV 4)))
 (bj (jR (pN (aW cL [(wD (mV 8))])) (.t [7,9])
 (iM (cB (aW cz [(wD (mV 7)),(wD (mV 0)),(wD (mV 9)),(wV 3),(wV 4)]))
 (dH 6 (mN dTup [(mV 0),(mV 1),(mC (.str "both")),(mN dTup [(mV 7),(mV 9)])]))
 bG))
 (bZ (wV 6))))))
def iy:Fn:=DG 6 10 yX
def wA:S :=
 (bj (vZ 1 (fun _=>.ok (.dt [])))
 (bj (jR (pN (mV 0)) (.n 2)
 (bj (lQ 1 (mV 2) (mC (.bl true)))
 (lQ 1 (m1 FZ (mV 2)) (mC (.bl true)))))
 (bZ (wV 1))))
def fj:Fn:=DG 1 3 wA
def uJ:S :=
 (bj (vZ 3 (MJ (jm fj [(wD (mV 1))])))
 (bj (vZ 4 (MJ (jm fj [(wD (mV 2))])))
 (bj (vZ 5 (fun _=>.ok (.dt [])))
 (bj (cG 6 (mC .non))
 (bj (Hf 200 (cB (m2 Am (yz 5) (mV 6)))
 (bj (cG 6 (yz 5))
 (jR (Df 3) (.t [7,8])
 (iM (cB (jW 5 (mN dTup [(mV 7),(mV 8)])))
 (bj (cG 9 (qm iy [(wD (mV 7)),(wD (mV 8)),(wD (mV 0)),(wV 3),(wV 4),(wV 5)]))
 (iM (T9 (mV 9))
 (lQ 5 (mN dTup [(mV 7),(mV 8)]) (m2 bz (mV 9) (mC (.int 0))))
 bG))
 bG))))
 (bZ (wD (Pq 5))))))))
def cJ:Fn:=DG 3 10 uJ
def uL:S :=
 (bj (cG 3 (d9 [none] (pN (aW cJ [(wD (mV 0)),(wD (mV 1)),(wD (mV 2))])) (.n 0) iB (ji TQ (mV 0) none (some (mC (.int 2))))))
 (bj (cG 4 (d9 [some 3,none,none] (pN (mV 3)) (.t [1,2]) (cB (m2 dz (mN dTup [(mV 2),(mV 1)]) (mV 0))) (mN dTup [(mV 1),(mV 2)])))
 (bZ (wD (mN dTup [(mV 0),(mN vI [(aW bY [(wD (mV 0)),(wD (mV 4))])]),(mN vI [(aW iI [(wD (mV 1)),(wD (mV 4))])])])))))
def fu:Fn:=wM 3 5 uL
def uK:S :=
 (bZ (wD (aW fu [(wD (m2 bz (mV 0) (mC (.int 0)))),(wD (aW gC [(wD (mV 0))])),(wD (aW dw [(wD (mV 0))]))])))
def dN:Fn:=wM 1 1 uK
def za:S :=
 (bj (cG 1 (mN pC []))
 (bj (jR (tG (m2 bz (mV 0) (mC (.int 0)))) (.t [2,3])
 (cG 1 (m2 cV (mV 1) (d9 [some 3,some 0,none] (pN (ji zU (m2 bz (mV 0) (mC (.int 0))) (some (m2 cV (mV 2) (mC (.int 1)))) none)) (.n 2) (cB (aW bT [(wD (mV 1)),(wD (mV 0)),(wD (mV 2))])) (mN dTup [(mV 0),(mV 2)])))))
 (bZ (wD (mV 1)))))
def jt:Fn:=wM 1 4 za
def Bf:S :=
 (bj (iM (gJ (cB (m1 (IW ["tuple"]) (mV 0))))
 (bZ (wD (mC (.bl false))))
 bG)
 (bj (cG 2 (mN pC [(m1 W0 (mC (.int 1))),(m1 W0 (mC (.int 1)))]))
 (bj (jR (pN (mV 0)) (.n 3)
 (bj (iM (mU (gJ (cB (m1 (IW ["tuple"]) (mV 3)))) (mU (cB (m2 Am (mN fX [(mV 3)]) (mC (.int 2)))) (mU (cB (m2 dz (m2 bz (mV 3) (mC (.int 0))) (mV 1))) (cB (m2 dz (m2 bz (mV 3) (mC (.int 1))) (mV 1))))))
 (bZ (wD (mC (.bl false))))
 bG)
 (bj (cG 4 (mN pC [(m2 vG (mV 1) (m2 bz (mV 3) (mC (.int 0)))),(m2 vG (mV 1) (m2 bz (mV 3) (mC (.int 1))))]))
 (bj (iM (cB (m2 Lz (mV 4) (mV 2)))
 (bZ (wD (mC (.bl false))))
 bG)
 (cG 2 (mV 4))))))
 (bZ (wD (mC (.bl true)))))))
def fL:Fn:=wM 2 5 Bf
def wu:S :=
 (bj (iM (mU (gJ (cB (m1 (IW ["tuple"]) (mV 0)))) (mU (cB (m2 Am (mN fX [(mV 0)]) (mC (.int 3)))) (mU (gJ (cB (m1 (IW ["tuple"]) (m2 bz (mV 0) (mC (.int 0)))))) (cB (m2 Am (m2 bz (mV 0) (mC (.int 0))) (m2 bz (mV 1) (mC (.int 0))))))))
 (bZ (wD (mC (.bl false))))
 bG)
 (bj (iM (mU (gJ (cB (aW fL [(wD (m2 bz (mV 0) (mC (.int 1)))),(wD (m2 bz (mV 1) (mC (.int 0))))]))) (gJ (cB (aW fL [(wD (m2 bz (mV 0) (mC (.int 2)))),(wD (m2 bz (mV 1) (mC (.int 0))))]))))
 (bZ (wD (mC (.bl false))))
 bG)
 (bj (jR (pN (m2 bz (mV 0) (mC (.int 1)))) (.n 2)
 (iM (cB (m2 dz (mV 2) (m2 bz (mV 1) (mC (.int 1)))))
 (bZ (wD (mC (.bl false))))
 bG))
 (bj (jR (pN (aW jt [(wD (mV 1))])) (.t [3,4])
 (bj (cG 5 (Pn (m2 nZ (mN dTup [(mV 3),(mV 4)]) (m2 bz (mV 0) (mC (.int 1)))) (m2 nZ (mN dTup [(mV 4),(mV 3)]) (m2 bz (mV 0) (mC (.int 1))))))
 (iM (cB (m2 qW (mV 5) (m2 nZ (mN dTup [(mV 3),(mV 4)]) (m2 bz (mV 0) (mC (.int 2))))))
 (bZ (wD (mC (.bl false))))
 bG)))
 (bZ (wD (m2 qW (m2 cV (mN fX [(m2 bz (mV 0) (mC (.int 1)))]) (mN fX [(m2 bz (mV 0) (mC (.int 2)))])) (mN fX [(m2 bz (mV 1) (mC (.int 1)))]))))))))
def iJ:Fn:=wM 2 6 wu
def uI:S :=
 (bZ (wD (aW cJ [(wD (m2 bz (mV 0) (mC (.int 0)))),(wD (aW gC [(wD (mV 0))])),(wD (aW dw [(wD (mV 0))]))])))
def dM:Fn:=DG 1 1 uI
def Gn:S :=
 (bj (iM (mU (cB (m2 qW (mV 1) (mV 3))) (cB (aW bT [(wD (mV 0)),(wD (mV 1)),(wD (mV 3))])))
 (bZ (wD (mC (.bl false))))
 bG)
 (bZ (wD (rA (m2 nZ (mN dTup [(mV 1),(mV 2)]) (m2 bz (mV 0) (mC (.int 1)))) (m2 nZ (mN dTup [(mV 3),(mV 2)]) (m2 bz (mV 0) (mC (.int 1))))))))
def f9:Fn:=wM 4 4 Gn
def Kc:S :=
 (bj (iM (cB (m2 qW (mV 4) (mC (.str "corner"))))
 (bZ (wD (aW f9 [(wD (mV 0)),(wD (mV 2)),(wD (mV 3)),(wD (mV 5))])))
 bG)
 (bj (iM (cB (m2 qW (mV 4) (mC (.str "on"))))
 (bj (iM (mU (cB (m2 qW (mV 5) (mV 3))) (mU (cB (aW bT [(wD (mV 0)),(wD (mV 5)),(wD (mV 3))])) (cB (aW f9 [(wD (mV 0)),(wD (mV 5)),(wD (mV 2)),(wD (mV 3))]))))
 (bZ (wD (mC (.bl false))))
 bG)
 (bZ (wD (m2 nZ (mN dTup [(mV 5),(mV 2)]) (mV 1)))))
 bG)
 (bZ (wD (rA (m2 qW (mV 4) (mC (.str "over"))) (rA (m2 nZ (mN dTup [(mV 2),(mV 5)]) (mV 1)) (m2 nZ (mN dTup [(mV 5),(mV 3)]) (mV 1))))))))
def pA:Fn:=wM 6 6 Kc
def Gm:S :=
 (bj (iM (mU (cB (m2 qW (mV 4) (mV 5))) (mU (cB (aW bT [(wD (mV 0)),(wD (mV 4)),(wD (mV 5))])) (cB (aW f9 [(wD (mV 0)),(wD (mV 4)),(wD (mV 2)),(wD (mV 5))]))))
 (bZ (wD (mC (.bl false))))
 bG)
 (bj (iM (mU (gJ (cB (aW bT [(wD (mV 0)),(wD (mV 4)),(wD (mV 2))]))) (gJ (cB (aW bT [(wD (mV 0)),(wD (mV 5)),(wD (mV 2))]))))
 (bZ (wD (mC (.bl false))))
 bG)
 (bZ (wD (rA (m2 nZ (mN dTup [(mV 4),(mV 3)]) (mV 1)) (m2 nZ (mN dTup [(mV 5),(mV 3)]) (mV 1)))))))
def nC:Fn:=wM 6 6 Gm
def zb:S :=
 (bj (iM (mU (gJ (cB (m1 (IW ["tuple"]) (mV 2)))) (mU (cB (m2 Am (mN fX [(mV 2)]) (mC (.int 4)))) (gJ (cB (m1 (IW ["tuple"]) (m2 bz (mV 2) (mC (.int 3))))))))
 (bZ (wD (mC (.bl false))))
 bG)
 (bj (jR (pN (m2 cV (mN pC [(m2 bz (mV 2) (mC (.int 0))),(m2 bz (mV 2) (mC (.int 1)))]) (mN QZ [(m2 bz (mV 2) (mC (.int 3)))]))) (.n 3)
 (iM (cB (m2 dz (mV 3) (m2 bz (mV 0) (mC (.int 0)))))
 (bZ (wD (mC (.bl false))))
 bG))
 (bj (iM (mU (cB (m2 nZ (mN dTup [(m2 bz (mV 2) (mC (.int 0))),(m2 bz (mV 2) (mC (.int 1)))]) (mV 1))) (gJ (cB (aW bT [(wD (mV 0)),(wD (m2 bz (mV 2) (mC (.int 0)))),(wD (m2 bz (mV 2) (mC (.int 1))))]))))
 (bZ (wD (mC (.bl false))))
 bG)
 (bj (iM (cB (m2 qW (m2 bz (mV 2) (mC (.int 2))) (mC (.str "both"))))
 (bZ (wD (rA (m2 qW (mN fX [(m2 bz (mV 2) (mC (.int 3)))]) (mC (.int 2))) (aW nC [(wD (mV 0)),(wD (mV 1)),(wD (m2 bz (mV 2) (mC (.int 0)))),(wD (m2 bz (mV 2) (mC (.int 1)))),(wD (m2 bz (m2 bz (mV 2) (mC (.int 3))) (mC (.int 0)))),(wD (m2 bz (m2 bz (mV 2) (mC (.int 3))) (mC (.int 1))))]))))
 bG)
 (bZ (wD (rA (m2 qW (mN fX [(m2 bz (mV 2) (mC (.int 3)))]) (mC (.int 1))) (aW pA [(wD (mV 0)),(wD (mV 1)),(wD (m2 bz (mV 2) (mC (.int 0)))),(wD (m2 bz (mV 2) (mC (.int 1)))),(wD (m2 bz (mV 2) (mC (.int 2)))),(wD (m2 bz (m2 bz (mV 2) (mC (.int 3))) (mC (.int 0))))]))))))))
def iz:Fn:=wM 3 4 zb
def uM:S :=
 (bj (iM (gJ (cB (m1 (IW ["list"]) (mV 1))))
 vf
 bG)
 (bj (cG 2 (mN pC []))
 (bj (jR (pN (mV 1)) (.n 3)
 (bj (iM (gJ (cB (vq iz [(wD (mV 0)),(wD (mV 2)),(wD (mV 3))])))
 vf
 bG)
 (dH 2 (mN dTup [(m2 bz (mV 3) (mC (.int 0))),(m2 bz (mV 3) (mC (.int 1)))]))))
 (bZ (wV 2)))))
def dO:Fn:=DG 2 4 uM
def Bd:S :=
 (bj (cG 1 (aW nA [(wD (mV 0)),(wD (mC (.int 8)))]))
 (bj (cG 2 (aW dM [(wD (mV 1))]))
 (bj (cG 3 (qm dO [(wD (mV 1)),(wD (mV 2))]))
 (bj (cG 4 (aW dN [(wD (mV 1))]))
 (bj (iM (mU (cB (m2 dIs (mV 3) (mC .non))) (mU (gJ (cB (aW iJ [(wD (mV 4)),(wD (mV 1))]))) (cB (m2 Am (mN fX [(m2 bz (mV 4) (mC (.int 1)))]) (mN fX [(mV 3)])))))
 (bZ (wD (mC (.bl false))))
 bG)
 (bj (jR (pN (mV 3)) (.n 5)
 (iM (cB (m2 dz (mV 5) (m2 bz (mV 4) (mC (.int 1)))))
 (bZ (wD (mC (.bl false))))
 bG))
 (bj (Hg 2)
 (bj (cG 6 (aW dO [(wD (mV 1)),(wD (aW dM [(wD (mV 1))]))]))
 (bZ (wD (rA (m2 Qv (mV 6) (mC .non)) (rA (m2 qW (mN fX [(mV 6)]) (mN fX [(mV 3)])) (m2 qW (aW dN [(wD (mV 1))]) (mV 4))))))))))))))
def vp:Fn:=wM 1 7 Bd
end Mr
namespace Jj
open PySem L2 PyProof.Rows A
open Mr
def S5(x:Str):Str:=x ++ ".<locals>." ++ "<lambda>"
def top(i:Nat):Stmt:=PySem.Challenge.pw_arrowfind_k40_reasons_walked.main.body.getD i (.Pass ⟨0,0,0,0⟩)
structure Txt(mg:Str→Option Value):Prop where
 dq:mg "len" = none
 j6:mg "range" = none
 Gi:mg "max" = none
 QX:mg "min" = none
 eF:mg "tuple" = none
 yZ:mg "list" = none
 fB:mg "isinstance" = none
 aaZ:mg "all" = none
 aaY:mg "any" = none
 aaD:mg "bool" = none
 aaV:mg "str" = none
 aaX:mg "int" = none
 aaU:mg "zip" = none
 wy:mg "enumerate" = none
 QW:mg "sorted" = none
 IK:mg "reversed" = none
 aaW:mg "set" = none
section
variable{P:Program}{w:World}{K:PySem.W.Frag}{mg:Str→Option Value}{base:Heap}[Tb:eZ]
abbrev ik:Stmt:=top 6
theorem jP:bL ["names", "asked", "name"] ["names", "asked"] (aX ik):=⟨rfl,rfl,rfl,by decide +kernel,rfl,by decide +kernel,by decide +kernel⟩
theorem rn{f:Addr}{fd:FuncData}(F:qF K "refuse_strangers" "refuse_strangers" ik f fd)(T:Txt mg)  : dG P w K mg base dm 1 f fd ["names", "asked"] (mq cU) :=
 F.ok jP (fun vs H Q E h=>rB h) (fun cdv A outer s H vs Q E hr h=>by
  have nd:=jP.nd
  have hu:=eE hr
  have bO:=hr.units
  exact⟨_,(aK (fY PassesOwn.never rfl (dX (pv 1)) (aZ (i:=2) nd rfl (Or.inl rfl))
 (aK (cZ (bH (gA bO) (pv 2) (pv 0) rfl)
 (aK yj)
 bC)))),
  _root_.A.q9 (N:=["names", "asked", "name"]) (M:=Mo []) (gj (K:=K) (tg:=(.n 2)) (lG (ak 1 rfl)) (by decide)
 (dh (bI (AE.p (aD j7 (AE.p (ak 2 rfl)) (AE.p (ak 0 rfl)))))
 zg
 bD)) (by decide) h⟩)
abbrev sV:Stmt:=top 4
theorem vY:bL ["net", "one", "other"] ["net", "one", "other"] (aX sV):=⟨rfl,rfl,rfl,by decide +kernel,rfl,by decide +kernel,by decide +kernel⟩
theorem EY{f:Addr}{fd:FuncData}(F:qF K "are_tied" "are_tied" sV f fd)(T:Txt mg)(iG:mW P w K mg base dm 1 "refuse_strangers" ["names", "asked"] (mq cU)):dG P w K mg base dm 2 f fd ["net", "one", "other"] (mq dY) :=
 F.ok vY (fun vs H Q E h=>rB h) (fun cdv A outer s H vs Q E hr h=>by
  have nd:=vY.nd
  have hu:=eE hr
  have bO:=hr.units
  have rC:=hr.mono (show 1≤_ by decide)
  exact⟨_,(aF (iU (bf iG rC rfl bN (aj (bu aV (pv 0) aG (fun _ _=>rfl)) (aj (jM (aj (pv 1) (aj (pv 2) aA))) aA))))
 (aK (bw (Oh (cP (fZ bO) (bx (aj (pv 1) (aj (pv 2) aA))) (bu aV (pv 0) aG (fun _ _=>rfl)) rfl) (mG (cP (fZ bO) (bx (aj (pv 2) (aj (pv 1) aA))) (bu aV (pv 0) aG (fun _ _=>rfl)) rfl)))))),
  _root_.A.q9 (N:=["net", "one", "other"]) (M:=Mo []) (aO (Uh (AE.p (cj (aB (AE.w (aD bV (AE.p (ak 0 rfl)) (AE.p aM))) (aB (AW.nv (AE.w (pQ (az (ak 1 rfl) (az (ak 2 rfl) aN))))) bh)))))
 (bU (AE.w (Xg (AE.p (aD qy (AE.p (bQ (az (ak 1 rfl) (az (ak 2 rfl) aN)))) (AE.p (aD bV (AE.p (ak 0 rfl)) (AE.p aM))))) (aD qy (AE.p (bQ (az (ak 2 rfl) (az (ak 1 rfl) aN)))) (AE.p (aD bV (AE.p (ak 0 rfl)) (AE.p aM)))))))) (by decide) h⟩)
abbrev sO:Stmt:=top 10
theorem vV:bL ["names", "pairs", "place", "one"] ["names"] (aX sO):=⟨rfl,rfl,rfl,by decide +kernel,rfl,by decide +kernel,by decide +kernel⟩
theorem Ew{f:Addr}{fd:FuncData}(F:qF K "pairs_of" "pairs_of" sO f fd)(T:Txt mg)  : dG P w K mg base dm 1 f fd ["names"] (pZ cL) :=
 F.ok vV (fun vs H Q E h=>wJ h) (fun cdv A outer s H vs Q E hr h=>by
  have nd:=vV.nd
  have hu:=eE hr
  have bO:=hr.units
  exact⟨_,(aF (bM (i:=1) nd rfl (Or.inl rfl) (jM aA))
 (aF (fY PassesOwn.never rfl (Zp.En rfl T.wy (pv 0)) (mF rfl (cg (aZ (i:=2) nd rfl (Or.inl rfl)) (cg (aZ (i:=3) nd rfl (Or.inr rfl)) jB)))
 (aK (iU (pM PySem.F.plainAttrs_list PySem.F.slot_list_extend PySem.F.type_list_extend yx (pv 1) (aj (ig (N':=["one", "other"]) (ρ:=[some 3,none]) rfl (d8.of rfl (by kernel_rfl)) (dX (lq X8 (pv 0) (oY (bA cQ (pv 2) aG)) oZ)) (fun _ _ _ _ _=>(aZ (i:=1) (by show (["one", "other"]:List Str).Nodup;decide +kernel) rfl (Or.inl rfl))) (gG rfl) (fun _ _ _ _ _=>jA) (fun _ _ _ _ _=>(bx (aj (pv 0) (aj (pv 1) aA))))) aA)))))
 (aK (bw (pv 1))))),
  _root_.A.runN (N:=["names", "pairs", "place", "one"]) (M:=Mo [1]) (aO (qz 1 rfl (pQ aN))
 (aO (gj (K:=K) (tg:=(.t [2,3])) (Zp.Gz (ak 0 rfl)) (by decide)
 (Bj 1 rfl (AE.nv (gU (K:=K) (tg:=(.n 1)) (jE (AE.p (Je Vl (AE.p (ak 0 rfl)) (pG (AE.p (aD gQ (AE.p (ak 2 rfl)) (AE.p aM)))) pH))) (by decide) mO (bQ (az (ak 0 rfl) (az (ak 1 rfl) aN)))))))
 (ou 1 rfl))) (by decide) h⟩)
abbrev u5:Stmt:=top 8
theorem xT:bL ["net"] ["net"] (aX u5):=⟨rfl,rfl,rfl,by decide +kernel,rfl,by decide +kernel,by decide +kernel⟩
theorem Hu{f:Addr}{fd:FuncData}(F:qF K "ties_of" "ties_of" u5 f fd)(T:Txt mg)(jy:mW P w K mg base dm 2 "are_tied" ["net", "one", "other"] (mq dY))(fH:mW P w K mg base dm 1 "pairs_of" ["names"] (pZ cL)):dG P w K mg base dm 3 f fd ["net"] (pZ gC) :=
 F.ok xT (fun vs H Q E h=>wJ h) (fun cdv A outer s H vs Q E hr h=>by
  have nd:=xT.nd
  have hu:=eE hr
  have bO:=hr.units
  have qt:=hr.mono (show 2≤_ by decide)
  have jK:=hr.mono (show 1≤_ by decide)
  exact⟨_,(aK (bw (ig (N':=["net", "one", "other"]) (ρ:=[some 0,none,none]) rfl (d8.of rfl (by kernel_rfl)) (dX (bf fH jK rfl bN (aj (bu aV (pv 0) aG (fun _ _=>rfl)) aA))) (fun _ _ _ _ _=>(mF rfl (cg (aZ (i:=1) (by show (["net", "one", "other"]:List Str).Nodup;decide +kernel) rfl (Or.inl rfl)) (cg (aZ (i:=2) (by show (["net", "one", "other"]:List Str).Nodup;decide +kernel) rfl (Or.inl rfl)) jB)))) (H9 (nP rfl (nP rfl Ie vB) (Di vB))) (fun _ _ _ _ _=>(qL (du (bf jy qt rfl bN (aj (pv 0) (aj (pv 1) (aj (pv 2) aA))))))) (fun _ _ _ _ _=>(bx (aj (pv 1) (aj (pv 2) aA))))))),
  _root_.A.runN (N:=["net"]) (M:=Mo []) (lW (AE.w (gU (K:=K) (tg:=(.t [1,2])) (jE (AE.np (dW (aB (AE.w (aD bV (AE.p (ak 0 rfl)) (AE.p aM))) bh)))) (by decide) (gZ (AE.p (cj (aB (AE.w (ak 0 rfl)) (aB (AE.w (ak 1 rfl)) (aB (AE.w (ak 2 rfl)) bh)))))) (bQ (az (ak 1 rfl) (az (ak 2 rfl) aN)))))) (by decide) h⟩)
abbrev my:Stmt:=top 5
theorem qd:bL ["names", "rows"] ["names", "rows"] (aX my):=⟨rfl,rfl,rfl,by decide +kernel,rfl,by decide +kernel,by decide +kernel⟩
theorem yq{f:Addr}{fd:FuncData}{cc TT:Addr}(F:Rj K "sorted_rows" "sorted_rows" my cc f fd)(T:Txt mg)(hB:BM mg base)(hC:PySem.W.CodeHd base cc TT)(hTb:(TT,S5 "sorted_rows")∈Tb.l)  : dG P w K mg base dm 4 f fd ["names", "rows"] (pZ bY) :=
 F.ok qd (fun vs H Q E h=>wJ h) (fun A outer s H vs Q E hr h=>by
  have nd:=qd.nd
  have hu:=eE hr
  have bO:=hr.units
  exact⟨_,(aK (bw (Og (x := "row") (ρ:=[0]) (N':=["row", "names"]) (k:=0) (qual:=S5 "sorted_rows") rfl T.QW (pv 1) (hr.mono (by decide)) rfl hC hB rfl rfl rfl (Bm.one rfl rfl rfl rfl rfl rfl rfl rfl) (fun pm c' ctv u=>rfl) (fun A f c' s H env hrl he=>by subst he;exact(ig (N':=["names", "name"]) (ρ:=[some 1,none]) rfl (d8.of rfl (by kernel_rfl)) (dX (pv 0)) (fun _ _ _ _ _=>(aZ (i:=1) (by show (["names", "name"]:List Str).Nodup;decide +kernel) rfl (Or.inl rfl))) (gG rfl) (fun _ _ _ _ _=>jA) (fun _ _ _ _ _=>(Hs PySem.F.plainAttrs_tuple PySem.F.slot_tuple_index PySem.F.type_tuple_index Pa PySem.F.plainAttrs_list PySem.F.slot_list_index PySem.F.type_list_index Pb (pv 0) (aj (pv 1) aA)))))))),
  _root_.A.runN (N:=["names", "rows"]) (M:=Mo []) (lW (AE.w (Um hTb (by decide) (AE.p (ak 1 rfl)) (gU (K:=K) (tg:=(.n 1)) (jE (AE.p (ak 0 rfl))) (by decide) mO (Rg (AE.p (ak 0 rfl)) (AE.p (ak 1 rfl))))))) (by decide) h⟩)
abbrev oR:Stmt:=top 9
theorem rM:bL ["net", "names", "arrows", "corners", "one", "other", "middles"] ["net"] (aX oR):=⟨rfl,rfl,rfl,by decide +kernel,rfl,by decide +kernel,by decide +kernel⟩
theorem zP{f:Addr}{fd:FuncData}(F:qF K "corners_of" "corners_of" oR f fd)(T:Txt mg)(jy:mW P w K mg base dm 2 "are_tied" ["net", "one", "other"] (mq dY))(fM:mW P w K mg base dm 4 "sorted_rows" ["names", "rows"] (pZ bY))(fH:mW P w K mg base dm 1 "pairs_of" ["names"] (pZ cL)):dG P w K mg base dm 5 f fd ["net"] (pZ dw) :=
 F.ok rM (fun vs H Q E h=>wJ h) (fun cdv A outer s H vs Q E hr h=>by
  have nd:=rM.nd
  have hu:=eE hr
  have bO:=hr.units
  have qt:=hr.mono (show 2≤_ by decide)
  have lz:=hr.mono (show 4≤_ by decide)
  have jK:=hr.mono (show 1≤_ by decide)
  exact⟨_,(aF (V1 (pv 0) (mF rfl (cg (aZ (i:=1) nd rfl (Or.inl rfl)) (cg (aZ (i:=2) nd rfl (Or.inr rfl)) jB))))
 (aF (bM (i:=3) nd rfl (Or.inl rfl) (jM aA))
 (aF (fY PassesOwn.never rfl (dX (bf fH jK rfl bN (aj (pv 1) aA))) (mF rfl (cg (aZ (i:=4) nd rfl (Or.inr rfl)) (cg (aZ (i:=5) nd rfl (Or.inr rfl)) jB)))
 (aK (cZ (iu (du (bf jy qt rfl bN (aj (pv 0) (aj (pv 4) (aj (pv 5) aA))))))
 (aF (wQ (i:=6) (N':=["arrows", "one", "other", "name"]) (ρ:=[some 2,some 4,some 5,none]) rfl nd rfl (Or.inl rfl) (d8.of rfl (by kernel_rfl)) (dX (pv 1)) (fun _ _ _ _ _=>(aZ (i:=3) (by show (["arrows", "one", "other", "name"]:List Str).Nodup;decide +kernel) rfl (Or.inl rfl))) (gG rfl) (fun _ _ _ _ _=>(qL (PW.pt (pw_and (bH (fZ bO) (bx (aj (pv 1) (aj (pv 3) aA))) (pv 0) rfl) (pw_and1 (bH (fZ bO) (bx (aj (pv 2) (aj (pv 3) aA))) (pv 0) rfl)))))) (fun _ _ _ _ _=>(pv 3)))
 (aK (iU (pM PySem.F.plainAttrs_list PySem.F.slot_list_extend PySem.F.type_list_extend yx (pv 3) (aj (ig (N':=["one", "other", "middle"]) (ρ:=[some 4,some 5,none]) rfl (d8.of rfl (by kernel_rfl)) (dX (pv 6)) (fun _ _ _ _ _=>(aZ (i:=2) (by show (["one", "other", "middle"]:List Str).Nodup;decide +kernel) rfl (Or.inl rfl))) (gG rfl) (fun _ _ _ _ _=>jA) (fun _ _ _ _ _=>(bx (aj (pv 0) (aj (pv 2) (aj (pv 1) aA)))))) aA)))))
 bC)))
 (aK (bw (bf fM lz rfl bN (aj (pv 1) (aj (pv 3) aA)))))))),
  _root_.A.runN (N:=["net", "names", "arrows", "corners", "one", "other", "middles"]) (M:=Mo [3]) (aO (Xb (K:=K) (.t [1,2]) (by decide) (ak 0 rfl))
 (aO (qz 3 rfl (pQ aN))
 (aO (gj (K:=K) (tg:=(.t [4,5])) (lG (AE.nv (dW (aB (AE.w (ak 1 rfl)) bh)))) (by decide)
 (dh (iC (gZ (AE.p (cj (aB (AE.w (ak 0 rfl)) (aB (AE.w (ak 4 rfl)) (aB (AE.w (ak 5 rfl)) bh)))))))
 (aO (b8 6 rfl (AE.nv (gU (K:=K) (tg:=(.n 3)) (jE (AE.p (ak 1 rfl))) (by decide) (vL (bI (AE.p (aD qy (AE.p (bQ (az (ak 1 rfl) (az (ak 3 rfl) aN)))) (AE.p (ak 0 rfl))))) (bI (AE.p (aD qy (AE.p (bQ (az (ak 2 rfl) (az (ak 3 rfl) aN)))) (AE.p (ak 0 rfl)))))) (ak 3 rfl))))
 (Bj 3 rfl (AE.nv (gU (K:=K) (tg:=(.n 2)) (jE (AE.p (ak 6 rfl))) (by decide) mO (bQ (az (ak 0 rfl) (az (ak 2 rfl) (az (ak 1 rfl) aN))))))))
 bD))
 (Mh 3 rfl (AE.w (dW (aB (AE.w (ak 1 rfl)) (aB (AE.w (ak 3 rfl)) bh)))))))) (by decide) h⟩)
abbrev qi:Stmt:=top 15
theorem ud:bL ["ties", "arrows"] ["ties", "arrows"] (aX qi):=⟨rfl,rfl,rfl,by decide +kernel,rfl,by decide +kernel,by decide +kernel⟩
theorem Cv{f:Addr}{fd:FuncData}(F:qF K "ties_left" "ties_left" qi f fd)(T:Txt mg)  : dG P w K mg base dm 1 f fd ["ties", "arrows"] (pZ iI) :=
 F.ok ud (fun vs H Q E h=>wJ h) (fun cdv A outer s H vs Q E hr h=>by
  have nd:=ud.nd
  have hu:=eE hr
  have bO:=hr.units
  exact⟨_,(aK (bw (ig (N':=["arrows", "one", "other"]) (ρ:=[some 1,none,none]) rfl (d8.of rfl (by kernel_rfl)) (dX (pv 0)) (fun _ _ _ _ _=>(mF rfl (cg (aZ (i:=1) (by show (["arrows", "one", "other"]:List Str).Nodup;decide +kernel) rfl (Or.inl rfl)) (cg (aZ (i:=2) (by show (["arrows", "one", "other"]:List Str).Nodup;decide +kernel) rfl (Or.inl rfl)) jB)))) (H9 (nP rfl (nP rfl Ie vB) (Di vB))) (fun _ _ _ _ _=>(qL (PW.pt (pw_and (bH (gA bO) (bx (aj (pv 1) (aj (pv 2) aA))) (pv 0) rfl) (pw_and1 (bH (gA bO) (bx (aj (pv 2) (aj (pv 1) aA))) (pv 0) rfl)))))) (fun _ _ _ _ _=>(bx (aj (pv 1) (aj (pv 2) aA))))))),
  _root_.A.runN (N:=["ties", "arrows"]) (M:=Mo []) (lW (AE.w (gU (K:=K) (tg:=(.t [1,2])) (jE (AE.p (ak 0 rfl))) (by decide) (vL (bI (AE.p (aD j7 (AE.p (bQ (az (ak 1 rfl) (az (ak 2 rfl) aN)))) (AE.p (ak 0 rfl))))) (bI (AE.p (aD j7 (AE.p (bQ (az (ak 2 rfl) (az (ak 1 rfl) aN)))) (AE.p (ak 0 rfl)))))) (bQ (az (ak 1 rfl) (az (ak 2 rfl) aN)))))) (by decide) h⟩)
abbrev mz:Stmt:=top 18
theorem qe:bL ["one", "middle", "other", "tied", "bent"] ["one", "middle", "other", "tied", "bent"] (aX mz):=⟨rfl,rfl,rfl,by decide +kernel,rfl,by decide +kernel,by decide +kernel⟩
theorem yr{f:Addr}{fd:FuncData}(F:qF K "is_straight" "is_straight" mz f fd)(T:Txt mg)  : dG P w K mg base dm 1 f fd ["one", "middle", "other", "tied", "bent"] (mq cz) :=
 F.ok qe (fun vs H Q E h=>rB h) (fun cdv A outer s H vs Q E hr h=>by
  have nd:=qe.nd
  have hu:=eE hr
  have bO:=hr.units
  exact⟨_,(aK (bw (mH (cP (tu bO) (pv 0) (pv 2) (cI _)) (mH (Oj (vg hu (bx (aj (pv 0) (aj (pv 2) aA))) (pv 3)) rfl) (mG (Oj (vg hu (bx (aj (pv 0) (aj (pv 1) (aj (pv 2) aA)))) (pv 4)) rfl)))))),
  _root_.A.q9 (N:=["one", "middle", "other", "tied", "bent"]) (M:=Mo []) (bU (AE.w (sr (AE.p (aD IV (AE.p (ak 0 rfl)) (AE.p (ak 2 rfl)))) (sr (AE.p (zq 3 (bQ (az (ak 0 rfl) (az (ak 2 rfl) aN))))) (zq 4 (bQ (az (ak 0 rfl) (az (ak 1 rfl) (az (ak 2 rfl) aN))))))))) (by decide) h⟩)
abbrev sJ:Stmt:=top 17
theorem vU:bL ["tail", "head", "names", "tied", "bent", "told", "rows", "third", "nears", "fourth"] ["tail", "head", "names", "tied", "bent", "told"] (aX sJ):=⟨rfl,rfl,rfl,by decide +kernel,rfl,by decide +kernel,by decide +kernel⟩
theorem Eu{f:Addr}{fd:FuncData}(F:qF K "rows_for" "rows_for" sJ f fd)(T:Txt mg)(fH:mW P w K mg base dm 1 "pairs_of" ["names"] (pZ cL))(jF:mW P w K mg base dm 1 "is_straight" ["one", "middle", "other", "tied", "bent"] (mq cz)):dG P w K mg base dm 2 f fd ["tail", "head", "names", "tied", "bent", "told"] (pZ iy) :=
 F.ok vU (fun vs H Q E h=>wJ h) (fun cdv A outer s H vs Q E hr h=>by
  have nd:=vU.nd
  have hu:=eE hr
  have bO:=hr.units
  have jK:=hr.mono (show 1≤_ by decide)
  have qp:=hr.mono (show 1≤_ by decide)
  exact⟨_,(aF (bM (i:=6) nd rfl (Or.inl rfl) (jM aA))
 (aF (fY PassesOwn.never rfl (dX (pv 2)) (aZ (i:=7) nd rfl (Or.inl rfl))
 (aF (cZ (sX (vh hu (bx (aj (pv 0) (aj (pv 1) (aj (pv 7) aA)))) (pv 4)) rfl)
 (aK (iU (pM PySem.F.plainAttrs_list PySem.F.slot_list_append PySem.F.type_list_append jq (pv 6) (aj (bx (aj (pv 0) (aj (pv 1) (aj lg (aj (bx (aj (pv 7) aA)) aA))))) aA))))
 bC)
 (aF (cZ (PW.pt (pw_and (sX (vh hu (bx (aj (pv 7) (aj (pv 0) aA))) (pv 5)) rfl) (pw_and1 (du (bf jF qp rfl bN (aj (pv 7) (aj (pv 0) (aj (pv 1) (aj (pv 3) (aj (pv 4) aA))))))))))
 (aK (iU (pM PySem.F.plainAttrs_list PySem.F.slot_list_append PySem.F.type_list_append jq (pv 6) (aj (bx (aj (pv 0) (aj (pv 1) (aj lg (aj (bx (aj (pv 7) aA)) aA))))) aA))))
 bC)
 (aK (cZ (PW.pt (pw_and (sX (vh hu (bx (aj (pv 0) (aj (pv 7) aA))) (pv 5)) rfl) (pw_and1 (sX (vh hu (bx (aj (pv 7) (aj (pv 1) aA))) (pv 5)) rfl))))
 (aK (iU (pM PySem.F.plainAttrs_list PySem.F.slot_list_append PySem.F.type_list_append jq (pv 6) (aj (bx (aj (pv 0) (aj (pv 1) (aj lg (aj (bx (aj (pv 7) aA)) aA))))) aA))))
 bC)))))
 (aF (wQ (i:=8) (N':=["told", "tied", "head", "tail", "name"]) (ρ:=[some 5,some 3,some 1,some 0,none]) rfl nd rfl (Or.inl rfl) (d8.of rfl (by kernel_rfl)) (dX (pv 2)) (fun _ _ _ _ _=>(aZ (i:=4) (by show (["told", "tied", "head", "tail", "name"]:List Str).Nodup;decide +kernel) rfl (Or.inl rfl))) (gG rfl) (fun _ _ _ _ _=>(qL (PW.pt (pw_and (sX (vh hu (bx (aj (pv 4) (aj (pv 2) aA))) (pv 0)) rfl) (pw_and1 (sX (vh hu (bx (aj (pv 4) (aj (pv 3) aA))) (pv 1)) rfl)))))) (fun _ _ _ _ _=>(pv 4)))
 (aF (fY PassesOwn.never rfl (dX (bf fH jK rfl bN (aj (pv 8) aA))) (mF rfl (cg (aZ (i:=7) nd rfl (Or.inl rfl)) (cg (aZ (i:=9) nd rfl (Or.inl rfl)) jB)))
 (aK (cZ (du (bf jF qp rfl bN (aj (pv 7) (aj (pv 0) (aj (pv 9) (aj (pv 3) (aj (pv 4) aA)))))))
 (aK (iU (pM PySem.F.plainAttrs_list PySem.F.slot_list_append PySem.F.type_list_append jq (pv 6) (aj (bx (aj (pv 0) (aj (pv 1) (aj lg (aj (bx (aj (pv 7) (aj (pv 9) aA))) aA))))) aA))))
 bC)))
 (aK (bw (pv 6))))))),
  _root_.A.runN (N:=["tail", "head", "names", "tied", "bent", "told", "rows", "third", "nears", "fourth"]) (M:=Mo [6]) (aO (qz 6 rfl (pQ aN))
 (aO (gj (K:=K) (tg:=(.n 7)) (lG (ak 2 rfl)) (by decide)
 (aO (dh (gZ (AE.p (Bl 4 (bQ (az (ak 0 rfl) (az (ak 1 rfl) (az (ak 7 rfl) aN)))))))
 (kJ 6 rfl (bQ (az (ak 0 rfl) (az (ak 1 rfl) (az qC (az (bQ (az (ak 7 rfl) aN)) aN))))))
 bD)
 (aO (dh (vL (gZ (AE.p (Bl 5 (bQ (az (ak 7 rfl) (az (ak 0 rfl) aN)))))) (gZ (AE.p (cj (aB (AE.w (ak 7 rfl)) (aB (AE.w (ak 0 rfl)) (aB (AE.w (ak 1 rfl)) (aB (vK 3 rfl) (aB (vK 4 rfl) bh)))))))))
 (kJ 6 rfl (bQ (az (ak 0 rfl) (az (ak 1 rfl) (az qC (az (bQ (az (ak 7 rfl) aN)) aN))))))
 bD)
 (dh (vL (gZ (AE.p (Bl 5 (bQ (az (ak 0 rfl) (az (ak 7 rfl) aN)))))) (gZ (AE.p (Bl 5 (bQ (az (ak 7 rfl) (az (ak 1 rfl) aN)))))))
 (kJ 6 rfl (bQ (az (ak 0 rfl) (az (ak 1 rfl) (az qC (az (bQ (az (ak 7 rfl) aN)) aN))))))
 bD))))
 (aO (b8 8 rfl (AE.nv (gU (K:=K) (tg:=(.n 4)) (jE (AE.p (ak 2 rfl))) (by decide) (vL (gZ (AE.p (Bl 0 (bQ (az (ak 4 rfl) (az (ak 2 rfl) aN)))))) (gZ (AE.p (Bl 1 (bQ (az (ak 4 rfl) (az (ak 3 rfl) aN))))))) (ak 4 rfl))))
 (aO (gj (K:=K) (tg:=(.t [7,9])) (lG (AE.nv (dW (aB (AE.w (ak 8 rfl)) bh)))) (by decide)
 (dh (gZ (AE.p (cj (aB (AE.w (ak 7 rfl)) (aB (AE.w (ak 0 rfl)) (aB (AE.w (ak 9 rfl)) (aB (vK 3 rfl) (aB (vK 4 rfl) bh))))))))
 (kJ 6 rfl (bQ (az (ak 0 rfl) (az (ak 1 rfl) (az qC (az (bQ (az (ak 7 rfl) (az (ak 9 rfl) aN))) aN))))))
 bD))
 (ou 6 rfl))))) (by decide) h⟩)
abbrev ql:Stmt:=top 19
theorem uf:bL ["rows", "kept", "row"] ["rows"] (aX ql):=⟨rfl,rfl,rfl,by decide +kernel,rfl,by decide +kernel,by decide +kernel⟩
theorem Cy{f:Addr}{fd:FuncData}(F:qF K "both_ways" "both_ways" ql f fd)(T:Txt mg)  : dG P w K mg base dm 1 f fd ["rows"] (pZ fj) :=
 F.ok uf (fun vs H Q E h=>wJ h) (fun cdv A outer s H vs Q E hr h=>by
  have nd:=uf.nd
  have hu:=eE hr
  have bO:=hr.units
  exact⟨_,(aF (bM (i:=1) nd rfl (Or.inl rfl) Eo)
 (aF (fY PassesOwn.never rfl (dX (pv 0)) (aZ (i:=2) nd rfl (Or.inl rfl))
 (aF (Ck hu (pv 1) (pv 2) iV rfl)
 (aK (Ck hu (pv 1) (iH (LR rfl) rfl T.eF boot_tuple (aj (iH QK rfl T.IK boot_reversed (aj (pv 2) aA)) aA)) iV rfl))))
 (aK (bw (pv 1))))),
  _root_.A.runN (N:=["rows", "kept", "row"]) (M:=Mo [1]) (aO (Kf 1 rfl Gq)
 (aO (gj (K:=K) (tg:=(.n 2)) (lG (ak 0 rfl)) (by decide)
 (aO (Dq 1 rfl (ak 2 rfl) pI)
 (Dq 1 rfl (Xf (AE.p (ak 2 rfl))) pI)))
 (ou 1 rfl))) (by decide) h⟩)
abbrev oM:Stmt:=top 16
theorem rH:bL ["names", "ties", "corners", "tied", "bent", "told", "before", "tail", "head", "rows"] ["names", "ties", "corners"] (aX oM):=⟨rfl,rfl,rfl,by decide +kernel,rfl,by decide +kernel,by decide +kernel⟩
theorem zM{f:Addr}{fd:FuncData}(F:qF K "reasons_by" "reasons_by" oM f fd)(T:Txt mg)(tZ:mW P w K mg base dm 2 "rows_for" ["tail", "head", "names", "tied", "bent", "told"] (pZ iy))(lX:mW P w K mg base dm 1 "both_ways" ["rows"] (pZ fj)):dG P w K mg base dm 3 f fd ["names", "ties", "corners"] (pZ cJ) :=
 F.ok rH (fun vs H Q E h=>wJ h) (fun cdv A outer s H vs Q E hr h=>by
  have nd:=rH.nd
  have hu:=eE hr
  have bO:=hr.units
  have Fz:=hr.mono (show 2≤_ by decide)
  have uy:=hr.mono (show 1≤_ by decide)
  exact⟨_,(aF (bM (i:=3) nd rfl (Or.inl rfl) (Oi (bf lX uy rfl bN (aj (pv 1) aA))))
 (aF (bM (i:=4) nd rfl (Or.inl rfl) (Oi (bf lX uy rfl bN (aj (pv 2) aA))))
 (aF (bM (i:=5) nd rfl (Or.inl rfl) Eo)
 (aF (bM (i:=6) nd rfl (Or.inl rfl) Hr)
 (aF (N8 PassesOwn.never (bH (tu bO) (bJ Ax rfl T.dq PySem.boot_len (aj (pv 5) aA)) (pv 6) (cI _))
 (aF (bM (i:=6) nd rfl (Or.inl rfl) (bJ Ax rfl T.dq PySem.boot_len (aj (pv 5) aA)))
 (aK (fY PassesOwn.never rfl (R4 (pv 3)) (mF rfl (cg (aZ (i:=7) nd rfl (Or.inl rfl)) (cg (aZ (i:=8) nd rfl (Or.inl rfl)) jB)))
 (aK (cZ (sX (vg hu (bx (aj (pv 7) (aj (pv 8) aA))) (pv 5)) rfl)
 (aF (bM (i:=9) nd rfl (Or.inl rfl) (bf tZ Fz rfl bN (aj (pv 7) (aj (pv 8) (aj (pv 0) (aj (pv 3) (aj (pv 4) (aj (pv 5) aA))))))))
 (aK (cZ (N7 (pv 9) (by intro _;rfl))
 (aK (Ck hu (pv 5) (bx (aj (pv 7) (aj (pv 8) aA))) (bu aV (pv 9) aG (fun _ _=>rfl)) rfl))
 bC)))
 bC))))))
 (aK (bw (iH (Ir rfl) rfl T.yZ boot_list (aj (Ol PySem.F.plainAttrs_dict PySem.F.slot_dict_values PySem.F.type_dict_values Su (pv 5)) aA))))))))),
  _root_.A.runN (N:=["names", "ties", "corners", "tied", "bent", "told", "before", "tail", "head", "rows"]) (M:=Mo [5]) (aO (Ke 3 rfl (Q0 (zf (aB (AE.w (ak 1 rfl)) bh))))
 (aO (Ke 4 rfl (Q0 (zf (aB (AE.w (ak 2 rfl)) bh))))
 (aO (Kf 5 rfl Gq)
 (aO (b8 6 rfl Rc)
 (aO (Q7 200 (bI (AE.p (aD IV (AE.p (Rh 5)) (AE.p (ak 6 rfl)))))
 (aO (b8 6 rfl (Rh 5))
 (gj (K:=K) (tg:=(.t [7,8])) (Ul 3 rfl) (by decide)
 (dh (gZ (AE.p (zq 5 (bQ (az (ak 7 rfl) (az (ak 8 rfl) aN))))))
 (aO (b8 9 rfl (Kl (aB (AW.p (AE.w (ak 7 rfl))) (aB (AW.p (AE.w (ak 8 rfl))) (aB (AW.p (AE.w (ak 0 rfl))) (aB (AW.p (vK 3 rfl)) (aB (AW.p (vK 4 rfl)) (aB (Ud 5) bh))))))))
 (dh (Q3 (AE.p (ak 9 rfl)))
 (Dq 5 rfl (bQ (az (ak 7 rfl) (az (ak 8 rfl) aN))) (aD bV (AE.p (ak 9 rfl)) (AE.p aM)))
 bD))
 bD))))
 (lW (AE.w (Uo 5)))))))) (by decide) h⟩)
abbrev oO:Stmt:=top 14
theorem rK:bL ["names", "ties", "corners", "told", "arrows"] ["names", "ties", "corners"] (aX oO):=⟨rfl,rfl,rfl,by decide +kernel,rfl,by decide +kernel,by decide +kernel⟩
theorem zO{f:Addr}{fd:FuncData}(F:qF K "picture_by" "picture_by" oO f fd)(T:Txt mg)(fM:mW P w K mg base dm 4 "sorted_rows" ["names", "rows"] (pZ bY))(qH:mW P w K mg base dm 1 "ties_left" ["ties", "arrows"] (pZ iI))(gO:mW P w K mg base dm 3 "reasons_by" ["names", "ties", "corners"] (pZ cJ)):dG P w K mg base dm 5 f fd ["names", "ties", "corners"] (mq fu) :=
 F.ok rK (fun vs H Q E h=>rB h) (fun cdv A outer s H vs Q E hr h=>by
  have nd:=rK.nd
  have hu:=eE hr
  have bO:=hr.units
  have lz:=hr.mono (show 4≤_ by decide)
  have Dg:=hr.mono (show 1≤_ by decide)
  have mK:=hr.mono (show 3≤_ by decide)
  exact⟨_,(aF (bM (i:=3) nd rfl (Or.inr rfl) (ig (N':=["row"]) (ρ:=[none]) rfl (d8.of rfl (by kernel_rfl)) (dX (bf gO mK rfl bN (aj (pv 0) (aj (pv 1) (aj (pv 2) aA))))) (fun _ _ _ _ _=>(aZ (i:=0) (by show (["row"]:List Str).Nodup;decide +kernel) rfl (Or.inl rfl))) (gG rfl) (fun _ _ _ _ _=>jA) (fun _ _ _ _ _=>(lq ZZ (pv 0) oZ (oY aG)))))
 (aF (wQ (i:=4) (N':=["told", "tail", "head"]) (ρ:=[some 3,none,none]) rfl nd rfl (Or.inl rfl) (d8.of rfl (by kernel_rfl)) (dX (pv 3)) (fun _ _ _ _ _=>(mF rfl (cg (aZ (i:=1) (by show (["told", "tail", "head"]:List Str).Nodup;decide +kernel) rfl (Or.inl rfl)) (cg (aZ (i:=2) (by show (["told", "tail", "head"]:List Str).Nodup;decide +kernel) rfl (Or.inl rfl)) jB)))) (H9 (nP rfl (nP rfl Ie vB) (Di vB))) (fun _ _ _ _ _=>(qL (bH (gA bO) (bx (aj (pv 2) (aj (pv 1) aA))) (pv 0) rfl))) (fun _ _ _ _ _=>(bx (aj (pv 1) (aj (pv 2) aA)))))
 (aK (bw (bx (aj (pv 0) (aj (iH lV rfl T.eF boot_tuple (aj (bf fM lz rfl bN (aj (pv 0) (aj (pv 4) aA))) aA)) (aj (iH lV rfl T.eF boot_tuple (aj (bf qH Dg rfl bN (aj (pv 1) (aj (pv 4) aA))) aA)) aA)))))))),
  _root_.A.q9 (N:=["names", "ties", "corners", "told", "arrows"]) (M:=Mo []) (aO (b8 3 rfl (AE.nv (gU (K:=K) (tg:=(.n 0)) (jE (AE.np (dW (aB (AE.w (ak 0 rfl)) (aB (AE.w (ak 1 rfl)) (aB (AE.w (ak 2 rfl)) bh)))))) (by decide) mO (Je Zi (AE.p (ak 0 rfl)) pH (pG (AE.p aM))))))
 (aO (b8 4 rfl (AE.nv (gU (K:=K) (tg:=(.t [1,2])) (jE (AE.p (ak 3 rfl))) (by decide) (bI (AE.p (aD j7 (AE.p (bQ (az (ak 2 rfl) (az (ak 1 rfl) aN)))) (AE.p (ak 0 rfl))))) (bQ (az (ak 1 rfl) (az (ak 2 rfl) aN))))))
 (bU (AE.w (bQ (az (ak 0 rfl) (az (lH eF (az (AE.np (dW (aB (AE.w (ak 0 rfl)) (aB (AE.w (ak 4 rfl)) bh)))) aN)) (az (lH eF (az (AE.np (dW (aB (AE.w (ak 1 rfl)) (aB (AE.w (ak 4 rfl)) bh)))) aN)) aN)))))))) (by decide) h⟩)
abbrev oN:Stmt:=top 12
theorem rJ:bL ["net"] ["net"] (aX oN):=⟨rfl,rfl,rfl,by decide +kernel,rfl,by decide +kernel,by decide +kernel⟩
theorem zN{f:Addr}{fd:FuncData}(F:qF K "picture_of" "picture_of" oN f fd)(T:Txt mg)(kO:mW P w K mg base dm 3 "ties_of" ["net"] (pZ gC))(gP:mW P w K mg base dm 5 "corners_of" ["net"] (pZ dw))(pK:mW P w K mg base dm 5 "picture_by" ["names", "ties", "corners"] (mq fu)):dG P w K mg base dm 6 f fd ["net"] (mq dN) :=
 F.ok rJ (fun vs H Q E h=>rB h) (fun cdv A outer s H vs Q E hr h=>by
  have nd:=rJ.nd
  have hu:=eE hr
  have bO:=hr.units
  have tH:=hr.mono (show 3≤_ by decide)
  have mL:=hr.mono (show 5≤_ by decide)
  have zR:=hr.mono (show 5≤_ by decide)
  exact⟨_,(aK (bw (bf pK zR rfl bN (aj (bu aV (pv 0) aG (fun _ _=>rfl)) (aj (bf kO tH rfl bN (aj (pv 0) aA)) (aj (bf gP mL rfl bN (aj (pv 0) aA)) aA)))))),
  _root_.A.q9 (N:=["net"]) (M:=Mo []) (bU (AE.w (cj (aB (AE.w (aD bV (AE.p (ak 0 rfl)) (AE.p aM))) (aB (AW.nv (AE.w (dW (aB (AE.w (ak 0 rfl)) bh)))) (aB (AW.nv (AE.w (dW (aB (AE.w (ak 0 rfl)) bh)))) bh)))))) (by decide) h⟩)
abbrev oK:Stmt:=top 13
theorem rG:bL ["net"] ["net"] (aX oK):=⟨rfl,rfl,rfl,by decide +kernel,rfl,by decide +kernel,by decide +kernel⟩
theorem zL{f:Addr}{fd:FuncData}(F:qF K "reasons_of" "reasons_of" oK f fd)(T:Txt mg)(kO:mW P w K mg base dm 3 "ties_of" ["net"] (pZ gC))(gP:mW P w K mg base dm 5 "corners_of" ["net"] (pZ dw))(gO:mW P w K mg base dm 3 "reasons_by" ["names", "ties", "corners"] (pZ cJ)):dG P w K mg base dm 6 f fd ["net"] (pZ dM) :=
 F.ok rG (fun vs H Q E h=>wJ h) (fun cdv A outer s H vs Q E hr h=>by
  have nd:=rG.nd
  have hu:=eE hr
  have bO:=hr.units
  have tH:=hr.mono (show 3≤_ by decide)
  have mL:=hr.mono (show 5≤_ by decide)
  have mK:=hr.mono (show 3≤_ by decide)
  exact⟨_,(aK (bw (bf gO mK rfl bN (aj (bu aV (pv 0) aG (fun _ _=>rfl)) (aj (bf kO tH rfl bN (aj (pv 0) aA)) (aj (bf gP mL rfl bN (aj (pv 0) aA)) aA)))))),
  _root_.A.runN (N:=["net"]) (M:=Mo []) (lW (AE.w (dW (aB (AE.w (aD bV (AE.p (ak 0 rfl)) (AE.p aM))) (aB (AW.nv (AE.w (dW (aB (AE.w (ak 0 rfl)) bh)))) (aB (AW.nv (AE.w (dW (aB (AE.w (ak 0 rfl)) bh)))) bh)))))) (by decide) h⟩)
abbrev xZ:Stmt:=top 21
theorem Ac:bL ["_law_script", "_law_k", "_law_spare"] ["_law_script", "_law_k"] (aX xZ):=⟨rfl,rfl,rfl,by decide +kernel,rfl,by decide +kernel,by decide +kernel⟩
theorem K7{f:Addr}{fd:FuncData}(F:qF K "_law_cell" "_law_cell" xZ f fd)(T:Txt mg)  : dG P w K mg base dm 1 f fd ["_law_script", "_law_k"] (mq eU) :=
 F.ok Ac (fun vs H Q E h=>rB h) (fun cdv A outer s H vs Q E hr h=>by
  have nd:=Ac.nd
  have hu:=eE hr
  have bO:=hr.units
  exact⟨_,(aF (cZ (bH Cu (pv 1) (bJ cW rfl T.dq PySem.boot_len (aj (pv 0) aA)) (cI _))
 (aK (bw (bu aV (pv 0) (pv 1) (fun _ _=>rfl))))
 bC)
 (aF (bM (i:=2) nd rfl (Or.inl rfl) (bA cQ aG (bA jo (bA jo aG (pv 1)) (pv 1))))
 (aF (cZ (bH Wd (bJ cW rfl T.dq PySem.boot_len (aj (pv 0) aA)) aG (cI _))
 (aK (bM (i:=2) nd rfl (Or.inl rfl) (bA cQ (pv 2) (bA jo (bA iw (bu aV (pv 0) aG (fun _ _=>rfl)) aG) (bA cQ (bA cQ (bA jo (pv 1) (pv 1)) (bA jo aG (pv 1))) aG)))))
 bC)
 (aK (bw (pv 2)))))),
  _root_.A.q9 (N:=["_law_script", "_law_k", "_law_spare"]) (M:=Mo []) (aO (dh (bI (AE.p (aD Ub (AE.p (ak 1 rfl)) (AE.p (lH dq (az (AE.p (ak 0 rfl)) aN))))))
 (bU (AE.w (aD bV (AE.p (ak 0 rfl)) (AE.p (ak 1 rfl)))))
 bD)
 (aO (b8 2 rfl (aD gQ (AE.p aM) (AE.p (aD oh (AE.p (aD oh (AE.p aM) (AE.p (ak 1 rfl)))) (AE.p (ak 1 rfl))))))
 (aO (dh (bI (AE.p (aD aaC (AE.p (lH dq (az (AE.p (ak 0 rfl)) aN))) (AE.p aM))))
 (b8 2 rfl (aD gQ (AE.p (ak 2 rfl)) (AE.p (aD oh (AE.p (aD lF (AE.p (aD bV (AE.p (ak 0 rfl)) (AE.p aM))) (AE.p aM))) (AE.p (aD gQ (AE.p (aD gQ (AE.p (aD oh (AE.p (ak 1 rfl)) (AE.p (ak 1 rfl)))) (AE.p (aD oh (AE.p aM) (AE.p (ak 1 rfl)))))) (AE.p aM)))))))
 bD)
 (bU (AE.w (ak 2 rfl)))))) (by decide) h⟩)
abbrev u6:Stmt:=top 22
theorem xU:bL ["_law_cell_here", "_law_many", "_law_letters", "_law_long", "_law_size", "_law_stem", "_law_at"] ["_law_cell_here", "_law_many"] (aX u6):=⟨rfl,rfl,rfl,by decide +kernel,rfl,by decide +kernel,by decide +kernel⟩
theorem Hw{f:Addr}{fd:FuncData}(F:qF K "_law_words" "_law_words" u6 f fd)(T:Txt mg)  : dG P w K mg base dm 1 f fd ["_law_cell_here", "_law_many"] (pZ nu) :=
 F.ok xU (fun vs H Q E h=>wJ h) (fun cdv A outer s H vs Q E hr h=>by
  have nd:=xU.nd
  have hu:=eE hr
  have bO:=hr.units
  exact⟨_,(aF (bM (i:=2) nd rfl (Or.inr rfl) lg)
 (aF (cZ (bH Cu (bA iw (pv 0) aG) aG (cI _))
 (aF (bM (i:=3) nd rfl (Or.inr rfl) (pM PySem.F.plainAttrs_str PySem.F.slot_str_join PySem.F.type_str_join JL lg (aj (ig (N':=["_law_letters", "_law_cell_here", "_law_k"]) (ρ:=[some 2,some 0,none]) rfl (d8.of rfl (by kernel_rfl)) (gq rfl T.j6 (aj aG aA)) (fun _ _ _ _ _=>(aZ (i:=2) (by show (["_law_letters", "_law_cell_here", "_law_k"]:List Str).Nodup;decide +kernel) rfl (Or.inl rfl))) (gG rfl) (fun _ _ _ _ _=>jA) (fun _ _ _ _ _=>(bu aV (pv 0) (bA iw (bA jH (pv 1) (bA cQ aG (bA jo aG (pv 2)))) aG) (fun _ _=>rfl)))) aA)))
 (aF (cZ (bH (iW bO) (bA iw (pv 0) aG) aG (cI _))
 (aK (bw (ig (N':=["_law_long", "_law_k"]) (ρ:=[some 3,none]) rfl (d8.of rfl (by kernel_rfl)) (gq rfl T.j6 (aj (pv 1) aA)) (fun _ _ _ _ _=>(aZ (i:=1) (by show (["_law_long", "_law_k"]:List Str).Nodup;decide +kernel) rfl (Or.inl rfl))) (gG rfl) (fun _ _ _ _ _=>jA) (fun _ _ _ _ _=>(lq Ry (pv 0) oZ (oY (bA cQ (pv 1) aG)))))))
 bC)
 (aK (bw (ig (N':=["_law_long", "_law_k"]) (ρ:=[some 3,none]) rfl (d8.of rfl (by kernel_rfl)) (gq rfl T.j6 (aj (pv 1) aA)) (fun _ _ _ _ _=>(aZ (i:=1) (by show (["_law_long", "_law_k"]:List Str).Nodup;decide +kernel) rfl (Or.inl rfl))) (gG rfl) (fun _ _ _ _ _=>jA) (fun _ _ _ _ _=>(lq Ry (pv 0) (oY (bA Oo aG (pv 1))) oZ)))))))
 bC)
 (aF (bM (i:=4) nd rfl (Or.inl rfl) (bA iw (bA jH (pv 0) aG) aG))
 (aF (bM (i:=5) nd rfl (Or.inr rfl) (pM PySem.F.plainAttrs_str PySem.F.slot_str_join PySem.F.type_str_join JL lg (aj (ig (N':=["_law_letters", "_law_cell_here", "_law_k"]) (ρ:=[some 2,some 0,none]) rfl (d8.of rfl (by kernel_rfl)) (gq rfl T.j6 (aj (pv 4) aA)) (fun _ _ _ _ _=>(aZ (i:=2) (by show (["_law_letters", "_law_cell_here", "_law_k"]:List Str).Nodup;decide +kernel) rfl (Or.inl rfl))) (gG rfl) (fun _ _ _ _ _=>jA) (fun _ _ _ _ _=>(bu aV (pv 0) (bA iw (bA cQ (bA cQ (bA jH (pv 1) aG) (bA jo aG (pv 2))) (bA jo (pv 2) (pv 2))) aG) (fun _ _=>rfl)))) aA)))
 (aF (bM (i:=6) nd rfl (Or.inr rfl) (bA iw (bA jH (pv 0) aG) (bA cQ (pv 4) aG)))
 (aK (bw (ig (N':=["_law_stem", "_law_letters", "_law_at", "_law_cell_here", "_law_k"]) (ρ:=[some 5,some 2,some 6,some 0,none]) rfl (d8.of rfl (by kernel_rfl)) (gq rfl T.j6 (aj (pv 1) aA)) (fun _ _ _ _ _=>(aZ (i:=4) (by show (["_law_stem", "_law_letters", "_law_at", "_law_cell_here", "_law_k"]:List Str).Nodup;decide +kernel) rfl (Or.inl rfl))) (gG rfl) (fun _ _ _ _ _=>jA) (fun _ _ _ _ _=>(bA cQ (bA cQ (lq Ry (pv 0) oZ (oY (pv 2))) (bu aV (pv 1) (bA iw (bA cQ (bA jH (pv 3) aG) (bA jo aG (pv 4))) aG) (fun _ _=>rfl))) (lq Ry (pv 0) (oY (pv 2)) oZ))))))))))),
  _root_.A.runN (N:=["_law_cell_here", "_law_many", "_law_letters", "_law_long", "_law_size", "_law_stem", "_law_at"]) (M:=Mo []) (aO (b8 2 rfl qC)
 (aO (dh (bI (AE.p (aD Ub (AE.p (aD lF (AE.p (ak 0 rfl)) (AE.p aM))) (AE.p aM))))
 (aO (b8 3 rfl (Rf (AE.p qC) (AE.np (gU (K:=K) (tg:=(.n 2)) (Mp.c (gK (AE.p aM))) (by decide) mO (aD bV (AE.p (ak 0 rfl)) (AE.p (aD lF (AE.p (aD wz (AE.p (ak 1 rfl)) (AE.p (aD gQ (AE.p aM) (AE.p (aD oh (AE.p aM) (AE.p (ak 2 rfl)))))))) (AE.p aM))))))))
 (aO (dh (bI (AE.p (aD uN (AE.p (aD lF (AE.p (ak 0 rfl)) (AE.p aM))) (AE.p aM))))
 (lW (AE.w (gU (K:=K) (tg:=(.n 1)) (Mp.c (gK (AE.p (ak 1 rfl)))) (by decide) mO (Je Ka (AE.p (ak 0 rfl)) pH (pG (AE.p (aD gQ (AE.p (ak 1 rfl)) (AE.p aM))))))))
 bD)
 (lW (AE.w (gU (K:=K) (tg:=(.n 1)) (Mp.c (gK (AE.p (ak 1 rfl)))) (by decide) mO (Je Ka (AE.p (ak 0 rfl)) (pG (AE.p (aD Vk (AE.p aM) (AE.p (ak 1 rfl))))) pH))))))
 bD)
 (aO (b8 4 rfl (aD lF (AE.p (aD wz (AE.p (ak 0 rfl)) (AE.p aM))) (AE.p aM)))
 (aO (b8 5 rfl (Rf (AE.p qC) (AE.np (gU (K:=K) (tg:=(.n 2)) (Mp.c (gK (AE.p (ak 4 rfl)))) (by decide) mO (aD bV (AE.p (ak 0 rfl)) (AE.p (aD lF (AE.p (aD gQ (AE.p (aD gQ (AE.p (aD wz (AE.p (ak 1 rfl)) (AE.p aM))) (AE.p (aD oh (AE.p aM) (AE.p (ak 2 rfl)))))) (AE.p (aD oh (AE.p (ak 2 rfl)) (AE.p (ak 2 rfl)))))) (AE.p aM))))))))
 (aO (b8 6 rfl (aD lF (AE.p (aD wz (AE.p (ak 0 rfl)) (AE.p aM))) (AE.p (aD gQ (AE.p (ak 4 rfl)) (AE.p aM)))))
 (lW (AE.w (gU (K:=K) (tg:=(.n 4)) (Mp.c (gK (AE.p (ak 1 rfl)))) (by decide) mO (aD gQ (AE.p (aD gQ (AE.p (Je Ka (AE.p (ak 0 rfl)) pH (pG (AE.p (ak 2 rfl))))) (AE.p (aD bV (AE.p (ak 1 rfl)) (AE.p (aD lF (AE.p (aD gQ (AE.p (aD wz (AE.p (ak 3 rfl)) (AE.p aM))) (AE.p (aD oh (AE.p aM) (AE.p (ak 4 rfl)))))) (AE.p aM))))))) (AE.p (Je Ka (AE.p (ak 0 rfl)) (pG (AE.p (ak 2 rfl))) pH))))))))))) (by decide) h⟩)
abbrev u9:Stmt:=top 23
theorem xV:bL ["_law_cell_here", "_law_many", "_law_left", "_law_ranks_here", "_law_draw", "_law_k"] ["_law_cell_here", "_law_many"] (aX u9):=⟨rfl,rfl,rfl,by decide +kernel,rfl,by decide +kernel,by decide +kernel⟩
theorem Hx{f:Addr}{fd:FuncData}(F:qF K "_law_ranks" "_law_ranks" u9 f fd)(T:Txt mg)  : dG P w K mg base dm 1 f fd ["_law_cell_here", "_law_many"] (pZ jJ) :=
 F.ok xV (fun vs H Q E h=>wJ h) (fun cdv A outer s H vs Q E hr h=>by
  have nd:=xV.nd
  have hu:=eE hr
  have bO:=hr.units
  exact⟨_,(aF (wQ (i:=2) (N':=["_law_k"]) (ρ:=[none]) rfl nd rfl (Or.inl rfl) (d8.of rfl (by kernel_rfl)) (gq rfl T.j6 (aj (pv 1) aA)) (fun _ _ _ _ _=>(aZ (i:=0) (by show (["_law_k"]:List Str).Nodup;decide +kernel) rfl (Or.inl rfl))) (gG rfl) (fun _ _ _ _ _=>jA) (fun _ _ _ _ _=>(pv 0)))
 (aF (bM (i:=3) nd rfl (Or.inl rfl) (jM aA))
 (aF (bM (i:=4) nd rfl (Or.inl rfl) (bA iw (pv 0) aG))
 (aF (fY PassesOwn.never rfl (gq rfl T.j6 (aj (pv 1) aA)) (aZ (i:=5) nd rfl (Or.inl rfl))
 (aF (bM (i:=4) nd rfl (Or.inl rfl) (bA iw (bA cQ (bA cQ (bA jo (pv 4) aG) (bA jo aG (pv 5))) aG) aG))
 (aK (iU (pM PySem.F.plainAttrs_list PySem.F.slot_list_append PySem.F.type_list_append jq (pv 3) (aj (pM PySem.F.plainAttrs_list PySem.F.slot_list_pop PySem.F.type_list_pop O9 (pv 2) (aj (bA iw (bA jH (pv 4) aG) (bJ cW rfl T.dq PySem.boot_len (aj (pv 2) aA))) aA)) aA))))))
 (aK (bw (pv 3))))))),
  _root_.A.runN (N:=["_law_cell_here", "_law_many", "_law_left", "_law_ranks_here", "_law_draw", "_law_k"]) (M:=Mo [2,3]) (aO (qz 2 rfl (gU (K:=K) (tg:=(.n 0)) (Mp.c (gK (AE.p (ak 1 rfl)))) (by decide) mO (ak 0 rfl)))
 (aO (qz 3 rfl (pQ aN))
 (aO (b8 4 rfl (aD lF (AE.p (ak 0 rfl)) (AE.p aM)))
 (aO (gj (K:=K) (tg:=(.n 5)) (gK (AE.p (ak 1 rfl))) (by decide)
 (aO (b8 4 rfl (aD lF (AE.p (aD gQ (AE.p (aD gQ (AE.p (aD oh (AE.p (ak 4 rfl)) (AE.p aM))) (AE.p (aD oh (AE.p aM) (AE.p (ak 5 rfl)))))) (AE.p aM))) (AE.p aM)))
 (Dr 3 2 (by decide) rfl rfl (AE.p (aD lF (AE.p (aD wz (AE.p (ak 4 rfl)) (AE.p aM))) (AE.p (lH dq (az (Dt 2) aN))))))))
 (ou 3 rfl))))) (by decide) h⟩)
abbrev Cd:Stmt:=top 24
theorem Ei:bL ["_law_script", "_law_most", "_law_many", "_law_names", "_law_ranks_here", "_law_thick", "_law_arrows", "_law_j", "_law_k", "_law_cell_here"] ["_law_script", "_law_most"] (aX Cd):=⟨rfl,rfl,rfl,by decide +kernel,rfl,by decide +kernel,by decide +kernel⟩
theorem Ov{f:Addr}{fd:FuncData}(F:qF K "_law_net" "_law_net" Cd f fd)(T:Txt mg)(lL:mW P w K mg base dm 1 "_law_cell" ["_law_script", "_law_k"] (mq eU))(vN:mW P w K mg base dm 1 "_law_words" ["_law_cell_here", "_law_many"] (pZ nu))(vO:mW P w K mg base dm 1 "_law_ranks" ["_law_cell_here", "_law_many"] (pZ jJ)):dG P w K mg base dm 2 f fd ["_law_script", "_law_most"] (mq nA) :=
 F.ok Ei (fun vs H Q E h=>rB h) (fun cdv A outer s H vs Q E hr h=>by
  have nd:=Ei.nd
  have hu:=eE hr
  have bO:=hr.units
  have nO:=hr.mono (show 1≤_ by decide)
  have HW:=hr.mono (show 1≤_ by decide)
  have HX:=hr.mono (show 1≤_ by decide)
  exact⟨_,(aF (bM (i:=2) nd rfl (Or.inl rfl) (bA cQ aG (bA iw (bf lL nO rfl bN (aj (pv 0) (aj aG aA))) (pv 1))))
 (aF (bM (i:=3) nd rfl (Or.inl rfl) (bf vN HW rfl bN (aj (bf lL nO rfl bN (aj (pv 0) (aj aG aA))) (aj (pv 2) aA))))
 (aF (bM (i:=4) nd rfl (Or.inl rfl) (bf vO HX rfl bN (aj (bf lL nO rfl bN (aj (pv 0) (aj aG aA))) (aj (pv 2) aA))))
 (aF (bM (i:=5) nd rfl (Or.inl rfl) (bu aV (jM (aj aG (aj aG (aj aG (aj aG (aj aG (aj aG aA))))))) (bA iw (bf lL nO rfl bN (aj (pv 0) (aj aG aA))) aG) (fun _ _=>rfl)))
 (aF (bM (i:=6) nd rfl (Or.inl rfl) (jM aA))
 (aF (fY PassesOwn.never rfl (gq rfl T.j6 (aj (pv 2) aA)) (aZ (i:=7) nd rfl (Or.inl rfl))
 (aK (fY PassesOwn.never rfl (gq rfl T.j6 (aj (pv 2) aA)) (aZ (i:=8) nd rfl (Or.inl rfl))
 (aF (bM (i:=9) nd rfl (Or.inl rfl) (bf lL nO rfl bN (aj (pv 0) (aj (bA cQ (bA cQ aG (bA jH (bA jo (bJ (Aw rfl) rfl T.Gi boot_max (aj (pv 7) (aj (pv 8) aA))) (bA Oo (bJ (Aw rfl) rfl T.Gi boot_max (aj (pv 7) (aj (pv 8) aA))) aG)) aG)) (bJ (Ma rfl) rfl T.QX boot_min (aj (pv 7) (aj (pv 8) aA)))) aA))))
 (aK (cZ (PW.pt (pw_and (bH Cu (bu aV (pv 4) (pv 7) (fun _ _=>rfl)) (bu aV (pv 4) (pv 8) (fun _ _=>rfl)) (cI _)) (pw_and1 (bH Cu (bA iw (bA jH (bA iw (bA jo (pv 9) aG) aG) aG) aG) (pv 5) (cI _)))))
 (aK (iU (pM PySem.F.plainAttrs_list PySem.F.slot_list_append PySem.F.type_list_append jq (pv 6) (aj (bx (aj (bu aV (pv 3) (pv 7) (fun _ _=>rfl)) (aj (bu aV (pv 3) (pv 8) (fun _ _=>rfl)) aA))) aA))))
 bC))))))
 (aK (bw (bx (aj (iH lV rfl T.eF boot_tuple (aj (pv 3) aA)) (aj (iH lV rfl T.eF boot_tuple (aj (pv 6) aA)) aA))))))))))),
  _root_.A.q9 (N:=["_law_script", "_law_most", "_law_many", "_law_names", "_law_ranks_here", "_law_thick", "_law_arrows", "_law_j", "_law_k", "_law_cell_here"]) (M:=Mo [6]) (aO (b8 2 rfl (aD gQ (AE.p aM) (AE.p (aD lF (AE.p (cj (aB (AE.w (ak 0 rfl)) (aB (AE.w aM) bh)))) (AE.p (ak 1 rfl))))))
 (aO (b8 3 rfl (AE.nv (dW (aB (AE.w (cj (aB (AE.w (ak 0 rfl)) (aB (AE.w aM) bh)))) (aB (AE.w (ak 2 rfl)) bh)))))
 (aO (b8 4 rfl (AE.nv (dW (aB (AE.w (cj (aB (AE.w (ak 0 rfl)) (aB (AE.w aM) bh)))) (aB (AE.w (ak 2 rfl)) bh)))))
 (aO (b8 5 rfl (aD bV (AE.np (pQ (az aM (az aM (az aM (az aM (az aM (az aM aN)))))))) (AE.p (aD lF (AE.p (cj (aB (AE.w (ak 0 rfl)) (aB (AE.w aM) bh)))) (AE.p aM)))))
 (aO (qz 6 rfl (pQ aN))
 (aO (gj (K:=K) (tg:=(.n 7)) (gK (AE.p (ak 2 rfl))) (by decide)
 (gj (K:=K) (tg:=(.n 8)) (gK (AE.p (ak 2 rfl))) (by decide)
 (aO (b8 9 rfl (cj (aB (AE.w (ak 0 rfl)) (aB (AE.w (aD gQ (AE.p (aD gQ (AE.p aM) (AE.p (aD wz (AE.p (aD oh (AE.p (lH Gi (az (AE.p (ak 7 rfl)) (az (AE.p (ak 8 rfl)) aN)))) (AE.p (aD Vk (AE.p (lH Gi (az (AE.p (ak 7 rfl)) (az (AE.p (ak 8 rfl)) aN)))) (AE.p aM))))) (AE.p aM))))) (AE.p (lH QX (az (AE.p (ak 7 rfl)) (az (AE.p (ak 8 rfl)) aN)))))) bh))))
 (dh (vL (bI (AE.p (aD Ub (AE.p (aD bV (AE.p (ak 4 rfl)) (AE.p (ak 7 rfl)))) (AE.p (aD bV (AE.p (ak 4 rfl)) (AE.p (ak 8 rfl))))))) (bI (AE.p (aD Ub (AE.p (aD lF (AE.p (aD wz (AE.p (aD lF (AE.p (aD oh (AE.p (ak 9 rfl)) (AE.p aM))) (AE.p aM))) (AE.p aM))) (AE.p aM))) (AE.p (ak 5 rfl))))))
 (kJ 6 rfl (bQ (az (aD bV (AE.p (ak 3 rfl)) (AE.p (ak 7 rfl))) (az (aD bV (AE.p (ak 3 rfl)) (AE.p (ak 8 rfl))) aN))))
 bD))))
 (bU (AE.w (bQ (az (lH eF (az (AE.p (ak 3 rfl)) aN)) (az (lH eF (az (Dt 6) aN)) aN))))))))))) (by decide) h⟩)
abbrev xY:Stmt:=top 25
theorem Ab:bL ["_law_net_here", "_law_one_here", "_law_other"] ["_law_net_here", "_law_one_here", "_law_other"] (aX xY):=⟨rfl,rfl,rfl,by decide +kernel,rfl,by decide +kernel,by decide +kernel⟩
theorem K6{f:Addr}{fd:FuncData}(F:qF K "_law_tied" "_law_tied" xY f fd)(T:Txt mg)  : dG P w K mg base dm 1 f fd ["_law_net_here", "_law_one_here", "_law_other"] (mq bT) :=
 F.ok Ab (fun vs H Q E h=>rB h) (fun cdv A outer s H vs Q E hr h=>by
  have nd:=Ab.nd
  have hu:=eE hr
  have bO:=hr.units
  exact⟨_,(aK (bw (Oh (cP (fZ bO) (bx (aj (pv 1) (aj (pv 2) aA))) (bu aV (pv 0) aG (fun _ _=>rfl)) rfl) (mG (cP (fZ bO) (bx (aj (pv 2) (aj (pv 1) aA))) (bu aV (pv 0) aG (fun _ _=>rfl)) rfl))))),
  _root_.A.q9 (N:=["_law_net_here", "_law_one_here", "_law_other"]) (M:=Mo []) (bU (AE.w (Xg (AE.p (aD qy (AE.p (bQ (az (ak 1 rfl) (az (ak 2 rfl) aN)))) (AE.p (aD bV (AE.p (ak 0 rfl)) (AE.p aM))))) (aD qy (AE.p (bQ (az (ak 2 rfl) (az (ak 1 rfl) aN)))) (AE.p (aD bV (AE.p (ak 0 rfl)) (AE.p aM))))))) (by decide) h⟩)
abbrev xX:Stmt:=top 26
theorem Aa:bL ["_law_net_here", "_law_ties_here", "_law_k", "_law_one_here"] ["_law_net_here"] (aX xX):=⟨rfl,rfl,rfl,by decide +kernel,rfl,by decide +kernel,by decide +kernel⟩
theorem K5{f:Addr}{fd:FuncData}(F:qF K "_law_ties" "_law_ties" xX f fd)(T:Txt mg)(cY:mW P w K mg base dm 1 "_law_tied" ["_law_net_here", "_law_one_here", "_law_other"] (mq bT)):dG P w K mg base dm 2 f fd ["_law_net_here"] (mq jt) :=
 F.ok Aa (fun vs H Q E h=>rB h) (fun cdv A outer s H vs Q E hr h=>by
  have nd:=Aa.nd
  have hu:=eE hr
  have bO:=hr.units
  have eV:=hr.mono (show 1≤_ by decide)
  exact⟨_,(aF (bM (i:=1) nd rfl (Or.inl rfl) (jM aA))
 (aF (fY PassesOwn.never rfl (Zp.En rfl T.wy (bu aV (pv 0) aG (fun _ _=>rfl))) (mF rfl (cg (aZ (i:=2) nd rfl (Or.inl rfl)) (cg (aZ (i:=3) nd rfl (Or.inr rfl)) jB)))
 (aK (bM (i:=1) nd rfl (Or.inl rfl) (bA cQ (pv 1) (ig (N':=["_law_one_here", "_law_net_here", "_law_other"]) (ρ:=[some 3,some 0,none]) rfl (d8.of rfl (by kernel_rfl)) (dX (lq X8 (bu aV (pv 0) aG (fun _ _=>rfl)) (oY (bA cQ (pv 2) aG)) oZ)) (fun _ _ _ _ _=>(aZ (i:=2) (by show (["_law_one_here", "_law_net_here", "_law_other"]:List Str).Nodup;decide +kernel) rfl (Or.inl rfl))) (gG rfl) (fun _ _ _ _ _=>(qL (du (bf cY eV rfl bN (aj (pv 1) (aj (pv 0) (aj (pv 2) aA))))))) (fun _ _ _ _ _=>(bx (aj (pv 0) (aj (pv 2) aA)))))))))
 (aK (bw (pv 1))))),
  _root_.A.q9 (N:=["_law_net_here", "_law_ties_here", "_law_k", "_law_one_here"]) (M:=Mo []) (aO (b8 1 rfl (AE.nv (pQ aN)))
 (aO (gj (K:=K) (tg:=(.t [2,3])) (Zp.Gz (aD bV (AE.p (ak 0 rfl)) (AE.p aM))) (by decide)
 (b8 1 rfl (aD gQ (AE.p (ak 1 rfl)) (AE.np (gU (K:=K) (tg:=(.n 2)) (jE (AE.p (Je Vl (AE.p (aD bV (AE.p (ak 0 rfl)) (AE.p aM))) (pG (AE.p (aD gQ (AE.p (ak 2 rfl)) (AE.p aM)))) pH))) (by decide) (gZ (AE.p (cj (aB (AE.w (ak 1 rfl)) (aB (AE.w (ak 0 rfl)) (aB (AE.w (ak 2 rfl)) bh)))))) (bQ (az (ak 0 rfl) (az (ak 2 rfl) aN))))))))
 (bU (AE.w (ak 1 rfl))))) (by decide) h⟩)
abbrev vd:Stmt:=top 28
theorem xW:bL ["_law_found", "_law_names", "_law_last", "_law_pair", "_law_here"] ["_law_found", "_law_names"] (aX vd):=⟨rfl,rfl,rfl,by decide +kernel,rfl,by decide +kernel,by decide +kernel⟩
theorem Hy{f:Addr}{fd:FuncData}(F:qF K "_law_pairs" "_law_pairs" vd f fd)(T:Txt mg)  : dG P w K mg base dm 1 f fd ["_law_found", "_law_names"] (mq fL) :=
 F.ok xW (fun vs H Q E h=>rB h) (fun cdv A outer s H vs Q E hr h=>by
  have nd:=xW.nd
  have hu:=eE hr
  have bO:=hr.units
  exact⟨_,(aF (cZ (iu (du (bJ lD rfl T.fB boot_isinstance (aj (pv 0) (aj (yo rfl T.eF boot_tuple) aA)))))
 (aK (bw iV))
 bC)
 (aF (bM (i:=2) nd rfl (Or.inl rfl) (jM (aj (U7 MK aG) (aj (U7 MK aG) aA))))
 (aF (fY PassesOwn.never rfl (dX (pv 0)) (aZ (i:=3) nd rfl (Or.inl rfl))
 (aF (cZ (PW.pt (pw_or (iu (du (bJ lD rfl T.fB boot_isinstance (aj (pv 3) (aj (yo rfl T.eF boot_tuple) aA))))) (pw_or (bH (tu bO) (bJ cW rfl T.dq PySem.boot_len (aj (pv 3) aA)) aG (cI _)) (pw_or (bH (gA bO) (bu aV (pv 3) aG (fun _ _=>rfl)) (pv 1) rfl) (pw_or1 (bH (gA bO) (bu aV (pv 3) aG (fun _ _=>rfl)) (pv 1) rfl))))))
 (aK (bw iV))
 bC)
 (aF (bM (i:=4) nd rfl (Or.inl rfl) (jM (aj (Hs PySem.F.plainAttrs_tuple PySem.F.slot_tuple_index PySem.F.type_tuple_index Pa PySem.F.plainAttrs_list PySem.F.slot_list_index PySem.F.type_list_index Pb (pv 1) (aj (bu aV (pv 3) aG (fun _ _=>rfl)) aA)) (aj (Hs PySem.F.plainAttrs_tuple PySem.F.slot_tuple_index PySem.F.type_tuple_index Pa PySem.F.plainAttrs_list PySem.F.slot_list_index PySem.F.type_list_index Pb (pv 1) (aj (bu aV (pv 3) aG (fun _ _=>rfl)) aA)) aA))))
 (aF (cZ (bH (V8 bO) (pv 4) (pv 2) (cI _))
 (aK (bw iV))
 bC)
 (aK (bM (i:=2) nd rfl (Or.inl rfl) (pv 4)))))))
 (aK (bw iV))))),
  _root_.A.q9 (N:=["_law_found", "_law_names", "_law_last", "_law_pair", "_law_here"]) (M:=Mo []) (aO (dh (iC (gZ (AE.p (Jf (ty_tuple K) (AE.p (ak 0 rfl))))))
 (bU (AE.w pI))
 bD)
 (aO (b8 2 rfl (AE.nv (pQ (az (Zn Vm (AE.p aM)) (az (Zn Vm (AE.p aM)) aN)))))
 (aO (gj (K:=K) (tg:=(.n 3)) (lG (ak 0 rfl)) (by decide)
 (aO (dh (jn (iC (gZ (AE.p (Jf (ty_tuple K) (AE.p (ak 3 rfl)))))) (jn (bI (AE.p (aD IV (AE.p (lH dq (az (AE.p (ak 3 rfl)) aN))) (AE.p aM)))) (jn (bI (AE.p (aD j7 (AE.p (aD bV (AE.p (ak 3 rfl)) (AE.p aM))) (AE.p (ak 1 rfl))))) (bI (AE.p (aD j7 (AE.p (aD bV (AE.p (ak 3 rfl)) (AE.p aM))) (AE.p (ak 1 rfl))))))))
 (bU (AE.w pI))
 bD)
 (aO (b8 4 rfl (AE.nv (pQ (az (Rg (AE.p (ak 1 rfl)) (AE.p (aD bV (AE.p (ak 3 rfl)) (AE.p aM)))) (az (Rg (AE.p (ak 1 rfl)) (AE.p (aD bV (AE.p (ak 3 rfl)) (AE.p aM)))) aN)))))
 (aO (dh (bI (AE.p (aD Zj (AE.p (ak 4 rfl)) (AE.p (ak 2 rfl)))))
 (bU (AE.w pI))
 bD)
 (b8 2 rfl (ak 4 rfl))))))
 (bU (AE.w pI))))) (by decide) h⟩)
abbrev qj:Stmt:=top 29
theorem ue:bL ["_law_found", "_law_net_here", "_law_arrow", "_law_one_here", "_law_other", "_law_by_arrow"] ["_law_found", "_law_net_here"] (aX qj):=⟨rfl,rfl,rfl,by decide +kernel,rfl,by decide +kernel,by decide +kernel⟩
theorem Cw{f:Addr}{fd:FuncData}(F:qF K "_law_picture" "_law_picture" qj f fd)(T:Txt mg)(zF:mW P w K mg base dm 2 "_law_ties" ["_law_net_here"] (mq jt))(qY:mW P w K mg base dm 1 "_law_pairs" ["_law_found", "_law_names"] (mq fL)):dG P w K mg base dm 3 f fd ["_law_found", "_law_net_here"] (mq iJ) :=
 F.ok ue (fun vs H Q E h=>rB h) (fun cdv A outer s H vs Q E hr h=>by
  have nd:=ue.nd
  have hu:=eE hr
  have bO:=hr.units
  have Lq:=hr.mono (show 2≤_ by decide)
  have yL:=hr.mono (show 1≤_ by decide)
  exact⟨_,(aF (cZ (PW.pt (pw_or (iu (du (bJ lD rfl T.fB boot_isinstance (aj (pv 0) (aj (yo rfl T.eF boot_tuple) aA))))) (pw_or (bH (tu bO) (bJ cW rfl T.dq PySem.boot_len (aj (pv 0) aA)) aG (cI _)) (pw_or (iu (du (bJ lD rfl T.fB boot_isinstance (aj (bu aV (pv 0) aG (fun _ _=>rfl)) (aj (yo rfl T.eF boot_tuple) aA))))) (pw_or1 (bH (tu bO) (bu aV (pv 0) aG (fun _ _=>rfl)) (bu aV (pv 1) aG (fun _ _=>rfl)) (cI _)))))))
 (aK (bw iV))
 bC)
 (aF (cZ (PW.pt (pw_or (iu (du (bf qY yL rfl bN (aj (bu aV (pv 0) aG (fun _ _=>rfl)) (aj (bu aV (pv 1) aG (fun _ _=>rfl)) aA))))) (pw_or1 (iu (du (bf qY yL rfl bN (aj (bu aV (pv 0) aG (fun _ _=>rfl)) (aj (bu aV (pv 1) aG (fun _ _=>rfl)) aA))))))))
 (aK (bw iV))
 bC)
 (aF (fY PassesOwn.never rfl (dX (bu aV (pv 0) aG (fun _ _=>rfl))) (aZ (i:=2) nd rfl (Or.inl rfl))
 (aK (cZ (bH (gA bO) (pv 2) (bu aV (pv 1) aG (fun _ _=>rfl)) rfl)
 (aK (bw iV))
 bC)))
 (aF (fY PassesOwn.never rfl (dX (bf zF Lq rfl bN (aj (pv 1) aA))) (mF rfl (cg (aZ (i:=3) nd rfl (Or.inl rfl)) (cg (aZ (i:=4) nd rfl (Or.inl rfl)) jB)))
 (aF (bM (i:=5) nd rfl (Or.inl rfl) (Oh (cP (fZ bO) (bx (aj (pv 3) (aj (pv 4) aA))) (bu aV (pv 0) aG (fun _ _=>rfl)) rfl) (mG (cP (fZ bO) (bx (aj (pv 4) (aj (pv 3) aA))) (bu aV (pv 0) aG (fun _ _=>rfl)) rfl))))
 (aK (cZ (bH (iW bO) (pv 5) (cP (fZ bO) (bx (aj (pv 3) (aj (pv 4) aA))) (bu aV (pv 0) aG (fun _ _=>rfl)) rfl) (cI _))
 (aK (bw iV))
 bC))))
 (aK (bw (cP (iW bO) (bA cQ (bJ cW rfl T.dq PySem.boot_len (aj (bu aV (pv 0) aG (fun _ _=>rfl)) aA)) (bJ cW rfl T.dq PySem.boot_len (aj (bu aV (pv 0) aG (fun _ _=>rfl)) aA))) (bJ cW rfl T.dq PySem.boot_len (aj (bu aV (pv 1) aG (fun _ _=>rfl)) aA)) (cI _)))))))),
  _root_.A.q9 (N:=["_law_found", "_law_net_here", "_law_arrow", "_law_one_here", "_law_other", "_law_by_arrow"]) (M:=Mo []) (aO (dh (jn (iC (gZ (AE.p (Jf (ty_tuple K) (AE.p (ak 0 rfl)))))) (jn (bI (AE.p (aD IV (AE.p (lH dq (az (AE.p (ak 0 rfl)) aN))) (AE.p aM)))) (jn (iC (gZ (AE.p (Jf (ty_tuple K) (AE.p (aD bV (AE.p (ak 0 rfl)) (AE.p aM))))))) (bI (AE.p (aD IV (AE.p (aD bV (AE.p (ak 0 rfl)) (AE.p aM))) (AE.p (aD bV (AE.p (ak 1 rfl)) (AE.p aM)))))))))
 (bU (AE.w pI))
 bD)
 (aO (dh (jn (iC (gZ (AE.p (cj (aB (AE.w (aD bV (AE.p (ak 0 rfl)) (AE.p aM))) (aB (AE.w (aD bV (AE.p (ak 1 rfl)) (AE.p aM))) bh)))))) (iC (gZ (AE.p (cj (aB (AE.w (aD bV (AE.p (ak 0 rfl)) (AE.p aM))) (aB (AE.w (aD bV (AE.p (ak 1 rfl)) (AE.p aM))) bh)))))))
 (bU (AE.w pI))
 bD)
 (aO (gj (K:=K) (tg:=(.n 2)) (lG (aD bV (AE.p (ak 0 rfl)) (AE.p aM))) (by decide)
 (dh (bI (AE.p (aD j7 (AE.p (ak 2 rfl)) (AE.p (aD bV (AE.p (ak 1 rfl)) (AE.p aM))))))
 (bU (AE.w pI))
 bD))
 (aO (gj (K:=K) (tg:=(.t [3,4])) (lG (cj (aB (AE.w (ak 1 rfl)) bh))) (by decide)
 (aO (b8 5 rfl (Xg (AE.p (aD qy (AE.p (bQ (az (ak 3 rfl) (az (ak 4 rfl) aN)))) (AE.p (aD bV (AE.p (ak 0 rfl)) (AE.p aM))))) (aD qy (AE.p (bQ (az (ak 4 rfl) (az (ak 3 rfl) aN)))) (AE.p (aD bV (AE.p (ak 0 rfl)) (AE.p aM))))))
 (dh (bI (AE.p (aD uN (AE.p (ak 5 rfl)) (AE.p (aD qy (AE.p (bQ (az (ak 3 rfl) (az (ak 4 rfl) aN)))) (AE.p (aD bV (AE.p (ak 0 rfl)) (AE.p aM))))))))
 (bU (AE.w pI))
 bD)))
 (bU (AE.w (aD uN (AE.p (aD gQ (AE.p (lH dq (az (AE.p (aD bV (AE.p (ak 0 rfl)) (AE.p aM))) aN))) (AE.p (lH dq (az (AE.p (aD bV (AE.p (ak 0 rfl)) (AE.p aM))) aN))))) (AE.p (lH dq (az (AE.p (aD bV (AE.p (ak 1 rfl)) (AE.p aM))) aN)))))))))) (by decide) h⟩)
abbrev yd:Stmt:=top 27
theorem Ae:bL ["_law_net_here", "_law_one_here", "_law_middle", "_law_other"] ["_law_net_here", "_law_one_here", "_law_middle", "_law_other"] (aX yd):=⟨rfl,rfl,rfl,by decide +kernel,rfl,by decide +kernel,by decide +kernel⟩
theorem K9{f:Addr}{fd:FuncData}(F:qF K "_law_bent" "_law_bent" yd f fd)(T:Txt mg)(cY:mW P w K mg base dm 1 "_law_tied" ["_law_net_here", "_law_one_here", "_law_other"] (mq bT)):dG P w K mg base dm 2 f fd ["_law_net_here", "_law_one_here", "_law_middle", "_law_other"] (mq f9) :=
 F.ok Ae (fun vs H Q E h=>rB h) (fun cdv A outer s H vs Q E hr h=>by
  have nd:=Ae.nd
  have hu:=eE hr
  have bO:=hr.units
  have eV:=hr.mono (show 1≤_ by decide)
  exact⟨_,(aF (cZ (PW.pt (pw_or (bH (iW bO) (pv 1) (pv 3) (cI _)) (pw_or1 (du (bf cY eV rfl bN (aj (pv 0) (aj (pv 1) (aj (pv 3) aA))))))))
 (aK (bw iV))
 bC)
 (aK (bw (mH (cP (fZ bO) (bx (aj (pv 1) (aj (pv 2) aA))) (bu aV (pv 0) aG (fun _ _=>rfl)) rfl) (mG (cP (fZ bO) (bx (aj (pv 3) (aj (pv 2) aA))) (bu aV (pv 0) aG (fun _ _=>rfl)) rfl)))))),
  _root_.A.q9 (N:=["_law_net_here", "_law_one_here", "_law_middle", "_law_other"]) (M:=Mo []) (aO (dh (jn (bI (AE.p (aD uN (AE.p (ak 1 rfl)) (AE.p (ak 3 rfl))))) (gZ (AE.p (cj (aB (AE.w (ak 0 rfl)) (aB (AE.w (ak 1 rfl)) (aB (AE.w (ak 3 rfl)) bh)))))))
 (bU (AE.w pI))
 bD)
 (bU (AE.w (sr (AE.p (aD qy (AE.p (bQ (az (ak 1 rfl) (az (ak 2 rfl) aN)))) (AE.p (aD bV (AE.p (ak 0 rfl)) (AE.p aM))))) (aD qy (AE.p (bQ (az (ak 3 rfl) (az (ak 2 rfl) aN)))) (AE.p (aD bV (AE.p (ak 0 rfl)) (AE.p aM)))))))) (by decide) h⟩)
abbrev Ca:Stmt:=top 30
theorem Eh:bL ["_law_net_here", "_law_told", "_law_tail", "_law_head", "_law_rule", "_law_third"] ["_law_net_here", "_law_told", "_law_tail", "_law_head", "_law_rule", "_law_third"] (aX Ca):=⟨rfl,rfl,rfl,by decide +kernel,rfl,by decide +kernel,by decide +kernel⟩
theorem Ou{f:Addr}{fd:FuncData}(F:qF K "_law_one" "_law_one" Ca f fd)(T:Txt mg)(cY:mW P w K mg base dm 1 "_law_tied" ["_law_net_here", "_law_one_here", "_law_other"] (mq bT))(lM:mW P w K mg base dm 2 "_law_bent" ["_law_net_here", "_law_one_here", "_law_middle", "_law_other"] (mq f9)):dG P w K mg base dm 3 f fd ["_law_net_here", "_law_told", "_law_tail", "_law_head", "_law_rule", "_law_third"] (mq pA) :=
 F.ok Eh (fun vs H Q E h=>rB h) (fun cdv A outer s H vs Q E hr h=>by
  have nd:=Eh.nd
  have hu:=eE hr
  have bO:=hr.units
  have eV:=hr.mono (show 1≤_ by decide)
  have qR:=hr.mono (show 2≤_ by decide)
  exact⟨_,(aF (cZ (bH (iW bO) (pv 4) lg (cI _))
 (aK (bw (bf lM qR rfl bN (aj (pv 0) (aj (pv 2) (aj (pv 3) (aj (pv 5) aA)))))))
 bC)
 (aF (cZ (bH (iW bO) (pv 4) lg (cI _))
 (aF (cZ (PW.pt (pw_or (bH (iW bO) (pv 5) (pv 3) (cI _)) (pw_or (du (bf cY eV rfl bN (aj (pv 0) (aj (pv 5) (aj (pv 3) aA))))) (pw_or1 (du (bf lM qR rfl bN (aj (pv 0) (aj (pv 5) (aj (pv 2) (aj (pv 3) aA))))))))))
 (aK (bw iV))
 bC)
 (aK (bw (cP (fZ bO) (bx (aj (pv 5) (aj (pv 2) aA))) (pv 1) rfl))))
 bC)
 (aK (bw (mH (cP (iW bO) (pv 4) lg (cI _)) (mH (cP (fZ bO) (bx (aj (pv 2) (aj (pv 5) aA))) (pv 1) rfl) (mG (cP (fZ bO) (bx (aj (pv 5) (aj (pv 3) aA))) (pv 1) rfl)))))))),
  _root_.A.q9 (N:=["_law_net_here", "_law_told", "_law_tail", "_law_head", "_law_rule", "_law_third"]) (M:=Mo []) (aO (dh (bI (AE.p (aD uN (AE.p (ak 4 rfl)) (AE.p qC))))
 (bU (AE.w (cj (aB (AE.w (ak 0 rfl)) (aB (AE.w (ak 2 rfl)) (aB (AE.w (ak 3 rfl)) (aB (AE.w (ak 5 rfl)) bh)))))))
 bD)
 (aO (dh (bI (AE.p (aD uN (AE.p (ak 4 rfl)) (AE.p qC))))
 (aO (dh (jn (bI (AE.p (aD uN (AE.p (ak 5 rfl)) (AE.p (ak 3 rfl))))) (jn (gZ (AE.p (cj (aB (AE.w (ak 0 rfl)) (aB (AE.w (ak 5 rfl)) (aB (AE.w (ak 3 rfl)) bh)))))) (gZ (AE.p (cj (aB (AE.w (ak 0 rfl)) (aB (AE.w (ak 5 rfl)) (aB (AE.w (ak 2 rfl)) (aB (AE.w (ak 3 rfl)) bh)))))))))
 (bU (AE.w pI))
 bD)
 (bU (AE.w (aD qy (AE.p (bQ (az (ak 5 rfl) (az (ak 2 rfl) aN)))) (AE.p (ak 1 rfl))))))
 bD)
 (bU (AE.w (sr (AE.p (aD uN (AE.p (ak 4 rfl)) (AE.p qC))) (sr (AE.p (aD qy (AE.p (bQ (az (ak 2 rfl) (az (ak 5 rfl) aN)))) (AE.p (ak 1 rfl)))) (aD qy (AE.p (bQ (az (ak 5 rfl) (az (ak 3 rfl) aN)))) (AE.p (ak 1 rfl))))))))) (by decide) h⟩)
abbrev yc:Stmt:=top 31
theorem Ad:bL ["_law_net_here", "_law_told", "_law_tail", "_law_head", "_law_third", "_law_fourth"] ["_law_net_here", "_law_told", "_law_tail", "_law_head", "_law_third", "_law_fourth"] (aX yc):=⟨rfl,rfl,rfl,by decide +kernel,rfl,by decide +kernel,by decide +kernel⟩
theorem K8{f:Addr}{fd:FuncData}(F:qF K "_law_both" "_law_both" yc f fd)(T:Txt mg)(cY:mW P w K mg base dm 1 "_law_tied" ["_law_net_here", "_law_one_here", "_law_other"] (mq bT))(lM:mW P w K mg base dm 2 "_law_bent" ["_law_net_here", "_law_one_here", "_law_middle", "_law_other"] (mq f9)):dG P w K mg base dm 3 f fd ["_law_net_here", "_law_told", "_law_tail", "_law_head", "_law_third", "_law_fourth"] (mq nC) :=
 F.ok Ad (fun vs H Q E h=>rB h) (fun cdv A outer s H vs Q E hr h=>by
  have nd:=Ad.nd
  have hu:=eE hr
  have bO:=hr.units
  have eV:=hr.mono (show 1≤_ by decide)
  have qR:=hr.mono (show 2≤_ by decide)
  exact⟨_,(aF (cZ (PW.pt (pw_or (bH (iW bO) (pv 4) (pv 5) (cI _)) (pw_or (du (bf cY eV rfl bN (aj (pv 0) (aj (pv 4) (aj (pv 5) aA))))) (pw_or1 (du (bf lM qR rfl bN (aj (pv 0) (aj (pv 4) (aj (pv 2) (aj (pv 5) aA))))))))))
 (aK (bw iV))
 bC)
 (aF (cZ (PW.pt (pw_or (iu (du (bf cY eV rfl bN (aj (pv 0) (aj (pv 4) (aj (pv 2) aA)))))) (pw_or1 (iu (du (bf cY eV rfl bN (aj (pv 0) (aj (pv 5) (aj (pv 2) aA)))))))))
 (aK (bw iV))
 bC)
 (aK (bw (mH (cP (fZ bO) (bx (aj (pv 4) (aj (pv 3) aA))) (pv 1) rfl) (mG (cP (fZ bO) (bx (aj (pv 5) (aj (pv 3) aA))) (pv 1) rfl))))))),
  _root_.A.q9 (N:=["_law_net_here", "_law_told", "_law_tail", "_law_head", "_law_third", "_law_fourth"]) (M:=Mo []) (aO (dh (jn (bI (AE.p (aD uN (AE.p (ak 4 rfl)) (AE.p (ak 5 rfl))))) (jn (gZ (AE.p (cj (aB (AE.w (ak 0 rfl)) (aB (AE.w (ak 4 rfl)) (aB (AE.w (ak 5 rfl)) bh)))))) (gZ (AE.p (cj (aB (AE.w (ak 0 rfl)) (aB (AE.w (ak 4 rfl)) (aB (AE.w (ak 2 rfl)) (aB (AE.w (ak 5 rfl)) bh)))))))))
 (bU (AE.w pI))
 bD)
 (aO (dh (jn (iC (gZ (AE.p (cj (aB (AE.w (ak 0 rfl)) (aB (AE.w (ak 4 rfl)) (aB (AE.w (ak 2 rfl)) bh))))))) (iC (gZ (AE.p (cj (aB (AE.w (ak 0 rfl)) (aB (AE.w (ak 5 rfl)) (aB (AE.w (ak 2 rfl)) bh))))))))
 (bU (AE.w pI))
 bD)
 (bU (AE.w (sr (AE.p (aD qy (AE.p (bQ (az (ak 4 rfl) (az (ak 3 rfl) aN)))) (AE.p (ak 1 rfl)))) (aD qy (AE.p (bQ (az (ak 5 rfl) (az (ak 3 rfl) aN)))) (AE.p (ak 1 rfl)))))))) (by decide) h⟩)
abbrev sU:Stmt:=top 32
theorem vX:bL ["_law_net_here", "_law_told", "_law_row", "_law_name"] ["_law_net_here", "_law_told", "_law_row"] (aX sU):=⟨rfl,rfl,rfl,by decide +kernel,rfl,by decide +kernel,by decide +kernel⟩
theorem Ez{f:Addr}{fd:FuncData}(F:qF K "_law_reason" "_law_reason" sU f fd)(T:Txt mg)(cY:mW P w K mg base dm 1 "_law_tied" ["_law_net_here", "_law_one_here", "_law_other"] (mq bT))(Dy:mW P w K mg base dm 3 "_law_one" ["_law_net_here", "_law_told", "_law_tail", "_law_head", "_law_rule", "_law_third"] (mq pA))(zG:mW P w K mg base dm 3 "_law_both" ["_law_net_here", "_law_told", "_law_tail", "_law_head", "_law_third", "_law_fourth"] (mq nC)):dG P w K mg base dm 4 f fd ["_law_net_here", "_law_told", "_law_row"] (mq iz) :=
 F.ok vX (fun vs H Q E h=>rB h) (fun cdv A outer s H vs Q E hr h=>by
  have nd:=vX.nd
  have hu:=eE hr
  have bO:=hr.units
  have eV:=hr.mono (show 1≤_ by decide)
  have Qa:=hr.mono (show 3≤_ by decide)
  have Lr:=hr.mono (show 3≤_ by decide)
  exact⟨_,(aF (cZ (PW.pt (pw_or (iu (du (bJ lD rfl T.fB boot_isinstance (aj (pv 2) (aj (yo rfl T.eF boot_tuple) aA))))) (pw_or (bH (tu bO) (bJ cW rfl T.dq PySem.boot_len (aj (pv 2) aA)) aG (cI _)) (pw_or1 (iu (du (bJ lD rfl T.fB boot_isinstance (aj (bu aV (pv 2) aG (fun _ _=>rfl)) (aj (yo rfl T.eF boot_tuple) aA)))))))))
 (aK (bw iV))
 bC)
 (aF (fY PassesOwn.never rfl (dX (bA cQ (jM (aj (bu aV (pv 2) aG (fun _ _=>rfl)) (aj (bu aV (pv 2) aG (fun _ _=>rfl)) aA))) (iH Iu rfl T.yZ boot_list (aj (bu aV (pv 2) aG (fun _ _=>rfl)) aA)))) (aZ (i:=3) nd rfl (Or.inl rfl))
 (aK (cZ (bH (gA bO) (pv 3) (bu aV (pv 0) aG (fun _ _=>rfl)) rfl)
 (aK (bw iV))
 bC)))
 (aF (cZ (PW.pt (pw_or (bH (fZ bO) (bx (aj (bu aV (pv 2) aG (fun _ _=>rfl)) (aj (bu aV (pv 2) aG (fun _ _=>rfl)) aA))) (pv 1) rfl) (pw_or1 (iu (du (bf cY eV rfl bN (aj (pv 0) (aj (bu aV (pv 2) aG (fun _ _=>rfl)) (aj (bu aV (pv 2) aG (fun _ _=>rfl)) aA)))))))))
 (aK (bw iV))
 bC)
 (aF (cZ (bH (iW bO) (bu aV (pv 2) aG (fun _ _=>rfl)) lg (cI _))
 (aK (bw (mH (cP (iW bO) (bJ cW rfl T.dq PySem.boot_len (aj (bu aV (pv 2) aG (fun _ _=>rfl)) aA)) aG (cI _)) (mG (bf zG Lr rfl bN (aj (pv 0) (aj (pv 1) (aj (bu aV (pv 2) aG (fun _ _=>rfl)) (aj (bu aV (pv 2) aG (fun _ _=>rfl)) (aj (bu aV (bu aV (pv 2) aG (fun _ _=>rfl)) aG (fun _ _=>rfl)) (aj (bu aV (bu aV (pv 2) aG (fun _ _=>rfl)) aG (fun _ _=>rfl)) aA)))))))))))
 bC)
 (aK (bw (mH (cP (iW bO) (bJ cW rfl T.dq PySem.boot_len (aj (bu aV (pv 2) aG (fun _ _=>rfl)) aA)) aG (cI _)) (mG (bf Dy Qa rfl bN (aj (pv 0) (aj (pv 1) (aj (bu aV (pv 2) aG (fun _ _=>rfl)) (aj (bu aV (pv 2) aG (fun _ _=>rfl)) (aj (bu aV (pv 2) aG (fun _ _=>rfl)) (aj (bu aV (bu aV (pv 2) aG (fun _ _=>rfl)) aG (fun _ _=>rfl)) aA))))))))))))))),
  _root_.A.q9 (N:=["_law_net_here", "_law_told", "_law_row", "_law_name"]) (M:=Mo []) (aO (dh (jn (iC (gZ (AE.p (Jf (ty_tuple K) (AE.p (ak 2 rfl)))))) (jn (bI (AE.p (aD IV (AE.p (lH dq (az (AE.p (ak 2 rfl)) aN))) (AE.p aM)))) (iC (gZ (AE.p (Jf (ty_tuple K) (AE.p (aD bV (AE.p (ak 2 rfl)) (AE.p aM)))))))))
 (bU (AE.w pI))
 bD)
 (aO (gj (K:=K) (tg:=(.n 3)) (lG (aD gQ (AE.np (pQ (az (aD bV (AE.p (ak 2 rfl)) (AE.p aM)) (az (aD bV (AE.p (ak 2 rfl)) (AE.p aM)) aN)))) (AE.np (lH yZ (az (AE.p (aD bV (AE.p (ak 2 rfl)) (AE.p aM))) aN))))) (by decide)
 (dh (bI (AE.p (aD j7 (AE.p (ak 3 rfl)) (AE.p (aD bV (AE.p (ak 0 rfl)) (AE.p aM))))))
 (bU (AE.w pI))
 bD))
 (aO (dh (jn (bI (AE.p (aD qy (AE.p (bQ (az (aD bV (AE.p (ak 2 rfl)) (AE.p aM)) (az (aD bV (AE.p (ak 2 rfl)) (AE.p aM)) aN)))) (AE.p (ak 1 rfl))))) (iC (gZ (AE.p (cj (aB (AE.w (ak 0 rfl)) (aB (AE.w (aD bV (AE.p (ak 2 rfl)) (AE.p aM))) (aB (AE.w (aD bV (AE.p (ak 2 rfl)) (AE.p aM))) bh))))))))
 (bU (AE.w pI))
 bD)
 (aO (dh (bI (AE.p (aD uN (AE.p (aD bV (AE.p (ak 2 rfl)) (AE.p aM))) (AE.p qC))))
 (bU (AE.w (sr (AE.p (aD uN (AE.p (lH dq (az (AE.p (aD bV (AE.p (ak 2 rfl)) (AE.p aM))) aN))) (AE.p aM))) (cj (aB (AE.w (ak 0 rfl)) (aB (AE.w (ak 1 rfl)) (aB (AE.w (aD bV (AE.p (ak 2 rfl)) (AE.p aM))) (aB (AE.w (aD bV (AE.p (ak 2 rfl)) (AE.p aM))) (aB (AE.w (aD bV (AE.p (aD bV (AE.p (ak 2 rfl)) (AE.p aM))) (AE.p aM))) (aB (AE.w (aD bV (AE.p (aD bV (AE.p (ak 2 rfl)) (AE.p aM))) (AE.p aM))) bh))))))))))
 bD)
 (bU (AE.w (sr (AE.p (aD uN (AE.p (lH dq (az (AE.p (aD bV (AE.p (ak 2 rfl)) (AE.p aM))) aN))) (AE.p aM))) (cj (aB (AE.w (ak 0 rfl)) (aB (AE.w (ak 1 rfl)) (aB (AE.w (aD bV (AE.p (ak 2 rfl)) (AE.p aM))) (aB (AE.w (aD bV (AE.p (ak 2 rfl)) (AE.p aM))) (aB (AE.w (aD bV (AE.p (ak 2 rfl)) (AE.p aM))) (aB (AE.w (aD bV (AE.p (aD bV (AE.p (ak 2 rfl)) (AE.p aM))) (AE.p aM))) bh)))))))))))))) (by decide) h⟩)
abbrev sS:Stmt:=top 33
theorem vW:bL ["_law_net_here", "_law_rows", "_law_told", "_law_row"] ["_law_net_here", "_law_rows"] (aX sS):=⟨rfl,rfl,rfl,by decide +kernel,rfl,by decide +kernel,by decide +kernel⟩
theorem Ey{f:Addr}{fd:FuncData}(F:qF K "_law_walked" "_law_walked" sS f fd)(T:Txt mg)(t6:mW P w K mg base dm 4 "_law_reason" ["_law_net_here", "_law_told", "_law_row"] (mq iz)):dG P w K mg base dm 5 f fd ["_law_net_here", "_law_rows"] (pZ dO) :=
 F.ok vW (fun vs H Q E h=>wJ h) (fun cdv A outer s H vs Q E hr h=>by
  have nd:=vW.nd
  have hu:=eE hr
  have bO:=hr.units
  have FJ:=hr.mono (show 4≤_ by decide)
  exact⟨_,(aF (cZ (iu (du (bJ lD rfl T.fB boot_isinstance (aj (pv 1) (aj (yo rfl T.yZ boot_list) aA)))))
 (aK yj)
 bC)
 (aF (bM (i:=2) nd rfl (Or.inl rfl) (jM aA))
 (aF (fY PassesOwn.never rfl (dX (pv 1)) (aZ (i:=3) nd rfl (Or.inl rfl))
 (aF (cZ (iu (du (bf t6 FJ rfl bN (aj (pv 0) (aj (pv 2) (aj (pv 3) aA))))))
 (aK yj)
 bC)
 (aK (iU (pM PySem.F.plainAttrs_list PySem.F.slot_list_append PySem.F.type_list_append jq (pv 2) (aj (bx (aj (bu aV (pv 3) aG (fun _ _=>rfl)) (aj (bu aV (pv 3) aG (fun _ _=>rfl)) aA))) aA))))))
 (aK (bw (pv 2)))))),
  _root_.A.runN (N:=["_law_net_here", "_law_rows", "_law_told", "_law_row"]) (M:=Mo [2]) (aO (dh (iC (gZ (AE.p (Jf (ty_list K) (AE.p (ak 1 rfl))))))
 zg
 bD)
 (aO (qz 2 rfl (pQ aN))
 (aO (gj (K:=K) (tg:=(.n 3)) (lG (ak 1 rfl)) (by decide)
 (aO (dh (iC (gZ (AE.p (Up (aB (AW.p (AE.w (ak 0 rfl))) (aB (AE.w (Dt 2)) (aB (AW.p (AE.w (ak 3 rfl))) bh)))))))
 zg
 bD)
 (kJ 2 rfl (bQ (az (aD bV (AE.p (ak 3 rfl)) (AE.p aM)) (az (aD bV (AE.p (ak 3 rfl)) (AE.p aM)) aN))))))
 (ou 2 rfl)))) (by decide) h⟩)
abbrev Ng:Stmt:=top 34
theorem Nf:bL ["_law_script", "_law_net_here", "_law_rows", "_law_told", "_law_picture_here", "_law_arrow", "_law_again"] ["_law_script"] (aX Ng):=⟨rfl,rfl,rfl,by decide +kernel,rfl,by decide +kernel,by decide +kernel⟩
theorem Wh{f:Addr}{fd:FuncData}(F:qF K "law" "law" Ng f fd)(T:Txt mg)(kh:mW P w K mg base dm 6 "picture_of" ["net"] (mq dN))(j9:mW P w K mg base dm 6 "reasons_of" ["net"] (pZ dM))(Dz:mW P w K mg base dm 2 "_law_net" ["_law_script", "_law_most"] (mq nA))(qI:mW P w K mg base dm 3 "_law_picture" ["_law_found", "_law_net_here"] (mq iJ))(pL:mW P w K mg base dm 5 "_law_walked" ["_law_net_here", "_law_rows"] (pZ dO)):dG P w K mg base dm 7 f fd ["_law_script"] (mq vp) :=
 F.ok Nf (fun vs H Q E h=>rB h) (fun cdv A outer s H vs Q E hr h=>by
  have nd:=Nf.nd
  have hu:=eE hr
  have bO:=hr.units
  have rR:=hr.mono (show 6≤_ by decide)
  have rQ:=hr.mono (show 6≤_ by decide)
  have Qc:=hr.mono (show 2≤_ by decide)
  have Dh:=hr.mono (show 3≤_ by decide)
  have v7:=hr.mono (show 5≤_ by decide)
  exact⟨_,(aF (bM (i:=1) nd rfl (Or.inl rfl) (bf Dz Qc rfl bN (aj (pv 0) (aj aG aA))))
 (aF (bM (i:=2) nd rfl (Or.inl rfl) (bf j9 rQ rfl bN (aj (pv 1) aA)))
 (aF (bM (i:=3) nd rfl (Or.inl rfl) (bf pL v7 rfl bN (aj (pv 1) (aj (pv 2) aA))))
 (aF (bM (i:=4) nd rfl (Or.inl rfl) (bf kh rR rfl bN (aj (pv 1) aA)))
 (aF (cZ (PW.pt (pw_or (bH Sg (pv 3) Hr (cI _)) (pw_or (iu (du (bf qI Dh rfl bN (aj (pv 4) (aj (pv 1) aA))))) (pw_or1 (bH (tu bO) (bJ cW rfl T.dq PySem.boot_len (aj (bu aV (pv 4) aG (fun _ _=>rfl)) aA)) (bJ cW rfl T.dq PySem.boot_len (aj (pv 3) aA)) (cI _))))))
 (aK (bw iV))
 bC)
 (aF (fY PassesOwn.never rfl (dX (pv 3)) (aZ (i:=5) nd rfl (Or.inl rfl))
 (aK (cZ (bH (gA bO) (pv 5) (bu aV (pv 4) aG (fun _ _=>rfl)) rfl)
 (aK (bw iV))
 bC)))
 (aF (iU (Ol PySem.F.plainAttrs_list PySem.F.slot_list_clear PySem.F.type_list_clear Pg (pv 2)))
 (aF (bM (i:=6) nd rfl (Or.inl rfl) (bf pL v7 rfl bN (aj (pv 1) (aj (bf j9 rQ rfl bN (aj (pv 1) aA)) aA))))
 (aK (bw (mH (cP Oq (pv 6) Hr (cI _)) (mH (cP (iW bO) (bJ cW rfl T.dq PySem.boot_len (aj (pv 6) aA)) (bJ cW rfl T.dq PySem.boot_len (aj (pv 3) aA)) (cI _)) (mG (cP (iW bO) (bf kh rR rfl bN (aj (pv 1) aA)) (pv 4) (cI _))))))))))))))),
  _root_.A.q9 (N:=["_law_script", "_law_net_here", "_law_rows", "_law_told", "_law_picture_here", "_law_arrow", "_law_again"]) (M:=Mo [2]) (aO (b8 1 rfl (cj (aB (AE.w (ak 0 rfl)) (aB (AE.w aM) bh))))
 (aO (qz 2 rfl (dW (aB (AE.w (ak 1 rfl)) bh)))
 (aO (b8 3 rfl (Kl (aB (AW.p (AE.w (ak 1 rfl))) (aB (AE.w (Dt 2)) bh))))
 (aO (b8 4 rfl (cj (aB (AE.w (ak 1 rfl)) bh)))
 (aO (dh (jn (bI (AE.p (aD aaB (AE.p (ak 3 rfl)) (AE.p Rc)))) (jn (iC (gZ (AE.p (cj (aB (AE.w (ak 4 rfl)) (aB (AE.w (ak 1 rfl)) bh)))))) (bI (AE.p (aD IV (AE.p (lH dq (az (AE.p (aD bV (AE.p (ak 4 rfl)) (AE.p aM))) aN))) (AE.p (lH dq (az (AE.p (ak 3 rfl)) aN))))))))
 (bU (AE.w pI))
 bD)
 (aO (gj (K:=K) (tg:=(.n 5)) (lG (ak 3 rfl)) (by decide)
 (dh (bI (AE.p (aD j7 (AE.p (ak 5 rfl)) (AE.p (aD bV (AE.p (ak 4 rfl)) (AE.p aM))))))
 (bU (AE.w pI))
 bD))
 (aO (Q8 2 rfl)
 (aO (b8 6 rfl (AE.nv (dW (aB (AE.w (ak 1 rfl)) (aB (AW.nv (AE.w (dW (aB (AE.w (ak 1 rfl)) bh)))) bh)))))
 (bU (AE.w (sr (AE.p (aD Uc (AE.p (ak 6 rfl)) (AE.p Rc))) (sr (AE.p (aD uN (AE.p (lH dq (az (AE.p (ak 6 rfl)) aN))) (AE.p (lH dq (az (AE.p (ak 3 rfl)) aN))))) (aD uN (AE.p (cj (aB (AE.w (ak 1 rfl)) bh))) (AE.p (ak 4 rfl))))))))))))))) (by decide) h⟩)
end
end Jj
namespace L2
open PySem PySem.Spec PyProof.Rows
theorem rF.aad{P:Program}{w:World}{K:PySem.W.Frag}{mg:Str→Option Value}{CX:Jl}{k:Nat}{x p:Str}{st:Stmt}{sp:Sp}{fa c T:Addr}(F:rF K mg x st [p])(hm:mg x=some (.ref fa))(h:∀ base,K.In base→base.Ns mainGlobals mg→BM mg base→PySem.W.CodeHd base c T→∀ f fd,qF K x x st f fd→dG P w K mg base CX k f fd [p] sp) :
 ∃ fd:FuncData,(∀ (s:Shared) (u:Value),BindsTo s fd ⟨[u],[]⟩ [(p,u)])∧∀ base:Heap,K.In base→base.Ns mainGlobals mg→BM mg base→PySem.W.CodeHd base c T→dG P w K mg base CX k fa fd [p] sp:=by
 obtain⟨f,fd,h1,h2,h3,h5,h4⟩:=F.ex
 rw[h1] at hm;cases hm
 exact⟨fd,fun s u=>h5 s [u] rfl,fun base kb nb b1 b2=>h base kb nb b1 b2 _ fd h4⟩
def U9(K:PySem.W.Frag):Bool:=K.all fun p=>match p.2.cls with|.type "list" => false|_=>true
theorem O4{K:PySem.W.Frag}(h:U9 K=true){a:Addr}{o:Obj}(e:K.lookup a=some o)(c:o.cls=.type "list"):False:=by
 have hm:(a,o)∈K:=by
  clear h
  induction K with
  | nil=>cases e
  | cons p r ih =>
   obtain⟨b,x⟩:=p
   simp only[List.lookup] at e
   split at e
   ·rename_i q;cases e;rw[beq_iff_eq.mp q];exact List.Mem.head _
   ·exact List.Mem.tail _ (ih e)
 have h2:=List.all_eq_true.mp h _ hm
 simp only[c] at h2
 cases h2
end L2
namespace Mi
open PySem
@[simp] theorem lr {α : Type} (a:α):pR (some a)=.ok a:=rfl
@[simp] theorem WK {α : Type} {c:Prop} [Decidable c] (h:c) (r:Rs α):aR c r=r:=if_pos h
@[simp] theorem ni (a b:Str):cH (.str a) (.str b)=decide (a=b):=by rw[cH];by_cases h:a=b<;>simp[h]
@[simp] theorem El (a b:Int):cH (.int a) (.int b)=decide (a=b):=by rw[cH];by_cases h:a=b<;>simp[h]
@[simp] theorem Tz (x:Str):(D.str x).dep=0:=by simp[D.dep]
@[simp] theorem ZK (x:Int):(D.int x).dep=0:=by simp[D.dep]
@[simp] theorem aas (x:Bool):(D.bl x).dep=0:=by simp[D.dep]
@[simp] theorem ZG:D.non.dep=0:=by simp[D.dep]
@[simp] theorem ZJ (ds:List D):(D.lst ds).dep=cM ds+1:=by simp[D.dep]
@[simp] theorem w6 (ds:List D):(D.tup ds).dep=cM ds+1:=by simp[D.dep]
@[simp] theorem Ik:cM []=0:=rfl
@[simp] theorem jL (d:D) (r:List D):cM (d::r)=max d.dep (cM r):=by rw[cM]
@[simp] theorem tQ:∀ xs:List Str,cM (xs.map D.str)=0
 | []=>rfl
 | x::r=>by rw[List.map_cons,jL,Tz,tQ r];rfl
theorem Uk(xs:List Str)(x:Str):((xs.map D.str).any fun e=>cH e (.str x))=decide (x∈xs):=by
 induction xs with
 | nil=>rfl
 | cons y r ih =>
  rw[List.map_cons,List.any_cons,ih,ni]
  by_cases h:y=x
  ·simp[h]
  ·have h2:¬ x=y:=fun z=>h z.symm
   simp[h,h2]
theorem lU(xs:List Str)(x:Str):dz (.str x) (.tup (xs.map D.str))=.ok (.bl (!decide (x∈xs))):=by
 show aR _ _=_
 rw[au (by rw[tQ];omega),Uk]
theorem pD(x y:Str):qW (.str x) (.str y)=.ok (.bl (decide (x=y))):=by
 show aR _ _=_
 rw[au (by simp),ni]
theorem TX(x y:Str):Am (.str x) (.str y)=.ok (.bl (!decide (x=y))):=by
 show aR _ _=_
 rw[au (by simp),ni]
theorem uF(x y:Int):qW (.int x) (.int y)=.ok (.bl (decide (x=y))):=by
 show aR _ _=_
 rw[au (by simp),El]
theorem T3(x y:Int):Am (.int x) (.int y)=.ok (.bl (!decide (x=y))):=by
 show aR _ _=_
 rw[au (by simp),El]
theorem Q9{α : Type}(f:α→Bool)(xs:List α):Ra (xs.map fun x=>D.bl (f x))=some (xs.map f):=by
 induction xs with
 | nil=>rfl
 | cons a r ih=>rw[List.map_cons,Ra,ih];rfl
theorem Gv(xs:List Str):zj (xs.map D.str)=some xs:=by
 induction xs with
 | nil=>rfl
 | cons a r ih=>rw[List.map_cons,zj,ih];rfl
theorem Tu(n:Nat)(b:S)(a0:W):wM 1 n b [a0]=(b ([some a0]++List.replicate (n - 1) none)).bind rT:=au rfl
theorem Qj(n:Nat)(b:S)(a0 a1:W):wM 2 n b [a0,a1]=(b ([some a0,some a1]++List.replicate (n - 2) none)).bind rT:=au rfl
theorem Tt(n:Nat)(b:S)(a0 a1 a2:W):wM 3 n b [a0,a1,a2]=(b ([some a0,some a1,some a2]++List.replicate (n - 3) none)).bind rT:=au rfl
theorem aar(n:Nat)(b:S)(a0 a1 a2 a3:W):wM 4 n b [a0,a1,a2,a3]=(b ([some a0,some a1,some a2,some a3]++List.replicate (n - 4) none)).bind rT:=au rfl
theorem Lw(n:Nat)(b:S)(a0:W):DG 1 n b [a0]=(b ([some a0]++List.replicate (n - 1) none)).bind lA:=au rfl
theorem Qi(n:Nat)(b:S)(a0 a1:W):DG 2 n b [a0,a1]=(b ([some a0,some a1]++List.replicate (n - 2) none)).bind lA:=au rfl
theorem aap(n:Nat)(b:S)(a0 a1 a2:W):DG 3 n b [a0,a1,a2]=(b ([some a0,some a1,some a2]++List.replicate (n - 3) none)).bind lA:=au rfl
theorem zp(i j:Int):cV (.int i) (.int j)=.ok (.int (i+j)):=rfl
theorem Rb(i j:Str):cV (.str i) (.str j)=aR (i.length+j.length≤16777216) (.ok (.str (i++j))):=rfl
theorem Vy(i j:Int):Dj (.int i) (.int j)=.ok (.int (i - j)):=rfl
theorem O8(i j:Int):dg (.int i) (.int j)=aR (ug i j) (.ok (.int (i * j))):=rfl
theorem div_ii(i j:Int):jO (.int i) (.int j)=aR (uh j) (.ok (.int (i / j))):=rfl
theorem Ph(i j:Int):fJ (.int i) (.int j)=aR (0 < j) (.ok (.int (i % j))):=rfl
theorem Pu(i j:Int):DK (.int i) (.int j)=.ok (.bl (decide (i < j))):=rfl
theorem Pz(ds:List D):fX [.lst ds]=.ok (.int ds.length):=rfl
theorem Fo(ds:List D):fX [.tup ds]=.ok (.int ds.length):=rfl
theorem YT(z:Str):fX [.str z]=aR (z.length≤16777216) (.ok (.int z.length)):=rfl
theorem Wm(i j:Int):vJ [.int i,.int j]=.ok (.int (max i j)):=rfl
theorem Wl(i j:Int):Gp [.int i,.int j]=.ok (.int (min i j)):=rfl
theorem Zm(ds:List D):W9 [.lst ds]=(pR (Ra ds)).bind fun bs=>.ok (.bl (bs.all id)):=rfl
theorem Jm(ds:List D):vI [.lst ds]=.ok (.tup ds):=rfl
theorem VF(z:Str)(lo hi:Option Int):Rn (.str z) lo hi=aR (z.length≤16777216) (.ok (.str (qx z lo hi))):=rfl
theorem Td(ds:List D):Il (.lst ds)=.ok ds:=rfl
theorem Gy(b:Bool):Xd (.bl b)=.ok b:=rfl
theorem Gx(b:Int):Zk (.int b)=.ok b:=rfl
theorem Bk(x:D):ZQ (.d x)=.ok x:=rfl
theorem Uj(x:D):Vo (.d x)=aR (Mt x=true) (.ok x):=rfl
theorem YB(i:Nat)(d:D)(e:Mi.Env):(Tg.n i).put d e=.ok (e.set i (some (.d d))):=rfl
theorem all_cons(i:Nat)(is:List Nat)(d:D)(ds:List D)(e:Mi.Env):u0 (i::is) (d::ds) e=u0 is ds (e.set i (some (.d d))):=rfl
theorem V7(e:Mi.Env):rT (.nx e)=.ok (.d .non):=rfl
theorem R7(w:W):lA (.rt w)=.ok w:=rfl
theorem aJ{f:D→D→Rs D}{a b:E}{e:Mi.Env}{x y:D}{z:Rs D}(ha:a e=.ok x)(hb:b e=.ok y)(h:f x y=z):m2 f a b e=z:=by
 unfold m2;rw[ha,aC,hb,aC,h]
theorem aL{s t:S}{e e':Mi.Env}(h:s e=.ok (.nx e')):bj s t e=t e':=by unfold bj;rw[h];rfl
theorem qb{s t:S}{e:Mi.Env}{w:W}(h:s e=.ok (.rt w)):bj s t e=.ok (.rt w):=by unfold bj;rw[h];rfl
theorem bB{i:Nat}{a:E}{e:Mi.Env}{d:D}(h:a e=.ok d):cG i a e=.ok (.nx (e.set i (some (.d d)))):=by unfold cG;rw[h];rfl
theorem cR{a:EW}{e:Mi.Env}{w:W}(h:a e=.ok w):bZ a e=.ok (.rt w):=by unfold bZ;rw[h];rfl
theorem bK{a:E}{e:Mi.Env}{d:D}(h:a e=.ok d):wD a e=.ok (.d d):=by unfold wD;rw[h];rfl
theorem lu{c:C}{s t:S}{e:Mi.Env}(h:c e=.ok true):iM c s t e=s e:=by unfold iM;rw[h];rfl
theorem dF{c:C}{s t:S}{e:Mi.Env}(h:c e=.ok false):iM c s t e=t e:=by unfold iM;rw[h];rfl
theorem bF{a:E}{e:Mi.Env}{b:Bool}(h:a e=.ok (.bl b)):cB a e=.ok b:=by unfold cB;rw[h];rfl
theorem dB{ρ : List (Option Nat)}{it:I}{tg:Tg}{c:C}{a:E}{e:Mi.Env}{xs ys:List D}(h:it e=.ok xs)(hl:xs.length≤16777216)(hc:dI tg c a (rN ρ e) xs=.ok ys):d9 ρ it tg c a e=.ok (.lst ys):=by
 unfold d9;rw[h,aC,au hl,hc,aC]
theorem mD{a:E}{e:Mi.Env}{n:Int}(h:a e=.ok (.int n))(hr:okR n):gF a e=.ok (dj 0 n):=by
 unfold gF;rw[h,aC,Gx,aC,au hr]
theorem gf{it:I}{tg:Tg}{b:S}{e:Mi.Env}{xs:List D}(h:it e=.ok xs):jR it tg b e=uB tg b xs e:=by unfold jR;rw[h];rfl
theorem dZ{a:E}{e:Mi.Env}{x:D}{xs:List D}(h:a e=.ok x)(hx:Il x=.ok xs):pN a e=.ok xs:=by unfold pN;rw[h,aC,hx]
theorem vM{i:Nat}{a:E}{e:Mi.Env}{d:D}{ds:List D}(h:a e=.ok d)(hg:getL e i=.ok ds)(hl:ds.length < 16777216):dH i a e=.ok (.nx (putL e i (ds++[d]))):=by
 unfold dH;rw[h,aC,hg,aC,au hl]
theorem jQ{f:List D→Rs D}{a:E}{e:Mi.Env}{x:D}(h:a e=.ok x):mN f [a] e=f [x]:=by unfold mN;rw[iK,h];rfl
theorem JK{f:List D→Rs D}{a b:E}{e:Mi.Env}{x y:D}(h:a e=.ok x)(h':b e=.ok y):mN f [a,b] e=f [x,y]:=by unfold mN;rw[iK,h,aC,iK,h'];rfl
theorem fO{a b:E}{e:Mi.Env}{x y:D}(h:a e=.ok x)(h':b e=.ok y):mN dTup [a,b] e=.ok (.tup [x,y]):=by
 rw[JK h h']
 exact au (by simp)
theorem pP{f:Fn}{a:EW}{e:Mi.Env}{x:W}{d:D}(h:a e=.ok x)(hf:f [x]=.ok (.d d)):aW f [a] e=.ok d:=by unfold aW jm;rw[bc,h];simp only[aC,bc,hf,Bk]
theorem call2{f:Fn}{a b:EW}{e:Mi.Env}{x y:W}{d:D}(h:a e=.ok x)(h':b e=.ok y)(hf:f [x,y]=.ok (.d d)):aW f [a,b] e=.ok d:=by unfold aW jm;rw[bc,h,aC,bc,h'];simp only[aC,bc,hf,Bk]
theorem pO{f:Fn}{a b c:EW}{e:Mi.Env}{x y z:W}{d:D}(h:a e=.ok x)(h':b e=.ok y)(h'':c e=.ok z)(hf:f [x,y,z]=.ok (.d d)):aW f [a,b,c] e=.ok d:=by unfold aW jm;rw[bc,h,aC,bc,h',aC,bc,h''];simp only[aC,bc,hf,Bk]
theorem dU{α : Type}{tg:Tg}{c:C}{a:E}{e:Mi.Env}(f g:α→D)(p:α→Bool):∀ (xs:List α),(∀ x∈xs,∃ e1,tg.put (f x) e=.ok e1∧c e1=.ok (p x)∧(p x=true→a e1=.ok (g x)))→dI tg c a e (xs.map f)=.ok ((xs.filter p).map g)
 | [],_=>rfl
 | x::r,h=>by
  obtain⟨e1,h1,h2,h3⟩:=h x List.mem_cons_self
  have ih:=dU (tg:=tg) (c:=c) (a:=a) (e:=e) f g p r fun y hy=>h y (List.mem_cons_of_mem _ hy)
  rw[List.map_cons,dI,h1,aC,h2,aC]
  cases hp:p x with
  | true=>rw[if_pos rfl,h3 hp,aC,ih,aC,List.filter_cons_of_pos hp];rfl
  | false=>rw[if_neg Bool.false_ne_true,ih,List.filter_cons_of_neg (by rw[hp];exact Bool.false_ne_true)]
theorem fV{tg:Tg}{body:S}(Inv:Nat→Mi.Env→Prop):∀ (xs:List D) (k:Nat),(∀ i x e,xs[i]? = some x→Inv (k+i) e→∃ e1 e2,tg.put x e=.ok e1∧body e1=.ok (.nx e2)∧Inv (k+i+1) e2)→∀ e,Inv k e→∃ e',uB tg body xs e=.ok (.nx e')∧Inv (k+xs.length) e'
 | [],k,_,e,h=>⟨e,rfl,h⟩
 | x::r,k,hs,e,h=>by
  obtain⟨e1,e2,h1,h2,h3⟩:=hs 0 x e rfl h
  obtain⟨e',h4,h5⟩:=fV Inv r (k+1) (fun i y e hy hi=>by
   have:=hs (i+1) y e (by simpa using hy) (by rw[show k+(i+1)=k+1+i by omega];exact hi)
   rw[show k+(i+1)+1=k+1+i+1 by omega] at this
   exact this) e2 h3
  refine⟨e',?_,by rw[List.length_cons,show k+(r.length+1)=k+1+r.length by omega];exact h5⟩
  rw[uB,h1,aC,h2,aC]
  exact h4
end Mi
namespace Mr
open PySem Mi
abbrev Ar:=Str×Str
def pairD(p:Ar):D:=.tup [.str p.1,.str p.2]
def eY(names:List Str):D:=.tup (names.map D.str)
def j8(ao:List Ar):D:=.tup (ao.map pairD)
def aY(names:List Str)(ao:List Ar):D:=.tup [eY names,j8 ao]
def dC(xs:List Str):D:=.lst (xs.map D.str)
theorem at0{α : Type}(a:α)(r:List α):pF (a::r) 0=some a:=by simp[pF,De]
theorem at1{α : Type}(a b:α)(r:List α):pF (a::b::r) 1=some b:=by
 unfold pF De
 rw[if_pos (by decide),if_pos (by simp only[List.length_cons];omega)];rfl
theorem Vc(names:List Str)(ao:List Ar):bz (aY names ao) (.int 0)=.ok (eY names):=by
 unfold aY bz
 simp[at0]
theorem Xq(names:List Str)(ao:List Ar):bz (aY names ao) (.int 1)=.ok (j8 ao):=by
 unfold aY bz
 simp[at1]
theorem KH{names asked:List Str}(h:∀ x∈asked,x∈names):cU [.d (eY names),.d (dC asked)]=.ok (.d .non):=by
 have key:∀ (xs:List Str) (o:Option W),(∀ x∈xs,x∈names)→∃ o',uB (.n 2) (iM (cB (m2 dz (mV 2) (mV 0))) vf bG) (xs.map D.str) [some (.d (eY names)),some (.d (dC asked)),o]=.ok (.nx [some (.d (eY names)),some (.d (dC asked)),o']):=by
  intro xs
  induction xs with
  | nil=>exact fun o _=>⟨o,rfl⟩
  | cons x r ih =>
   intro o hx
   obtain⟨o',e⟩:=ih (some (.d (.str x))) fun y hy=>hx y (List.mem_cons_of_mem _ hy)
   refine⟨o',?_⟩
   rw[List.map_cons,uB]
   have:x∈names:=hx x List.mem_cons_self
   simp only[eY,YB,List.set_cons_succ,List.set_cons_zero,iM,cB,m2,mV,bG,aC,List.getElem?_cons_succ,List.getElem?_cons_zero,lU,this,decide_true,Bool.not_true,Gy,Bool.false_eq_true,if_false]
   exact e
 obtain⟨o',e⟩:=key asked none h
 unfold dC at e
 unfold cU lE
 rw[Qj]
 simp only[jR,pN,mV,dC,Nat.reduceSub,List.replicate_succ,List.replicate_zero,List.cons_append,List.nil_append,List.getElem?_cons_succ,List.getElem?_cons_zero,aC,Td,e,V7]
def WR(ao:List Ar)(x:Str):List Str:=(ao.filter fun p=>decide (p.2=x)).map (·.1)
def ready(ao:List Ar)(told:List Str)(x:Str):Bool:=!decide (x∈told) && (WR ao x).all fun y=>decide (y∈told)
def nxt(names:List Str)(ao:List Ar)(told:List Str):Option Str:=names.find? (ready ao told)
structure Net(names:List Str)(ao:List Ar):Prop where
 nd:names.Nodup
 pos:1≤names.length
 le:names.length≤8
 al:ao.length≤64
 tl:∀ p∈ao,p.1∈names
 rk:∃ r:Str→Int,∀ p∈ao,r p.1 < r p.2
def ord(names:List Str)(ao:List Ar):Nat→List Str
 | 0=>[]
 | k+1=>match nxt names ao (ord names ao k) with
  | some x=>ord names ao k++[x]
  | none=>ord names ao k
theorem mJ{α : Type}[DecidableEq α]:∀ {l m:List α},l.Nodup→(∀ x∈l,x∈m)→l.length≤m.length
 | [],_,_,_=>Nat.zero_le _
 | a::l,m,nd,h=>by
  have nd:=List.nodup_cons.mp nd
  have:l.length≤(m.erase a).length:=mJ nd.2 fun x hx=>(List.mem_erase_of_ne (fun z:x=a=>nd.1 (z ▸ hx))).mpr (h x (List.mem_cons_of_mem _ hx))
  have hm:=h a List.mem_cons_self
  rw[List.length_erase_of_mem hm] at this
  have:0 < m.length:=List.length_pos_of_mem hm
  rw[List.length_cons];omega
end Mr
namespace Mr
open PySem Mi
theorem yh:∀ xs ys:List Str,kZ (xs.map D.str) (ys.map D.str)=decide (xs=ys)
 | [],[]=>rfl
 | [],_::_=>rfl
 | _::_,[]=>rfl
 | x::xs,y::ys=>by
  rw[List.map_cons,List.map_cons,kZ,ni,yh xs ys]
  by_cases h1:x=y<;>by_cases h2:xs=ys<;>simp[h1,h2]
end Mr
namespace My
def wl:List Nat:=[101,116,97,111,105,110,115,104,114,100,108,117,99,109,102,119,121,112,118,98,103,107,113,106,120,122]
def pB(n:Int):Nat:=wl.getD (n % 26).toNat 0
def iQ(c:Int):List Nat:=(List.range 8).map fun (k:Nat)=>pB (c / (4+3 * (k:Int)))
def jj(c:Int)(n:Nat):List Nat:=(List.range n).map fun (k:Nat)=>pB (c / 32+5 * (k:Int)+(k:Int) * (k:Int))
def words(c:Int)(many:Nat):List (List Nat) :=
 if c % 4 < 2 then
  if c % 4=0 then (List.range many).map fun (k:Nat)=>(iQ c).take (k+1)
  else (List.range many).map fun (k:Nat)=>(iQ c).drop (7 - k)
 else
  (List.range many).map fun (k:Nat)=>(jj c (c / 4 % 8).toNat).take (c / 256 % (c / 4 % 8+1)).toNat++[pB (c / 7+5 * (k:Int))]++(jj c (c / 4 % 8).toNat).drop (c / 256 % (c / 4 % 8+1)).toNat
def tX(x:List Nat):Prop:=1≤x.length∧x.length≤8∧∀ c∈x,97≤c∧c≤122
theorem GZ:∀ c∈wl,97≤c∧c≤122:=by decide
theorem Xx:wl.Nodup:=by decide
theorem BL:wl.length=26:=by decide
theorem yC(n:Int):pB n∈wl:=by
 unfold pB
 have h1:=Int.emod_nonneg n (b:=26) (by decide)
 have h2:=Int.emod_lt_of_pos n (b:=26) (by decide)
 have h3:(n % 26).toNat < wl.length:=by rw[BL];omega
 rw[List.getD_eq_getElem?_getD,List.getElem?_eq_getElem h3]
 exact List.getElem_mem h3
theorem Px{n m:Int}(h:pB n=pB m):n % 26=m % 26:=by
 unfold pB at h
 have h1:=Int.emod_nonneg n (b:=26) (by decide)
 have h2:=Int.emod_lt_of_pos n (b:=26) (by decide)
 have h3:(n % 26).toNat < wl.length:=by rw[BL];omega
 have h1':=Int.emod_nonneg m (b:=26) (by decide)
 have h2':=Int.emod_lt_of_pos m (b:=26) (by decide)
 have h3':(m % 26).toNat < wl.length:=by rw[BL];omega
 rw[List.getD_eq_getElem?_getD,List.getElem?_eq_getElem h3,List.getD_eq_getElem?_getD,List.getElem?_eq_getElem h3'] at h
 have:=(List.getElem_inj Xx).mp h
 omega
theorem fK(c:Int):(iQ c).length=8:=by simp[iQ]
theorem kj(c:Int)(n:Nat):(jj c n).length=n:=by simp[jj]
theorem zY(c:Int):∀ x∈iQ c,97≤x∧x≤122:=fun x hx=>by
 obtain⟨k,_,rfl⟩:=List.mem_map.mp hx
 exact GZ _ (yC _)
theorem zX(c:Int)(n:Nat):∀ x∈jj c n,97≤x∧x≤122:=fun x hx=>by
 obtain⟨k,_,rfl⟩:=List.mem_map.mp hx
 exact GZ _ (yC _)
theorem mY(c:Int)(many:Nat):(words c many).length=many:=by
 unfold words;split<;>(try split)<;>simp
theorem jN{α : Type}(f:Nat→α)(n:Nat)(h:∀ i j,i < n→j < n→f i=f j→i=j):((List.range n).map f).Nodup:=by
 induction n with
 | zero=>simp
 | succ n ih =>
  rw[List.range_succ,List.map_append,List.map_singleton]
  rw[List.nodup_append]
  refine⟨ih fun i j hi hj=>h i j (by omega) (by omega),by simp,fun a ha b hb=>?_⟩
  obtain⟨i,hi,rfl⟩:=List.mem_map.mp ha
  have hi:=List.mem_range.mp hi
  have hb:b=f n:=by simpa using hb
  subst hb
  intro e
  have:=h i n (by omega) (by omega) e
  omega
theorem pX(c:Int)(many:Nat)(hm:many≤8):(words c many).Nodup:=by
 unfold words
 split
 ·split
  ·refine jN _ _ fun i j hi hj e=>?_
   have:=congrArg List.length e
   rw[List.length_take,List.length_take,fK] at this
   omega
  ·refine jN _ _ fun i j hi hj e=>?_
   have:=congrArg List.length e
   rw[List.length_drop,List.length_drop,fK] at this
   omega
 ·refine jN _ _ fun i j hi hj e=>?_
  rw[List.append_assoc,List.append_assoc] at e
  have e1:=List.append_cancel_left e
  have e2:=List.append_cancel_right e1
  have e3:pB (c / 7+5 * (i:Int))=pB (c / 7+5 * (j:Int)):=by simpa using e2
  have:=Px e3
  omega
theorem cF(c:Int)(many:Nat)(hm:many≤8):∀ x∈words c many,tX x:=by
 unfold words
 split
 ·split
  ·intro x hx
   obtain⟨k,hk,rfl⟩:=List.mem_map.mp hx
   have hk:=List.mem_range.mp hk
   refine⟨by rw[List.length_take,fK];omega,by rw[List.length_take,fK];omega,fun y hy=>zY c y (List.mem_of_mem_take hy)⟩
  ·intro x hx
   obtain⟨k,hk,rfl⟩:=List.mem_map.mp hx
   have hk:=List.mem_range.mp hk
   refine⟨by rw[List.length_drop,fK];omega,by rw[List.length_drop,fK];omega,fun y hy=>zY c y (List.mem_of_mem_drop hy)⟩
 ·intro x hx
  obtain⟨k,hk,rfl⟩:=List.mem_map.mp hx
  have h1:=Int.emod_nonneg (c / 4) (b:=8) (by decide)
  have h2:=Int.emod_lt_of_pos (c / 4) (b:=8) (by decide)
  have h3:=Int.emod_nonneg (c / 256) (b:=c / 4 % 8+1) (by omega)
  have h4:=Int.emod_lt_of_pos (c / 256) (b:=c / 4 % 8+1) (by omega)
  have hl:((jj c (c / 4 % 8).toNat).take (c / 256 % (c / 4 % 8+1)).toNat++[pB (c / 7+5 * (k:Int))]++(jj c (c / 4 % 8).toNat).drop (c / 256 % (c / 4 % 8+1)).toNat).length=(c / 4 % 8).toNat+1:=by
   rw[List.length_append,List.length_append,List.length_take,List.length_drop,kj];simp;omega
  refine⟨by rw[hl];omega,by rw[hl];omega,fun y hy=>?_⟩
  rcases List.mem_append.mp hy with hy|hy
  ·rcases List.mem_append.mp hy with hy|hy
   ·exact zX c _ y (List.mem_of_mem_take hy)
   ·have:y=pB (c / 7+5 * (k:Int)):=by simpa using hy
    subst this;exact GZ _ (yC _)
  ·exact zX c _ y (List.mem_of_mem_drop hy)
end My
namespace Mi
open PySem
def S'(l:List Nat):Str:=⟨l.toArray⟩
theorem xq(l:List Nat):(S' l).cps.toList=l:=rfl
theorem lJ(l:List Nat):(S' l).length=l.length:=by simp[S',Str.length]
theorem M7{x y:Str}(h:x.cps.toList=y.cps.toList):x=y:=by
 obtain⟨a⟩:=x
 obtain⟨b⟩:=y
 have h:a.toList=b.toList:=h
 rw[Array.toList_inj.mp h]
theorem Xj{l m:List Nat}(h:S' l=S' m):l=m:=by
 have:=congrArg (fun x:Str=>x.cps.toList) h
 simpa [S'] using this
theorem Xk(l m:List Nat):S' l++S' m=S' (l++m):=by
 show (⟨l.toArray++m.toArray⟩ : Str)=⟨(l++m).toArray⟩
 simp
theorem yF:∀ l:List Str,(Str.join "" l).cps.toList=l.flatMap (·.cps.toList)
 | []=>by simp[Str.join,Str.empty]
 | [x]=>by simp[Str.join]
 | x::y::r=>by
  have ih:=yF (y::r)
  have e:Str.join "" (x::y::r)=x ++ "" ++ Str.join "" (y::r):=rfl
  have e2:("" : Str).cps.toList=[]:=by decide +kernel
  rw[e]
  show ((x.cps++("" : Str).cps)++(Str.join "" (y::r)).cps).toList=_
  rw[Array.toList_append,Array.toList_append,e2,ih]
  simp
theorem join_ones(l:List Nat):Str.join "" (l.map fun x=>S' [x])=S' l:=by
 refine M7 ?_
 rw[yF,xq]
 induction l with
 | nil=>rfl
 | cons a r ih=>rw[List.map_cons,List.flatMap_cons,ih];rfl
theorem QC{α : Type}(xs:List α)(k:Nat):yU xs none (some (k:Int))=xs.take k:=by
 show (xs.drop 0).take ((if (k:Int) < 0 then ((k:Int)+(xs.length:Int)).toNat else min (k:Int).toNat xs.length) - 0)=_
 rw[if_neg (by omega),List.drop_zero,Nat.sub_zero,Int.toNat_natCast]
 rcases Nat.le_total k xs.length with h|h
 ·rw[Nat.min_eq_left h]
 ·rw[Nat.min_eq_right h,List.take_of_length_le (Nat.le_refl _),List.take_of_length_le h]
theorem Qz{α : Type}(xs:List α)(k:Nat):yU xs (some (k:Int)) none=xs.drop k:=by
 show (xs.drop (if (k:Int) < 0 then ((k:Int)+(xs.length:Int)).toNat else min (k:Int).toNat xs.length)).take (xs.length - (if (k:Int) < 0 then ((k:Int)+(xs.length:Int)).toNat else min (k:Int).toNat xs.length))=_
 rw[if_neg (by omega),Int.toNat_natCast]
 rcases Nat.le_total k xs.length with h|h
 ·rw[Nat.min_eq_left h]
  exact List.take_of_length_le (by rw[List.length_drop];exact Nat.le_refl _)
 ·rw[Nat.min_eq_right h,List.drop_of_length_le (Nat.le_refl _),List.drop_of_length_le h];simp
theorem v9(l:List Nat)(k:Nat):qx (S' l) none (some (k:Int))=S' (l.take k):=by
 unfold qx;rw[xq,QC];rfl
theorem v8(l:List Nat)(k:Nat):qx (S' l) (some (k:Int)) none=S' (l.drop k):=by
 unfold qx;rw[xq,Qz];rfl
def c7:Str := "etaoinshrdlucmfwypvbgkqjxz"
theorem HD:c7.cps.toList=My.wl:=by decide +kernel
theorem Ld:c7.length≤16777216:=by decide +kernel
theorem Q5{α : Type}{xs:List α}{i:Int}(h0:0≤i)(h1:i < xs.length)(d:α):pF xs i=some (xs.getD i.toNat d):=by
 unfold pF De
 rw[if_pos h0,if_pos h1]
 have h3:i.toNat < xs.length:=by omega
 show xs[i.toNat]? = _
 rw[List.getD_eq_getElem?_getD,List.getElem?_eq_getElem h3];rfl
theorem Ug(n:Int):pF c7.cps.toList (n % 26)=some (My.pB n):=by
 rw[HD]
 have h1:=Int.emod_nonneg n (b:=26) (by decide)
 have h2:=Int.emod_lt_of_pos n (b:=26) (by decide)
 exact Q5 h1 (by rw[My.BL];omega) 0
theorem wX{cs:List Int}{i:Int}(h0:0≤i)(h1:i < cs.length):bz (.lst (cs.map D.int)) (.int i)=.ok (.int (cs.getD i.toNat 0)):=by
 show pR (pF (cs.map D.int) i)=_
 rw[Q5 h0 (by rw[List.length_map];exact h1) (.int 0),lr]
 have h3:i.toNat < cs.length:=by omega
 rw[List.getD_eq_getElem?_getD,List.getElem?_map,List.getD_eq_getElem?_getD,List.getElem?_eq_getElem h3];rfl
theorem S8{cs:List Str}{i:Int}(h0:0≤i)(h1:i < cs.length):bz (.lst (cs.map D.str)) (.int i)=.ok (.str (cs.getD i.toNat Str.empty)):=by
 show pR (pF (cs.map D.str) i)=_
 rw[Q5 h0 (by rw[List.length_map];exact h1) (.str Str.empty),lr]
 have h3:i.toNat < cs.length:=by omega
 rw[List.getD_eq_getElem?_getD,List.getElem?_map,List.getD_eq_getElem?_getD,List.getElem?_eq_getElem h3];rfl
theorem tR(n:Nat):dj 0 (n:Int)=(List.range n).map fun (k:Nat)=>D.int (k:Int):=by
 unfold dj
 rw[show ((n:Int) - 0).toNat=n by omega]
 exact List.map_congr_left fun k _=>by rw[Int.zero_add]
theorem gh(n:Nat):(dj 0 (n:Int)).length=n:=by rw[tR];simp
theorem tU{n i:Nat}{x:D}(h:(dj 0 (n:Int))[i]? = some x):i < n∧x=.int (i:Int):=by
 rw[tR,List.getElem?_map] at h
 cases hr:(List.range n)[i]? with
 | none=>rw[hr] at h;cases h
 | some k =>
  rw[hr] at h
  obtain⟨h1,h2⟩:=List.getElem?_eq_some_iff.mp hr
  rw[List.getElem_range] at h2
  subst h2
  rw[List.length_range] at h1
  exact⟨h1,(Option.some.inj h).symm⟩
theorem jw{tg:Tg}{a:E}{e:Mi.Env}(g:Nat→D)(n:Nat)(h:∀ k < n,∃ e1,tg.put (.int (k:Int)) e=.ok e1∧a e1=.ok (g k)):dI tg iB a e (dj 0 (n:Int))=.ok ((List.range n).map g):=by
 rw[tR,dU (fun (k:Nat)=>D.int (k:Int)) g (fun _=>true) (List.range n) fun k hk=>?_]
 ·rw[List.filter_eq_self.mpr fun _ _=>rfl]
 ·obtain⟨e1,h1,h2⟩:=h k (List.mem_range.mp hk)
  exact⟨e1,h1,rfl,fun _=>h2⟩
theorem qO{i:Int}(h0:-1000≤i)(h1:i≤1000):okR i:=by unfold okR;omega
theorem jC{i j:Int}(h0:-(2 ^ 64) < i)(h1:i < 2 ^ 64):ug i j:=.inl ⟨h0,h1⟩
theorem Cz{i j:Int}(h0:-(2 ^ 64) < j)(h1:j < 2 ^ 64):ug i j:=.inr ⟨h0,h1⟩
theorem fc{j:Int}(h0:0 < j)(h1:j < 2 ^ 64):uh j:=by
 refine⟨h0,?_⟩
 have h2:j.natAbs < 2 ^ 64:=by omega
 have h3:j.natAbs≠0:=by omega
 have:=(Nat.log2_lt h3).mpr h2
 omega
end Mi
namespace Mr
open PySem Mi
open My (words iQ jj pB fK kj mY pX)
theorem yS(n:Int):bz (.str c7) (.int (n % 26))=.ok (.str (S' [pB n])):=by
 show aR _ _=_
 rw[au Ld,Ug];rfl
theorem yG(l:List Nat)(h:l.length≤8):J6 (.str "") (.lst (l.map fun x=>D.str (S' [x])))=.ok (.str (S' l)):=by
 show (pR (zj (l.map fun x=>D.str (S' [x])))).bind _=_
 have e:l.map (fun x=>D.str (S' [x]))=(l.map fun x=>S' [x]).map D.str:=by rw[List.map_map];rfl
 rw[e,Gv,lr,aC,au ?_,join_ones]
 have h1:((l.map fun x=>S' [x]).map (·.length)).sum=l.length:=by
  clear h e
  induction l with
  | nil=>rfl
  | cons a r ih=>rw[List.map_cons,List.map_cons,List.sum_cons,ih,lJ,List.length_cons];simp;omega
 have h2:("" : Str).length=0:=by decide +kernel
 rw[h1,h2];omega
theorem st1(c:Int)(k:Nat)(d32:uh 32)(m5:ug 5 (k:Int))(mk:ug (k:Int) k):(m2 cV (m2 cV (m2 jO (mV 1) (mC (.int 32))) (m2 dg (mC (.int 5)) (mV 2))) (m2 dg (mV 2) (mV 2))) [some (.d (.str c7)),some (.d (.int c)),some (.d (.int k))]=.ok (.int (c / 32+5 * (k:Int)+(k:Int) * (k:Int))) :=
 (aJ (aJ (aJ rfl rfl (au d32)) (aJ rfl rfl (au m5)) rfl) (aJ rfl rfl (au mk)) rfl)
theorem st2(c:Int)(e:Mi.Env)(a:E)(h:a e=.ok (.int c))(h0:e[0]? = some (some (.d (.str c7)))):m2 bz (mV 0) (m2 fJ a (mC (.int 26))) e=.ok (.str (S' [pB c])) :=
 aJ (x:=.str c7) (by unfold mV;rw[h0]) (aJ h rfl (au (by decide))) (yS _)
theorem Ow{k n:Nat}(h:k < n)(h8:n < 8):ug (k:Int) k:=jC (by omega) (by omega)
theorem size_of(c:Int):∃ n:Nat,c / 4 % 8=(n:Int)∧n < 8:=by
 have z1:=Int.emod_nonneg (c / 4) (b:=8) (by decide)
 have z2:=Int.emod_lt_of_pos (c / 4) (b:=8) (by decide)
 exact⟨(c / 4 % 8).toNat,by omega,by omega⟩
theorem at_of(c:Int)(n:Nat):∃ t:Nat,c / 256 % ((n:Int)+1)=(t:Int)∧t≤n:=by
 have z3:=Int.emod_nonneg (c / 256) (b:=(n:Int)+1) (by omega)
 have z4:=Int.emod_lt_of_pos (c / 256) (b:=(n:Int)+1) (by omega)
 exact⟨(c / 256 % ((n:Int)+1)).toNat,by omega,by omega⟩
theorem Mx(c:Int)(m:Nat)(hm:m≤8):nu [.d (.int c),.d (.int (m:Int))]=.ok (.d (dC ((words c m).map S'))):=by
 unfold nu Be
 rw[Qi]
 have hr8:okR 8:=qO (by decide) (by decide)
 have hrm:okR (m:Int):=qO (by omega) (by omega)
 have hl0:(PySem.Str.ofString "etaoinshrdlucmfwypvbgkqjxz")=c7:=rfl
 have g4:∀ r:Rs D,aR ((0:Int) < 4) r=r:=fun r=>au (by decide)
 have g26:∀ r:Rs D,aR ((0:Int) < 26) r=r:=fun r=>au (by decide)
 have g8:∀ r:Rs D,aR ((0:Int) < 8) r=r:=fun r=>au (by decide)
 by_cases c1:c % 4 < 2
 ·have JZ:dI (.n 2) iB (m2 bz (mV 0) (m2 fJ (m2 jO (mV 1) (m2 cV (mC (.int 4)) (m2 dg (mC (.int 3)) (mV 2)))) (mC (.int 26)))) [some (.d (.str c7)),some (.d (.int c)),none] (dj 0 8)=.ok ((iQ c).map fun x=>D.str (S' [x])):=by
   have:=jw (tg:=.n 2) (a:=m2 bz (mV 0) (m2 fJ (m2 jO (mV 1) (m2 cV (mC (.int 4)) (m2 dg (mC (.int 3)) (mV 2)))) (mC (.int 26)))) (e:=[some (.d (.str c7)),some (.d (.int c)),none]) (fun k=>D.str (S' [pB (c / (4+3 * (k:Int)))])) 8 fun k hk=>⟨[some (.d (.str c7)),some (.d (.int c)),some (.d (.int k))],rfl,by
    simp only[m2,mV,List.getElem?_cons_zero,List.getElem?_cons_succ,mC,aC,O8]
    rw[au (jC (by decide) (by decide))]
    simp only[aC,zp,div_ii]
    rw[au (fc (by omega) (by omega))]
    simp only[aC,Ph,g26,yS]⟩
   rw[show ((8:Nat):Int)=8 from rfl] at this
   rw[this]
   unfold iQ
   rw[List.map_map];rfl
  have hp:rN [some 2,some 0,none] [some (.d (.int c)),some (.d (.int (m:Int))),some (.d (.str c7)),none,none,none,none]=[some (.d (.str c7)),some (.d (.int c)),none]:=rfl
  have hj:=yG (iQ c) (by rw[fK];omega)
  have hw8:(dj 0 8).length≤16777216:=by rw[show (8:Int)=((8:Nat):Int) from rfl,gh];omega
  have hwm:(dj 0 (m:Int)).length≤16777216:=by rw[gh];omega
  by_cases c2:c % 4=0
  ·have hc:dI (.n 1) iB (ji Rn (mV 0) none (some (m2 cV (mV 1) (mC (.int 1))))) [some (.d (.str (S' (iQ c)))),none] (dj 0 (m:Int))=.ok ((words c m).map fun l=>D.str (S' l)):=by
    rw[jw (fun k=>D.str (S' ((iQ c).take (k+1)))) m fun k hk=>⟨[some (.d (.str (S' (iQ c)))),some (.d (.int k))],rfl,by
     simp only[ji,mV,List.getElem?_cons_zero,nG,m2,List.getElem?_cons_succ,mC,aC,zp,Gx,VF]
     rw[au (by rw[lJ,fK];omega),show (k:Int)+1=((k+1:Nat):Int) by omega,v9]⟩]
    unfold words
    rw[if_pos c1,if_pos c2,List.map_map];rfl
   have hp2:∀ z,rN [some 3,none] [some (.d (.int c)),some (.d (.int (m:Int))),some (.d (.str c7)),some z,none,none,none]=[some z,none]:=fun _=>rfl
   have hmod:cB (m2 DK (m2 fJ (mV 0) (mC (.int 4))) (mC (.int 2))) [some (.d (.int c)),some (.d (.int (m:Int))),some (.d (.str c7)),none,none,none,none]=.ok true :=
    bF ((aJ (aJ rfl rfl (g4 _)) rfl rfl).trans (by rw[Pu,decide_eq_true c1]))
   have Qd:cB (m2 qW (m2 fJ (mV 0) (mC (.int 4))) (mC (.int 0))) [some (.d (.int c)),some (.d (.int (m:Int))),some (.d (.str c7)),some (.d (.str (S' (iQ c)))),none,none,none]=.ok true :=
    bF ((aJ (aJ rfl rfl (g4 _)) rfl rfl).trans (by rw[uF,decide_eq_true c2]))
   show Rs.bind _ lA=_
   rw[aL (e':=[some (.d (.int c)),some (.d (.int (m:Int))),some (.d (.str c7)),none,none,none,none]) (bB rfl)]
   refine(congrArg (fun r=>Rs.bind r lA) (qb (w:=.d (dC ((words c m).map S'))) ?_)).trans rfl
   rw[lu hmod,aL (e':=[some (.d (.int c)),some (.d (.int (m:Int))),some (.d (.str c7)),some (.d (.str (S' (iQ c)))),none,none,none]) (bB (aJ rfl (dB (mD rfl hr8) hw8 JZ) hj))]
   rw[qb ((lu Qd).trans (cR (bK (dB (mD rfl hrm) hwm hc))))]
   rw[dC,List.map_map]
   rfl
  ·have hc:dI (.n 1) iB (ji Rn (mV 0) (some (m2 Dj (mC (.int 7)) (mV 1))) none) [some (.d (.str (S' (iQ c)))),none] (dj 0 (m:Int))=.ok ((words c m).map fun l=>D.str (S' l)):=by
    rw[jw (fun k=>D.str (S' ((iQ c).drop (7 - k)))) m fun k hk=>⟨[some (.d (.str (S' (iQ c)))),some (.d (.int k))],rfl,by
     simp only[ji,mV,List.getElem?_cons_zero,nG,m2,mC,List.getElem?_cons_succ,aC,Vy,Gx,VF]
     rw[au (by rw[lJ,fK];omega),show (7:Int) - (k:Int)=((7 - k:Nat):Int) by omega,v8]⟩]
    unfold words
    rw[if_pos c1,if_neg c2,List.map_map];rfl
   have hp2:∀ z,rN [some 3,none] [some (.d (.int c)),some (.d (.int (m:Int))),some (.d (.str c7)),some z,none,none,none]=[some z,none]:=fun _=>rfl
   have hmod:cB (m2 DK (m2 fJ (mV 0) (mC (.int 4))) (mC (.int 2))) [some (.d (.int c)),some (.d (.int (m:Int))),some (.d (.str c7)),none,none,none,none]=.ok true :=
    bF ((aJ (aJ rfl rfl (g4 _)) rfl rfl).trans (by rw[Pu,decide_eq_true c1]))
   have Qd:cB (m2 qW (m2 fJ (mV 0) (mC (.int 4))) (mC (.int 0))) [some (.d (.int c)),some (.d (.int (m:Int))),some (.d (.str c7)),some (.d (.str (S' (iQ c)))),none,none,none]=.ok false :=
    bF ((aJ (aJ rfl rfl (g4 _)) rfl rfl).trans (by rw[uF,decide_eq_false c2]))
   show Rs.bind _ lA=_
   rw[aL (e':=[some (.d (.int c)),some (.d (.int (m:Int))),some (.d (.str c7)),none,none,none,none]) (bB rfl)]
   refine(congrArg (fun r=>Rs.bind r lA) (qb (w:=.d (dC ((words c m).map S'))) ?_)).trans rfl
   rw[lu hmod,aL (e':=[some (.d (.int c)),some (.d (.int (m:Int))),some (.d (.str c7)),some (.d (.str (S' (iQ c)))),none,none,none]) (bB (aJ rfl (dB (mD rfl hr8) hw8 JZ) hj))]
   rw[aL (dF Qd),cR (bK (dB (mD rfl hrm) hwm hc))]
   rw[dC,List.map_map]
   rfl
 ·obtain⟨n,hn,hn8⟩:=size_of c
  obtain⟨t,ht,ht8⟩:=at_of c n
  have hrn:okR (n:Int):=qO (by omega) (by omega)
  have d4:uh 4:=fc (by decide) (by decide)
  have d32:uh 32:=fc (by decide) (by decide)
  have aax:uh 256:=fc (by decide) (by decide)
  have d7:uh 7:=fc (by decide) (by decide)
  have Y5:dI (.n 2) iB (m2 bz (mV 0) (m2 fJ (m2 cV (m2 cV (m2 jO (mV 1) (mC (.int 32))) (m2 dg (mC (.int 5)) (mV 2))) (m2 dg (mV 2) (mV 2))) (mC (.int 26)))) [some (.d (.str c7)),some (.d (.int c)),none] (dj 0 (n:Int))=.ok ((jj c n).map fun x=>D.str (S' [x])):=by
   rw[jw (fun k=>D.str (S' [pB (c / 32+5 * (k:Int)+(k:Int) * (k:Int))])) n fun k hk=>⟨[some (.d (.str c7)),some (.d (.int c)),some (.d (.int k))],rfl,by
    exact st2 _ _ _ (st1 c k d32 (jC (by decide) (by decide)) (Ow hk hn8)) rfl⟩]
   unfold jj
   rw[List.map_map];rfl
  have hp:rN [some 2,some 0,none] [some (.d (.int c)),some (.d (.int (m:Int))),some (.d (.str c7)),none,some (.d (.int (n:Int))),none,none]=[some (.d (.str c7)),some (.d (.int c)),none]:=rfl
  have hj:=yG (jj c n) (by rw[kj];omega)
  have hwn:(dj 0 (n:Int)).length≤16777216:=by rw[gh];omega
  have hwm:(dj 0 (m:Int)).length≤16777216:=by rw[gh];omega
  have hc:dI (.n 4) iB (m2 cV (m2 cV (ji Rn (mV 0) none (some (mV 2))) (m2 bz (mV 1) (m2 fJ (m2 cV (m2 jO (mV 3) (mC (.int 7))) (m2 dg (mC (.int 5)) (mV 4))) (mC (.int 26))))) (ji Rn (mV 0) (some (mV 2)) none))
   [some (.d (.str (S' (jj c n)))),some (.d (.str c7)),some (.d (.int (t:Int))),some (.d (.int c)),none] (dj 0 (m:Int))=.ok ((words c m).map fun l=>D.str (S' l)):=by
   rw[jw (fun k=>D.str (S' ((jj c n).take t++[pB (c / 7+5 * (k:Int))]++(jj c n).drop t))) m fun k hk=>⟨[some (.d (.str (S' (jj c n)))),some (.d (.str c7)),some (.d (.int (t:Int))),some (.d (.int c)),some (.d (.int k))],rfl,by
    have gS:∀ r:Rs D,aR ((S' (jj c n)).length≤16777216) r=r:=fun r=>au (by rw[lJ,kj];omega)
    have gM:∀ r:Rs D,aR (ug 5 (k:Int)) r=r:=fun r=>au (jC (by decide) (by decide))
    simp only[m2,ji,mV,List.getElem?_cons_zero,nG,List.getElem?_cons_succ,aC,Gx,VF,v9,gS,mC,div_ii,au d7,O8,gM,zp,Ph,g26,yS,Rb,v8]
    rw[au (by rw[lJ,lJ,List.length_take,kj];simp;omega)]
    simp only[Xk,aC,Rb]
    rw[au (by rw[lJ,lJ,List.length_append,List.length_take,List.length_drop,kj];simp;omega)]⟩]
   unfold words
   rw[if_neg c1,List.map_map,hn,ht]
   rfl
  have hmod:cB (m2 DK (m2 fJ (mV 0) (mC (.int 4))) (mC (.int 2))) [some (.d (.int c)),some (.d (.int (m:Int))),some (.d (.str c7)),none,none,none,none]=.ok false :=
   bF ((aJ (aJ rfl rfl (g4 _)) rfl rfl).trans (by rw[Pu,decide_eq_false c1]))
  show Rs.bind _ lA=_
  rw[aL (e':=[some (.d (.int c)),some (.d (.int (m:Int))),some (.d (.str c7)),none,none,none,none]) (bB rfl)]
  rw[aL (dF hmod)]
  rw[aL (e':=[some (.d (.int c)),some (.d (.int (m:Int))),some (.d (.str c7)),none,some (.d (.int (n:Int))),none,none]) (bB (d:=.int (n:Int)) ((aJ (aJ rfl rfl (au d4)) rfl (g8 _)).trans (by rw[hn])))]
  rw[aL (e':=[some (.d (.int c)),some (.d (.int (m:Int))),some (.d (.str c7)),none,some (.d (.int (n:Int))),some (.d (.str (S' (jj c n)))),none]) (bB (aJ rfl (dB (mD rfl hrn) hwn Y5) hj))]
  rw[aL (e':=[some (.d (.int c)),some (.d (.int (m:Int))),some (.d (.str c7)),none,some (.d (.int (n:Int))),some (.d (.str (S' (jj c n)))),some (.d (.int (t:Int)))]) (bB (d:=.int (t:Int)) ((aJ (aJ rfl rfl (au aax)) (aJ rfl rfl rfl) (au (by omega))).trans (by rw[ht])))]
  rw[cR (bK (dB (mD rfl hrm) hwm hc))]
  simp only[aC,R7,dC,List.map_map]
  rfl
end Mr
namespace Mr
open PySem Mi
open My (words mY pX)
theorem Rz(n:Nat)(h:n≤8):okR (n:Int):=qO (by omega) (by omega)
theorem Hq{ls:List Int}{z:Int}(h0:0≤z)(h1:z < ls.length)(hl:ls.length≤100):JB (ls.map D.int) z=.ok (.int (ls.getD z.toNat 0),(ls.eraseIdx z.toNat).map D.int):=by
 have h3:z.toNat < ls.length:=by omega
 unfold JB
 rw[au (by omega),show De (ls.map D.int).length z=some z.toNat by
  unfold De
  rw[if_pos h0,if_pos (by rw[List.length_map];exact h1)],lr,aC,List.getElem?_map,List.getElem?_eq_getElem h3,List.getD_eq_getElem?_getD,List.getElem?_eq_getElem h3]
 show Rs.ok (D.int ls[z.toNat],(ls.map D.int).eraseIdx z.toNat)=_
 have:∀ (l:List Int) (k:Nat),(l.map D.int).eraseIdx k=(l.eraseIdx k).map D.int:=by
  intro l
  induction l with
  | nil=>intro k;rfl
  | cons a r ih =>
   intro k
   cases k with
   | zero=>rfl
   | succ k=>rw[List.map_cons,List.eraseIdx_cons_succ,ih k];rfl
 rw[this];rfl
theorem Fj(e:Mi.Env):mN pC [] e=.ok (.lst []):=by
 show aR (([]:List D).length≤16777216) (Rs.ok (D.lst []))=_
 exact au (by simp)
end Mr
namespace Mr
open PySem Mi
end Mr
namespace Mr
open PySem Mi
abbrev Ix:=Nat×Nat
def gD(p q:Ix):Prop:=p.1 < q.1∨(p.1=q.1∧p.2 < q.2)
def nth(names:List Str)(i:Nat):Str:=names.getD i Str.empty
def arrOf(names:List Str)(p:Ix):Ar:=(nth names p.1,nth names p.2)
structure oE(names:List Str)(A:List Ix)(r:Nat→Int):Prop where
 nd:names.Nodup
 pos:1≤names.length
 le:names.length≤8
 uc:A.Pairwise gD
 all:∀ p∈A,p.1 < names.length∧p.2 < names.length∧r p.1 < r p.2
 al:A.length≤64
theorem qQ{names:List Str}{i:Nat}(h:i < names.length):nth names i∈names:=by
 unfold nth
 rw[List.getD_eq_getElem?_getD,List.getElem?_eq_getElem h]
 exact List.getElem_mem h
theorem ph{names:List Str}(nd:names.Nodup){i j:Nat}(hi:i < names.length)(hj:j < names.length)(h:nth names i=nth names j):i=j:=by
 unfold nth at h
 rw[List.getD_eq_getElem?_getD,List.getElem?_eq_getElem hi,List.getD_eq_getElem?_getD,List.getElem?_eq_getElem hj] at h
 exact(List.getElem_inj nd).mp h
theorem O1{names:List Str}{x:Str}(h:x∈names):∃ i,i < names.length∧nth names i=x:=by
 obtain⟨i,hi,e⟩:=List.getElem_of_mem h
 refine⟨i,hi,?_⟩
 unfold nth
 rw[List.getD_eq_getElem?_getD,List.getElem?_eq_getElem hi];exact e
theorem oE.pU{names:List Str}{A:List Ix}{r:Nat→Int}(N:oE names A r):Net names (A.map (arrOf names)):=by
 refine⟨N.nd,N.pos,N.le,by rw[List.length_map];exact N.al,fun p hp=>?_,fun x=>r (names.idxOf x),fun p hp=>?_⟩
 ·obtain⟨q,hq,rfl⟩:=List.mem_map.mp hp
  exact qQ (N.all q hq).1
 ·obtain⟨q,hq,rfl⟩:=List.mem_map.mp hp
  obtain⟨h1,h2,h3⟩:=N.all q hq
  have key:∀ i,i < names.length→names.idxOf (nth names i)=i:=fun i hi=>by
   have hm:=qQ hi
   have hl:names.idxOf (nth names i) < names.length:=List.idxOf_lt_length_of_mem hm
   refine ph N.nd hl hi ?_
   have h4:names[names.idxOf (nth names i)]=nth names i:=List.getElem_idxOf hl
   show names.getD (names.idxOf (nth names i)) Str.empty=_
   rw[List.getD_eq_getElem?_getD,List.getElem?_eq_getElem hl]
   exact h4
  show r (names.idxOf (nth names q.1)) < r (names.idxOf (nth names q.2))
  rw[key _ h1,key _ h2];exact h3
def good(m:Nat)(r:Nat→Int)(A:List Ix)(j k:Nat):Prop:=A.Pairwise gD∧(∀ p∈A,p.1 < m∧p.2 < m∧r p.1 < r p.2∧(p.1 < j∨(p.1=j∧p.2 < k)))∧A.length≤8 * j+k
theorem good.skip{m:Nat}{r:Nat→Int}{A:List Ix}{j k:Nat}(h:good m r A j k):good m r A j (k+1) :=
 ⟨h.1,fun p hp=>⟨(h.2.1 p hp).1,(h.2.1 p hp).2.1,(h.2.1 p hp).2.2.1,by have:=(h.2.1 p hp).2.2.2;omega⟩,by have:=h.2.2;omega⟩
theorem good.add{m:Nat}{r:Nat→Int}{A:List Ix}{j k:Nat}(h:good m r A j k)(hj:j < m)(hk:k < m)(hr:r j < r k):good m r (A++[(j,k)]) j (k+1):=by
 refine⟨List.pairwise_append.mpr ⟨h.1,List.pairwise_singleton _ _,fun p hp q hq=>?_⟩,fun p hp=>?_,by rw[List.length_append];have:=h.2.2;simp;omega⟩
 ·have:q=(j,k):=by simpa using hq
  subst this
  have:=(h.2.1 p hp).2.2.2
  exact this
 ·rcases List.mem_append.mp hp with hp|hp
  ·exact(h.skip.2.1 p hp)
  ·have:p=(j,k):=by simpa using hp
   subst this
   exact⟨hj,hk,hr,.inr ⟨rfl,by omega⟩⟩
theorem good.next{m:Nat}{r:Nat→Int}{A:List Ix}{j k:Nat}(h:good m r A j k)(hk:k≤8):good m r A (j+1) 0 :=
 ⟨h.1,fun p hp=>⟨(h.2.1 p hp).1,(h.2.1 p hp).2.1,(h.2.1 p hp).2.2.1,by have:=(h.2.1 p hp).2.2.2;omega⟩,by have:=h.2.2;omega⟩
def tW(names:List Str)(A:List Ix):D:=.lst ((A.map (arrOf names)).map pairD)
theorem Vv{a:Int}(h0:0≤a)(h1:a < 8):-(2 ^ 64) < a∧a < 2 ^ 64∧0≤a * (a - 1) / 2∧a * (a - 1) / 2≤21:=by
 have:a=0∨a=1∨a=2∨a=3∨a=4∨a=5∨a=6∨a=7:=by omega
 rcases this with h|h|h|h|h|h|h|h<;>subst h<;>decide
end Mr
namespace Mr
open PySem Mi
open My (words mY pX)
theorem uG(ns:List Int)(k:Nat)(hk:k≤100):∃ c:Int,eU [.d (.lst (ns.map D.int)),.d (.int (k:Int))]=.ok (.d (.int c)):=by
 unfold eU Gk
 rw[Qj]
 have hl:mN fX [mV 0] [some (.d (.lst (ns.map D.int))),some (.d (.int (k:Int))),none]=.ok (.int (ns.length:Int)):=by show Rs.ok (D.int ((ns.map D.int).length:Int))=_;rw[List.length_map]
 have c1:cB (m2 DK (mV 1) (mN fX [(mV 0)])) [some (.d (.lst (ns.map D.int))),some (.d (.int (k:Int))),none]=.ok (decide ((k:Int) < (ns.length:Int))):=bF (aJ rfl hl rfl)
 by_cases h:(k:Int) < (ns.length:Int)
 ·rw[decide_eq_true h] at c1
  exact⟨_,by
   rw[show ([some (W.d (.lst (ns.map D.int))),some (.d (.int (k:Int)))]++List.replicate (3 - 2) none)=[some (.d (.lst (ns.map D.int))),some (.d (.int (k:Int))),none] from rfl]
   rw[qb ((lu c1).trans (cR (bK (aJ rfl rfl (wX (by omega) h)))))];rfl⟩
 ·rw[decide_eq_false h] at c1
  have s1:cG 2 (m2 cV (mC (.int 30011)) (m2 dg (m2 dg (mC (.int 709)) (mV 1)) (mV 1))) [some (.d (.lst (ns.map D.int))),some (.d (.int (k:Int))),none]=.ok (.nx [some (.d (.lst (ns.map D.int))),some (.d (.int (k:Int))),some (.d (.int (30011+709 * (k:Int) * (k:Int))))]) :=
   bB (aJ rfl (aJ (aJ rfl rfl (au (jC (by decide) (by decide)))) rfl (au (Cz (by omega) (by omega)))) rfl)
  have hl2:mN fX [mV 0] [some (.d (.lst (ns.map D.int))),some (.d (.int (k:Int))),some (.d (.int (30011+709 * (k:Int) * (k:Int))))]=.ok (.int (ns.length:Int)):=by show Rs.ok (D.int ((ns.map D.int).length:Int))=_;rw[List.length_map]
  have c2:cB (m2 dGt (mN fX [(mV 0)]) (mC (.int 0))) [some (.d (.lst (ns.map D.int))),some (.d (.int (k:Int))),some (.d (.int (30011+709 * (k:Int) * (k:Int))))]=.ok (decide ((0:Int) < (ns.length:Int))):=bF (aJ hl2 rfl rfl)
  by_cases h0:(0:Int) < (ns.length:Int)
  ·rw[decide_eq_true h0] at c2
   refine⟨_,by
    rw[show ([some (W.d (.lst (ns.map D.int))),some (.d (.int (k:Int)))]++List.replicate (3 - 2) none)=[some (.d (.lst (ns.map D.int))),some (.d (.int (k:Int))),none] from rfl]
    rw[aL ((dF c1).trans rfl),aL s1,aL ((lu c2).trans (bB (aJ rfl (aJ (aJ (aJ rfl rfl (wX (by decide) h0)) rfl (au (by decide))) (aJ (aJ (aJ rfl rfl (au (jC (by omega) (by omega)))) (aJ rfl rfl (au (jC (by decide) (by decide)))) rfl) rfl rfl) (au (jC ?_ ?_))) rfl)))]
    rfl⟩
   ·have:=Int.emod_nonneg (ns.getD (0:Int).toNat 0) (b:=99991) (by decide);omega
   ·have:=Int.emod_lt_of_pos (ns.getD (0:Int).toNat 0) (b:=99991) (by decide);omega
  ·rw[decide_eq_false h0] at c2
   exact⟨_,by
    rw[show ([some (W.d (.lst (ns.map D.int))),some (.d (.int (k:Int)))]++List.replicate (3 - 2) none)=[some (.d (.lst (ns.map D.int))),some (.d (.int (k:Int))),none] from rfl]
    rw[aL ((dF c1).trans rfl),aL s1,aL ((dF c2).trans rfl)]
    rfl⟩
theorem KN(d:Int)(m:Nat)(hm:m≤8):∃ rs:List Int,jJ [.d (.int d),.d (.int (m:Int))]=.ok (.d (.lst (rs.map D.int)))∧rs.length=m:=by
 unfold jJ wj
 rw[Qi]
 have hw:(dj 0 (m:Int)).length≤16777216:=by rw[gh];omega
 have hc:dI (.n 0) iB (mV 0) [none] (dj 0 (m:Int))=.ok ((List.range m).map fun (k:Nat)=>D.int (k:Int)) :=
  jw (fun k=>D.int (k:Int)) m fun k _=>⟨[some (.d (.int k))],rfl,rfl⟩
 have hr:((List.range m).map fun (k:Nat)=>D.int (k:Int))=((List.range m).map fun (k:Nat)=>(k:Int)).map D.int:=by rw[List.map_map];rfl
 rw[hr] at hc
 obtain⟨e',h1,h2⟩:=fV (tg:=.n 5) (body:=bj (cG 4 (m2 fJ (m2 cV (m2 cV (m2 dg (mV 4) (mC (.int 48271))) (m2 dg (mC (.int 7)) (mV 5))) (mC (.int 1))) (mC (.int 2147483647)))) (oU 3 2 (m2 fJ (m2 jO (mV 4) (mC (.int 32))) (mN fX [(mV 2)]))))
  (fun i e=>∃ (x:Int) (ls rs:List Int) (o:Option W),e=[some (.d (.int d)),some (.d (.int (m:Int))),some (.d (.lst (ls.map D.int))),some (.d (.lst (rs.map D.int))),some (.d (.int x)),o]∧ls.length+i=m∧rs.length=i) (dj 0 (m:Int)) 0 (fun i x e hx ⟨x0,ls,rs,o,he,hl,hrs⟩=>by
   obtain⟨hi,rfl⟩:=tU hx
   subst he
   rw[Nat.zero_add] at hl hrs
   have hpos:(0:Int) < (ls.length:Int):=by omega
   obtain⟨y,hy⟩ : ∃ y,y=(x0 * 48271+7 * (i:Int)+1) % 2147483647:=⟨_,rfl⟩
   have z1:=Int.emod_nonneg (y / 32) (b:=(ls.length:Int)) (by omega)
   have z2:=Int.emod_lt_of_pos (y / 32) hpos
   refine⟨[some (.d (.int d)),some (.d (.int (m:Int))),some (.d (.lst (ls.map D.int))),some (.d (.lst (rs.map D.int))),some (.d (.int x0)),some (.d (.int (i:Int)))],[some (.d (.int d)),some (.d (.int (m:Int))),some (.d (.lst ((ls.eraseIdx (y / 32 % (ls.length:Int)).toNat).map D.int))),some (.d (.lst ((rs++[ls.getD (y / 32 % (ls.length:Int)).toNat 0]).map D.int))),some (.d (.int y)),some (.d (.int (i:Int)))],rfl,?_,y,ls.eraseIdx (y / 32 % (ls.length:Int)).toNat,rs++[ls.getD (y / 32 % (ls.length:Int)).toNat 0],some (.d (.int (i:Int))),rfl,?_,?_⟩
   ·have h0:m2 fJ (m2 jO (mV 4) (mC (.int 32))) (mN fX [(mV 2)]) [some (.d (.int d)),some (.d (.int (m:Int))),some (.d (.lst (ls.map D.int))),some (.d (.lst (rs.map D.int))),some (.d (.int y)),some (.d (.int (i:Int)))]=.ok (.int (y / 32 % (ls.length:Int))) :=
     aJ (x:=.int (y / 32)) (y:=.int (ls.length:Int)) (aJ rfl rfl (au (fc (by decide) (by decide)))) (by show Rs.ok (D.int ((ls.map D.int).length:Int))=_;rw[List.length_map]) (au hpos)
    rw[aL (e':=[some (.d (.int d)),some (.d (.int (m:Int))),some (.d (.lst (ls.map D.int))),some (.d (.lst (rs.map D.int))),some (.d (.int y)),some (.d (.int (i:Int)))])]
    ·unfold oU
     rw[h0]
     simp only[aC,Gx,getL,List.getElem?_cons_succ,List.getElem?_cons_zero,Hq z1 z2 (by omega),putL,List.set_cons_succ,List.set_cons_zero]
     rw[au (by rw[List.length_map];omega),List.map_append]
     rfl
    ·rw[hy]
     exact bB (aJ (aJ (aJ (aJ rfl rfl (au (Cz (by decide) (by decide)))) (aJ rfl rfl (au (jC (by decide) (by decide)))) rfl) rfl rfl) rfl (au (by decide)))
   ·rw[List.length_eraseIdx_of_lt (by omega)];omega
   ·rw[List.length_append,hrs];simp) [some (.d (.int d)),some (.d (.int (m:Int))),some (.d (.lst (((List.range m).map fun (k:Nat)=>(k:Int)).map D.int))),some (.d (.lst [])),some (.d (.int (d % 2147483647))),none] ⟨_,_,[],none,rfl,by simp,rfl⟩
 obtain⟨d2,ls,rs,o,he,hl,hrs⟩:=h2
 subst he
 rw[gh,Nat.zero_add] at hl hrs
 refine⟨rs,?_,hrs⟩
 rw[aL (e':=[some (.d (.int d)),some (.d (.int (m:Int))),some (.d (.lst (((List.range m).map fun (k:Nat)=>(k:Int)).map D.int))),none,none,none]) (bB (dB (mD rfl (Rz m hm)) hw hc))]
 rw[aL (e':=[some (.d (.int d)),some (.d (.int (m:Int))),some (.d (.lst (((List.range m).map fun (k:Nat)=>(k:Int)).map D.int))),some (.d (.lst [])),none,none]) (bB (Fj _))]
 rw[aL (e':=[some (.d (.int d)),some (.d (.int (m:Int))),some (.d (.lst (((List.range m).map fun (k:Nat)=>(k:Int)).map D.int))),some (.d (.lst [])),some (.d (.int (d % 2147483647))),none]) (bB (aJ rfl rfl (au (by decide))))]
 rw[aL ((gf (mD rfl (Rz m hm))).trans h1)]
 rfl
end Mr
namespace Mr
open PySem Mi
open My (words mY pX)
theorem QJ(ns:List Int){e:Mi.Env}{j k:Nat}(hj:j < 8)(hk:k < 8)(e0:mV 0 e=.ok (.lst (ns.map D.int)))(e7:mV 7 e=.ok (.int (j:Int)))(e8:mV 8 e=.ok (.int (k:Int))):∃ c:Int,(aW eU [(wD (mV 0)),(wD (m2 cV (m2 cV (mC (.int 4)) (m2 jO (m2 dg (mN vJ [(mV 7),(mV 8)]) (m2 Dj (mN vJ [(mV 7),(mV 8)]) (mC (.int 1)))) (mC (.int 2)))) (mN Gp [(mV 7),(mV 8)])))]) e=.ok (.int c):=by
 have hx:mN vJ [(mV 7),(mV 8)] e=.ok (.int (max (j:Int) (k:Int))):=(JK e7 e8).trans (Wm _ _)
 have hn:mN Gp [(mV 7),(mV 8)] e=.ok (.int (min (j:Int) (k:Int))):=(JK e7 e8).trans (Wl _ _)
 obtain⟨t1,t2,t3,t4⟩:=Vv (a:=max (j:Int) (k:Int)) (by omega) (by omega)
 obtain⟨z,hz⟩ : ∃ z:Nat,4+max (j:Int) (k:Int) * (max (j:Int) (k:Int) - 1) / 2+min (j:Int) (k:Int)=(z:Int):=⟨(4+max (j:Int) (k:Int) * (max (j:Int) (k:Int) - 1) / 2+min (j:Int) (k:Int)).toNat,by omega⟩
 obtain⟨c,hc⟩:=uG ns z (by omega)
 refine⟨c,call2 (bK e0) (bK (aJ (aJ rfl (aJ (aJ hx (aJ hx rfl rfl) (au (jC t1 t2))) rfl (au (fc (by decide) (by decide)))) rfl) hn rfl)) ?_⟩
 rw[hz];exact hc
theorem O6(ns:List Int)(hi:Nat)(h0:1≤hi)(h2:hi≤8) :
 ∃ names A r,nA [.d (.lst (ns.map D.int)),.d (.int (hi:Int))]=.ok (.d (aY names (A.map (arrOf names))))∧oE names A r∧∃ (c:Int) (m:Nat),m≤8∧names=(words c m).map S':=by
 obtain⟨c0,hc0⟩:=uG ns 0 (by decide)
 obtain⟨c1,hc1⟩:=uG ns 1 (by decide)
 obtain⟨c2,hc2⟩:=uG ns 2 (by decide)
 obtain⟨c3,hc3⟩:=uG ns 3 (by decide)
 have hw:(0:Int) < (hi:Int):=by omega
 have q1:=Int.emod_nonneg c0 (b:=(hi:Int)) (by omega)
 have q2:=Int.emod_lt_of_pos c0 hw
 obtain⟨m,hm⟩ : ∃ m:Nat,1+c0 % (hi:Int)=(m:Int):=⟨(1+c0 % (hi:Int)).toNat,by omega⟩
 have hm1:1≤m:=by omega
 have hm2:m≤hi:=by omega
 have hm8:m≤8:=by omega
 obtain⟨names,hnm⟩ : ∃ names,names=(words c1 m).map S':=⟨_,rfl⟩
 have hn:=Mx c1 m hm8
 rw[← hnm] at hn
 have hnl:names.length=m:=by rw[hnm,List.length_map];exact mY c1 m
 have hnd:names.Nodup:=by rw[hnm];exact List.Pairwise.map _ (fun a b h z=>h (Xj z)) (pX _ _ hm8)
 obtain⟨rs,hr,hrl⟩:=KN c2 m hm8
 have q3:=Int.emod_nonneg c3 (b:=6) (by decide)
 have q4:=Int.emod_lt_of_pos c3 (b:=6) (by decide)
 obtain⟨th,hth⟩ : ∃ th,bz (.lst ([4,1,2,3,2,3].map D.int)) (.int (c3 % 6))=.ok (.int th):=⟨_,wX q3 (by simp;omega)⟩
 have hrx:∀ i:Nat,i < m→bz (.lst (rs.map D.int)) (.int (i:Int))=.ok (.int (rs.getD i 0)):=fun i hi=>by
  have:=wX (cs:=rs) (i:=(i:Int)) (by omega) (by omega)
  rwa [Int.toNat_natCast] at this
 have hnx:∀ i:Nat,i < m→bz (dC names) (.int (i:Int))=.ok (.str (nth names i)):=fun i hi=>by
  have:=S8 (cs:=names) (i:=(i:Int)) (by omega) (by omega)
  rwa [Int.toNat_natCast] at this
 have inner:∀ (j:Nat) (A:List Ix) (o8 o9:Option W),j < m→good m (fun i=>rs.getD i 0) A j 0→∃ (A':List Ix) (p8 p9:Option W),uB (.n 8) (bj (cG 9 (aW eU [(wD (mV 0)),(wD (m2 cV (m2 cV (mC (.int 4)) (m2 jO (m2 dg (mN vJ [(mV 7),(mV 8)]) (m2 Dj (mN vJ [(mV 7),(mV 8)]) (mC (.int 1)))) (mC (.int 2)))) (mN Gp [(mV 7),(mV 8)])))])) (iM (n6 (cB (m2 DK (m2 bz (mV 4) (mV 7)) (m2 bz (mV 4) (mV 8)))) (cB (m2 DK (m2 fJ (m2 jO (m2 fJ (m2 dg (mV 9) (mC (.int 48271))) (mC (.int 2147483647))) (mC (.int 16))) (mC (.int 4))) (mV 5)))) (dH 6 (mN dTup [(m2 bz (mV 3) (mV 7)),(m2 bz (mV 3) (mV 8))])) bG)) (dj 0 (m:Int)) [some (.d (.lst (ns.map D.int))),some (.d (.int (hi:Int))),some (.d (.int (m:Int))),some (.d (dC names)),some (.d (.lst (rs.map D.int))),some (.d (.int th)),some (.d (tW names A)),some (.d (.int (j:Int))),o8,o9]=.ok (.nx [some (.d (.lst (ns.map D.int))),some (.d (.int (hi:Int))),some (.d (.int (m:Int))),some (.d (dC names)),some (.d (.lst (rs.map D.int))),some (.d (.int th)),some (.d (tW names A')),some (.d (.int (j:Int))),p8,p9])∧good m (fun i=>rs.getD i 0) A' (j+1) 0:=by
  intro j A o8 o9 hj hg
  obtain⟨e',f1,A',p8,p9,he,hg'⟩:=fV (tg:=.n 8) (body:=(bj (cG 9 (aW eU [(wD (mV 0)),(wD (m2 cV (m2 cV (mC (.int 4)) (m2 jO (m2 dg (mN vJ [(mV 7),(mV 8)]) (m2 Dj (mN vJ [(mV 7),(mV 8)]) (mC (.int 1)))) (mC (.int 2)))) (mN Gp [(mV 7),(mV 8)])))])) (iM (n6 (cB (m2 DK (m2 bz (mV 4) (mV 7)) (m2 bz (mV 4) (mV 8)))) (cB (m2 DK (m2 fJ (m2 jO (m2 fJ (m2 dg (mV 9) (mC (.int 48271))) (mC (.int 2147483647))) (mC (.int 16))) (mC (.int 4))) (mV 5)))) (dH 6 (mN dTup [(m2 bz (mV 3) (mV 7)),(m2 bz (mV 3) (mV 8))])) bG))) (fun k e=>∃ (A:List Ix) (o8 o9:Option W),e=[some (.d (.lst (ns.map D.int))),some (.d (.int (hi:Int))),some (.d (.int (m:Int))),some (.d (dC names)),some (.d (.lst (rs.map D.int))),some (.d (.int th)),some (.d (tW names A)),some (.d (.int (j:Int))),o8,o9]∧good m (fun i=>rs.getD i 0) A j k)
   (dj 0 (m:Int)) 0 (fun k x e hx ⟨A,o8,o9,he,hg⟩=>by
    obtain⟨hk,rfl⟩:=tU hx
    subst he
    rw[Nat.zero_add] at hg
    obtain⟨c,hc⟩:=QJ ns (e:=[some (.d (.lst (ns.map D.int))),some (.d (.int (hi:Int))),some (.d (.int (m:Int))),some (.d (dC names)),some (.d (.lst (rs.map D.int))),some (.d (.int th)),some (.d (tW names A)),some (.d (.int (j:Int))),some (.d (.int (k:Int))),o9]) (j:=j) (k:=k) (by omega) (by omega) rfl rfl rfl
    have c1:cB (m2 DK (m2 bz (mV 4) (mV 7)) (m2 bz (mV 4) (mV 8))) [some (.d (.lst (ns.map D.int))),some (.d (.int (hi:Int))),some (.d (.int (m:Int))),some (.d (dC names)),some (.d (.lst (rs.map D.int))),some (.d (.int th)),some (.d (tW names A)),some (.d (.int (j:Int))),some (.d (.int (k:Int))),some (.d (.int c))]=.ok (decide (rs.getD j 0 < rs.getD k 0)):=bF (aJ (aJ rfl rfl (hrx j hj)) (aJ rfl rfl (hrx k hk)) rfl)
    have c2:cB (m2 DK (m2 fJ (m2 jO (m2 fJ (m2 dg (mV 9) (mC (.int 48271))) (mC (.int 2147483647))) (mC (.int 16))) (mC (.int 4))) (mV 5)) [some (.d (.lst (ns.map D.int))),some (.d (.int (hi:Int))),some (.d (.int (m:Int))),some (.d (dC names)),some (.d (.lst (rs.map D.int))),some (.d (.int th)),some (.d (tW names A)),some (.d (.int (j:Int))),some (.d (.int (k:Int))),some (.d (.int c))]=.ok (decide (c * 48271 % 2147483647 / 16 % 4 < th)):=bF (aJ (aJ (aJ (aJ (aJ rfl rfl (au (Cz (by decide) (by decide)))) rfl (au (by decide))) rfl (au (fc (by decide) (by decide)))) rfl (au (by decide))) rfl rfl)
    by_cases hb:rs.getD j 0 < rs.getD k 0∧c * 48271 % 2147483647 / 16 % 4 < th
    ·refine⟨[some (.d (.lst (ns.map D.int))),some (.d (.int (hi:Int))),some (.d (.int (m:Int))),some (.d (dC names)),some (.d (.lst (rs.map D.int))),some (.d (.int th)),some (.d (tW names A)),some (.d (.int (j:Int))),some (.d (.int (k:Int))),o9],[some (.d (.lst (ns.map D.int))),some (.d (.int (hi:Int))),some (.d (.int (m:Int))),some (.d (dC names)),some (.d (.lst (rs.map D.int))),some (.d (.int th)),some (.d (tW names (A++[(j,k)]))),some (.d (.int (j:Int))),some (.d (.int (k:Int))),some (.d (.int c))],rfl,?_,A++[(j,k)],some (.d (.int (k:Int))),some (.d (.int c)),rfl,by rw[Nat.zero_add];exact hg.add hj hk hb.1⟩
     rw[aL (e':=[some (.d (.lst (ns.map D.int))),some (.d (.int (hi:Int))),some (.d (.int (m:Int))),some (.d (dC names)),some (.d (.lst (rs.map D.int))),some (.d (.int th)),some (.d (tW names A)),some (.d (.int (j:Int))),some (.d (.int (k:Int))),some (.d (.int c))]) (bB hc)]
     rw[lu (by unfold n6;rw[c1,aC,decide_eq_true hb.1,if_pos rfl,c2,decide_eq_true hb.2])]
     rw[vM (d:=pairD (nth names j,nth names k)) (ds:=(A.map (arrOf names)).map pairD) (fO (aJ rfl rfl (hnx j hj)) (aJ rfl rfl (hnx k hk))) rfl (by rw[List.length_map,List.length_map];have:=hg.2.2;omega)]
     show Rs.ok (Out.nx [_,_,_,_,_,_,some (W.d (D.lst ((A.map (arrOf names)).map pairD++[pairD (nth names j,nth names k)]))),_,_,_])=_
     rw[tW,List.map_append,List.map_append];rfl
    ·refine⟨[some (.d (.lst (ns.map D.int))),some (.d (.int (hi:Int))),some (.d (.int (m:Int))),some (.d (dC names)),some (.d (.lst (rs.map D.int))),some (.d (.int th)),some (.d (tW names A)),some (.d (.int (j:Int))),some (.d (.int (k:Int))),o9],[some (.d (.lst (ns.map D.int))),some (.d (.int (hi:Int))),some (.d (.int (m:Int))),some (.d (dC names)),some (.d (.lst (rs.map D.int))),some (.d (.int th)),some (.d (tW names A)),some (.d (.int (j:Int))),some (.d (.int (k:Int))),some (.d (.int c))],rfl,?_,A,some (.d (.int (k:Int))),some (.d (.int c)),rfl,by rw[Nat.zero_add];exact hg.skip⟩
     rw[aL (e':=[some (.d (.lst (ns.map D.int))),some (.d (.int (hi:Int))),some (.d (.int (m:Int))),some (.d (dC names)),some (.d (.lst (rs.map D.int))),some (.d (.int th)),some (.d (tW names A)),some (.d (.int (j:Int))),some (.d (.int (k:Int))),some (.d (.int c))]) (bB hc)]
     rw[dF (by
      unfold n6
      rw[c1,aC]
      by_cases hb1:rs.getD j 0 < rs.getD k 0
      ·rw[decide_eq_true hb1,if_pos rfl,c2,decide_eq_false fun z=>hb ⟨hb1,z⟩]
      ·rw[decide_eq_false hb1,if_neg Bool.false_ne_true])]
     rfl) _ ⟨A,o8,o9,rfl,hg⟩
  subst he
  rw[gh,Nat.zero_add] at hg'
  exact⟨A',p8,p9,f1,hg'.next hm8⟩
 obtain⟨e',f1,A,p7,p8,p9,he,hg⟩:=fV (tg:=.n 7) (body:=(jR (gF (mV 2)) (.n 8) (bj (cG 9 (aW eU [(wD (mV 0)),(wD (m2 cV (m2 cV (mC (.int 4)) (m2 jO (m2 dg (mN vJ [(mV 7),(mV 8)]) (m2 Dj (mN vJ [(mV 7),(mV 8)]) (mC (.int 1)))) (mC (.int 2)))) (mN Gp [(mV 7),(mV 8)])))])) (iM (n6 (cB (m2 DK (m2 bz (mV 4) (mV 7)) (m2 bz (mV 4) (mV 8)))) (cB (m2 DK (m2 fJ (m2 jO (m2 fJ (m2 dg (mV 9) (mC (.int 48271))) (mC (.int 2147483647))) (mC (.int 16))) (mC (.int 4))) (mV 5)))) (dH 6 (mN dTup [(m2 bz (mV 3) (mV 7)),(m2 bz (mV 3) (mV 8))])) bG)))) (fun j e=>∃ (A:List Ix) (o7 o8 o9:Option W),e=[some (.d (.lst (ns.map D.int))),some (.d (.int (hi:Int))),some (.d (.int (m:Int))),some (.d (dC names)),some (.d (.lst (rs.map D.int))),some (.d (.int th)),some (.d (tW names A)),o7,o8,o9]∧good m (fun i=>rs.getD i 0) A j 0)
  (dj 0 (m:Int)) 0 (fun j x e hx ⟨A,o7,o8,o9,he,hg⟩=>by
   obtain⟨hj,rfl⟩:=tU hx
   subst he
   rw[Nat.zero_add] at hg
   obtain⟨A',p8,p9,f1,hg'⟩:=inner j A o8 o9 hj hg
   exact⟨_,_,rfl,(gf (mD rfl (Rz m hm8))).trans f1,A',_,p8,p9,rfl,by rw[Nat.zero_add];exact hg'⟩)
  [some (.d (.lst (ns.map D.int))),some (.d (.int (hi:Int))),some (.d (.int (m:Int))),some (.d (dC names)),some (.d (.lst (rs.map D.int))),some (.d (.int th)),some (.d (.lst [])),none,none,none] ⟨[],none,none,none,rfl,List.Pairwise.nil,fun p hp=>absurd hp (by simp),Nat.zero_le _⟩
 subst he
 rw[gh,Nat.zero_add] at hg
 refine⟨names,A,fun i=>rs.getD i 0,?_,⟨hnd,by omega,by omega,hg.1,fun p hp=>?_,by have:=hg.2.2;omega⟩,c1,m,hm8,hnm⟩
 ·unfold nA Bg
  rw[Qj]
  rw[show ((0:Nat):Int)=0 from rfl] at hc0
  rw[show ((1:Nat):Int)=1 from rfl] at hc1
  rw[show ((2:Nat):Int)=2 from rfl] at hc2
  rw[show ((3:Nat):Int)=3 from rfl] at hc3
  rw[aL (e':=[some (.d (.lst (ns.map D.int))),some (.d (.int (hi:Int))),some (.d (.int (m:Int))),none,none,none,none,none,none,none]) (bB (d:=.int (m:Int)) ((aJ rfl (aJ (call2 rfl rfl hc0) rfl (au hw)) rfl).trans (by rw[zp,hm])))]
  rw[aL (e':=[some (.d (.lst (ns.map D.int))),some (.d (.int (hi:Int))),some (.d (.int (m:Int))),some (.d (dC names)),none,none,none,none,none,none]) (bB (call2 (bK (call2 rfl rfl hc1)) rfl hn))]
  rw[aL (e':=[some (.d (.lst (ns.map D.int))),some (.d (.int (hi:Int))),some (.d (.int (m:Int))),some (.d (dC names)),some (.d (.lst (rs.map D.int))),none,none,none,none,none]) (bB (call2 (bK (call2 rfl rfl hc2)) rfl hr))]
  have hl6:mN pC [(mC (.int 4)),(mC (.int 1)),(mC (.int 2)),(mC (.int 3)),(mC (.int 2)),(mC (.int 3))] [some (.d (.lst (ns.map D.int))),some (.d (.int (hi:Int))),some (.d (.int (m:Int))),some (.d (dC names)),some (.d (.lst (rs.map D.int))),none,none,none,none,none]=.ok (.lst ([4,1,2,3,2,3].map D.int)):=by
   show aR (([4,1,2,3,2,3].map D.int).length≤16777216) _=_
   exact au (by simp)
  rw[aL (e':=[some (.d (.lst (ns.map D.int))),some (.d (.int (hi:Int))),some (.d (.int (m:Int))),some (.d (dC names)),some (.d (.lst (rs.map D.int))),some (.d (.int th)),none,none,none,none]) (bB (aJ hl6 (aJ (call2 rfl rfl hc3) rfl (au (by decide))) hth))]
  rw[aL (e':=[some (.d (.lst (ns.map D.int))),some (.d (.int (hi:Int))),some (.d (.int (m:Int))),some (.d (dC names)),some (.d (.lst (rs.map D.int))),some (.d (.int th)),some (.d (.lst [])),none,none,none]) (bB (Fj _))]
  rw[aL ((gf (mD rfl (Rz m hm8))).trans f1)]
  rw[cR (bK (fO (x:=eY names) (y:=j8 (A.map (arrOf names))) (jQ (x:=dC names) rfl) (jQ (x:=tW names A) rfl)))]
  rfl
 ·obtain⟨a,b,c,_⟩:=hg.2.1 p hp
  exact⟨by omega,by omega,c⟩
end Mr
namespace Mr
open PySem Mi
end Mr
namespace Mr
open PySem Mi
inductive ZS(ao:List Ar)(x:Str):Str→Prop
 | refl:ZS ao x x
 | step {y z:Str}:ZS ao x y→(y,z)∈ao→ZS ao x z
end Mr
namespace Mr
open PySem Mi
noncomputable def rch (ao:List Ar) (x y:Str):Bool:=@decide (ZS ao x y) (Classical.propDecidable _)
noncomputable def aaA (names:List Str) (ao:List Ar) (x:Str):List Str:=names.filter (rch ao x)
end Mr
namespace Mr
open PySem Mi
noncomputable def hb (names:List Str) (ao:List Ar) (held:List Str) (x:Str):Bool:=(aaA names ao x).any fun y=>decide (y∈held)
end Mr
namespace Mr
open PySem Mi
abbrev Ml:=Str×Str×Str
def eG(t:Ml):D:=.tup [.str t.1,.str t.2.1,.str t.2.2]
theorem zm(ao:List Ar)(p:Ar):((ao.map pairD).any fun e=>cH e (pairD p))=decide (p∈ao):=by
 induction ao with
 | nil=>rfl
 | cons q r ih =>
  rw[List.map_cons,List.any_cons,ih]
  have:cH (pairD q) (pairD p)=decide (q=p):=by
   unfold pairD
   rw[cH,kZ,kZ,kZ,ni,ni]
   obtain⟨a,b⟩:=q
   obtain⟨c,d⟩:=p
   by_cases h1:a=c<;>by_cases h2:b=d<;>simp[h1,h2]
  rw[this]
  by_cases h:q=p
  ·simp[h]
  ·have h2:¬ p=q:=fun z=>h z.symm
   simp[h,h2]
theorem kI:∀ ao:List Ar,cM (ao.map pairD)≤1
 | []=>by simp
 | p::r=>by
  have:=kI r
  rw[List.map_cons,jL]
  have h:(pairD p).dep=1:=by simp[pairD]
  omega
theorem nW(ao:List Ar)(p:Ar):nZ (pairD p) (j8 ao)=.ok (.bl (decide (p∈ao))):=by
 show aR _ _=_
 rw[au (by have:=kI ao;omega),zm]
end Mr
namespace Mr
open PySem Mi
def Rk(ao:List Ar):Prop:=∃ r:Str→Int,∀ p∈ao,r p.1 < r p.2
def Aq(ao:List Ar)(a m b:Str):Bool:=(decide ((a,m)∈ao) && decide ((b,m)∈ao)) && !(decide ((a,b)∈ao) || decide ((b,a)∈ao))
theorem Gf(ao:List Ar)(a m b:Str):Aq ao a m b=Aq ao b m a:=by
 unfold Aq
 rw[Bool.and_comm (decide ((a,m)∈ao)),Bool.or_comm (decide ((a,b)∈ao))]
theorem xf{ao:List Ar}{a m b:Str}:Aq ao a m b=true↔(a,m)∈ao∧(b,m)∈ao∧¬ (a,b)∈ao∧¬ (b,a)∈ao:=by
 unfold Aq
 simp[and_assoc]
def gR(names:List Str)(ao:List Ar):List Ml :=
 (List.range names.length).flatMap fun k=>names.flatMap fun m=>((names.drop (k+1)).filter fun b=>Aq ao (nth names k) m b).map fun b=>(nth names k,m,b)
theorem nq{names:List Str}{ao:List Ar}{a m b:Str}:(a,m,b)∈gR names ao↔∃ k,k < names.length∧a=nth names k∧m∈names∧b∈names.drop (k+1)∧Aq ao a m b=true:=by
 unfold gR
 simp only[List.mem_flatMap,List.mem_map,List.mem_filter,List.mem_range,Prod.mk.injEq]
 constructor
 ·rintro ⟨k,hk,m',hm,b',⟨hb,hc⟩,rfl,rfl,rfl⟩
  exact⟨k,hk,rfl,hm,hb,hc⟩
 ·rintro ⟨k,hk,rfl,hm,hb,hc⟩
  exact⟨k,hk,m,hm,b,⟨hb,hc⟩,rfl,rfl,rfl⟩
theorem gH{α β : Type}{f g:α→List β}:∀ {l:List α},(∀ x∈l,f x=g x)→l.flatMap f=l.flatMap g
 | [],_=>rfl
 | x::r,h=>by rw[List.flatMap_cons,List.flatMap_cons,h x List.mem_cons_self,gH fun y hy=>h y (List.mem_cons_of_mem _ hy)]
theorem Fb{names:List Str}{i j:Nat}(h:i < j)(hj:j < names.length):nth names j∈names.drop (i+1):=by
 refine List.mem_iff_getElem?.mpr ⟨j - (i+1),?_⟩
 rw[List.getElem?_drop,show i+1+(j - (i+1))=j by omega]
 unfold nth
 rw[List.getD_eq_getElem?_getD,List.getElem?_eq_getElem hj];rfl
theorem w5{names:List Str}(nd:names.Nodup){k:Nat}(hk:k < names.length){b:Str}(hb:b∈names.drop (k+1)):b∈names∧nth names k≠b:=by
 obtain⟨i,hi⟩:=List.mem_iff_getElem?.mp hb
 rw[List.getElem?_drop] at hi
 have hl:k+1+i < names.length:=by
  rcases Nat.lt_or_ge (k+1+i) names.length with z|z
  ·exact z
  ·rw[List.getElem?_eq_none z] at hi;cases hi
 have e:b=nth names (k+1+i):=by
  unfold nth
  rw[List.getD_eq_getElem?_getD,hi];rfl
 rw[e]
 exact⟨qQ hl,fun z=>by have:=ph nd hk hl z;omega⟩
end Mr
namespace Mr
open PySem Mi
end Mr
namespace Mr
open PySem Mi
end Mr
namespace Mr
open PySem Mi
def tie(ao:List Ar)(a b:Str):Bool:=decide ((a,b)∈ao) || decide ((b,a)∈ao)
theorem oH{names:List Str}{ao:List Ar}(a b:Str):bT [.d (aY names ao),.d (.str a),.d (.str b)]=.ok (.d (.bl (tie ao a b))):=by
 unfold bT Gj
 rw[Tt]
 have a1:m2 nZ (mN dTup [(mV 1),(mV 2)]) (m2 bz (mV 0) (mC (.int 1))) [some (.d (aY names ao)),some (.d (.str a)),some (.d (.str b))]=.ok (.bl (decide ((a,b)∈ao))):=(aJ (fO rfl rfl) (aJ rfl rfl (Xq _ _)) rfl).trans (nW ao (a,b))
 have a2:m2 nZ (mN dTup [(mV 2),(mV 1)]) (m2 bz (mV 0) (mC (.int 1))) [some (.d (aY names ao)),some (.d (.str a)),some (.d (.str b))]=.ok (.bl (decide ((b,a)∈ao))):=(aJ (fO rfl rfl) (aJ rfl rfl (Xq _ _)) rfl).trans (nW ao (b,a))
 have aa:Pn (m2 nZ (mN dTup [(mV 1),(mV 2)]) (m2 bz (mV 0) (mC (.int 1)))) (m2 nZ (mN dTup [(mV 2),(mV 1)]) (m2 bz (mV 0) (mC (.int 1)))) [some (.d (aY names ao)),some (.d (.str a)),some (.d (.str b))]=.ok (.bl (tie ao a b)):=by
  unfold Pn
  rw[a1,aC]
  show (Xd (.bl _)).bind _=_
  rw[Gy,aC]
  unfold tie
  by_cases h:(a,b)∈ao
  ·rw[decide_eq_true h,if_pos rfl,Bool.true_or]
  ·rw[decide_eq_false h,if_neg Bool.false_ne_true,a2,Bool.false_or]
 exact(congrArg (fun r=>Rs.bind r rT) (cR (bK aa))).trans rfl
end Mr
namespace Mr
open PySem Mi
end Mr
namespace Mr
open PySem Mi
def sw(t:Ml):Ml:=(t.2.2,t.2.1,t.1)
end Mr
namespace Mr
open PySem Mi
theorem uH{a b:C}{e:Mi.Env}{p q:Bool}(ha:a e=.ok p)(hb:p=true→b e=.ok q):n6 a b e=.ok (p && q):=by
 unfold n6;rw[ha,aC]
 cases p with
 | true=>rw[if_pos rfl,hb rfl];rfl
 | false=>rfl
theorem fP{a b:C}{e:Mi.Env}{p q:Bool}(ha:a e=.ok p)(hb:p=false→b e=.ok q):mU a b e=.ok (p || q):=by
 unfold mU;rw[ha,aC]
 cases p with
 | true=>rfl
 | false=>rw[if_neg Bool.false_ne_true,hb rfl];rfl
theorem fW{a:C}{e:Mi.Env}{p:Bool}(ha:a e=.ok p):gJ a e=.ok (!p):=by unfold gJ;rw[ha];rfl
theorem iZ{a b:E}{e:Mi.Env}{p q:Bool}(ha:a e=.ok (.bl p))(hb:p=true→b e=.ok (.bl q)):rA a b e=.ok (.bl (p && q)):=by
 unfold rA;rw[ha,aC,Gy,aC]
 cases p with
 | true=>rw[if_pos rfl,hb rfl];rfl
 | false=>rfl
theorem Pk{a b:E}{e:Mi.Env}{p q:Bool}(ha:a e=.ok (.bl p))(hb:p=false→b e=.ok (.bl q)):Pn a b e=.ok (.bl (p || q)):=by
 unfold Pn;rw[ha,aC,Gy,aC]
 cases p with
 | true=>rfl
 | false=>rw[if_neg Bool.false_ne_true,hb rfl];rfl
theorem Ds{i:Nat}{c:C}{a:E}{e:Mi.Env}{ds:List D}{d:D}{p:Bool}(hc:c e=.ok p)(ha:p=true→a e=.ok d)(hg:getL e i=.ok ds)(hl:ds.length+(if p then [d] else []).length≤16777216)(hs:e.set i (some (.d (.lst ds)))=e) :
 iM c (dH i a) bG e=.ok (.nx (putL e i (ds++if p then [d] else []))):=by
 cases p with
 | true=>rw[lu hc,vM (ha rfl) hg (by simp at hl;omega)];rfl
 | false =>
  rw[dF hc]
  simp only[Bool.false_eq_true,if_false,List.append_nil,putL]
  rw[hs];rfl
theorem O7{f:List D→Rs D}{a b c:E}{e:Mi.Env}{x y z:D}(h:a e=.ok x)(h':b e=.ok y)(h'':c e=.ok z):mN f [a,b,c] e=f [x,y,z]:=by unfold mN;rw[iK,h,aC,iK,h',aC,iK,h''];rfl
theorem M9{f:D→Option Int→Option Int→Rs D}{a b:E}{e:Mi.Env}{x:D}{i:Int}(h:a e=.ok x)(h':b e=.ok (.int i)):ji f a (some b) none e=f x (some i) none:=by unfold ji;rw[h,aC,show nG (some b) e=.ok (some i) from by rw[nG,h'];rfl];rfl
theorem Vz{f:D→Option Int→Option Int→Rs D}{a b:E}{e:Mi.Env}{x:D}{i:Int}(h:a e=.ok x)(h':b e=.ok (.int i)):ji f a none (some b) e=f x none (some i):=by unfold ji;rw[h,aC,show nG (some b) e=.ok (some i) from by rw[nG,h'];rfl];rfl
theorem qu{α : Type}{tg:Tg}{body:S}(f:α→D)(g:α→List D)(St:List D→Mi.Env→Prop):∀ (xs:List α) (acc:List D) (e:Mi.Env),acc.length+(xs.flatMap g).length≤16777216→St acc e →
 (∀ x∈xs,∀ acc e,acc.length+(g x).length≤16777216→St acc e→∃ e1 e2,tg.put (f x) e=.ok e1∧body e1=.ok (.nx e2)∧St (acc++g x) e2) →
 ∃ e',uB tg body (xs.map f) e=.ok (.nx e')∧St (acc++xs.flatMap g) e'
 | [],acc,e,_,h,_=>⟨e,rfl,by simpa using h⟩
 | x::r,acc,e,hl,h,hs=>by
  rw[List.flatMap_cons,List.length_append] at hl
  obtain⟨e1,e2,h1,h2,h3⟩:=hs x List.mem_cons_self acc e (by omega) h
  obtain⟨e',h4,h5⟩:=qu f g St r (acc++g x) e2 (by rw[List.length_append];omega) h3 fun y hy=>hs y (List.mem_cons_of_mem _ hy)
  refine⟨e',?_,by rw[List.flatMap_cons,← List.append_assoc];exact h5⟩
  rw[List.map_cons,uB,h1,aC,h2,aC]
  exact h4
theorem gB{α β γ : Type}(f:β→γ)(g:α→List β):∀ l:List α,(l.flatMap g).map f=l.flatMap fun x=>(g x).map f
 | []=>rfl
 | x::r=>by rw[List.flatMap_cons,List.map_append,gB f g r,List.flatMap_cons]
theorem qw{α β : Type}{g:α→List β}{m:Nat}:∀ {l:List α},(∀ x∈l,(g x).length≤m)→(l.flatMap g).length≤l.length * m
 | [],_=>by simp
 | x::r,h=>by
  have ih:=qw (l:=r) fun y hy=>h y (List.mem_cons_of_mem _ hy)
  have h1:=h x List.mem_cons_self
  rw[List.flatMap_cons,List.length_append,List.length_cons,Nat.add_mul]
  omega
def dD(ao:List Ar):D:=.lst (ao.map pairD)
theorem ju(ao:List Ar)(p:Ar):nZ (pairD p) (dD ao)=.ok (.bl (decide (p∈ao))):=by
 show aR _ _=_
 rw[au (Nat.le_trans (kI ao) (by decide)),zm]
theorem j5(ao:List Ar)(p:Ar):dz (pairD p) (dD ao)=.ok (.bl (!decide (p∈ao))):=by
 show aR _ _=_
 rw[au (Nat.le_trans (kI ao) (by decide)),zm]
theorem tM(names:List Str):rW 0 (names.map D.str)=(List.range names.length).map fun k=>D.tup [.int (k:Nat),.str (nth names k)]:=by
 have key:∀ (ns:List Str) (j:Nat),rW j (ns.map D.str)=(List.range ns.length).map fun k=>D.tup [.int ((j+k:Nat):Int),.str (nth ns k)]:=fun ns=>by
  induction ns with
  | nil=>exact fun _=>rfl
  | cons x r ih =>
   intro j
   rw[List.map_cons,rW,ih,List.length_cons,List.range_succ_eq_map,List.map_cons,List.map_map]
   congr 1
   refine List.map_congr_left fun k _=>?_
   show D.tup [.int ((j+1+k:Nat):Int),_]=D.tup [.int ((j+(k+1):Nat):Int),_]
   rw[show j+1+k=j+(k+1) by omega];rfl
 rw[key names 0]
 refine List.map_congr_left fun k _=>?_
 rw[Nat.zero_add]
theorem Gg{names:List Str}(hn:names.length≤8)(ao:List Ar):(gR names ao).length≤512:=by
 unfold gR
 refine Nat.le_trans (qw (m:=64) fun k _=>?_) (by rw[List.length_range];omega)
 refine Nat.le_trans (qw (m:=8) fun m _=>?_) (by omega)
 rw[List.length_map]
 refine Nat.le_trans (List.length_filter_le _ _) ?_
 rw[List.length_drop];omega
end Mr
namespace Mr
open PySem Mi
structure Nt(names:List Str)(ao:List Ar):Prop where
 nd:names.Nodup
 le:names.length≤8
 al:ao.length≤64
 inn:∀ p∈ao,p.1∈names∧p.2∈names
 rk:Rk ao
end Mr
namespace Mr
open PySem Mi
def uc(names:List Str)(ao:List Ar):List Ar:=names.flatMap fun t=>(names.filter fun h=>decide ((t,h)∈ao)).map fun h=>(t,h)
theorem um{names:List Str}{ao:List Ar}{p:Ar}:p∈uc names ao↔p∈ao∧p.1∈names∧p.2∈names:=by
 obtain⟨a,b⟩:=p
 unfold uc
 simp only[List.mem_flatMap,List.mem_map,List.mem_filter,decide_eq_true_eq,Prod.mk.injEq]
 constructor
 ·rintro ⟨t,ht,h,⟨h1,h2⟩,rfl,rfl⟩
  exact⟨h2,ht,h1⟩
 ·rintro ⟨h1,h2,h3⟩
  exact⟨a,h2,b,⟨h3,h1⟩,rfl,rfl⟩
theorem Js{names:List Str}(hn:names.length≤8)(ao:List Ar):(uc names ao).length≤64:=by
 unfold uc
 refine Nat.le_trans (qw (m:=8) fun t _=>?_) (by omega)
 rw[List.length_map]
 exact Nat.le_trans (List.length_filter_le _ _) hn
end Mr
namespace Mr
open PySem Mi
def sq(k:Bool)(ds:List D):D:=if k then .lst ds else .tup ds
end Mr
namespace Mr
open PySem Mi
theorem uq:∀ a b:List Int,jd a b=true→jd b a=true→False
 | [],[],h,_=>by cases h
 | [],_::_,_,h=>by cases h
 | _::_,[],h,_=>by cases h
 | a::r,b::t,h,k=>by
  rw[jd] at h k
  by_cases e:a=b
  ·subst e
   rw[if_pos (beq_self_eq_true a)] at h k
   exact uq r t h k
  ·rw[if_neg (by simpa using e)] at h
   rw[if_neg (by simpa using Ne.symm e)] at k
   simp at h k;omega
theorem tD{a b:Int}{r t:List Int}(h:a < b):jd (a::r) (b::t)=true:=by
 rw[jd,if_neg (by simp;omega)]
 simpa using h
theorem uo{a:Int}{r t:List Int}:jd (a::r) (a::t)=jd r t:=by
 rw[jd,if_pos (beq_self_eq_true a)]
section
variable{α : Type}(key:α→List Int)
theorem Ah:∀ {a b:List α},(∀ x,x∈a↔x∈b)→a.Pairwise (fun x y=>jd (key x) (key y)=true)→b.Pairwise (fun x y=>jd (key x) (key y)=true)→a=b
 | [],[],_,_,_=>rfl
 | [],y::t,h,_,_=>absurd ((h y).mpr List.mem_cons_self) (by simp)
 | x::r,[],h,_,_=>absurd ((h x).mp List.mem_cons_self) (by simp)
 | x::r,y::t,h,ha,hb=>by
  have ha':=List.pairwise_cons.mp ha
  have hb':=List.pairwise_cons.mp hb
  have e:x=y:=by
   rcases List.mem_cons.mp ((h x).mp List.mem_cons_self) with z|z
   ·exact z
   ·rcases List.mem_cons.mp ((h y).mpr List.mem_cons_self) with z2|z2
    ·exact z2.symm
    ·exact(uq _ _ (hb'.1 x z) (ha'.1 y z2)).elim
  subst e
  have nr:x∉r:=fun z=>uq _ _ (ha'.1 x z) (ha'.1 x z)
  have nt:x∉t:=fun z=>uq _ _ (hb'.1 x z) (hb'.1 x z)
  rw[Ah (a:=r) (b:=t) (fun z=>⟨fun hz=>?_,fun hz=>?_⟩) ha'.2 hb'.2]
  ·rcases List.mem_cons.mp ((h z).mp (List.mem_cons_of_mem _ hz)) with q|q
   ·exact absurd (q ▸ hz) nr
   ·exact q
  ·rcases List.mem_cons.mp ((h z).mpr (List.mem_cons_of_mem _ hz)) with q|q
   ·exact absurd (q ▸ hz) nt
   ·exact q
theorem KZ{kz:List (List Int)}(nd:kz.Nodup):(wI kz kz.length).Perm (List.range kz.length)∧(wI kz kz.length).Pairwise (fun i j=>jd (kz.getD i []) (kz.getD j [])=true):=by
 have O:=So.CN nd
 have e:wI kz kz.length=sortI (So.Sx kz) (List.range kz.length):=by
  unfold wI So.Sx
  congr 1
  funext i j
  exact(So.CP _ _).symm
 rw[e]
 refine⟨So.m7 _ _,(So.p6 O (fun x hx=>by simpa using hx) List.nodup_range).imp fun {i j} h=>?_⟩
 rw[← So.CP];exact h
theorem Kv[Inhabited α](f:α→D){xs ys:List α}(nd:(xs.map key).Nodup)(hm:∀ a,a∈xs↔a∈ys)(hs:ys.Pairwise fun a b=>jd (key a) (key b)=true):sortBy (xs.map key) (xs.map f)=ys.map f:=by
 obtain⟨h1,h2⟩:=KZ nd
 rw[List.length_map] at h1 h2
 have lt:∀ i∈wI (xs.map key) xs.length,i < xs.length:=fun i hi=>by simpa using h1.mem_iff.mp hi
 have gd:∀ i,i < xs.length→∀ (β : Type) (g:α→β) (d:β),(xs.map g).getD i d=g (xs.getD i default):=fun i hi β g d=>by simp[hi]
 have e:sortBy (xs.map key) (xs.map f)=((wI (xs.map key) xs.length).map fun i=>xs.getD i default).map f:=by
  unfold sortBy
  rw[List.length_map,List.map_map]
  exact List.map_congr_left fun i hi=>gd i (lt i hi) _ f _
 have e2 : ((wI (xs.map key) xs.length).map fun i => xs.getD i default) = ys := by
  refine Ah key (fun a=>?_) ?_ hs
  ·rw[← hm a,List.mem_map]
   constructor
   ·rintro ⟨i,hi,rfl⟩
    have:=lt i hi
    rw[List.getD_eq_getElem?_getD,List.getElem?_eq_getElem this]
    exact List.getElem_mem this
   ·intro ha
    obtain⟨i,hi,rfl⟩:=List.getElem_of_mem ha
    exact⟨i,h1.mem_iff.mpr (List.mem_range.mpr hi),by simp[hi]⟩
  ·rw[List.pairwise_map]
   refine h2.imp_of_mem fun {i j} hi hj h=>?_
   rw[gd i (lt i hi) _ key,gd j (lt j hj) _ key] at h
   exact h
 rw[e,e2]
end
theorem uP:∀ l:List Int,rD (l.map D.int)=some l
 | []=>rfl
 | i::r=>by rw[List.map_cons,rD,uP r];rfl
theorem JT{α : Type}{ρ : List Nat}{kf:E}{e:Mi.Env}(f:α→D)(key:α→List Int):∀ {xs:List α},(∀ x∈xs,kf (CT ρ e (f x))=.ok (.lst ((key x).map D.int)))→nJ ρ kf e (xs.map f)=.ok (xs.map key)
 | [],_=>rfl
 | x::r,h=>by
  rw[List.map_cons,nJ,h x List.mem_cons_self,aC,Gw,uP,lr,aC,JT f key fun y hy=>h y (List.mem_cons_of_mem _ hy)]
  rfl
def ky(names row:List Str):List Int:=row.map fun x=>((names.idxOf x:Nat):Int)
theorem Kg(names:List Str):Ui (eY names)=some names:=Gv names
theorem Np{α : Type}[Inhabited α]{names:List Str}{nx:D}(hq:Ui nx=some names)(hn:names.length≤1000)(row:α→List Str){xs ys:List α}(hr:∀ x∈xs,(row x).length≤1000∧∀ y∈row x,y∈names)(h64:xs.length < 64)(nd:(xs.map fun x=>ky names (row x)).Nodup)
 (hm:∀ a,a∈xs↔a∈ys) (hs:ys.Pairwise fun a b=>jd (ky names (row a)) (ky names (row b))=true) :
 bY [.d nx,.d (.lst (xs.map fun x=>.tup ((row x).map D.str)))]=.ok (.d (.lst (ys.map fun x=>.tup ((row x).map D.str)))):=by
 unfold bY rY
 rw[Qi]
 rw[show ([some (W.d nx),some (W.d (.lst (xs.map fun x=>.tup ((row x).map D.str))))]++List.replicate (2 - 2) none)=[some (W.d nx),some (W.d (.lst (xs.map fun x=>.tup ((row x).map D.str))))] from rfl]
 have hk:nJ [0] (d9 [some 1,none] (pN (mV 0)) (.n 1) iB (m2 vG (mV 0) (mV 1))) [some (W.d nx),some (W.d (.lst (xs.map fun x=>.tup ((row x).map D.str))))] (xs.map fun x=>.tup ((row x).map D.str))=.ok (xs.map fun x=>ky names (row x)) :=
  JT (fun x=>.tup ((row x).map D.str)) (fun x=>ky names (row x)) fun x hx=>by
   have hc:dI (.n 1) iB (m2 vG (mV 0) (mV 1)) [some (W.d nx),none] ((row x).map D.str)=.ok (((row x).filter fun _=>true).map fun y=>D.int ((names.idxOf y:Nat):Int)) :=
    dU D.str (fun y=>D.int ((names.idxOf y:Nat):Int)) (fun _=>true) (row x) fun y hy=>⟨[some (W.d nx),some (W.d (.str y))],rfl,rfl,fun _=>aJ (x:=nx) (y:=.str y) rfl rfl (by
     show ((pR (Ui nx)).bind fun ys=>aR (y∈ys∧ys.length≤1000) (Rs.ok (D.int ((ys.idxOf y:Nat):Int))))=_
     rw[hq,lr,aC]
     exact au ⟨(hr x hx).2 y hy,hn⟩)⟩
   have hm:=dB (ρ:=[some 1,none]) (e:=CT [0] [some (W.d nx),some (W.d (.lst (xs.map fun x=>.tup ((row x).map D.str))))] (.tup ((row x).map D.str))) (dZ (a:=mV 0) (x:=.tup ((row x).map D.str)) rfl rfl) (by rw[List.length_map];have:=(hr x hx).1;omega) hc
   rw[hm,List.filter_eq_self.mpr (fun _ _=>rfl)]
   show Rs.ok (D.lst _)=Rs.ok (D.lst ((ky names (row x)).map D.int))
   unfold ky
   rw[List.map_map];rfl
 have hS:CJ [0] (mV 1) (d9 [some 1,none] (pN (mV 0)) (.n 1) iB (m2 vG (mV 0) (mV 1))) [some (W.d nx),some (W.d (.lst (xs.map fun x=>.tup ((row x).map D.str))))]=.ok (.lst (ys.map fun x=>.tup ((row x).map D.str))):=by
  unfold CJ
  rw[show mV 1 [some (W.d nx),some (W.d (.lst (xs.map fun x=>.tup ((row x).map D.str))))]=.ok (.lst (xs.map fun x=>.tup ((row x).map D.str))) from rfl,aC]
  rw[show An (.lst (xs.map fun x=>.tup ((row x).map D.str)))=.ok (xs.map fun x=>.tup ((row x).map D.str)) from rfl,aC,au (by rw[List.length_map];exact h64),hk,aC,au nd,Kv (fun x=>ky names (row x)) _ nd hm hs]
 rw[cR (bK hS)];rfl
theorem Jx{α : Type}[Inhabited α]{names:List Str}(hn:names.length≤1000)(row:α→List Str){xs ys:List α}(hr:∀ x∈xs,(row x).length≤1000∧∀ y∈row x,y∈names)(h64:xs.length < 64)(nd:(xs.map fun x=>ky names (row x)).Nodup)
 (hm:∀ a,a∈xs↔a∈ys) (hs:ys.Pairwise fun a b=>jd (ky names (row a)) (ky names (row b))=true) :
 bY [.d (eY names),.d (.lst (xs.map fun x=>.tup ((row x).map D.str)))]=.ok (.d (.lst (ys.map fun x=>.tup ((row x).map D.str)))):=Np (Kg names) hn row hr h64 nd hm hs
end Mr
namespace Mr
open PySem Mi
def prs(names:List Str):List Ar:=(List.range names.length).flatMap fun k=>(names.drop (k+1)).map fun b=>(nth names k,b)
def Ms(names:List Str)(ao:List Ar)(p:Ar):List Str:=names.filter fun m=>decide ((p.1,m)∈ao) && decide ((p.2,m)∈ao)
def Mu(names:List Str)(ao:List Ar):List Ml:=(prs names).flatMap fun p=>if (!tie ao p.1 p.2)=true then (Ms names ao p).map fun m=>(p.1,m,p.2) else []
theorem jD{names:List Str}{a b:Str}:(a,b)∈prs names↔∃ k,k < names.length∧a=nth names k∧b∈names.drop (k+1):=by
 unfold prs
 simp only[List.mem_flatMap,List.mem_map,List.mem_range,Prod.mk.injEq]
 constructor
 ·rintro ⟨k,hk,b',hb,rfl,rfl⟩;exact⟨k,hk,rfl,hb⟩
 ·rintro ⟨k,hk,rfl,hb⟩;exact⟨k,hk,b,hb,rfl,rfl⟩
theorem JM{names:List Str}{ao:List Ar}(t:Ml):t∈Mu names ao↔t∈gR names ao:=by
 obtain⟨a,m,b⟩:=t
 rw[nq]
 unfold Mu Ms tie Aq
 simp only[List.mem_flatMap]
 constructor
 ·rintro ⟨⟨a',b'⟩,hp,h⟩
  split at h
  ·rename_i ht
   obtain⟨m',hm,e⟩:=List.mem_map.mp h
   cases e
   obtain⟨hm1,hm2⟩:=List.mem_filter.mp hm
   obtain⟨k,hk,e,hb⟩:=jD.mp hp
   exact⟨k,hk,e,hm1,hb,by rw[hm2,ht];rfl⟩
  ·cases h
 ·rintro ⟨k,hk,e,hm,hb,hc⟩
  have hc':=Bool.and_eq_true_iff.mp hc
  refine⟨(a,b),jD.mpr ⟨k,hk,e,hb⟩,?_⟩
  rw[if_pos hc'.2]
  exact List.mem_map.mpr ⟨m,List.mem_filter.mpr ⟨hm,hc'.1⟩,rfl⟩
theorem jY{names:List Str}(nd:names.Nodup){i:Nat}(hi:i < names.length):names.idxOf (nth names i)=i:=by
 have e:nth names i=names[i]:=by unfold nth;rw[List.getD_eq_getElem?_getD,List.getElem?_eq_getElem hi];rfl
 rw[e];exact nd.idxOf_getElem i hi
theorem bR{names:List Str}{x y:Str}(hx:x∈names)(hy:y∈names)(h:names.idxOf x=names.idxOf y):x=y:=by
 have h1:=List.getElem_idxOf (List.idxOf_lt_length_iff.mpr hx)
 have h2:=List.getElem_idxOf (List.idxOf_lt_length_iff.mpr hy)
 rw[← h1,← h2]
 congr 1
theorem yw{names:List Str}(nd:names.Nodup):names.Pairwise fun x y=>names.idxOf x < names.idxOf y:=by
 rw[List.pairwise_iff_getElem]
 intro i j hi hj h
 rw[nd.idxOf_getElem i hi,nd.idxOf_getElem j hj];exact h
theorem yR{names:List Str}(nd:names.Nodup){k:Nat}{b:Str}(hb:b∈names.drop (k+1)):k < names.idxOf b∧b∈names:=by
 obtain⟨i,hi,rfl⟩:=List.getElem_of_mem hb
 rw[List.getElem_drop]
 rw[List.length_drop] at hi
 rw[nd.idxOf_getElem (k+1+i) (by omega)]
 exact⟨by omega,List.getElem_mem _⟩
def tr(t:Ml):List Str:=[t.1,t.2.1,t.2.2]
theorem Gb{names:List Str}(nd:names.Nodup)(ao:List Ar):(gR names ao).Pairwise fun x y=>jd (ky names (tr x)) (ky names (tr y))=true:=by
 unfold gR
 rw[List.pairwise_flatMap]
 refine⟨fun k hk=>?_,List.pairwise_lt_range.imp_of_mem fun {k1 k2} h1 h2 h x hx y hy=>?_⟩
 ·rw[List.pairwise_flatMap]
  refine⟨fun m hm=>?_,(yw nd).imp fun {m1 m2} h x hx y hy=>?_⟩
  ·rw[List.pairwise_map]
   refine((yw nd).sublist (List.Sublist.trans List.filter_sublist (List.drop_sublist _ _))).imp fun {b1 b2} h=>?_
   show jd [_,_,_] [_,_,_]=true
   rw[uo,uo]
   exact tD (Int.ofNat_lt.mpr h)
  ·obtain⟨b1,_,rfl⟩:=List.mem_map.mp hx
   obtain⟨b2,_,rfl⟩:=List.mem_map.mp hy
   show jd [_,_,_] [_,_,_]=true
   rw[uo]
   exact tD (Int.ofNat_lt.mpr h)
 ·obtain⟨m1,_,hx⟩:=List.mem_flatMap.mp hx
  obtain⟨m2,_,hy⟩:=List.mem_flatMap.mp hy
  obtain⟨b1,_,rfl⟩:=List.mem_map.mp hx
  obtain⟨b2,_,rfl⟩:=List.mem_map.mp hy
  have e1:=jY nd (List.mem_range.mp h1)
  have e2:=jY nd (List.mem_range.mp h2)
  exact tD (by show ((names.idxOf (nth names k1):Nat):Int) < ((names.idxOf (nth names k2):Nat):Int);rw[e1,e2];omega)
theorem Oa{names:List Str}(nd:names.Nodup):(prs names).Nodup:=by
 unfold prs
 show List.Pairwise _ _
 rw[List.pairwise_flatMap]
 refine⟨fun k hk=>?_,List.pairwise_lt_range.imp_of_mem fun {k1 k2} h1 h2 h x hx y hy=>?_⟩
 ·rw[List.pairwise_map]
  exact(nd.sublist (List.drop_sublist _ _)).imp fun {b1 b2} h z=>h (by cases z;rfl)
 ·obtain⟨b1,_,rfl⟩:=List.mem_map.mp hx
  obtain⟨b2,_,rfl⟩:=List.mem_map.mp hy
  intro z
  have:=ph nd (List.mem_range.mp h1) (List.mem_range.mp h2) (congrArg Prod.fst z)
  omega
theorem QF{names:List Str}(nd:names.Nodup)(ao:List Ar):(Mu names ao).Nodup:=by
 unfold Mu
 show List.Pairwise _ _
 rw[List.pairwise_flatMap]
 have inn:∀ {p:Ar} {x:Ml},x∈(if (!tie ao p.1 p.2)=true then (Ms names ao p).map fun m=>(p.1,m,p.2) else [])→x.1=p.1∧x.2.2=p.2:=fun {p x} h=>by
  split at h
  ·obtain⟨m,_,rfl⟩:=List.mem_map.mp h;exact⟨rfl,rfl⟩
  ·cases h
 refine⟨fun p hp=>?_,(Oa nd).imp fun {p q} h x hx y hy z=>?_⟩
 ·split
  ·rw[List.pairwise_map]
   exact(nd.sublist List.filter_sublist).imp fun {b1 b2} h z=>h (by cases z;rfl)
  ·exact .nil
 ·subst z
  obtain⟨a1,a2⟩:=inn hx
  obtain⟨b1,b2⟩:=inn hy
  exact h (Prod.ext (a1.symm.trans b1) (a2.symm.trans b2))
theorem yt{α : Type}[DecidableEq α]:∀ {l L:List α},l.Nodup→(∀ x∈l,x∈L)→l.length≤L.length
 | [],_,_,_=>Nat.zero_le _
 | x::r,L,nd,h=>by
  have nd':=List.nodup_cons.mp nd
  have hx:=h x List.mem_cons_self
  have:=yt (l:=r) (L:=L.erase x) nd'.2 fun y hy=>(List.mem_erase_of_ne (fun z:y=x=>nd'.1 (z ▸ hy))).mpr (h y (List.mem_cons_of_mem _ hy))
  rw[List.length_erase_of_mem hx] at this
  have:=List.length_pos_of_mem hx
  rw[List.length_cons];omega
def Xv(names:List Str)(t:Ml):Nat :=
 if names.idxOf t.2.1 < names.idxOf t.1 then names.idxOf t.2.1 * 64+names.idxOf t.1 * 8+names.idxOf t.2.2
 else if names.idxOf t.2.1 < names.idxOf t.2.2 then names.idxOf t.1 * 64+names.idxOf t.2.1 * 8+names.idxOf t.2.2
 else names.idxOf t.1 * 64+names.idxOf t.2.2 * 8+names.idxOf t.2.1
structure CF(names:List Str)(ao:List Ar)(t:Ml):Prop where
 m1:t.1∈names
 m2:t.2.1∈names
 m3:t.2.2∈names
 l1:names.idxOf t.1 < 8
 l2:names.idxOf t.2.1 < 8
 l3:names.idxOf t.2.2 < 8
 up:names.idxOf t.1 < names.idxOf t.2.2
 n1:names.idxOf t.2.1≠names.idxOf t.1
 n2:names.idxOf t.2.1≠names.idxOf t.2.2
 a1:(t.1,t.2.1)∈ao
 a2:(t.2.2,t.2.1)∈ao
 z1:(t.1,t.2.2)∉ao
 z2:(t.2.2,t.1)∉ao
theorem vH{names:List Str}{ao:List Ar}(N:Nt names ao){t:Ml}(h:t∈Mu names ao):CF names ao t:=by
 obtain⟨a,m,b⟩:=t
 obtain⟨k,hk,e,hm,hb,hc⟩:=nq.mp ((JM _).mp h)
 obtain⟨c1,c2,c3,c4⟩:=xf.mp hc
 obtain⟨d1,d2⟩:=yR N.nd hb
 have ha:a∈names:=by rw[e];exact qQ hk
 have ei:names.idxOf a=k:=by rw[e];exact jY N.nd hk
 have hn:=N.le
 obtain⟨r,hr⟩:=N.rk
 have i1:=List.idxOf_lt_length_iff.mpr hm
 have i2:=List.idxOf_lt_length_iff.mpr d2
 refine⟨ha,hm,d2,?_,?_,?_,?_,fun z=>?_,fun z=>?_,c1,c2,c3,c4⟩
 ·show names.idxOf a < 8;omega
 ·show names.idxOf m < 8;omega
 ·show names.idxOf b < 8;omega
 ·show names.idxOf a < names.idxOf b;omega
 ·have:=bR hm ha z
  have:=hr _ c1
  simp only at *
  subst m;omega
 ·have:=bR hm d2 z
  have:=hr _ c2
  simp only at *
  subst m;omega
theorem T8{names:List Str}{ao:List Ar}{t u:Ml}(T:CF names ao t)(U:CF names ao u)(h:Xv names t=Xv names u):t=u:=by
 obtain⟨a,m,b⟩:=t
 obtain⟨a',m',b'⟩:=u
 obtain⟨m1,m2,m3,l1,l2,l3,up,n1,n2,a1,a2,z1,z2⟩:=T
 obtain⟨m1',m2',m3',l1',l2',l3',up',n1',n2',a1',a2',z1',z2'⟩:=U
 unfold Xv at h
 simp only at *
 split at h
 ·split at h
  ·obtain rfl:=bR m1 m1' (by omega)
   obtain rfl:=bR m2 m2' (by omega)
   obtain rfl:=bR m3 m3' (by omega)
   rfl
  ·split at h
   ·obtain rfl:=bR m2 m1' (by omega)
    obtain rfl:=bR m3 m3' (by omega)
    exact absurd a2 z2'
   ·obtain rfl:=bR m2 m1' (by omega)
    obtain rfl:=bR m1 m3' (by omega)
    exact absurd a1 z2'
 ·split at h
  ·split at h
   ·obtain rfl:=bR m1 m2' (by omega)
    obtain rfl:=bR m3 m3' (by omega)
    exact absurd a2' z2
   ·split at h
    ·obtain rfl:=bR m1 m1' (by omega)
     obtain rfl:=bR m2 m2' (by omega)
     obtain rfl:=bR m3 m3' (by omega)
     rfl
    ·obtain rfl:=bR m1 m1' (by omega)
     obtain rfl:=bR m2 m3' (by omega)
     exact absurd a1 z1'
  ·split at h
   ·obtain rfl:=bR m1 m2' (by omega)
    obtain rfl:=bR m3 m1' (by omega)
    exact absurd a1' z2
   ·split at h
    ·obtain rfl:=bR m1 m1' (by omega)
     obtain rfl:=bR m3 m2' (by omega)
     exact absurd a1' z1
    ·obtain rfl:=bR m1 m1' (by omega)
     obtain rfl:=bR m2 m2' (by omega)
     obtain rfl:=bR m3 m3' (by omega)
     rfl
def ZL:List Nat:=(List.range 512).filter fun n=>decide (n / 64 < n / 8 % 8) && decide (n / 8 % 8 < n % 8)
theorem Ua:ZL.length=56:=by decide +kernel
theorem T7{names:List Str}{ao:List Ar}{t:Ml}(T:CF names ao t):Xv names t∈ZL:=by
 obtain⟨m1,m2,m3,l1,l2,l3,up,n1,n2,a1,a2,z1,z2⟩:=T
 have key:∀ x y z:Nat,x < y→y < z→z < 8→x * 64+y * 8+z∈ZL:=fun x y z h1 h2 h3=>by
  refine List.mem_filter.mpr ⟨List.mem_range.mpr (by omega),?_⟩
  have e1:(x * 64+y * 8+z) / 64=x:=by omega
  have e2:(x * 64+y * 8+z) / 8 % 8=y:=by omega
  have e3:(x * 64+y * 8+z) % 8=z:=by omega
  rw[e1,e2,e3];simp[h1,h2]
 unfold Xv
 split
 ·exact key _ _ _ (by omega) (by omega) (by omega)
 ·split
  ·exact key _ _ _ (by omega) (by omega) (by omega)
  ·exact key _ _ _ (by omega) (by omega) (by omega)
theorem J7{names:List Str}{ao:List Ar}(N:Nt names ao):(Mu names ao).length≤56:=by
 have h:((Mu names ao).map (Xv names)).Nodup:=by
  show List.Pairwise _ _
  rw[List.pairwise_map]
  exact List.Pairwise.imp_of_mem (fun {x y} hx hy h z=>h (T8 (vH N hx) (vH N hy) z)) (QF N.nd ao)
 have:=yt h (L:=ZL) fun x hx=>by
  obtain⟨t,ht,rfl⟩:=List.mem_map.mp hx
  exact T7 (vH N ht)
 rw[List.length_map,Ua] at this
 exact this
theorem S7{names:List Str}{ao:List Ar}(N:Nt names ao):((Mu names ao).map fun t=>ky names (tr t)).Nodup:=by
 show List.Pairwise _ _
 rw[List.pairwise_map]
 refine List.Pairwise.imp_of_mem (fun {x y} hx hy h z=>h ?_) (QF N.nd ao)
 have X:=vH N hx
 have Y:=vH N hy
 obtain⟨a,m,b⟩:=x
 obtain⟨a',m',b'⟩:=y
 simp only[ky,tr,List.map_cons,List.map_nil,List.cons.injEq,and_true] at z
 obtain⟨z1,z2,z3⟩:=z
 obtain rfl:=bR X.m1 Y.m1 (by show names.idxOf a=names.idxOf a';omega)
 obtain rfl:=bR X.m2 Y.m2 (by show names.idxOf m=names.idxOf m';omega)
 obtain rfl:=bR X.m3 Y.m3 (by show names.idxOf b=names.idxOf b';omega)
 rfl
theorem Io{names:List Str}{ao:List Ar}(N:Nt names ao):bY [.d (eY names),.d (.lst ((Mu names ao).map eG))]=.ok (.d (.lst ((gR names ao).map eG))) :=
 Jx (by have:=N.le;omega) tr (fun t ht=>⟨by show 3≤1000;omega,fun y hy=>by
  have T:=vH N ht
  simp only[tr,List.mem_cons,List.not_mem_nil,or_false] at hy
  rcases hy with rfl|rfl|rfl
  ·exact T.m1
  ·exact T.m2
  ·exact T.m3⟩) (by have:=J7 N;omega) (S7 N) (fun t=>JM t) (Gb N.nd ao)
end Mr
namespace Mr
open PySem Mi
theorem Ih{i:Nat}{a:E}{e:Mi.Env}{ds xs:List D}(ha:a e=.ok (.lst xs))(hg:getL e i=.ok ds)(hl:ds.length+xs.length≤16777216):lO i a e=.ok (.nx (putL e i (ds++xs))):=by
 unfold lO
 rw[ha,aC,hg,aC]
 exact au hl
theorem Wo{a b:E}{e:Mi.Env}{x y:D}(h:a e=.ok x)(h':b e=.ok y):mN pC [a,b] e=.ok (.lst [x,y]):=by
 unfold mN;rw[iK,h,aC,iK,h',aC];rfl
theorem WT{a:E}{e:Mi.Env}{x:D}(h:a e=.ok x):Jv a e=.ok (.nx e):=by unfold Jv;rw[h];rfl
theorem wB{names:List Str}{ao:List Ar}{a b:Str}(ha:a∈names)(hb:b∈names):dY [.d (aY names ao),.d (.str a),.d (.str b)]=.ok (.d (.bl (tie ao a b))):=by
 unfold dY zc
 rw[Tt]
 rw[show ([some (W.d (aY names ao)),some (W.d (.str a)),some (W.d (.str b))]++List.replicate (3 - 3) none)=[some (W.d (aY names ao)),some (W.d (.str a)),some (W.d (.str b))] from rfl]
 have hr:cU [.d (eY names),.d (dC [a,b])]=.ok (.d .non):=KH fun x hx=>by
  rcases List.mem_cons.mp hx with rfl|hx
  ·exact ha
  ·rw[List.mem_singleton.mp hx];exact hb
 rw[aL (WT (call2 (bK (aJ rfl rfl (Vc _ _))) (bK (Wo rfl rfl)) hr))]
 have aa:Pn (m2 nZ (mN dTup [(mV 1),(mV 2)]) (m2 bz (mV 0) (mC (.int 1)))) (m2 nZ (mN dTup [(mV 2),(mV 1)]) (m2 bz (mV 0) (mC (.int 1)))) [some (.d (aY names ao)),some (.d (.str a)),some (.d (.str b))]=.ok (.bl (tie ao a b)) :=
  Pk (aJ (fO rfl rfl) (aJ rfl rfl (Xq names ao)) (nW ao (a,b))) fun _=>aJ (fO rfl rfl) (aJ rfl rfl (Xq names ao)) (nW ao (b,a))
 rw[cR (bK aa)];rfl
theorem oX{names:List Str}(hn:names.length≤8):(prs names).length≤64:=by
 unfold prs
 refine Nat.le_trans (qw (m:=8) fun k _=>?_) (by rw[List.length_range];omega)
 rw[List.length_map,List.length_drop];omega
theorem Ju{names:List Str}{a b:E}{e:Mi.Env}{k:Nat}(hk:k < names.length)(hn:names.length≤8)(ha:a e=.ok (eY names))(hb:b e=.ok (.int (k:Nat))):pN (ji zU a (some (m2 cV b (mC (.int 1)))) none) e=.ok ((names.drop (k+1)).map D.str):=by
 have sl:ji zU a (some (m2 cV b (mC (.int 1)))) none e=.ok (.tup ((names.map D.str).drop (k+1))):=by
  rw[M9 ha (aJ (a:=b) (b:=mC (.int 1)) (x:=.int (k:Nat)) (y:=.int 1) hb rfl rfl)]
  show aR _ _=_
  rw[au (by rw[List.length_map];omega),show ((k:Nat):Int)+1=((k+1:Nat):Int) by omega,Int.toNat_natCast]
 rw[dZ sl rfl,List.map_drop]
theorem Ep{names:List Str}(hn:names.length≤8):cL [.d (eY names)]=.ok (.d (dD (prs names))):=by
 unfold cL tV
 rw[Lw]
 have epr:(prs names).map pairD=(List.range names.length).flatMap fun k=>(names.drop (k+1)).map fun b=>pairD (nth names k,b):=by
  unfold prs
  rw[gB]
  refine gH fun k _=>?_
  rw[List.map_map];rfl
 have Od:((prs names).map pairD).length≤64:=by rw[List.length_map];exact oX hn
 rw[epr] at Od
 obtain⟨e',f1,o2,o3,he⟩:=qu (tg:=.t [2,3]) (body:=(lO 1 (d9 [some 3,none] (pN (ji zU (mV 0) (some (m2 cV (mV 2) (mC (.int 1)))) none)) (.n 1) iB (mN dTup [(mV 0),(mV 1)]))))
  (fun k:Nat=>D.tup [.int (k:Nat),.str (nth names k)]) (fun k=>(names.drop (k+1)).map fun b=>pairD (nth names k,b))
  (fun acc e=>∃ o2 o3:Option W,e=[some (.d (eY names)),some (.d (.lst acc)),o2,o3]) (List.range names.length) [] [some (.d (eY names)),some (.d (.lst [])),none,none] (by simp only[List.length_nil];omega) ⟨none,none,rfl⟩
  (fun k hk acc e hl ⟨o2,o3,he⟩=>by
   subst he
   have hk:=List.mem_range.mp hk
   refine⟨[some (.d (eY names)),some (.d (.lst acc)),some (.d (.int (k:Nat))),some (.d (.str (nth names k)))],putL [some (.d (eY names)),some (.d (.lst acc)),some (.d (.int (k:Nat))),some (.d (.str (nth names k)))] 1 (acc++(names.drop (k+1)).map fun b=>pairD (nth names k,b)),rfl,?_,_,_,rfl⟩
   have hc:dI (.n 1) iB (mN dTup [(mV 0),(mV 1)]) [some (.d (.str (nth names k))),none] ((names.drop (k+1)).map D.str)=.ok (((names.drop (k+1)).filter fun _=>true).map fun b=>pairD (nth names k,b)) :=
    dU D.str (fun b=>pairD (nth names k,b)) (fun _=>true) _ fun b _=>⟨[some (.d (.str (nth names k))),some (.d (.str b))],rfl,rfl,fun _=>fO rfl rfl⟩
   rw[List.filter_eq_self.mpr (fun _ _=>rfl)] at hc
   exact Ih (dB (ρ:=[some 3,none]) (Ju hk hn rfl rfl) (by rw[List.length_map,List.length_drop];omega) hc) rfl hl)
 subst he
 rw[show ([some (W.d (eY names))]++List.replicate (4 - 1) none)=[some (W.d (eY names)),none,none,none] from rfl]
 rw[aL (e':=[some (.d (eY names)),some (.d (.lst [])),none,none]) (bB (Fj _))]
 have hit:tG (mV 0) [some (.d (eY names)),some (.d (.lst [])),none,none]=.ok ((List.range names.length).map fun k=>D.tup [.int (k:Nat),.str (nth names k)]):=by
  rw[← tM];rfl
 rw[aL ((gf hit).trans f1)]
 unfold dD
 rw[epr];rfl
theorem qM{names:List Str}{p:Ar}(h:p∈prs names):p.1∈names∧p.2∈names:=by
 obtain⟨k,hk,e,hb⟩:=jD.mp (show (p.1,p.2)∈prs names from h)
 exact⟨by rw[e];exact qQ hk,List.mem_of_mem_drop hb⟩
def mj(names:List Str)(ao:List Ar):List Ar:=(prs names).filter fun p=>tie ao p.1 p.2
theorem Jo{names:List Str}{ao:List Ar}(hn:names.length≤8):gC [.d (aY names ao)]=.ok (.d (dD (mj names ao))):=by
 unfold gC Bc
 rw[Lw]
 rw[show ([some (W.d (aY names ao))]++List.replicate (1 - 1) none)=[some (W.d (aY names ao))] from rfl]
 have hc:dI (.t [1,2]) (cB (aW dY [(wD (mV 0)),(wD (mV 1)),(wD (mV 2))])) (mN dTup [(mV 1),(mV 2)]) [some (.d (aY names ao)),none,none] ((prs names).map pairD)=.ok ((mj names ao).map pairD) :=
  dU pairD pairD (fun p=>tie ao p.1 p.2) (prs names) fun p hp=>⟨[some (.d (aY names ao)),some (.d (.str p.1)),some (.d (.str p.2))],rfl,bF (pO rfl rfl rfl (wB (qM hp).1 (qM hp).2)),fun _=>fO rfl rfl⟩
 have hm:=dB (ρ:=[some 0,none,none]) (e:=[some (.d (aY names ao))]) (dZ (a:=aW cL [(wD (m2 bz (mV 0) (mC (.int 0))))]) (x:=dD (prs names)) (pP (bK (aJ rfl rfl (Vc names ao))) (Ep hn)) rfl) (by rw[List.length_map];have:=oX hn;omega) hc
 rw[cR (bK hm)];rfl
theorem T5{names:List Str}{ao:List Ar}:(Mu names ao).map eG=(prs names).flatMap fun p=>if (!tie ao p.1 p.2)=true then (Ms names ao p).map fun m=>eG (p.1,m,p.2) else []:=by
 unfold Mu
 rw[gB]
 refine gH fun p _=>?_
 split
 ·rw[List.map_map];rfl
 ·rfl
theorem yV{names:List Str}{ao:List Ar}(N:Nt names ao):dw [.d (aY names ao)]=.ok (.d (.lst ((gR names ao).map eG))):=by
 have hn:=N.le
 have aaz:((Mu names ao).map eG).length≤56:=by rw[List.length_map];exact J7 N
 have uc:=Io N
 rw[T5] at aaz uc
 unfold dw uO
 rw[Lw]
 obtain⟨e',f1,o4,o5,o6,he⟩:=qu (tg:=.t [4,5]) (body:=(iM (gJ (cB (aW dY [(wD (mV 0)),(wD (mV 4)),(wD (mV 5))])))
 (bj (cG 6 (d9 [some 2,some 4,some 5,none] (pN (mV 1)) (.n 3) (n6 (cB (m2 nZ (mN dTup [(mV 1),(mV 3)]) (mV 0))) (cB (m2 nZ (mN dTup [(mV 2),(mV 3)]) (mV 0)))) (mV 3)))
 (lO 3 (d9 [some 4,some 5,none] (pN (mV 6)) (.n 2) iB (mN dTup [(mV 0),(mV 2),(mV 1)]))))
 bG))
  pairD (fun p=>if (!tie ao p.1 p.2)=true then (Ms names ao p).map fun m=>eG (p.1,m,p.2) else [])
  (fun acc e=>∃ o4 o5 o6:Option W,e=[some (.d (aY names ao)),some (.d (eY names)),some (.d (j8 ao)),some (.d (.lst acc)),o4,o5,o6]) (prs names) [] [some (.d (aY names ao)),some (.d (eY names)),some (.d (j8 ao)),some (.d (.lst [])),none,none,none] (by simp only[List.length_nil];omega) ⟨none,none,none,rfl⟩
  (fun p hp acc e hl ⟨o4,o5,o6,he⟩=>by
   subst he
   have hc:=fW (bF (pO (f:=dY) (a:=wD (mV 0)) (b:=wD (mV 4)) (c:=wD (mV 5)) (e:=[some (.d (aY names ao)),some (.d (eY names)),some (.d (j8 ao)),some (.d (.lst acc)),some (.d (.str p.1)),some (.d (.str p.2)),o6]) rfl rfl rfl (wB (ao:=ao) (qM hp).1 (qM hp).2)))
   cases ht:(!tie ao p.1 p.2) with
   | false =>
    rw[ht] at hc
    rw[if_neg Bool.false_ne_true,List.append_nil]
    exact⟨[some (.d (aY names ao)),some (.d (eY names)),some (.d (j8 ao)),some (.d (.lst acc)),some (.d (.str p.1)),some (.d (.str p.2)),o6],_,rfl,(dF hc).trans rfl,_,_,_,rfl⟩
   | true =>
    rw[ht] at hc
    rw[ht,if_pos rfl] at hl
    rw[if_pos rfl]
    have hmc:dI (.n 3) (n6 (cB (m2 nZ (mN dTup [(mV 1),(mV 3)]) (mV 0))) (cB (m2 nZ (mN dTup [(mV 2),(mV 3)]) (mV 0)))) (mV 3) [some (.d (j8 ao)),some (.d (.str p.1)),some (.d (.str p.2)),none] (names.map D.str)=.ok ((Ms names ao p).map D.str) :=
     dU D.str D.str (fun m=>decide ((p.1,m)∈ao) && decide ((p.2,m)∈ao)) names fun m _=>⟨[some (.d (j8 ao)),some (.d (.str p.1)),some (.d (.str p.2)),some (.d (.str m))],rfl,uH (bF (aJ (fO rfl rfl) rfl (nW ao (p.1,m)))) fun _=>bF (aJ (fO rfl rfl) rfl (nW ao (p.2,m))),fun _=>rfl⟩
    have s1:=bB (i:=6) (dB (ρ:=[some 2,some 4,some 5,none]) (e:=[some (.d (aY names ao)),some (.d (eY names)),some (.d (j8 ao)),some (.d (.lst acc)),some (.d (.str p.1)),some (.d (.str p.2)),o6]) (dZ (a:=mV 1) (x:=eY names) rfl rfl) (by rw[List.length_map];omega) hmc)
    have Y7:dI (.n 2) iB (mN dTup [(mV 0),(mV 2),(mV 1)]) [some (.d (.str p.1)),some (.d (.str p.2)),none] ((Ms names ao p).map D.str)=.ok (((Ms names ao p).filter fun _=>true).map fun m=>eG (p.1,m,p.2)) :=
     dU D.str (fun m=>eG (p.1,m,p.2)) (fun _=>true) _ fun m _=>⟨[some (.d (.str p.1)),some (.d (.str p.2)),some (.d (.str m))],rfl,rfl,fun _=>(O7 rfl rfl rfl).trans (au (by simp))⟩
    rw[List.filter_eq_self.mpr (fun _ _=>rfl)] at Y7
    have hml:(Ms names ao p).length≤8:=Nat.le_trans (List.length_filter_le _ _) hn
    refine⟨[some (.d (aY names ao)),some (.d (eY names)),some (.d (j8 ao)),some (.d (.lst acc)),some (.d (.str p.1)),some (.d (.str p.2)),o6],putL [some (.d (aY names ao)),some (.d (eY names)),some (.d (j8 ao)),some (.d (.lst acc)),some (.d (.str p.1)),some (.d (.str p.2)),some (.d (.lst ((Ms names ao p).map D.str)))] 3 (acc++(Ms names ao p).map fun m=>eG (p.1,m,p.2)),rfl,?_,_,_,_,rfl⟩
    exact(lu hc).trans ((aL s1).trans (Ih (dB (ρ:=[some 4,some 5,none]) (dZ (a:=mV 6) (x:=.lst ((Ms names ao p).map D.str)) rfl rfl) (by rw[List.length_map];omega) Y7) rfl hl)))
 subst he
 rw[show ([some (W.d (aY names ao))]++List.replicate (7 - 1) none)=[some (W.d (aY names ao)),none,none,none,none,none,none] from rfl]
 rw[aL (e':=[some (.d (aY names ao)),some (.d (eY names)),some (.d (j8 ao)),none,none,none,none]) rfl]
 rw[aL (e':=[some (.d (aY names ao)),some (.d (eY names)),some (.d (j8 ao)),some (.d (.lst [])),none,none,none]) (bB (Fj _))]
 rw[aL ((gf (dZ (a:=aW cL [(wD (mV 1))]) (x:=dD (prs names)) (pP rfl (Ep hn)) rfl)).trans f1)]
 rw[cR (bK (call2 rfl rfl uc))];rfl
end Mr
namespace Mr
open PySem Mi
open My (words tX cF)
theorem Mj:("abcdefghijklmnopqrstuvwxyz" : Str).cps.toList=(List.range 26).map (· + 97):=by decide +kernel
theorem QH{a b c:E}{e:Mi.Env}{i j k:Int}(ha:a e=.ok (.int i))(hb:b e=.ok (.int j))(hc:c e=.ok (.int k))(h1:i≤j)(h2:j≤k):CK Xu Xu a b c e=.ok (.bl true):=by
 unfold CK
 rw[ha,aC,hb,aC]
 show (Rs.ok (D.bl (decide (i≤j)))).bind _=_
 rw[decide_eq_true h1,aC,Gy,aC,if_pos rfl,hc,aC]
 show Rs.ok (D.bl (decide (j≤k)))=_
 rw[decide_eq_true h2]
theorem Rq{l:List Nat}(hw:tX l):nF [.d (.str (S' l))]=.ok (.d (.bl true)):=by
 unfold nF Bh
 rw[Tu]
 rw[show ([some (W.d (.str (S' l)))]++List.replicate (1 - 1) none)=[some (W.d (.str (S' l)))] from rfl]
 obtain⟨h1,h8,hl⟩:=hw
 have hc:dI (.n 0) iB (m2 nZ (mV 0) (mC (.str "abcdefghijklmnopqrstuvwxyz"))) [none] (l.map fun c=>D.str (S' [c]))=.ok ((l.filter fun _=>true).map fun c=>D.bl ((fun _=>true) c)) :=
  dU (fun c=>D.str (S' [c])) (fun c=>D.bl ((fun _=>true) c)) (fun _=>true) l fun c hcl=>⟨[some (.d (.str (S' [c])))],rfl,rfl,fun _=>aJ (x:=.str (S' [c])) rfl rfl (by
   show aR ((S' [c]).length=1) (Rs.ok (D.bl (decide ((S' [c]).cps.getD 0 0∈("abcdefghijklmnopqrstuvwxyz" : Str).cps.toList))))=_
   have hm:(S' [c]).cps.getD 0 0∈("abcdefghijklmnopqrstuvwxyz" : Str).cps.toList:=by
    rw[Mj]
    have:=hl c hcl
    exact List.mem_map.mpr ⟨c - 97,List.mem_range.mpr (by omega),by show c - 97+97=c;omega⟩
   rw[au (by rw[lJ];rfl),decide_eq_true hm])⟩
 rw[List.filter_eq_self.mpr (fun _ _=>rfl)] at hc
 have h2:mN W9 [(d9 [none] (pN (mV 0)) (.n 0) iB (m2 nZ (mV 0) (mC (.str "abcdefghijklmnopqrstuvwxyz"))))] [some (W.d (.str (S' l)))]=.ok (.bl true):=by
  refine(jQ (dB (ρ:=[none]) (dZ (a:=mV 0) (x:=.str (S' l)) rfl rfl) (by rw[List.length_map,xq];omega) hc)).trans ?_
  rw[Zm,Q9,lr,aC,List.all_map]
  show Rs.ok (D.bl (l.all fun _=>true))=_
  rw[List.all_eq_true.mpr (fun _ _=>rfl)]
 have h3:CK Xu Xu (mC (.int 1)) (mN fX [(mV 0)]) (mC (.int 8)) [some (W.d (.str (S' l)))]=.ok (.bl true):=QH (j:=((l.length:Nat):Int)) rfl ((jQ (x:=.str (S' l)) rfl).trans (by rw[YT,au (by rw[lJ];omega),lJ])) rfl (by omega) (by omega)
 rw[cR (bK (iZ h3 fun _=>h2))];rfl
def PK(p:Ar):List Ky:=[.inr p.1,.inr p.2]
theorem JR{p q:Ar}(h:PK p=PK q):p=q:=by
 obtain⟨a,b⟩:=p
 obtain⟨c,d⟩:=q
 simp only[PK,List.cons.injEq,Sum.inr.injEq,and_true] at h
 rw[h.1,h.2]
def both(xs:List Ar):List Ar:=xs.flatMap fun p=>[p,(p.2,p.1)]
end Mr
namespace Mr
open PySem Mi
open My (words tX cF)
def wN(p:Ar):List Str:=[p.1,p.2]
theorem oE.sorted{names:List Str}{A:List Ix}{r:Nat→Int}(N:oE names A r):(A.map (arrOf names)).Pairwise fun p q=>jd (ky names (wN p)) (ky names (wN q))=true:=by
 rw[List.pairwise_map]
 refine List.Pairwise.imp_of_mem (fun {p q} hp hq h=>?_) N.uc
 have k:∀ x:Ix,x∈A→ky names (wN (arrOf names x))=[((x.1:Nat):Int),((x.2:Nat):Int)]:=fun x hx=>by
  obtain⟨h1,h2,_⟩:=N.all x hx
  show [((names.idxOf (nth names x.1):Nat):Int),((names.idxOf (nth names x.2):Nat):Int)]=_
  rw[jY N.nd h1,jY N.nd h2]
 rw[k p hp,k q hq]
 rcases h with h|⟨h1,h2⟩
 ·exact tD (Int.ofNat_lt.mpr h)
 ·rw[h1,uo];exact tD (Int.ofNat_lt.mpr h2)
def Zg:List Ix:=((List.range 64).map fun n=>(n / 8,n % 8)).filter fun p=>decide (p.1≠p.2)
theorem QS:Zg.length=56:=by decide +kernel
theorem oE.few{names:List Str}{A:List Ix}{r:Nat→Int}(N:oE names A r):A.length≤56:=by
 have nd:A.Nodup:=N.uc.imp fun {p q} h z=>by subst z;rcases h with h|⟨_,h⟩<;>omega
 have:=yt nd (L:=Zg) fun p hp=>by
  obtain⟨h1,h2,h3⟩:=N.all p hp
  have hn:=N.le
  refine List.mem_filter.mpr ⟨List.mem_map.mpr ⟨p.1 * 8+p.2,List.mem_range.mpr (by omega),Prod.ext (by show (p.1 * 8+p.2) / 8=p.1;omega) (by show (p.1 * 8+p.2) % 8=p.2;omega)⟩,?_⟩
  exact decide_eq_true fun z=>by rw[z] at h3;omega
 rw[QS] at this;exact this
theorem QD{α : Type}(xs:List α)(k:Nat):yU xs (some (k:Int)) none=xs.drop k:=by
 have e:q8 xs.length 0 (some (k:Int))=min k xs.length:=by
  show (if (k:Int) < 0 then ((k:Int)+(xs.length:Int)).toNat else min (k:Int).toNat xs.length)=_
  rw[if_neg (by omega),Int.toNat_natCast]
 unfold yU
 rw[e,show q8 xs.length xs.length none=xs.length from rfl]
 rcases Nat.le_total k xs.length with h|h
 ·rw[Nat.min_eq_left h]
  exact List.take_of_length_le (by rw[List.length_drop];exact Nat.le_refl _)
 ·rw[Nat.min_eq_right h,Nat.sub_self,List.take_zero,List.drop_eq_nil_of_le h]
theorem Fx:∀ xs:List Str,ux (xs.map D.str)=true
 | []=>rfl
 | x::r=>by rw[List.map_cons,ux,Fx r];rfl
theorem yK:∀ xs:List Ar,ux (xs.map pairD)=true
 | []=>rfl
 | x::r=>by rw[List.map_cons,ux,yK r];rfl
end Mr
namespace Mr
open PySem Mi
abbrev nn:D:=.lst [.str "NoName"]
end Mr
namespace Mr
open PySem Mi
open My (words tX cF)
theorem QR{f:Fn}{a b c g:EW}{e:Mi.Env}{x y z u:W}{d:D}(h:a e=.ok x)(h':b e=.ok y)(h'':c e=.ok z)(h3:g e=.ok u)(hf:f [x,y,z,u]=.ok (.d d)):aW f [a,b,c,g] e=.ok d:=by unfold aW jm;rw[bc,h,aC,bc,h',aC,bc,h'',aC,bc,h3];simp only[aC,bc,hf,Bk]
theorem vP{α : Type}(f:α→Nat):∀ (l m:List α),l.Pairwise (fun a b=>f a < f b)→m.Pairwise (fun a b=>f a < f b)→(∀ x,x∈l↔x∈m)→l=m
 | [],[],_,_,_=>rfl
 | [],b::t,_,_,h=>nomatch (h b).mpr (List.mem_cons_self ..)
 | a::r,[],_,_,h=>nomatch (h a).mp (List.mem_cons_self ..)
 | a::r,b::t,hl,hm,h=>by
  have l1:=List.pairwise_cons.mp hl
  have m1:=List.pairwise_cons.mp hm
  have e:a=b:=by
   rcases List.mem_cons.mp ((h a).mp (List.mem_cons_self ..)) with z|z
   ·exact z
   ·rcases List.mem_cons.mp ((h b).mpr (List.mem_cons_self ..)) with y|y
    ·exact y.symm
    ·have k1:=m1.1 a z
     have k2:=l1.1 b y
     omega
  subst e
  rw[vP f r t l1.2 m1.2 fun x=>⟨fun hx=>by
   rcases List.mem_cons.mp ((h x).mp (List.mem_cons_of_mem _ hx)) with z|z
   ·have:=l1.1 x hx;rw[z] at this;omega
   ·exact z,fun hx=>by
   rcases List.mem_cons.mp ((h x).mpr (List.mem_cons_of_mem _ hx)) with z|z
   ·have:=m1.1 x hx;rw[z] at this;omega
   ·exact z⟩]
end Mr
namespace Mr
open PySem Mi
open My (words tX cF)
end Mr
namespace Mr
open PySem Mi
open My (words tX cF)
def ixs(names:List Str)(B:List Ar):List Ix:=(List.range names.length).flatMap fun i=>((List.range names.length).filter fun j=>decide ((nth names i,nth names j)∈B)).map fun j=>(i,j)
theorem Af(names:List Str):(List.range names.length).map (nth names)=names:=by
 refine List.ext_getElem (by rw[List.length_map,List.length_range]) fun i h1 h2=>?_
 rw[List.getElem_map,List.getElem_range]
 unfold nth
 rw[List.getD_eq_getElem?_getD,List.getElem?_eq_getElem h2];rfl
theorem uw(names:List Str)(B:List Ar):(ixs names B).map (arrOf names)=uc names B:=by
 unfold ixs uc
 rw[gB]
 have e:names.flatMap (fun t=>(names.filter fun h=>decide ((t,h)∈B)).map fun h=>(t,h))=((List.range names.length).map (nth names)).flatMap (fun t=>(names.filter fun h=>decide ((t,h)∈B)).map fun h=>(t,h)):=by rw[Af]
 rw[e,List.flatMap_map]
 refine gH fun i _=>?_
 have e2:names.filter (fun h=>decide ((nth names i,h)∈B))=((List.range names.length).map (nth names)).filter (fun h=>decide ((nth names i,h)∈B)):=by rw[Af]
 rw[e2,List.filter_map,List.map_map,List.map_map]
 rfl
theorem wU{names:List Str}{B:List Ar}{p:Ix}:p∈ixs names B↔p.1 < names.length∧p.2 < names.length∧(nth names p.1,nth names p.2)∈B:=by
 unfold ixs
 rw[List.mem_flatMap]
 constructor
 ·rintro ⟨i,hi,h⟩
  obtain⟨j,hj,rfl⟩:=List.mem_map.mp h
  obtain⟨h1,h2⟩:=List.mem_filter.mp hj
  exact⟨List.mem_range.mp hi,List.mem_range.mp h1,of_decide_eq_true h2⟩
 ·rintro ⟨h1,h2,h3⟩
  exact⟨p.1,List.mem_range.mpr h1,List.mem_map.mpr ⟨p.2,List.mem_filter.mpr ⟨List.mem_range.mpr h2,decide_eq_true h3⟩,rfl⟩⟩
theorem oE.OD{names:List Str}{B:List Ar}(nd:names.Nodup)(h1:1≤names.length)(h8:names.length≤8)(R:Rk B):∃ r,oE names (ixs names B) r:=by
 obtain⟨k,hk⟩:=R
 refine⟨fun i=>k (nth names i),nd,h1,h8,?_,fun p hp=>?_,?_⟩
 ·unfold ixs
  rw[List.pairwise_flatMap]
  refine⟨fun i _=>?_,?_⟩
  ·rw[List.pairwise_map]
   refine(List.Pairwise.filter _ List.pairwise_lt_range).imp fun {a b} h=>?_
   exact .inr ⟨rfl,h⟩
  ·refine List.pairwise_lt_range.imp fun {a b} h=>?_
   intro x hx y hy
   obtain⟨j,_,rfl⟩:=List.mem_map.mp hx
   obtain⟨j',_,rfl⟩:=List.mem_map.mp hy
   exact .inl h
 ·obtain⟨a,b,c⟩:=wU.mp hp
  exact⟨a,b,hk _ c⟩
 ·have:=Js h8 B
  rw[← uw,List.length_map] at this
  exact this
theorem pq{α : Type}[DecidableEq α]:∀ {l m:List α},l.Nodup→m.Nodup→(∀ x,x∈l↔x∈m)→l.Perm m
 | [],m,_,_,h=>by
  cases m with
  | nil=>exact .nil
  | cons a r=>exact nomatch (h a).mpr (List.mem_cons_self ..)
 | a::r,m,hl,hm,h=>by
  have l1:=List.nodup_cons.mp hl
  have ha:=(h a).mp (List.mem_cons_self ..)
  have p:=List.perm_cons_erase ha
  refine(List.Perm.cons a (pq l1.2 (hm.erase a) fun x=>?_)).trans p.symm
  rw[hm.mem_erase_iff]
  constructor
  ·exact fun hx=>⟨fun z=>l1.1 (z ▸ hx),(h x).mp (List.mem_cons_of_mem _ hx)⟩
  ·rintro ⟨h1,h2⟩
   rcases List.mem_cons.mp ((h x).mpr h2) with z|z
   ·exact absurd z h1
   ·exact z
theorem z8{names:List Str}(nd:names.Nodup)(h8:names.length≤8)(B:List Ar):(uc names B).Nodup:=by
 rw[← uw]
 refine List.pairwise_map.mpr (List.Pairwise.imp_of_mem (R:=gD) (fun {p q} hp hq h z=>?_) ?_)
 ·obtain⟨a,b,_⟩:=wU.mp hp
  obtain⟨c,d,_⟩:=wU.mp hq
  have e1:=ph nd a c (congrArg Prod.fst z)
  have e2:=ph nd b d (congrArg Prod.snd z)
  rcases h with h|⟨_,h⟩<;>omega
 ·unfold ixs
  rw[List.pairwise_flatMap]
  refine⟨fun i _=>?_,?_⟩
  ·rw[List.pairwise_map]
   exact(List.Pairwise.filter _ List.pairwise_lt_range).imp fun {a b} h=>.inr ⟨rfl,h⟩
  ·refine List.pairwise_lt_range.imp fun {a b} h=>?_
   intro x hx y hy
   obtain⟨j,_,rfl⟩:=List.mem_map.mp hx
   obtain⟨j',_,rfl⟩:=List.mem_map.mp hy
   exact .inl h
structure Gd(names:List Str)(ao:List Ar):Prop where
 nd:names.Nodup
 pos:1≤names.length
 le:names.length≤8
 rk:Rk ao
 uc:uc names ao=ao
 wd:∀ x∈names,nF [.d (.str x)]=.ok (.d (.bl true))
theorem Gd.inn{names:List Str}{ao:List Ar}(G:Gd names ao):∀ p∈ao,p.1∈names∧p.2∈names:=fun p hp=>by
 rw[← G.uc] at hp
 exact(um.mp hp).2
theorem Gd.al{names:List Str}{ao:List Ar}(G:Gd names ao):ao.length≤64:=by
 rw[← G.uc];exact Js G.le _
theorem Gd.nt{names:List Str}{ao:List Ar}(G:Gd names ao):Nt names ao:=⟨G.nd,G.le,G.al,G.inn,G.rk⟩
theorem Gd.nodup{names:List Str}{ao:List Ar}(G:Gd names ao):ao.Nodup:=by
 rw[← G.uc];exact z8 G.nd G.le _
theorem uD(ao:List Ar)(p:Ar):dz (pairD p) (j8 ao)=.ok (.bl (!decide (p∈ao))):=by
 have h:=j5 ao p
 exact h
end Mr
namespace Mr
open PySem Mi
open My (words tX cF)
end Mr
namespace Mr
open PySem Mi
open My (words tX cF)
theorem xK(ao:List Ar)(a b:Str):tie ao a b=tie ao b a:=by unfold tie;rw[Bool.or_comm]
theorem jz{ao:List Ar}{a b:Str}:tie ao a b=true↔(a,b)∈ao∨(b,a)∈ao:=by
 unfold tie
 rw[Bool.or_eq_true,decide_eq_true_iff,decide_eq_true_iff]
theorem sY{names:List Str}{a b:Str}(ha:a∈names)(hb:b∈names)(ne:a≠b):(a,b)∈prs names∨(b,a)∈prs names:=by
 obtain⟨i,hi,rfl⟩:=O1 ha
 obtain⟨j,hj,rfl⟩:=O1 hb
 rcases Nat.lt_trichotomy i j with h|h|h
 ·exact .inl (jD.mpr ⟨i,hi,rfl,Fb h hj⟩)
 ·exact absurd (by rw[h]) ne
 ·exact .inr (jD.mpr ⟨j,hj,rfl,Fb h hi⟩)
end Mr
namespace Mr
open PySem Mi
open My (words tX cF)
theorem TY(xs ys:List Str):Am (eY xs) (eY ys)=.ok (.bl (!decide (xs=ys))):=by
 unfold Am eY
 rw[au (by simp),cH,yh]
end Mr
namespace Mr
open PySem Mi
open My (words tX cF)
theorem oE.gd{names:List Str}{A:List Ix}{r:Nat→Int}(N:oE names A r)(hw:∀ x∈names,nF [.d (.str x)]=.ok (.d (.bl true))):Gd names (A.map (arrOf names)):=by
 refine⟨N.nd,N.pos,N.le,N.pU.rk,?_,hw⟩
 rw[← uw]
 congr 1
 refine(vP (fun p:Ix=>p.1 * 8+p.2) _ _ ?_ ?_ fun p=>?_)
 ·unfold ixs
  have h8:=N.le
  rw[List.pairwise_flatMap]
  refine⟨fun i _=>?_,?_⟩
  ·rw[List.pairwise_map]
   refine(List.Pairwise.filter _ List.pairwise_lt_range).imp fun {a b} h=>?_
   show i * 8+a < i * 8+b
   omega
  ·refine List.pairwise_lt_range.imp fun {a b} h=>?_
   intro x hx y hy
   obtain⟨j,hj,rfl⟩:=List.mem_map.mp hx
   obtain⟨j',_,rfl⟩:=List.mem_map.mp hy
   have:=List.mem_range.mp (List.mem_filter.mp hj).1
   show a * 8+j < b * 8+j'
   omega
 ·refine N.uc.imp_of_mem fun {p q} hp hq h=>?_
  have h1:=(N.all p hp).2.1
  have h8:=N.le
  rcases h with h|⟨e,h⟩
  ·show p.1 * 8+p.2 < q.1 * 8+q.2
   omega
  ·show p.1 * 8+p.2 < q.1 * 8+q.2
   omega
 ·rw[wU]
  constructor
  ·rintro ⟨h1,h2,h3⟩
   obtain⟨q,hq,e⟩:=List.mem_map.mp h3
   have e1:=ph N.nd (N.all q hq).1 h1 (congrArg Prod.fst e)
   have e2:=ph N.nd (N.all q hq).2.1 h2 (congrArg Prod.snd e)
   have:q=p:=Prod.ext e1 e2
   rw[← this];exact hq
  ·exact fun h=>⟨(N.all p h).1,(N.all p h).2.1,List.mem_map.mpr ⟨p,h,rfl⟩⟩
end Mr
namespace Mr
open PySem Mi
open My (words tX cF)
theorem W7{f:Fn}{a b c:EW}{e:Mi.Env}{x y z:W}{d:D}(h:a e=.ok x)(h':b e=.ok y)(h'':c e=.ok z)(hf:f [x,y,z]=.ok (.d d))(hi:Mt d=true):vq f [a,b,c] e=.ok d:=by
 unfold vq jm;rw[bc,h,aC,bc,h',aC,bc,h''];simp only[aC,bc,hf,Uj,au hi]
end Mr
namespace Mr
open PySem Mi
def jh(r:List Str):D:=.tup (r.map D.str)
def rk(r:List Str):List Ky:=r.map Sum.inr
theorem Hl:∀ {a b:List Str},rk a=rk b→a=b
 | [],[],_=>rfl
 | [],_::_,h=>by cases h
 | _::_,[],h=>by cases h
 | x::a,y::b,h=>by
  unfold rk at h
  simp only[List.map_cons,List.cons.injEq,Sum.inr.injEq] at h
  rw[h.1,Hl (a:=a) (b:=b) h.2]
theorem qU:∀ r:List Str,uE (r.map D.str)=some (rk r)
 | []=>rfl
 | x::r=>by
  rw[List.map_cons,uE,qU r];rfl
def jX(ks:List (List Str)):List (List Ky×D):=ks.map fun k=>(rk k,D.bl true)
theorem Xz(ks:List (List Str))(k:List Str):(wH (jX ks) (rk k)).isSome=decide (k∈ks):=by
 unfold wH jX
 induction ks with
 | nil=>rfl
 | cons a r ih =>
  rw[List.map_cons,List.find?_cons]
  by_cases h:a=k
  ·subst h;simp
  ·rw[decide_eq_false (fun z:rk a=rk k=>h (Hl z))]
   simp only[ih]
   simp[Ne.symm h]
def wL(ks:List (List Str))(k:List Str):List (List Str):=if k∈ks then ks else ks++[k]
theorem Fi{ks:List (List Str)}{k x:List Str}:x∈wL ks k↔x∈ks∨x=k:=by
 unfold wL
 split
 ·rename_i h
  exact⟨.inl,fun z=>z.elim id fun e=>by rw[e];exact h⟩
 ·rw[List.mem_append,List.mem_singleton]
theorem Fw(ks:List (List Str))(k:List Str):(wL ks k).length≤ks.length+1:=by
 unfold wL
 split
 ·omega
 ·rw[List.length_append];simp
theorem Z5(ks:List (List Str))(k:List Str):Mi.putK (rk k) (D.bl true) (jX ks)=jX (wL ks k):=by
 unfold Mi.putK wL
 have e:((jX ks).any fun kv=>decide (kv.1=rk k))=decide (k∈ks):=by
  unfold jX
  rw[List.any_map]
  induction ks with
  | nil=>rfl
  | cons a r ih =>
   rw[List.any_cons,ih]
   simp only[Function.comp,List.mem_cons]
   by_cases h:a=k
   ·subst h;simp
   ·rw[decide_eq_false (fun z:rk a=rk k=>h (Hl z))]
    simp[Ne.symm h]
 rw[e]
 by_cases h:k∈ks
 ·rw[if_pos (by simp[h]),if_pos h]
  unfold jX
  rw[List.map_map]
  refine List.map_congr_left fun x _=>?_
  simp only[Function.comp]
  split
  ·rename_i z;rfl
  ·rfl
 ·rw[if_neg (by simp[h]),if_neg h]
  unfold jX
  rw[List.map_append];rfl
theorem Qq{i:Nat}{k:E}{e:Mi.Env}{ks:List (List Str)}{r:List Str}(hk:k e=.ok (jh r))(hw:wV i e=.ok (.dt (jX ks)))(hl:ks.length≤10000):lQ i k (mC (.bl true)) e=.ok (.nx (e.set i (some (.dt (jX (wL ks r)))))):=by
 unfold lQ
 have h1:TV (.dt (jX ks)) (jh r) (.bl true)=.ok (.dt (jX (wL ks r))):=by
  unfold TV jh
  dsimp only
  rw[au (by unfold jX;rw[List.length_map];omega),qU]
  show Rs.ok (W.dt (Mi.putK (rk r) (D.bl true) (jX ks)))=_
  rw[Z5]
 rw[show mC (.bl true) e=.ok (.bl true) from rfl,aC,hk,aC,hw,aC,h1];rfl
theorem J8(rows:List (List Str))(hr:∀ r∈rows,r.length≤1000)(hl:rows.length≤1000):∃ ks,fj [.d (.lst (rows.map jh))]=.ok (.dt (jX ks))∧∀ k,k∈ks↔∃ r∈rows,k=r∨k=r.reverse:=by
 obtain⟨e',f1,ks,o2,he,h1,h2⟩:=fV (tg:=.n 2) (body:=(bj (lQ 1 (mV 2) (mC (.bl true)))
 (lQ 1 (m1 FZ (mV 2)) (mC (.bl true)))))
  (fun i e=>∃ (ks:List (List Str)) (o2:Option W),e=[some (.d (.lst (rows.map jh))),some (.dt (jX ks)),o2]∧ks.length≤2 * i∧∀ k,k∈ks↔∃ r∈rows.take i,k=r∨k=r.reverse) (rows.map jh) 0 (fun i d e hi ⟨ks,o2,he,h1,h2⟩=>by
   subst he
   rw[Nat.zero_add] at h1 h2 ⊢
   rw[List.getElem?_map] at hi
   obtain⟨r,hp,rfl⟩:=Option.map_eq_some_iff.mp hi
   have il:=(List.getElem?_eq_some_iff.mp hp).1
   have rm:=List.mem_of_getElem? hp
   have l1:=Fw ks r
   have l2:=Fw (wL ks r) r.reverse
   refine⟨[some (.d (.lst (rows.map jh))),some (.dt (jX ks)),some (.d (jh r))],[some (.d (.lst (rows.map jh))),some (.dt (jX (wL (wL ks r) r.reverse))),some (.d (jh r))],rfl,?_,_,_,rfl,by omega,fun k=>?_⟩
   ·rw[aL (Qq (ks:=ks) (r:=r) rfl rfl (by omega))]
    refine Qq (ks:=wL ks r) (r:=r.reverse) ?_ rfl (by omega)
    show FZ (jh r)=_
    unfold FZ jh
    dsimp only
    rw[au (by rw[List.length_map];exact hr r rm),List.map_reverse]
   ·rw[Fi,Fi,h2,List.take_succ,hp]
    simp only[Option.toList_some,List.mem_append,List.mem_singleton]
    constructor
    ·rintro ((⟨x,hx,e⟩|e)|e)
     ·exact⟨x,.inl hx,e⟩
     ·exact⟨r,.inr rfl,.inl e⟩
     ·exact⟨r,.inr rfl,.inr e⟩
    ·rintro ⟨x,hx|rfl,e⟩
     ·exact .inl (.inl ⟨x,hx,e⟩)
     ·rcases e with e|e
      ·exact .inl (.inr e)
      ·exact .inr e) [some (.d (.lst (rows.map jh))),some (.dt (jX [])),none] ⟨[],none,rfl,by simp,by simp⟩
 subst he
 refine⟨ks,?_,fun k=>by rw[h2 k,Nat.zero_add,List.length_map,List.take_length]⟩
 unfold fj wA
 rw[Lw]
 rw[show ([some (W.d (.lst (rows.map jh)))]++List.replicate (3 - 1) none)=[some (W.d (.lst (rows.map jh))),none,none] from rfl]
 rw[aL (e':=[some (.d (.lst (rows.map jh))),some (.dt (jX [])),none]) rfl]
 rw[aL ((gf (dZ (x:=.lst (rows.map jh)) rfl rfl)).trans f1)]
 rfl
theorem Vi{i:Nat}{k:E}{e:Mi.Env}{ks:List (List Str)}{r:List Str}(hk:k e=.ok (jh r))(hw:wV i e=.ok (.df (jX ks))):nH i k e=.ok (.bl (decide (r∈ks))):=by
 unfold nH
 rw[hk,aC,hw,aC,← Xz]
 unfold Qw jh
 dsimp only
 rw[qU];rfl
theorem FT{i:Nat}{k:E}{e:Mi.Env}{ks:List (List Str)}{r:List Str}(hk:k e=.ok (jh r))(hw:wV i e=.ok (.df (jX ks))):jW i k e=.ok (.bl (!decide (r∈ks))):=by
 unfold jW
 rw[hk,aC,hw,aC,← Xz]
 unfold Qw jh
 dsimp only
 rw[qU];rfl
abbrev zW:=List (Ar×D)
def ur(told:zW):List (List Ky×D):=told.map fun t=>(PK t.1,t.2)
def fG(told:zW):List Ar:=told.map (·.1)
theorem Uv(told:zW)(p:Ar):(wH (ur told) (PK p)).isSome=decide (p∈fG told):=by
 unfold wH ur fG
 induction told with
 | nil=>rfl
 | cons a r ih =>
  rw[List.map_cons,List.find?_cons,List.map_cons]
  by_cases h:a.1=p
  ·rw[decide_eq_true (by rw[h]:PK a.1=PK p)];simp[h]
  ·rw[decide_eq_false (fun z:PK a.1=PK p=>h (JR z))]
   simp only[ih]
   simp[Ne.symm h]
theorem J0{i:Nat}{k:E}{e:Mi.Env}{told:zW}{p:Ar}(hk:k e=.ok (pairD p))(hw:wV i e=.ok (.dt (ur told))):nH i k e=.ok (.bl (decide (p∈fG told))):=by
 unfold nH;rw[hk,aC,hw,aC,← Uv];rfl
theorem Qs{i:Nat}{k:E}{e:Mi.Env}{told:zW}{p:Ar}(hk:k e=.ok (pairD p))(hw:wV i e=.ok (.dt (ur told))):jW i k e=.ok (.bl (!decide (p∈fG told))):=by
 unfold jW;rw[hk,aC,hw,aC,← Uv];rfl
theorem Uw{a b c:E}{e:Mi.Env}{x y z:Str}(h:a e=.ok (.str x))(h':b e=.ok (.str y))(h'':c e=.ok (.str z)):mN dTup [a,b,c] e=.ok (jh [x,y,z]):=(O7 h h' h'').trans (au (by show (3:Nat)≤_;decide))
theorem Ux{a b:E}{e:Mi.Env}{x y:Str}(h:a e=.ok (.str x))(h':b e=.ok (.str y)):mN dTup [a,b] e=.ok (jh [x,y]):=fO h h'
theorem aaq(n:Nat)(b:S)(a0 a1 a2 a3 a4:W):wM 5 n b [a0,a1,a2,a3,a4]=(b ([some a0,some a1,some a2,some a3,some a4]++List.replicate (n - 5) none)).bind rT:=au rfl
theorem aao(n:Nat)(b:S)(a0 a1 a2 a3 a4 a5:W):DG 6 n b [a0,a1,a2,a3,a4,a5]=(b ([some a0,some a1,some a2,some a3,some a4,some a5]++List.replicate (n - 6) none)).bind lA:=au rfl
def Ks(KT KC:List (List Str))(a m b:Str):Bool:=(!decide (a=b)) && ((!decide ([a,b]∈KT)) && (!decide ([a,m,b]∈KC)))
theorem vR(KT KC:List (List Str))(a m b:Str):cz [.d (.str a),.d (.str m),.d (.str b),.df (jX KT),.df (jX KC)]=.ok (.d (.bl (Ks KT KC a m b))):=by
 unfold cz rZ
 rw[aaq]
 rw[show ([some (W.d (.str a)),some (.d (.str m)),some (.d (.str b)),some (.df (jX KT)),some (.df (jX KC))]++List.replicate (5 - 5) none)=[some (W.d (.str a)),some (.d (.str m)),some (.d (.str b)),some (.df (jX KT)),some (.df (jX KC))] from rfl]
 rw[cR (bK (iZ (aJ rfl rfl (TX a b)) fun _=>iZ (FT (ks:=KT) (r:=[a,b]) (Ux rfl rfl) rfl) fun _=>FT (ks:=KC) (r:=[a,m,b]) (Uw rfl rfl rfl) rfl))]
 rfl
end Mr
namespace Mr
open PySem Mi
theorem Nb{names:List Str}{a b:E}{e:Mi.Env}{k:Nat}(hk:k < names.length)(hn:names.length≤8)(ha:a e=.ok (dC names))(hb:b e=.ok (.int (k:Nat))):pN (ji zU a (some (m2 cV b (mC (.int 1)))) none) e=.ok ((names.drop (k+1)).map D.str):=by
 have sl:ji zU a (some (m2 cV b (mC (.int 1)))) none e=.ok (.lst ((names.map D.str).drop (k+1))):=by
  rw[M9 ha (aJ (a:=b) (b:=mC (.int 1)) (x:=.int (k:Nat)) (y:=.int 1) hb rfl rfl)]
  show Rs.ok (D.lst (yU (names.map D.str) (some ((k:Nat)+1:Int)) none))=_
  rw[show ((k:Nat):Int)+1=((k+1:Nat):Int) by omega,QD]
 rw[dZ sl rfl,List.map_drop]
theorem KY{names:List Str}(hn:names.length≤8):cL [.d (dC names)]=.ok (.d (dD (prs names))):=by
 unfold cL tV
 rw[Lw]
 have epr:(prs names).map pairD=(List.range names.length).flatMap fun k=>(names.drop (k+1)).map fun b=>pairD (nth names k,b):=by
  unfold prs
  rw[gB]
  refine gH fun k _=>?_
  rw[List.map_map];rfl
 have Od:((prs names).map pairD).length≤64:=by rw[List.length_map];exact oX hn
 rw[epr] at Od
 obtain⟨e',f1,o2,o3,he⟩:=qu (tg:=.t [2,3]) (body:=(lO 1 (d9 [some 3,none] (pN (ji zU (mV 0) (some (m2 cV (mV 2) (mC (.int 1)))) none)) (.n 1) iB (mN dTup [(mV 0),(mV 1)]))))
  (fun k:Nat=>D.tup [.int (k:Nat),.str (nth names k)]) (fun k=>(names.drop (k+1)).map fun b=>pairD (nth names k,b))
  (fun acc e=>∃ o2 o3:Option W,e=[some (.d (dC names)),some (.d (.lst acc)),o2,o3]) (List.range names.length) [] [some (.d (dC names)),some (.d (.lst [])),none,none] (by simp only[List.length_nil];omega) ⟨none,none,rfl⟩
  (fun k hk acc e hl ⟨o2,o3,he⟩=>by
   subst he
   have hk:=List.mem_range.mp hk
   refine⟨[some (.d (dC names)),some (.d (.lst acc)),some (.d (.int (k:Nat))),some (.d (.str (nth names k)))],putL [some (.d (dC names)),some (.d (.lst acc)),some (.d (.int (k:Nat))),some (.d (.str (nth names k)))] 1 (acc++(names.drop (k+1)).map fun b=>pairD (nth names k,b)),rfl,?_,_,_,rfl⟩
   have hc:dI (.n 1) iB (mN dTup [(mV 0),(mV 1)]) [some (.d (.str (nth names k))),none] ((names.drop (k+1)).map D.str)=.ok (((names.drop (k+1)).filter fun _=>true).map fun b=>pairD (nth names k,b)) :=
    dU D.str (fun b=>pairD (nth names k,b)) (fun _=>true) _ fun b _=>⟨[some (.d (.str (nth names k))),some (.d (.str b))],rfl,rfl,fun _=>fO rfl rfl⟩
   rw[List.filter_eq_self.mpr (fun _ _=>rfl)] at hc
   exact Ih (dB (ρ:=[some 3,none]) (Nb hk hn rfl rfl) (by rw[List.length_map,List.length_drop];omega) hc) rfl hl)
 subst he
 rw[show ([some (W.d (dC names))]++List.replicate (4 - 1) none)=[some (W.d (dC names)),none,none,none] from rfl]
 rw[aL (e':=[some (.d (dC names)),some (.d (.lst [])),none,none]) (bB (Fj _))]
 have hit:tG (mV 0) [some (.d (dC names)),some (.d (.lst [])),none,none]=.ok ((List.range names.length).map fun k=>D.tup [.int (k:Nat),.str (nth names k)]):=by
  rw[← tM];rfl
 rw[aL ((gf hit).trans f1)]
 unfold dD
 rw[epr];rfl
structure Dc(names:List Str)(A:List Ar)(KT KC:List (List Str)):Prop where
 kt:∀ a∈names,∀ b∈names,a≠b→([a,b]∈KT↔tie A a b=true)
 ktm:∀ k∈KT,∃ a b,k=[a,b]∧a∈names∧b∈names∧a≠b∧tie A a b=true
 kc:∀ a∈names,∀ m∈names,∀ b∈names,[a,m,b]∈KC↔a≠b∧Aq A a m b=true
def lN(t h s:Str)(x:List Str):D:=.tup [.str t,.str h,.str s,.tup (x.map D.str)]
inductive Rl(names:List Str)(A P:List Ar)(t h:Str):Str→List Str→Prop
 | Dk {z:Str} (zn:z∈names) (ne:t≠z) (c:Aq A t h z=true):Rl names A P t h "corner" [z]
 | on {z:Str} (zn:z∈names) (ne:z≠h) (nt:tie A z h=false) (nc:Aq A z t h=false) (p:(z,t)∈P):Rl names A P t h "on" [z]
 | over {z:Str} (zn:z∈names) (p:(t,z)∈P) (q:(z,h)∈P):Rl names A P t h "over" [z]
 | both {z w:Str} (zn:z∈names) (wn:w∈names) (ne:z≠w) (nt:tie A z w=false) (nc:Aq A z t w=false) (t1:tie A z t=true) (t2:tie A w t=true) (p:(z,h)∈P) (q:(w,h)∈P):Rl names A P t h "both" [z,w]
structure Gr(names:List Str)(A P:List Ar)(t h:Str)(rows:List D):Prop where
 sh:∀ r∈rows,∃ s x,r=lN t h s x∧Rl names A P t h s x
 so:rows≠[]→(t,h)∈A
theorem Gr.nil(names:List Str)(A P:List Ar)(t h:Str):Gr names A P t h []:=⟨fun _ z=>(nomatch z),fun z=>(z rfl).elim⟩
theorem Gr.add{names:List Str}{A P:List Ar}{t h:Str}{rows:List D}(g:Gr names A P t h rows){p:Bool}{s:Str}{x:List Str}(hp:p=true→(t,h)∈A∧Rl names A P t h s x):Gr names A P t h (rows++if p then [lN t h s x] else []):=by
 cases p with
 | false=>simpa using g
 | true =>
  refine⟨fun r hr=>?_,fun _=>(hp rfl).1⟩
  rcases List.mem_append.mp hr with z|z
  ·exact g.sh r z
  ·exact⟨s,x,List.mem_singleton.mp z,(hp rfl).2⟩
theorem YM{f:List D→Rs D}{a b c d:E}{e:Mi.Env}{x y z w:D}(h:a e=.ok x)(h':b e=.ok y)(h'':c e=.ok z)(h3:d e=.ok w):mN f [a,b,c,d] e=f [x,y,z,w]:=by unfold mN;rw[iK,h,aC,iK,h',aC,iK,h'',aC,iK,h3];rfl
theorem Ce{a b c d:E}{e:Mi.Env}{t h s:Str}{x:List Str}(h1:a e=.ok (.str t))(h2:b e=.ok (.str h))(h3:c e=.ok (.str s))(h4:d e=.ok (.tup (x.map D.str))):mN dTup [a,b,c,d] e=.ok (lN t h s x):=(YM h1 h2 h3 h4).trans (au (by show (4:Nat)≤_;decide))
theorem Vt{a:E}{e:Mi.Env}{x:Str}(h:a e=.ok (.str x)):mN dTup [a] e=.ok (.tup ([x].map D.str)):=(jQ h).trans (au (by show (1:Nat)≤_;decide))
section
variable{names:List Str}{A:List Ar}{KT KC:List (List Str)}(N:Nt names A)(D':Dc names A KT KC){told:zW}(ht:∀ p∈fG told,p∈A){t h:Str}(tn:t∈names)(hn:h∈names)(th:tie A t h=true)
theorem Nr{A:List Ar}(R:Rk A){a b:Str}(h:(a,b)∈A):(b,a)∉A:=fun z=>by
 obtain⟨r,hr⟩:=R
 have h1:=hr _ h
 have h2:=hr _ z
 simp only at h1 h2;omega
include N D' tn hn th in
theorem Nh{x:Str}(xn:x∈names)(hx:[t,h,x]∈KC):(t,h)∈A∧Rl names A (fG told) t h "corner" [x] :=
 ⟨(xf.mp ((D'.kc t tn h hn x xn).mp hx).2).1,.Dk xn ((D'.kc t tn h hn x xn).mp hx).1 ((D'.kc t tn h hn x xn).mp hx).2⟩
include N D' ht tn hn th in
theorem Z1{x:Str}(xn:x∈names)(h1:(x,t)∈fG told)(h2:Ks KT KC x t h=true):(t,h)∈A∧Rl names A (fG told) t h "on" [x]:=by
 unfold Ks at h2
 simp only[Bool.and_eq_true,Bool.not_eq_true',decide_eq_false_iff_not] at h2
 obtain⟨n1,n2,n3⟩:=h2
 have nt:¬ tie A x h=true:=fun y=>n2 ((D'.kt x xn h hn n1).mpr y)
 have nc:¬ Aq A x t h=true:=fun y=>n3 ((D'.kc x xn t tn h hn).mpr ⟨n1,y⟩)
 refine⟨?_,.on xn n1 (Bool.not_eq_true _ ▸ nt) (Bool.not_eq_true _ ▸ nc) h1⟩
 rcases jz.mp th with z|z
 ·exact z
 ·rw[jz] at nt
  exact absurd (xf.mpr ⟨ht _ h1,z,fun y=>nt (.inl y),fun y=>nt (.inr y)⟩) nc
include N ht th in
theorem VG{x:Str}(xn:x∈names)(h1:(t,x)∈fG told)(h2:(x,h)∈fG told):(t,h)∈A∧Rl names A (fG told) t h "over" [x]:=by
 refine⟨?_,.over xn h1 h2⟩
 rcases jz.mp th with z|z
 ·exact z
 ·obtain⟨r,hr⟩:=N.rk
  have a1:=hr _ (ht _ h1)
  have a2:=hr _ (ht _ h2)
  have a3:=hr _ z
  simp only at a1 a2 a3;omega
include N D' ht tn hn th in
theorem VH{x y:Str}(xn:x∈names)(yn:y∈names)(h1:(x,h)∈fG told)(h2:(y,h)∈fG told)(k1:[x,t]∈KT)(k2:[y,t]∈KT)(h3:Ks KT KC x t y=true):(t,h)∈A∧Rl names A (fG told) t h "both" [x,y]:=by
 unfold Ks at h3
 simp only[Bool.and_eq_true,Bool.not_eq_true',decide_eq_false_iff_not] at h3
 obtain⟨n1,n2,n3⟩:=h3
 have nt:¬ tie A x y=true:=fun q=>n2 ((D'.kt x xn y yn n1).mpr q)
 have nc:¬ Aq A x t y=true:=fun q=>n3 ((D'.kc x xn t tn y yn).mpr ⟨n1,q⟩)
 have tt:∀ w,[w,t]∈KT→tie A w t=true:=fun w kw=>by
  obtain⟨a,b,e,_,_,_,q⟩:=D'.ktm _ kw
  cases e
  exact q
 refine⟨?_,.both xn yn n1 (Bool.not_eq_true _ ▸ nt) (Bool.not_eq_true _ ▸ nc) (tt x k1) (tt y k2) h1 h2⟩
 rcases jz.mp th with z|z
 ·exact z
 ·obtain⟨r,hr⟩:=N.rk
  have a3:=hr _ z
  have into:∀ w,(w,h)∈fG told→[w,t]∈KT→(w,t)∈A:=fun w hw kw=>by
   rcases jz.mp (tt w kw) with q|q
   ·exact q
   ·have a1:=hr _ (ht _ hw)
    have a2:=hr _ q
    simp only at a1 a2 a3;omega
  rw[jz] at nt
  exact absurd (xf.mpr ⟨into x h1 k1,into y h2 k2,fun q=>nt (.inl q),fun q=>nt (.inr q)⟩) nc
end
end Mr
namespace Mr
open PySem Mi
theorem QQ{f:Fn}{a b c d g:EW}{e:Mi.Env}{x y z u v:W}{o:D}(h1:a e=.ok x)(h2:b e=.ok y)(h3:c e=.ok z)(h4:d e=.ok u)(h5:g e=.ok v)(hf:f [x,y,z,u,v]=.ok (.d o)):aW f [a,b,c,d,g] e=.ok o:=by
 unfold aW jm
 rw[bc,h1,aC,bc,h2,aC,bc,h3,aC,bc,h4,aC,bc,h5]
 simp only[aC,bc,hf,Bk]
section
variable{names:List Str}{A:List Ar}{KT KC:List (List Str)}
def tL(t h:Str)(names:List Str)(KT KC:List (List Str))(told:zW)(rows:List D)(o7 o8 o9:Option W):Mi.Env :=
 [some (.d (.str t)),some (.d (.str h)),some (.d (eY names)),some (.df (jX KT)),some (.df (jX KC)),some (.dt (ur told)),some (.d (.lst rows)),o7,o8,o9]
theorem Hj(N:Nt names A)(D':Dc names A KT KC){told:zW}(ht:∀ p∈fG told,p∈A){t h:Str}(tn:t∈names)(hn:h∈names)(th:tie A t h=true) :
 ∃ rows,iy [.d (.str t),.d (.str h),.d (eY names),.df (jX KT),.df (jX KC),.dt (ur told)]=.ok (.d (.lst rows))∧Gr names A (fG told) t h rows:=by
 obtain⟨e1,f1,Ej,o7,he1,g1,l1⟩:=fV (tg:=.n 7) (body:=(bj (iM (cB (nH 4 (mN dTup [(mV 0),(mV 1),(mV 7)])))
 (dH 6 (mN dTup [(mV 0),(mV 1),(mC (.str "corner")),(mN dTup [(mV 7)])]))
 bG)
 (bj (iM (n6 (cB (nH 5 (mN dTup [(mV 7),(mV 0)]))) (cB (aW cz [(wD (mV 7)),(wD (mV 0)),(wD (mV 1)),(wV 3),(wV 4)])))
 (dH 6 (mN dTup [(mV 0),(mV 1),(mC (.str "on")),(mN dTup [(mV 7)])]))
 bG)
 (iM (n6 (cB (nH 5 (mN dTup [(mV 0),(mV 7)]))) (cB (nH 5 (mN dTup [(mV 7),(mV 1)]))))
 (dH 6 (mN dTup [(mV 0),(mV 1),(mC (.str "over")),(mN dTup [(mV 7)])]))
 bG))))
  (fun i e=>∃ (rows:List D) (o7:Option W),e=tL t h names KT KC told rows o7 none none∧Gr names A (fG told) t h rows∧rows.length≤3 * i) (names.map D.str) 0 (fun i d e hi ⟨rows,o7,he,g,l⟩=>by
   subst he
   rw[Nat.zero_add] at l ⊢
   rw[List.getElem?_map] at hi
   obtain⟨x,hp,rfl⟩:=Option.map_eq_some_iff.mp hi
   have xn:=List.mem_of_getElem? hp
   have il:=(List.getElem?_eq_some_iff.mp hp).1
   have i8:=N.le
   have s1:=Ds (i:=6) (a:=mN dTup [(mV 0),(mV 1),(mC (.str "corner")),(mN dTup [(mV 7)])]) (bF (Vi (i:=4) (k:=mN dTup [(mV 0),(mV 1),(mV 7)]) (e:=tL t h names KT KC told rows (some (.d (.str x))) none none) (ks:=KC) (r:=[t,h,x]) (Uw rfl rfl rfl) rfl)) (d:=lN t h "corner" [x]) (fun _=>Ce rfl rfl rfl (Vt rfl)) (ds:=rows) rfl (by split<;>simp<;>omega) rfl
   obtain⟨p1,hp1⟩ : ∃ p,p=decide ([t,h,x]∈KC):=⟨_,rfl⟩
   rw[← hp1] at s1
   obtain⟨r1,hr1⟩ : ∃ r,r=rows++if p1 then [lN t h "corner" [x]] else []:=⟨_,rfl⟩
   rw[← hr1] at s1
   have g1:Gr names A (fG told) t h r1:=by rw[hr1];exact g.add fun z=>Nh N D' tn hn th xn (by rw[hp1] at z;exact of_decide_eq_true z)
   have l1:r1.length≤rows.length+1:=by rw[hr1,List.length_append];split<;>simp
   have s2:=Ds (i:=6) (a:=mN dTup [(mV 0),(mV 1),(mC (.str "on")),(mN dTup [(mV 7)])]) (uH (a:=cB (nH 5 (mN dTup [(mV 7),(mV 0)]))) (b:=cB (aW cz [(wD (mV 7)),(wD (mV 0)),(wD (mV 1)),(wV 3),(wV 4)])) (e:=tL t h names KT KC told r1 (some (.d (.str x))) none none) (bF (J0 (told:=told) (p:=(x,t)) (fO rfl rfl) rfl)) fun _=>bF (QQ rfl rfl rfl rfl rfl (vR KT KC x t h))) (d:=lN t h "on" [x]) (fun _=>Ce rfl rfl rfl (Vt rfl)) (ds:=r1) rfl (by split<;>simp<;>omega) rfl
   obtain⟨p2,hp2⟩ : ∃ p,p=(decide ((x,t)∈fG told) && Ks KT KC x t h):=⟨_,rfl⟩
   rw[← hp2] at s2
   obtain⟨r2,hr2⟩ : ∃ r,r=r1++if p2 then [lN t h "on" [x]] else []:=⟨_,rfl⟩
   rw[← hr2] at s2
   have g2:Gr names A (fG told) t h r2:=by
    rw[hr2]
    refine g1.add fun z=>?_
    rw[hp2,Bool.and_eq_true,decide_eq_true_eq] at z
    exact Z1 N D' ht tn hn th xn z.1 z.2
   have l2:r2.length≤r1.length+1:=by rw[hr2,List.length_append];split<;>simp
   have s3:=Ds (i:=6) (a:=mN dTup [(mV 0),(mV 1),(mC (.str "over")),(mN dTup [(mV 7)])]) (uH (a:=cB (nH 5 (mN dTup [(mV 0),(mV 7)]))) (b:=cB (nH 5 (mN dTup [(mV 7),(mV 1)]))) (e:=tL t h names KT KC told r2 (some (.d (.str x))) none none) (bF (J0 (told:=told) (p:=(t,x)) (fO rfl rfl) rfl)) fun _=>bF (J0 (told:=told) (p:=(x,h)) (fO rfl rfl) rfl)) (d:=lN t h "over" [x]) (fun _=>Ce rfl rfl rfl (Vt rfl)) (ds:=r2) rfl (by split<;>simp<;>omega) rfl
   obtain⟨p3,hp3⟩ : ∃ p,p=(decide ((t,x)∈fG told) && decide ((x,h)∈fG told)):=⟨_,rfl⟩
   rw[← hp3] at s3
   obtain⟨r3,hr3⟩ : ∃ r,r=r2++if p3 then [lN t h "over" [x]] else []:=⟨_,rfl⟩
   rw[← hr3] at s3
   have g3:Gr names A (fG told) t h r3:=by
    rw[hr3]
    refine g2.add fun z=>?_
    rw[hp3,Bool.and_eq_true,decide_eq_true_eq,decide_eq_true_eq] at z
    exact VG N ht th xn z.1 z.2
   have l3:r3.length≤r2.length+1:=by rw[hr3,List.length_append];split<;>simp
   exact⟨tL t h names KT KC told rows (some (.d (.str x))) none none,tL t h names KT KC told r3 (some (.d (.str x))) none none,rfl,(aL s1).trans ((aL s2).trans s3),r3,_,rfl,g3,by omega⟩) (tL t h names KT KC told [] none none none) ⟨[],none,rfl,Gr.nil names A (fG told) t h,by simp⟩
 subst he1
 have i8:=N.le
 rw[Nat.zero_add,List.length_map] at l1
 obtain⟨rO,HY⟩ : ∃ l,l=names.filter fun n=>decide ((n,h)∈fG told) && decide ([n,t]∈KT):=⟨_,rfl⟩
 have cm:dI (.n 4) (n6 (cB (nH 0 (mN dTup [(mV 4),(mV 2)]))) (cB (nH 1 (mN dTup [(mV 4),(mV 3)])))) (mV 4) [some (.dt (ur told)),some (.df (jX KT)),some (.d (.str h)),some (.d (.str t)),none] (names.map D.str)=.ok (rO.map D.str):=by
  rw[HY]
  exact dU D.str D.str _ names fun n _=>⟨[some (.dt (ur told)),some (.df (jX KT)),some (.d (.str h)),some (.d (.str t)),some (.d (.str n))],rfl,uH (bF (J0 (told:=told) (p:=(n,h)) (fO rfl rfl) rfl)) fun _=>bF (Vi (ks:=KT) (r:=[n,t]) (Ux rfl rfl) rfl),fun _=>rfl⟩
 have s8:=bB (i:=8) (dB (ρ:=[some 5,some 3,some 1,some 0,none]) (e:=tL t h names KT KC told Ej o7 none none) (dZ (a:=mV 2) (x:=eY names) rfl rfl) (by rw[List.length_map];omega) cm)
 have nl:rO.length≤8:=by rw[HY];exact Nat.le_trans (List.length_filter_le _ _) N.le
 have nm:∀ n∈rO,n∈names∧(n,h)∈fG told∧[n,t]∈KT:=fun n z=>by
  rw[HY] at z
  obtain⟨z1,z2⟩:=List.mem_filter.mp z
  rw[Bool.and_eq_true,decide_eq_true_eq,decide_eq_true_eq] at z2
  exact⟨z1,z2.1,z2.2⟩
 have pl:=oX nl
 obtain⟨e2,f2,Ye,o72,o92,he2,g2,l2⟩:=fV (tg:=.t [7,9]) (body:=(iM (cB (aW cz [(wD (mV 7)),(wD (mV 0)),(wD (mV 9)),(wV 3),(wV 4)]))
 (dH 6 (mN dTup [(mV 0),(mV 1),(mC (.str "both")),(mN dTup [(mV 7),(mV 9)])]))
 bG))
  (fun i e=>∃ (rows:List D) (o7 o9:Option W),e=tL t h names KT KC told rows o7 (some (.d (dC rO))) o9∧Gr names A (fG told) t h rows∧rows.length≤24+i) ((prs rO).map pairD) 0 (fun i d e hi ⟨rows,o7,o9,he,g,l⟩=>by
   subst he
   rw[Nat.zero_add] at l ⊢
   rw[List.getElem?_map] at hi
   obtain⟨p,hp,rfl⟩:=Option.map_eq_some_iff.mp hi
   have il:=(List.getElem?_eq_some_iff.mp hp).1
   obtain⟨x1,x2⟩:=qM (List.mem_of_getElem? hp)
   have s1:=Ds (i:=6) (a:=mN dTup [(mV 0),(mV 1),(mC (.str "both")),(mN dTup [(mV 7),(mV 9)])]) (bF (QQ (f:=cz) (a:=wD (mV 7)) (b:=wD (mV 0)) (c:=wD (mV 9)) (d:=wV 3) (g:=wV 4) (e:=tL t h names KT KC told rows (some (.d (.str p.1))) (some (.d (dC rO))) (some (.d (.str p.2)))) rfl rfl rfl rfl rfl (vR KT KC p.1 t p.2))) (d:=lN t h "both" [p.1,p.2]) (fun _=>Ce rfl rfl rfl (fO rfl rfl)) (ds:=rows) rfl (by split<;>simp<;>omega) rfl
   refine⟨tL t h names KT KC told rows (some (.d (.str p.1))) (some (.d (dC rO))) (some (.d (.str p.2))),_,rfl,s1,_,_,_,rfl,g.add fun z=>?_,?_⟩
   ·exact VH N D' ht tn hn th (nm _ x1).1 (nm _ x2).1 (nm _ x1).2.1 (nm _ x2).2.1 (nm _ x1).2.2 (nm _ x2).2.2 z
   ·rw[List.length_append];split<;>simp<;>omega) (tL t h names KT KC told Ej o7 (some (.d (dC rO))) none) ⟨Ej,_,none,rfl,g1,by omega⟩
 subst he2
 refine⟨Ye,?_,g2⟩
 unfold iy yX
 rw[aao]
 rw[show ([some (W.d (.str t)),some (W.d (.str h)),some (W.d (eY names)),some (W.df (jX KT)),some (W.df (jX KC)),some (W.dt (ur told))]++List.replicate (10 - 6) none)=[some (W.d (.str t)),some (W.d (.str h)),some (W.d (eY names)),some (W.df (jX KT)),some (W.df (jX KC)),some (W.dt (ur told)),none,none,none,none] from rfl]
 rw[aL (e':=tL t h names KT KC told [] none none none) (bB (Fj _))]
 rw[aL ((gf (dZ (x:=eY names) rfl rfl)).trans f1)]
 rw[aL s8]
 rw[show ((tL t h names KT KC told Ej o7 none none).set 8 (some (W.d (D.lst (rO.map D.str)))))=tL t h names KT KC told Ej o7 (some (.d (dC rO))) none from rfl]
 rw[aL ((gf (dZ (pP (f:=cL) (a:=wD (mV 8)) rfl (KY nl)) rfl)).trans f2)]
 rfl
end
end Mr
namespace Mr
open PySem Mi
theorem W5{f:Fn}{a b c d g k:EW}{e:Mi.Env}{x y z u v w:W}{rows:List D}(h1:a e=.ok x)(h2:b e=.ok y)(h3:c e=.ok z)(h4:d e=.ok u)(h5:g e=.ok v)(h6:k e=.ok w)(hf:f [x,y,z,u,v,w]=.ok (.d (.lst rows)))(hi:ux rows=true):qm f [a,b,c,d,g,k] e=.ok (.lst rows):=by
 unfold qm jm
 rw[bc,h1,aC,bc,h2,aC,bc,h3,aC,bc,h4,aC,bc,h5,aC,bc,h6]
 simp only[aC,bc,hf,Ja,au hi]
theorem Th(t h s:Str)(x:List Str):Mt (lN t h s x)=true:=by
 unfold lN
 simp[Mt,ux,Fx]
theorem Gr.Mt{names:List Str}{A P:List Ar}{t h:Str}:∀ {rows:List D},(∀ r∈rows,∃ s x,r=lN t h s x∧Rl names A P t h s x)→ux rows=true
 | [],_=>rfl
 | r::rows,g=>by
  obtain⟨s,x,e,_⟩:=g r List.mem_cons_self
  rw[ux,Bool.and_eq_true]
  exact⟨by rw[e];exact Th t h s x,Gr.Mt fun q hq=>g q (List.mem_cons_of_mem _ hq)⟩
structure Gt(names:List Str)(A:List Ar)(told:zW):Prop where
 nd:(fG told).Nodup
 sub:∀ p∈fG told,p∈A
 ord:∀ i q,told[i]? = some q→∃ s x,q.2=lN q.1.1 q.1.2 s x∧Rl names A (fG (told.take i)) q.1.1 q.1.2 s x
theorem Gt.nil(names:List Str)(A:List Ar):Gt names A []:=⟨.nil,fun _ z=>(nomatch z),fun _ _ z=>(nomatch z)⟩
theorem Gt.sh{names:List Str}{A:List Ar}{told:zW}(g:Gt names A told):∀ q∈told,∃ s x,q.2=lN q.1.1 q.1.2 s x:=fun q hq=>by
 obtain⟨i,hi⟩:=List.getElem?_of_mem hq
 obtain⟨s,x,e,_⟩:=g.ord i q hi
 exact⟨s,x,e⟩
theorem Gt.len{names:List Str}{A:List Ar}{told:zW}(g:Gt names A told)(hA:A.length≤64):told.length≤64:=by
 have:=mJ g.nd g.sub
 unfold fG at this
 rw[List.length_map] at this;omega
theorem Z4(told:zW)(p:Ar)(v:D)(hn:p∉fG told):Mi.putK (PK p) v (ur told)=ur (told++[(p,v)]):=by
 unfold Mi.putK
 rw[if_neg (by
  unfold ur
  rw[List.any_map,Bool.not_eq_true,List.any_eq_false]
  intro z hz
  simp only[Function.comp,decide_eq_true_eq]
  exact fun q=>hn (by unfold fG;rw[← JR q];exact List.mem_map_of_mem hz))]
 unfold ur
 rw[List.map_append];rfl
theorem WW{i:Nat}{k v:E}{e:Mi.Env}{told:zW}{p:Ar}{x:D}(hv:v e=.ok x)(hk:k e=.ok (pairD p))(hw:wV i e=.ok (.dt (ur told)))(hn:p∉fG told)(hl:told.length≤1000):lQ i k v e=.ok (.nx (e.set i (some (.dt (ur (told++[(p,x)])))))):=by
 unfold lQ
 have h1:TV (.dt (ur told)) (pairD p) x=.ok (.dt (ur (told++[(p,x)]))):=by
  show aR ((ur told).length < 16777216) (Rs.ok (W.dt (Mi.putK (PK p) x (ur told))))=_
  rw[au (by unfold ur;rw[List.length_map];omega),Z4 told p x hn]
 rw[hv,aC,hk,aC,hw,aC,h1];rfl
section
variable{names:List Str}{A:List Ar}{KT KC:List (List Str)}{T Cn:D}
def nU(names:List Str)(T Cn:D)(KT KC:List (List Str))(told:zW)(ob:D)(o7 o8 o9:Option W):Mi.Env :=
 [some (.d (eY names)),some (.d T),some (.d Cn),some (.df (jX KT)),some (.df (jX KC)),some (.dt (ur told)),some (.d ob),o7,o8,o9]
abbrev wZ:S:=(iM (cB (jW 5 (mN dTup [(mV 7),(mV 8)])))
 (bj (cG 9 (qm iy [(wD (mV 7)),(wD (mV 8)),(wD (mV 0)),(wV 3),(wV 4),(wV 5)]))
 (iM (T9 (mV 9))
 (lQ 5 (mN dTup [(mV 7),(mV 8)]) (m2 bz (mV 9) (mC (.int 0))))
 bG))
 bG)
theorem Tr(N:Nt names A)(D':Dc names A KT KC){told:zW}(g:Gt names A told)(ob:D)(o7 o8 o9:Option W):∃ eQ o7' o8' o9',uB (.t [7,8]) wZ (KT.map jh) (nU names T Cn KT KC told ob o7 o8 o9)=.ok (.nx (nU names T Cn KT KC eQ ob o7' o8' o9'))∧Gt names A eQ∧told.length≤eQ.length:=by
 obtain⟨e',f1,eQ,o7',o8',o9',he,g',l'⟩:=fV (tg:=.t [7,8]) (body:=wZ)
  (fun i e=>∃ (eQ:zW) (o7 o8 o9:Option W),e=nU names T Cn KT KC eQ ob o7 o8 o9∧Gt names A eQ∧told.length≤eQ.length) (KT.map jh) 0 (fun i d e hi ⟨td,o7,o8,o9,he,g,l⟩=>by
   subst he
   rw[List.getElem?_map] at hi
   obtain⟨k,hp,rfl⟩:=Option.map_eq_some_iff.mp hi
   obtain⟨t,h,rfl,tn,hn,ne,th⟩:=D'.ktm _ (List.mem_of_getElem? hp)
   have len:=g.len N.al
   have cn:=bF (Qs (i:=5) (k:=mN dTup [(mV 7),(mV 8)]) (e:=nU names T Cn KT KC td ob (some (.d (.str t))) (some (.d (.str h))) o9) (told:=td) (p:=(t,h)) (fO rfl rfl) rfl)
   by_cases hm:(t,h)∈fG td
   ·rw[decide_eq_true hm] at cn
    exact⟨nU names T Cn KT KC td ob (some (.d (.str t))) (some (.d (.str h))) o9,nU names T Cn KT KC td ob (some (.d (.str t))) (some (.d (.str h))) o9,rfl,(dF cn).trans rfl,td,_,_,_,rfl,g,l⟩
   ·rw[decide_eq_false hm] at cn
    obtain⟨rows,hr,gr⟩:=Hj N D' g.sub tn hn th
    have s9:=bB (i:=9) (W5 (f:=iy) (a:=wD (mV 7)) (b:=wD (mV 8)) (c:=wD (mV 0)) (d:=wV 3) (g:=wV 4) (k:=wV 5) (e:=nU names T Cn KT KC td ob (some (.d (.str t))) (some (.d (.str h))) o9) rfl rfl rfl rfl rfl rfl hr (Gr.Mt gr.sh))
    cases rows with
    | nil =>
     refine⟨nU names T Cn KT KC td ob (some (.d (.str t))) (some (.d (.str h))) o9,nU names T Cn KT KC td ob (some (.d (.str t))) (some (.d (.str h))) (some (.d (.lst []))),rfl,?_,td,_,_,_,rfl,g,l⟩
     exact(lu cn).trans ((aL s9).trans rfl)
    | cons r0 rs =>
     obtain⟨s,x,er,rl⟩:=gr.sh r0 List.mem_cons_self
     refine⟨nU names T Cn KT KC td ob (some (.d (.str t))) (some (.d (.str h))) o9,nU names T Cn KT KC (td++[((t,h),r0)]) ob (some (.d (.str t))) (some (.d (.str h))) (some (.d (.lst (r0::rs)))),rfl,?_,td++[((t,h),r0)],_,_,_,rfl,⟨?_,fun p z=>?_,fun i q z=>?_⟩,by rw[List.length_append];omega⟩
     ·refine(lu cn).trans ((aL s9).trans ((lu (show T9 (mV 9) _=.ok true from rfl)).trans ?_))
      exact WW (told:=td) (p:=(t,h)) (x:=r0) (aJ (x:=.lst (r0::rs)) rfl rfl (by show pR (pF (r0::rs) 0)=_;rw[at0];rfl)) (fO rfl rfl) rfl hm (by omega)
     ·unfold fG
      rw[List.map_append]
      exact List.nodup_append.mpr ⟨g.nd,by simp,fun a ha b hb=>by
       cases List.mem_singleton.mp hb
       exact fun z=>hm (by have z:a=(t,h):=z;rw[← z];exact ha)⟩
     ·unfold fG at z
      rw[List.map_append] at z
      rcases List.mem_append.mp z with z|z
      ·exact g.sub p z
      ·cases List.mem_singleton.mp z
       exact gr.so (by simp)
     ·rcases Nat.lt_or_ge i td.length with il|il
      ·rw[List.getElem?_append_left il] at z
       rw[List.take_append_of_le_length (Nat.le_of_lt il)]
       exact g.ord i q z
      ·have il2:=(List.getElem?_eq_some_iff.mp z).1
       rw[List.length_append] at il2
       have ie:i=td.length:=by simp only[List.length_singleton] at il2;omega
       subst ie
       rw[List.getElem?_append_right (Nat.le_refl _),Nat.sub_self] at z
       cases z
       rw[List.take_left]
       exact⟨s,x,er,rl⟩) (nU names T Cn KT KC told ob o7 o8 o9) ⟨told,_,_,_,rfl,g,Nat.le_refl _⟩
 exact⟨eQ,o7',o8',o9',by rw[f1,he],g',l'⟩
abbrev ZX:C:=(cB (m2 Am (yz 5) (mV 6)))
abbrev Zz:S:=(bj (cG 6 (yz 5)) (jR (Df 3) (.t [7,8]) wZ))
theorem PL:∀ k:List Str,(rk k).map YX=k.map D.str
 | []=>rfl
 | x::k=>by
  have:=PL k
  unfold rk at this ⊢
  rw[List.map_cons,List.map_cons,List.map_cons,this];rfl
theorem Tn{e:Mi.Env}{i:Nat}(h:wV i e=.ok (.df (jX KT))):Df i e=.ok (KT.map jh):=by
 unfold Df
 rw[h,aC]
 dsimp only
 unfold jX
 rw[List.map_map]
 congr 1
 exact List.map_congr_left fun k _=>by
  show D.tup ((rk k).map YX)=_
  rw[PL];rfl
theorem J9(N:Nt names A)(D':Dc names A KT KC){told:zW}(g:Gt names A told)(ob:D)(o7 o8 o9:Option W):∃ eQ o7' o8' o9',Zz (nU names T Cn KT KC told ob o7 o8 o9)=.ok (.nx (nU names T Cn KT KC eQ (.int (told.length:Nat)) o7' o8' o9'))∧Gt names A eQ∧told.length≤eQ.length:=by
 obtain⟨eQ,o7',o8',o9',f,r⟩:=Tr (T:=T) (Cn:=Cn) N D' g (.int (told.length:Nat)) o7 o8 o9
 refine⟨eQ,o7',o8',o9',?_,r⟩
 have s:cG 6 (yz 5) (nU names T Cn KT KC told ob o7 o8 o9)=.ok (.nx (nU names T Cn KT KC told (.int (told.length:Nat)) o7 o8 o9)):=bB (d:=.int (told.length:Nat)) (by
  show Rs.ok (D.int ((ur told).length:Nat))=_
  unfold ur;rw[List.length_map])
 rw[show Zz=bj (cG 6 (yz 5)) (jR (Df 3) (.t [7,8]) wZ) from rfl,aL s,gf (Tn (KT:=KT) rfl),f]
theorem BP(told:zW)(ob:D)(o7 o8 o9:Option W):ZX (nU names T Cn KT KC told ob o7 o8 o9)=.ok (!cH (.int (told.length:Nat)) ob):=by
 refine bF (aJ (x:=.int (told.length:Nat)) (y:=ob) (by
  show Rs.ok (D.int ((ur told).length:Nat))=_
  unfold ur;rw[List.length_map]) rfl ?_)
 unfold Am
 exact au (by show (0:Nat)≤16;decide)
theorem Mz(N:Nt names A)(D':Dc names A KT KC):∀ (n:Nat) (told:zW) (ob:D) (o7 o8 o9:Option W) (fuel:Nat),Gt names A told→64 - told.length≤n→n+2≤fuel →
 ∃ eQ ob' o7' o8' o9',lZ ZX Zz fuel (nU names T Cn KT KC told ob o7 o8 o9)=.ok (.nx (nU names T Cn KT KC eQ ob' o7' o8' o9'))∧Gt names A eQ:=by
 intro n
 induction n with
 | zero =>
  intro told ob o7 o8 o9 fuel g h1 h2
  obtain⟨f,rfl⟩ : ∃ f,fuel=f+2:=⟨fuel - 2,by omega⟩
  rw[show f+2=(f+1)+1 from rfl,lZ,BP]
  cases hb:cH (.int (told.length:Nat)) ob with
  | true=>exact⟨told,ob,o7,o8,o9,rfl,g⟩
  | false =>
   obtain⟨eQ,o7',o8',o9',hbd,g',l'⟩:=J9 (T:=T) (Cn:=Cn) N D' g ob o7 o8 o9
   have len:=g'.len N.al
   simp only[aC,Bool.not_false,if_true,hbd]
   rw[lZ,BP,show cH (.int (eQ.length:Nat)) (.int (told.length:Nat))=true by rw[show eQ.length=told.length by omega];exact L2.kE _]
   exact⟨eQ,_,o7',o8',o9',rfl,g'⟩
 | succ n ih =>
  intro told ob o7 o8 o9 fuel g h1 h2
  obtain⟨f,rfl⟩ : ∃ f,fuel=f+1:=⟨fuel - 1,by omega⟩
  rw[lZ,BP]
  cases hb:cH (.int (told.length:Nat)) ob with
  | true=>exact⟨told,ob,o7,o8,o9,rfl,g⟩
  | false =>
   obtain⟨eQ,o7',o8',o9',hbd,g',l'⟩:=J9 (T:=T) (Cn:=Cn) N D' g ob o7 o8 o9
   have len:=g'.len N.al
   simp only[aC,Bool.not_false,if_true,hbd]
   by_cases e:eQ.length=told.length
   ·obtain⟨f',rfl⟩ : ∃ f',f=f'+1:=⟨f - 1,by omega⟩
    rw[lZ,BP,show cH (.int (eQ.length:Nat)) (.int (told.length:Nat))=true by rw[e];exact L2.kE _]
    exact⟨eQ,_,o7',o8',o9',rfl,g'⟩
   ·exact ih eQ _ o7' o8' o9' f g' (by omega) (by omega)
end
end Mr
namespace Mr
open PySem Mi
theorem V2{names:List Str}(nd:names.Nodup){a b:Str}(h:(a,b)∈prs names):a∈names∧b∈names∧a≠b:=by
 obtain⟨k,hk,rfl,hb⟩:=jD.mp h
 exact⟨qQ hk,(w5 nd hk hb).1,(w5 nd hk hb).2⟩
theorem jV{names:List Str}{A:List Ar}{p:Ar}:p∈mj names A↔p∈prs names∧tie A p.1 p.2=true:=List.mem_filter
theorem Ge{names:List Str}(nd:names.Nodup){A:List Ar}{a m b:Str}(ha:a∈names)(hm:m∈names)(hb:b∈names):((a,m,b)∈gR names A∨(b,m,a)∈gR names A)↔a≠b∧Aq A a m b=true:=by
 constructor
 ·rintro (h|h)
  ·obtain⟨k,hk,rfl,_,hd,c⟩:=nq.mp h
   exact⟨(w5 nd hk hd).2,c⟩
  ·obtain⟨k,hk,rfl,_,hd,c⟩:=nq.mp h
   exact⟨Ne.symm (w5 nd hk hd).2,by rw[Gf];exact c⟩
 ·rintro ⟨ne,c⟩
  rcases sY ha hb ne with h|h
  ·obtain⟨k,hk,e,hd⟩:=jD.mp h
   exact .inl (nq.mpr ⟨k,hk,e,hm,hd,c⟩)
  ·obtain⟨k,hk,e,hd⟩:=jD.mp h
   exact .inr (nq.mpr ⟨k,hk,e,hm,hd,by rw[Gf];exact c⟩)
theorem Ze{names:List Str}{A:List Ar}(nd:names.Nodup){KT KC:List (List Str)}(h1:∀ k,k∈KT↔∃ r∈(mj names A).map wN,k=r∨k=r.reverse)(h2:∀ k,k∈KC↔∃ r∈(gR names A).map tr,k=r∨k=r.reverse):Dc names A KT KC:=by
 have kt:∀ a b,[a,b]∈KT↔(a,b)∈mj names A∨(b,a)∈mj names A:=fun a b=>by
  rw[h1]
  constructor
  ·rintro ⟨r,hr,e⟩
   obtain⟨p,hp,rfl⟩:=List.mem_map.mp hr
   rcases e with e|e
   ·simp only[wN,List.cons.injEq,and_true] at e
    exact .inl (by rw[e.1,e.2];exact hp)
   ·simp only[wN,List.reverse_cons,List.reverse_nil,List.nil_append,List.cons_append,List.cons.injEq,and_true] at e
    exact .inr (by rw[e.1,e.2];exact hp)
  ·rintro (h|h)
   ·exact⟨_,List.mem_map_of_mem h,.inl rfl⟩
   ·exact⟨_,List.mem_map_of_mem h,.inr rfl⟩
 have kc:∀ a m b,[a,m,b]∈KC↔(a,m,b)∈gR names A∨(b,m,a)∈gR names A:=fun a m b=>by
  rw[h2]
  constructor
  ·rintro ⟨r,hr,e⟩
   obtain⟨p,hp,rfl⟩:=List.mem_map.mp hr
   rcases e with e|e
   ·simp only[tr,List.cons.injEq,and_true] at e
    exact .inl (by rw[e.1,e.2.1,e.2.2];exact hp)
   ·simp only[tr,List.reverse_cons,List.reverse_nil,List.nil_append,List.cons_append,List.cons.injEq,and_true] at e
    exact .inr (by rw[e.1,e.2.1,e.2.2];exact hp)
  ·rintro (h|h)
   ·exact⟨_,List.mem_map_of_mem h,.inl rfl⟩
   ·exact⟨_,List.mem_map_of_mem h,.inr rfl⟩
 refine⟨fun a ha b hb ne=>?_,fun k hk=>?_,fun a ha m hm b hb=>?_⟩
 ·rw[kt,jV,jV]
  constructor
  ·rintro (h|h)
   ·exact h.2
   ·rw[xK];exact h.2
  ·intro t
   rcases sY ha hb ne with h|h
   ·exact .inl ⟨h,t⟩
   ·exact .inr ⟨h,by rw[xK];exact t⟩
 ·obtain⟨r,hr,e⟩:=(h1 k).mp hk
  obtain⟨p,hp,rfl⟩:=List.mem_map.mp hr
  obtain⟨p1,p2⟩:=jV.mp hp
  obtain⟨a1,a2,a3⟩:=V2 nd (a:=p.1) (b:=p.2) p1
  rcases e with rfl|rfl
  ·exact⟨p.1,p.2,rfl,a1,a2,a3,p2⟩
  ·exact⟨p.2,p.1,rfl,a2,a1,Ne.symm a3,by rw[xK];exact p2⟩
 ·rw[kc,Ge nd ha hm hb]
theorem Ci{names:List Str}{A:List Ar}(N:Nt names A):∃ told,cJ [.d (eY names),.d (dD (mj names A)),.d (.lst ((gR names A).map eG))]=.ok (.d (.lst (told.map (·.2))))∧Gt names A told:=by
 have tl:(mj names A).length≤64:=Nat.le_trans (List.length_filter_le _ _) (oX N.le)
 have cl:=Gg N.le A
 obtain⟨KT,hT,mT⟩:=J8 ((mj names A).map wN) (fun r hr=>by obtain⟨p,_,rfl⟩:=List.mem_map.mp hr;show (2:Nat)≤1000;decide) (by rw[List.length_map];omega)
 obtain⟨KC,hC,mC'⟩:=J8 ((gR names A).map tr) (fun r hr=>by obtain⟨p,_,rfl⟩:=List.mem_map.mp hr;show (3:Nat)≤1000;decide) (by rw[List.length_map];omega)
 have eT:D.lst (((mj names A).map wN).map jh)=dD (mj names A):=by unfold dD;rw[List.map_map];rfl
 have eC:D.lst (((gR names A).map tr).map jh)=.lst ((gR names A).map eG):=by rw[List.map_map];rfl
 rw[eT] at hT
 rw[eC] at hC
 have D':=Ze N.nd mT mC'
 obtain⟨told,ob,o7,o8,o9,hw,g⟩:=Mz (T:=dD (mj names A)) (Cn:=.lst ((gR names A).map eG)) N D' 64 [] .non none none none 200 (Gt.nil names A) (by simp) (by decide)
 refine⟨told,?_,g⟩
 unfold cJ uJ
 rw[aap]
 rw[show ([some (W.d (eY names)),some (W.d (dD (mj names A))),some (W.d (.lst ((gR names A).map eG)))]++List.replicate (10 - 3) none)=[some (W.d (eY names)),some (W.d (dD (mj names A))),some (W.d (.lst ((gR names A).map eG))),none,none,none,none,none,none,none] from rfl]
 have frz:∀ {e:Mi.Env} {a:EW} {x:W} {ks:List (List Str)},a e=.ok x→fj [x]=.ok (.dt (jX ks))→MJ (jm fj [a]) e=.ok (.df (jX ks)):=fun {e a x ks} h1 h2=>by
  unfold MJ jm
  rw[bc,h1]
  simp only[aC,bc,h2]
  rfl
 have sw:∀ {i:Nat} {a:EW} {e:Mi.Env} {w:W},a e=.ok w→vZ i a e=.ok (.nx (e.set i (some w))):=fun {i a e w} h=>by unfold vZ;rw[h];rfl
 rw[aL (e':=[some (W.d (eY names)),some (W.d (dD (mj names A))),some (W.d (.lst ((gR names A).map eG))),some (.df (jX KT)),none,none,none,none,none,none]) (sw (frz rfl hT))]
 rw[aL (e':=[some (W.d (eY names)),some (W.d (dD (mj names A))),some (W.d (.lst ((gR names A).map eG))),some (.df (jX KT)),some (.df (jX KC)),none,none,none,none,none]) (sw (frz rfl hC))]
 rw[aL (e':=[some (W.d (eY names)),some (W.d (dD (mj names A))),some (W.d (.lst ((gR names A).map eG))),some (.df (jX KT)),some (.df (jX KC)),some (.dt (ur [])),none,none,none,none]) rfl]
 rw[aL (e':=nU names (dD (mj names A)) (.lst ((gR names A).map eG)) KT KC [] .non none none none) rfl]
 rw[aL (show Hf 200 ZX Zz _=_ from hw)]
 rw[cR (bK (d:=.lst (told.map (·.2))) (by
  show Rs.ok (D.lst ((ur told).map (·.2)))=_
  unfold ur;rw[List.map_map];rfl))]
 rfl
def gn(names:List Str)(R S:List Ar):D:=.tup [eY names,j8 R,j8 S]
theorem Z0{a:E}{e:Mi.Env}{t h s:Str}{x:List Str}(ha:a e=.ok (lN t h s x)):ji TQ a none (some (mC (.int 2))) e=.ok (pairD (t,h)):=by
 rw[Vz ha rfl]
 exact au (by show (0:Int)≤2∧(2:Int)≤((4:Nat):Int)∧(4:Nat)≤16777216;decide)
def zQ(T P:List Ar):List Ar:=T.filter fun p=>!decide (p∈P) && !decide ((p.2,p.1)∈P)
theorem DY(T P:List Ar)(hl:T.length≤1000):iI [.d (dD T),.d (dD P)]=.ok (.d (dD (zQ T P))):=by
 unfold iI wg
 rw[Qi]
 rw[show ([some (W.d (dD T)),some (W.d (dD P))]++List.replicate (2 - 2) none)=[some (W.d (dD T)),some (W.d (dD P))] from rfl]
 have cm:dI (.t [1,2]) (n6 (cB (m2 dz (mN dTup [(mV 1),(mV 2)]) (mV 0))) (cB (m2 dz (mN dTup [(mV 2),(mV 1)]) (mV 0)))) (mN dTup [(mV 1),(mV 2)]) [some (.d (dD P)),none,none] (T.map pairD)=.ok ((zQ T P).map pairD) :=
  dU pairD pairD _ T fun p _=>⟨[some (.d (dD P)),some (.d (.str p.1)),some (.d (.str p.2))],rfl,uH (bF (aJ (fO rfl rfl) rfl (j5 P p))) fun _=>bF (aJ (fO rfl rfl) rfl (j5 P (p.2,p.1))),fun _=>fO rfl rfl⟩
 rw[cR (bK (dB (ρ:=[some 1,none,none]) (dZ (a:=mV 0) (x:=dD T) rfl rfl) (by rw[List.length_map];omega) cm))]
 rfl
end Mr
namespace Mr
open PySem Mi
theorem S6{names:List Str}{p q:Ar}(hp:p.1∈names∧p.2∈names)(hq:q.1∈names∧q.2∈names)(h:ky names (wN p)=ky names (wN q)):p=q:=by
 unfold ky wN at h
 simp only[List.map_cons,List.map_nil,List.cons.injEq,and_true] at h
 exact Prod.ext (bR hp.1 hq.1 (by omega)) (bR hp.2 hq.2 (by omega))
theorem xP{names:List Str}(nd:names.Nodup)(h1:1≤names.length)(h8:names.length≤8){P:List Ar}(R:Rk P):(uc names P).Pairwise fun p q=>jd (ky names (wN p)) (ky names (wN q))=true:=by
 obtain⟨r,I⟩:=oE.OD nd h1 h8 R
 rw[← uw]
 exact I.sorted
theorem yp{names:List Str}{A P:List Ar}(G:Gd names A)(nd:P.Nodup)(sub:∀ p∈P,p∈A):bY [.d (eY names),.d (dD P)]=.ok (.d (dD (uc names P))):=by
 have few:A.length≤56:=by
  obtain⟨r,I⟩:=oE.OD G.nd G.pos G.le G.rk
  have:=I.few
  have e:=uw names A
  rw[G.uc] at e
  rw[← e,List.length_map];exact this
 have pl:P.length≤56:=Nat.le_trans (mJ nd sub) few
 obtain⟨r,hr⟩:=G.rk
 refine Jx (α:=Ar) (names:=names) (by have:=G.le;omega) wN (xs:=P) (ys:=uc names P) (fun p hp=>⟨by show (2:Nat)≤1000;decide,fun y hy=>?_⟩) (by omega) ?_ (fun p=>?_) (xP G.nd G.pos G.le ⟨r,fun p hp=>hr p (sub p hp)⟩)
 ·have:=G.inn p (sub p hp)
  simp only[wN,List.mem_cons,List.not_mem_nil,or_false] at hy
  rcases hy with rfl|rfl
  ·exact this.1
  ·exact this.2
 ·exact(List.pairwise_map.mpr (nd.imp_of_mem fun {p q} hp hq ne e=>ne (S6 (G.inn p (sub p hp)) (G.inn q (sub q hq)) e)))
 ·rw[um]
  exact⟨fun h=>⟨h,G.inn p (sub p h)⟩,fun h=>h.1⟩
theorem Cr{names:List Str}{A:List Ar}(G:Gd names A){told:zW}(hr:cJ [.d (eY names),.d (dD (mj names A)),.d (.lst ((gR names A).map eG))]=.ok (.d (.lst (told.map (·.2)))))(g:Gt names A told):fu [.d (eY names),.d (dD (mj names A)),.d (.lst ((gR names A).map eG))]=.ok (.d (gn names (uc names (fG told)) (zQ (mj names A) (fG told)))):=by
 have tl:told.length≤64:=g.len G.al
 have tT:(mj names A).length≤64:=Nat.le_trans (List.length_filter_le _ _) (oX G.le)
 have c1:dI (.n 0) iB (ji TQ (mV 0) none (some (mC (.int 2)))) [none] (told.map (·.2))=.ok ((told.filter fun _=>true).map fun q=>pairD q.1) :=
  dU (fun q:Ar×D=>q.2) (fun q=>pairD q.1) (fun _=>true) told fun q hq=>by
   obtain⟨s,x,e⟩:=g.sh q hq
   exact⟨[some (.d q.2)],rfl,rfl,fun _=>Z0 (s:=s) (x:=x) (by show Rs.ok q.2=_;rw[e])⟩
 rw[List.filter_eq_self.mpr (fun _ _=>rfl)] at c1
 have e1:D.lst (told.map fun q=>pairD q.1)=dD (fG told):=by unfold dD fG;rw[List.map_map];rfl
 have c2:dI (.t [1,2]) (cB (m2 dz (mN dTup [(mV 2),(mV 1)]) (mV 0))) (mN dTup [(mV 1),(mV 2)]) [some (.d (dD (fG told))),none,none] ((fG told).map pairD)=.ok (((fG told).filter fun _=>true).map pairD) :=
  dU pairD pairD (fun _=>true) _ fun p hp=>⟨[some (.d (dD (fG told))),some (.d (.str p.1)),some (.d (.str p.2))],rfl,bF (aJ (fO rfl rfl) rfl ((j5 (fG told) (p.2,p.1)).trans (by rw[decide_eq_false (fun z=>Nr G.rk (g.sub _ hp) (g.sub _ z))];rfl))),fun _=>fO rfl rfl⟩
 rw[List.filter_eq_self.mpr (fun _ _=>rfl)] at c2
 unfold fu uL
 rw[Tt]
 rw[show ([some (W.d (eY names)),some (W.d (dD (mj names A))),some (W.d (.lst ((gR names A).map eG)))]++List.replicate (5 - 3) none)=[some (W.d (eY names)),some (W.d (dD (mj names A))),some (W.d (.lst ((gR names A).map eG))),none,none] from rfl]
 rw[aL (e':=[some (W.d (eY names)),some (W.d (dD (mj names A))),some (W.d (.lst ((gR names A).map eG))),some (.d (dD (fG told))),none]) (by
  rw[← e1]
  exact bB (dB (ρ:=[none]) (dZ (pO (f:=cJ) (a:=wD (mV 0)) (b:=wD (mV 1)) (c:=wD (mV 2)) rfl rfl rfl hr) rfl) (by rw[List.length_map];omega) c1))]
 rw[aL (e':=[some (W.d (eY names)),some (W.d (dD (mj names A))),some (W.d (.lst ((gR names A).map eG))),some (.d (dD (fG told))),some (.d (dD (fG told)))]) (bB (dB (ρ:=[some 3,none,none]) (dZ (a:=mV 3) (x:=dD (fG told)) rfl rfl) (by unfold fG;rw[List.length_map,List.length_map];omega) c2))]
 rw[cR (bK ((O7 rfl ((jQ (call2 (f:=bY) (a:=wD (mV 0)) (b:=wD (mV 4)) rfl rfl (yp G g.nd g.sub))).trans (Jm _)) ((jQ (call2 (f:=iI) (a:=wD (mV 1)) (b:=wD (mV 4)) rfl rfl (DY _ _ (by omega)))).trans (Jm _))).trans (au (by show (3:Nat)≤_;decide))))]
 rfl
theorem Cq{names:List Str}{A:List Ar}(G:Gd names A){x:D}(h:fu [.d (eY names),.d (dD (mj names A)),.d (.lst ((gR names A).map eG))]=.ok (.d x)):dN [.d (aY names A)]=.ok (.d x):=by
 unfold dN uK
 rw[Tu]
 rw[show ([some (W.d (aY names A))]++List.replicate (1 - 1) none)=[some (W.d (aY names A))] from rfl]
 rw[cR (bK (pO (f:=fu) (bK (aJ rfl rfl (Vc names A))) (bK (pP (f:=gC) (a:=wD (mV 0)) rfl (Jo G.le))) (bK (pP (f:=dw) (a:=wD (mV 0)) rfl (yV G.nt))) h))]
 rfl
end Mr
namespace Mr
open PySem Mi
theorem JQ:∀ a b:List Int,jd a b=true→So.pW b a=false
 | [],[],h=>by cases h
 | [],_::_,_=>rfl
 | _::_,[],h=>by cases h
 | x::r,y::t,h=>by
  rw[jd] at h
  rw[So.pW]
  by_cases e:x=y
  ·subst e
   rw[if_pos (by simp)] at h ⊢
   exact JQ r t h
  ·rw[if_neg (by simpa using e)] at h
   rw[if_neg (by simpa using Ne.symm e)]
   have:=of_decide_eq_true h
   exact decide_eq_false (by omega)
theorem PX{names:List Str}{a b:E}{e:Mi.Env}{x:Str}(ha:a e=.ok (eY names))(hb:b e=.ok (.str x))(hx:x∈names)(hl:names.length≤1000):m2 vG a b e=.ok (.int (names.idxOf x:Nat)):=aJ ha hb (by
 unfold vG
 dsimp only
 rw[Kg]
 exact au ⟨hx,hl⟩)
theorem Es{a:E}{e:Mi.Env}{p:Ar}(h:a e=.ok (pairD p)):m2 bz a (mC (.int 0)) e=.ok (.str p.1):=aJ h rfl (by show pR (pF [D.str p.1,D.str p.2] 0)=_;rw[at0];rfl)
theorem Er{a:E}{e:Mi.Env}{p:Ar}(h:a e=.ok (pairD p)):m2 bz a (mC (.int 1)) e=.ok (.str p.2):=aJ h rfl (by show pR (pF [D.str p.1,D.str p.2] 1)=_;rw[at1];rfl)
def HQ(k:List Int):D:=.lst (k.map D.int)
theorem Wq(a b:List Int):Lz (HQ a) (HQ b)=.ok (.bl (So.pW a b)):=by
 unfold Lz HQ
 dsimp only
 rw[uP,uP];rfl
theorem Aj{names:List Str}{R:List Ar}(hl:names.length≤1000)(inn:∀ p∈R,p.1∈names∧p.2∈names)(pw:R.Pairwise fun p q=>jd (ky names (wN p)) (ky names (wN q))=true):fL [.d (j8 R),.d (eY names)]=.ok (.d (.bl true)):=by
 obtain⟨e',f1,last,o3,o4,he,_⟩:=fV (tg:=.n 3) (body:=(bj (iM (mU (gJ (cB (m1 (IW ["tuple"]) (mV 3)))) (mU (cB (m2 Am (mN fX [(mV 3)]) (mC (.int 2)))) (mU (cB (m2 dz (m2 bz (mV 3) (mC (.int 0))) (mV 1))) (cB (m2 dz (m2 bz (mV 3) (mC (.int 1))) (mV 1))))))
 (bZ (wD (mC (.bl false))))
 bG)
 (bj (cG 4 (mN pC [(m2 vG (mV 1) (m2 bz (mV 3) (mC (.int 0)))),(m2 vG (mV 1) (m2 bz (mV 3) (mC (.int 1))))]))
 (bj (iM (cB (m2 Lz (mV 4) (mV 2)))
 (bZ (wD (mC (.bl false))))
 bG)
 (cG 2 (mV 4))))))
  (fun i e=>∃ (last:List Int) (o3 o4:Option W),e=[some (.d (j8 R)),some (.d (eY names)),some (.d (HQ last)),o3,o4]∧∀ j p,i≤j→R[j]? = some p→So.pW (ky names (wN p)) last=false) (R.map pairD) 0 (fun i d e hi ⟨last,o3,o4,he,h⟩=>by
   subst he
   rw[Nat.zero_add] at h ⊢
   rw[List.getElem?_map] at hi
   obtain⟨p,hp,rfl⟩:=Option.map_eq_some_iff.mp hi
   obtain⟨p1,p2⟩:=inn p (List.mem_of_getElem? hp)
   have c1:(mU (gJ (cB (m1 (IW ["tuple"]) (mV 3)))) (mU (cB (m2 Am (mN fX [(mV 3)]) (mC (.int 2)))) (mU (cB (m2 dz (m2 bz (mV 3) (mC (.int 0))) (mV 1))) (cB (m2 dz (m2 bz (mV 3) (mC (.int 1))) (mV 1)))))) [some (.d (j8 R)),some (.d (eY names)),some (.d (HQ last)),some (.d (pairD p)),o4]=.ok false :=
    fP (p:=false) (q:=false) (fW (p:=true) rfl) fun _=>fP (p:=false) (q:=false) rfl fun _=>fP (p:=false) (q:=false) (bF (aJ (Es rfl) rfl ((lU names p.1).trans (by rw[decide_eq_true p1];rfl)))) fun _=>bF (aJ (Er rfl) rfl ((lU names p.2).trans (by rw[decide_eq_true p2];rfl)))
   have s4:cG 4 (mN pC [(m2 vG (mV 1) (m2 bz (mV 3) (mC (.int 0)))),(m2 vG (mV 1) (m2 bz (mV 3) (mC (.int 1))))]) [some (.d (j8 R)),some (.d (eY names)),some (.d (HQ last)),some (.d (pairD p)),o4]=.ok (.nx [some (.d (j8 R)),some (.d (eY names)),some (.d (HQ last)),some (.d (pairD p)),some (.d (HQ (ky names (wN p))))]) :=
    bB (Wo (PX rfl (Es rfl) p1 hl) (PX rfl (Er rfl) p2 hl))
   have c2:cB (m2 Lz (mV 4) (mV 2)) [some (.d (j8 R)),some (.d (eY names)),some (.d (HQ last)),some (.d (pairD p)),some (.d (HQ (ky names (wN p))))]=.ok false:=bF (aJ rfl rfl ((Wq _ _).trans (by rw[h i p (Nat.le_refl _) hp])))
   refine⟨[some (.d (j8 R)),some (.d (eY names)),some (.d (HQ last)),some (.d (pairD p)),o4],[some (.d (j8 R)),some (.d (eY names)),some (.d (HQ (ky names (wN p)))),some (.d (pairD p)),some (.d (HQ (ky names (wN p))))],rfl,?_,_,_,_,rfl,fun j q hj hq=>?_⟩
   ·exact(aL ((dF c1).trans rfl)).trans ((aL s4).trans ((aL ((dF c2).trans rfl)).trans (bB rfl)))
   ·obtain⟨il,ie⟩:=List.getElem?_eq_some_iff.mp hp
    obtain⟨jl,je⟩:=List.getElem?_eq_some_iff.mp hq
    have:=List.pairwise_iff_getElem.mp pw i j il jl (by omega)
    rw[ie,je] at this
    exact JQ _ _ this) [some (.d (j8 R)),some (.d (eY names)),some (.d (HQ [-1,-1])),none,none] ⟨[-1,-1],none,none,rfl,fun j p _ _=>by
     show So.pW [((names.idxOf p.1:Nat):Int),((names.idxOf p.2:Nat):Int)] [-1,-1]=false
     rw[So.pW,if_neg (by simp)]
     exact decide_eq_false (by omega)⟩
 subst he
 unfold fL Bf
 rw[Qj]
 rw[show ([some (W.d (j8 R)),some (W.d (eY names))]++List.replicate (5 - 2) none)=[some (W.d (j8 R)),some (W.d (eY names)),none,none,none] from rfl]
 rw[aL (e':=[some (W.d (j8 R)),some (W.d (eY names)),none,none,none]) ((dF (fW (p:=true) rfl)).trans rfl)]
 rw[aL (e':=[some (W.d (j8 R)),some (W.d (eY names)),some (.d (HQ [-1,-1])),none,none]) (bB (Wo rfl rfl))]
 rw[aL ((gf (dZ (a:=mV 0) (x:=j8 R) rfl rfl)).trans f1)]
 rfl
end Mr
namespace Mr
open PySem Mi
theorem HH{names:List Str}{ao:List Ar}(hn:names.length≤8):jt [.d (aY names ao)]=.ok (.d (dD (mj names ao))):=by
 unfold jt za
 rw[Tu]
 have epr:(mj names ao).map pairD=(List.range names.length).flatMap fun k=>((names.drop (k+1)).filter fun b=>tie ao (nth names k) b).map fun b=>pairD (nth names k,b):=by
  unfold mj prs
  rw[List.filter_flatMap,gB]
  refine gH fun k _=>?_
  rw[List.filter_map,List.map_map];rfl
 have Od:((mj names ao).map pairD).length≤64:=by rw[List.length_map];exact Nat.le_trans (List.length_filter_le _ _) (oX hn)
 rw[epr] at Od
 obtain⟨e',f1,o2,o3,he⟩:=qu (tg:=.t [2,3]) (body:=(cG 1 (m2 cV (mV 1) (d9 [some 3,some 0,none] (pN (ji zU (m2 bz (mV 0) (mC (.int 0))) (some (m2 cV (mV 2) (mC (.int 1)))) none)) (.n 2) (cB (aW bT [(wD (mV 1)),(wD (mV 0)),(wD (mV 2))])) (mN dTup [(mV 0),(mV 2)])))))
  (fun k:Nat=>D.tup [.int (k:Nat),.str (nth names k)]) (fun k=>((names.drop (k+1)).filter fun b=>tie ao (nth names k) b).map fun b=>pairD (nth names k,b))
  (fun acc e=>∃ o2 o3:Option W,e=[some (.d (aY names ao)),some (.d (.lst acc)),o2,o3]) (List.range names.length) [] [some (.d (aY names ao)),some (.d (.lst [])),none,none] (by simp only[List.length_nil];omega) ⟨none,none,rfl⟩
  (fun k hk acc e hl ⟨o2,o3,he⟩=>by
   subst he
   have hk:=List.mem_range.mp hk
   refine⟨[some (.d (aY names ao)),some (.d (.lst acc)),some (.d (.int (k:Nat))),some (.d (.str (nth names k)))],[some (.d (aY names ao)),some (.d (.lst (acc++((names.drop (k+1)).filter fun b=>tie ao (nth names k) b).map fun b=>pairD (nth names k,b)))),some (.d (.int (k:Nat))),some (.d (.str (nth names k)))],rfl,?_,_,_,rfl⟩
   have hc:dI (.n 2) (cB (aW bT [(wD (mV 1)),(wD (mV 0)),(wD (mV 2))])) (mN dTup [(mV 0),(mV 2)]) [some (.d (.str (nth names k))),some (.d (aY names ao)),none] ((names.drop (k+1)).map D.str)=.ok (((names.drop (k+1)).filter fun b=>tie ao (nth names k) b).map fun b=>pairD (nth names k,b)) :=
    dU D.str (fun b=>pairD (nth names k,b)) (fun b=>tie ao (nth names k) b) _ fun b _=>⟨[some (.d (.str (nth names k))),some (.d (aY names ao)),some (.d (.str b))],rfl,bF (pO rfl rfl rfl (oH (nth names k) b)),fun _=>fO rfl rfl⟩
   have hm:=dB (ρ:=[some 3,some 0,none]) (e:=[some (.d (aY names ao)),some (.d (.lst acc)),some (.d (.int (k:Nat))),some (.d (.str (nth names k)))]) (Ju (b:=mV 2) hk hn (aJ (a:=mV 0) (b:=mC (.int 0)) rfl rfl (Vc names ao)) rfl) (by rw[List.length_map,List.length_drop];omega) hc
   exact bB (aJ (x:=.lst acc) rfl hm (au hl)))
 subst he
 rw[show ([some (W.d (aY names ao))]++List.replicate (4 - 1) none)=[some (W.d (aY names ao)),none,none,none] from rfl]
 rw[aL (e':=[some (.d (aY names ao)),some (.d (.lst [])),none,none]) (bB (Fj _))]
 have hit:tG (m2 bz (mV 0) (mC (.int 0))) [some (.d (aY names ao)),some (.d (.lst [])),none,none]=.ok ((List.range names.length).map fun k=>D.tup [.int (k:Nat),.str (nth names k)]):=by
  rw[← tM]
  unfold tG
  rw[aJ (a:=mV 0) (b:=mC (.int 0)) rfl rfl (Vc names ao)];rfl
 rw[aL ((gf hit).trans f1)]
 unfold dD
 rw[epr];rfl
def U8(names:List Str)(p:Ar):Ar:=if p∈prs names then p else (p.2,p.1)
theorem Ob{names:List Str}(nd:names.Nodup){a b:Str}(h:(a,b)∈prs names):(b,a)∉prs names:=fun z=>by
 obtain⟨k,hk,rfl,hb⟩:=jD.mp h
 obtain⟨j,hj,rfl,ha⟩:=jD.mp z
 have h1:=(yR nd hb).1
 have h2:=(yR nd ha).1
 rw[jY nd hj] at h1
 rw[jY nd hk] at h2
 omega
theorem Ss{names:List Str}{A:List Ar}(R:Rk A){p q:Ar}(hp:p∈A)(hq:q∈A)(h:U8 names p=U8 names q):p=q:=by
 unfold U8 at h
 split at h<;>split at h
 ·exact h
 ·subst h;exact absurd hp (Nr R (a:=q.1) (b:=q.2) hq)
 ·subst h;exact absurd hq (Nr R (a:=p.1) (b:=p.2) hp)
 ·rw[Prod.ext_iff] at h
  exact Prod.ext h.2 h.1
theorem JH{names:List Str}{A:List Ar}(N:Nt names A){P:List Ar}(sub:∀ p∈P,p∈A)(q:Ar):q∈P.map (U8 names)↔q∈mj names A∧(q∈P∨(q.2,q.1)∈P):=by
 constructor
 ·intro h
  obtain⟨p,hp,rfl⟩:=List.mem_map.mp h
  obtain⟨n1,n2⟩:=N.inn p (sub p hp)
  have ne:p.1≠p.2:=fun z=>by
   obtain⟨r,hr⟩:=N.rk
   have:=hr p (sub p hp)
   rw[z] at this;omega
  unfold U8
  split
  ·rename_i hm
   exact⟨jV.mpr ⟨hm,jz.mpr (.inl (sub p hp))⟩,.inl hp⟩
  ·rename_i hm
   have:(p.2,p.1)∈prs names:=(sY n1 n2 ne).resolve_left hm
   exact⟨jV.mpr ⟨this,jz.mpr (.inr (sub p hp))⟩,.inr hp⟩
 ·rintro ⟨h1,h2|h2⟩
  ·exact List.mem_map.mpr ⟨q,h2,by unfold U8;rw[if_pos (jV.mp h1).1]⟩
  ·exact List.mem_map.mpr ⟨(q.2,q.1),h2,by unfold U8;rw[if_neg (Ob N.nd (a:=q.1) (b:=q.2) (jV.mp h1).1)]⟩
theorem MP{names:List Str}(nd:names.Nodup)(A:List Ar):(mj names A).Nodup:=(Oa nd).filter _
theorem Pj{names:List Str}{A P:List Ar}(R:Rk A)(nd:P.Nodup)(sub:∀ p∈P,p∈A):(P.map (U8 names)).Nodup:=List.pairwise_map.mpr (nd.imp_of_mem fun {p q} hp hq ne e=>ne (Ss R (sub p hp) (sub q hq) e))
theorem xQ{names:List Str}{A P:List Ar}(G:Gd names A)(nd:P.Nodup)(sub:∀ p∈P,p∈A):(uc names P).length=P.length:=(pq (z8 G.nd G.le P) nd fun p=>by
 rw[um]
 exact⟨fun h=>h.1,fun h=>⟨h,G.inn p (sub p h)⟩⟩).length_eq
theorem yW{names:List Str}{A P:List Ar}(G:Gd names A)(nd:P.Nodup)(sub:∀ p∈P,p∈A):(uc names P).length+(zQ (mj names A) P).length=A.length:=by
 have a1:A.length=(mj names A).length:=by
  have:=(pq (Pj (names:=names) G.rk G.nodup fun p h=>h) (MP G.nd A) fun q=>by
   rw[JH G.nt (fun p h=>h) q]
   exact⟨fun h=>h.1,fun h=>⟨h,jz.mp (jV.mp h).2⟩⟩).length_eq
  rw[List.length_map] at this;exact this
 have a2:P.length=((mj names A).filter fun p=>decide (p∈P) || decide ((p.2,p.1)∈P)).length:=by
  have:=(pq (m:=(mj names A).filter fun p=>decide (p∈P) || decide ((p.2,p.1)∈P)) (Pj (names:=names) G.rk nd sub) ((MP G.nd A).filter _) fun q=>by
   rw[JH G.nt sub q,List.mem_filter,Bool.or_eq_true,decide_eq_true_eq,decide_eq_true_eq]).length_eq
  rw[List.length_map] at this;exact this
 have a3:=xQ G nd sub
 have a4:∀ T:List Ar,(T.filter fun p=>decide (p∈P) || decide ((p.2,p.1)∈P)).length+(zQ T P).length=T.length:=fun T=>by
  unfold zQ
  induction T with
  | nil=>rfl
  | cons x r ih =>
   rw[List.filter_cons,List.filter_cons]
   by_cases h1:x∈P<;>by_cases h2:(x.2,x.1)∈P<;>simp[h1,h2]<;>omega
 have:=a4 (mj names A)
 omega
end Mr
namespace Mr
open PySem Mi
theorem Ho{names:List Str}(nd:names.Nodup):(prs names).Pairwise fun p q=>jd (ky names (wN p)) (ky names (wN q))=true:=by
 unfold prs
 rw[List.pairwise_flatMap]
 refine⟨fun k hk=>?_,?_⟩
 ·rw[List.pairwise_map]
  refine((yw nd).sublist (List.drop_sublist _ _)).imp fun {a b} h=>?_
  show jd [((names.idxOf (nth names k):Nat):Int),((names.idxOf a:Nat):Int)] [((names.idxOf (nth names k):Nat):Int),((names.idxOf b:Nat):Int)]=true
  rw[uo]
  exact tD (Int.ofNat_lt.mpr h)
 ·refine List.pairwise_lt_range.imp_of_mem fun {i j} hi hj h=>?_
  intro x hx y hy
  obtain⟨b,_,rfl⟩:=List.mem_map.mp hx
  obtain⟨c,_,rfl⟩:=List.mem_map.mp hy
  show jd [((names.idxOf (nth names i):Nat):Int),_] [((names.idxOf (nth names j):Nat):Int),_]=true
  rw[jY nd (List.mem_range.mp hi),jY nd (List.mem_range.mp hj)]
  exact tD (Int.ofNat_lt.mpr h)
theorem Z7(names:List Str)(R S:List Ar):bz (gn names R S) (.int 0)=.ok (eY names):=by show pR (pF [eY names,j8 R,j8 S] 0)=_;rw[at0];rfl
theorem YC(names:List Str)(R S:List Ar):bz (gn names R S) (.int 1)=.ok (j8 R):=by show pR (pF [eY names,j8 R,j8 S] 1)=_;rw[at1];rfl
theorem Z6(names:List Str)(R S:List Ar):bz (gn names R S) (.int 2)=.ok (j8 S):=by
 show pR (pF [eY names,j8 R,j8 S] 2)=_
 simp[pF,De]
theorem W2(a b:Bool):qW (.bl a) (.bl b)=.ok (.bl (a == b)):=au (by show (0:Nat)≤16;decide)
theorem nY(ao:List Ar)(p:Ar):nZ (pairD p) (j8 ao)=.ok (.bl (decide (p∈ao))):=ju ao p
theorem Fp{names:List Str}{A P:List Ar}(G:Gd names A)(nd:P.Nodup)(sub:∀ p∈P,p∈A):iJ [.d (gn names (uc names P) (zQ (mj names A) P)),.d (aY names A)]=.ok (.d (.bl true)):=by
 obtain⟨R,hR⟩ : ∃ R,R=uc names P:=⟨_,rfl⟩
 obtain⟨S,hS⟩ : ∃ S,S=zQ (mj names A) P:=⟨_,rfl⟩
 have i8:=G.le
 have mR:∀ p,p∈R↔p∈P:=fun p=>by
  rw[hR,um]
  exact⟨fun h=>h.1,fun h=>⟨h,G.inn p (sub p h)⟩⟩
 have lp1:fL [.d (j8 R),.d (eY names)]=.ok (.d (.bl true)):=by
  obtain⟨r,hr⟩:=G.rk
  exact Aj (by omega) (fun p hp=>G.inn p (sub p ((mR p).mp hp))) (by rw[hR];exact xP G.nd G.pos G.le ⟨r,fun p hp=>hr p (sub p hp)⟩)
 have lp2:fL [.d (j8 S),.d (eY names)]=.ok (.d (.bl true)):=by
  refine Aj (by omega) (fun p hp=>?_) ?_
  ·rw[hS] at hp
   exact qM (jV.mp (List.mem_filter.mp hp).1).1
  ·rw[hS]
   exact((Ho G.nd).filter _).filter _
 have cnt:R.length+S.length=A.length:=by rw[hR,hS];exact yW G nd sub
 rw[← hR,← hS]
 have x0:∀ (o2 o3 o4 o5:Option W),m2 bz (mV 0) (mC (.int 0)) [some (.d (gn names R S)),some (.d (aY names A)),o2,o3,o4,o5]=.ok (eY names):=fun _ _ _ _=>aJ rfl rfl (Z7 names R S)
 have x1:∀ (o2 o3 o4 o5:Option W),m2 bz (mV 0) (mC (.int 1)) [some (.d (gn names R S)),some (.d (aY names A)),o2,o3,o4,o5]=.ok (j8 R):=fun _ _ _ _=>aJ rfl rfl (YC names R S)
 have x2:∀ (o2 o3 o4 o5:Option W),m2 bz (mV 0) (mC (.int 2)) [some (.d (gn names R S)),some (.d (aY names A)),o2,o3,o4,o5]=.ok (j8 S):=fun _ _ _ _=>aJ rfl rfl (Z6 names R S)
 have y0:∀ (o2 o3 o4 o5:Option W),m2 bz (mV 1) (mC (.int 0)) [some (.d (gn names R S)),some (.d (aY names A)),o2,o3,o4,o5]=.ok (eY names):=fun _ _ _ _=>aJ rfl rfl (Vc names A)
 have y1:∀ (o2 o3 o4 o5:Option W),m2 bz (mV 1) (mC (.int 1)) [some (.d (gn names R S)),some (.d (aY names A)),o2,o3,o4,o5]=.ok (j8 A):=fun _ _ _ _=>aJ rfl rfl (Xq names A)
 obtain⟨e1,f1,o2,he1⟩:=fV (tg:=.n 2) (body:=(iM (cB (m2 dz (mV 2) (m2 bz (mV 1) (mC (.int 1)))))
 (bZ (wD (mC (.bl false))))
 bG))
  (fun i e=>∃ o2:Option W,e=[some (.d (gn names R S)),some (.d (aY names A)),o2,none,none,none]) (R.map pairD) 0 (fun i d e hi ⟨o2,he⟩=>by
   subst he
   rw[List.getElem?_map] at hi
   obtain⟨p,hp,rfl⟩:=Option.map_eq_some_iff.mp hi
   have pa:=sub p ((mR p).mp (List.mem_of_getElem? hp))
   exact⟨[some (.d (gn names R S)),some (.d (aY names A)),some (.d (pairD p)),none,none,none],_,rfl,(dF (bF (aJ (b:=m2 bz (mV 1) (mC (.int 1))) rfl (y1 _ _ _ _) ((uD A p).trans (by rw[decide_eq_true pa];rfl))))).trans rfl,_,rfl⟩) [some (.d (gn names R S)),some (.d (aY names A)),none,none,none,none] ⟨none,rfl⟩
 subst he1
 obtain⟨e2,f2,o3,o4,o5,he2⟩:=fV (tg:=.t [3,4]) (body:=(bj (cG 5 (Pn (m2 nZ (mN dTup [(mV 3),(mV 4)]) (m2 bz (mV 0) (mC (.int 1)))) (m2 nZ (mN dTup [(mV 4),(mV 3)]) (m2 bz (mV 0) (mC (.int 1))))))
 (iM (cB (m2 qW (mV 5) (m2 nZ (mN dTup [(mV 3),(mV 4)]) (m2 bz (mV 0) (mC (.int 2))))))
 (bZ (wD (mC (.bl false))))
 bG)))
  (fun i e=>∃ o3 o4 o5:Option W,e=[some (.d (gn names R S)),some (.d (aY names A)),o2,o3,o4,o5]) ((mj names A).map pairD) 0 (fun i d e hi ⟨o3,o4,o5,he⟩=>by
   subst he
   rw[List.getElem?_map] at hi
   obtain⟨p,hp,rfl⟩:=Option.map_eq_some_iff.mp hi
   have pt:=List.mem_of_getElem? hp
   obtain⟨by_,hb⟩ : ∃ b,b=(decide (p∈R) || decide ((p.2,p.1)∈R)):=⟨_,rfl⟩
   have s5:cG 5 (Pn (m2 nZ (mN dTup [(mV 3),(mV 4)]) (m2 bz (mV 0) (mC (.int 1)))) (m2 nZ (mN dTup [(mV 4),(mV 3)]) (m2 bz (mV 0) (mC (.int 1))))) [some (.d (gn names R S)),some (.d (aY names A)),o2,some (.d (.str p.1)),some (.d (.str p.2)),o5]=.ok (.nx [some (.d (gn names R S)),some (.d (aY names A)),o2,some (.d (.str p.1)),some (.d (.str p.2)),some (.d (.bl by_))]):=by
    rw[hb]
    exact bB (Pk (aJ (fO rfl rfl) (x1 _ _ _ _) (nY R p)) fun _=>aJ (fO rfl rfl) (x1 _ _ _ _) (nY R (p.2,p.1)))
   have inS:decide (p∈S) = !by_:=by
    rw[hb,hS]
    unfold zQ
    by_cases h1:p∈P<;>by_cases h2:(p.2,p.1)∈P<;>simp[List.mem_filter,mR,h1,h2,pt]
   have c:cB (m2 qW (mV 5) (m2 nZ (mN dTup [(mV 3),(mV 4)]) (m2 bz (mV 0) (mC (.int 2))))) [some (.d (gn names R S)),some (.d (aY names A)),o2,some (.d (.str p.1)),some (.d (.str p.2)),some (.d (.bl by_))]=.ok false :=
    bF (aJ (x:=.bl by_) rfl (aJ (fO rfl rfl) (x2 _ _ _ _) (nY S p)) ((W2 _ _).trans (by rw[inS];cases by_<;>rfl)))
   exact⟨[some (.d (gn names R S)),some (.d (aY names A)),o2,some (.d (.str p.1)),some (.d (.str p.2)),o5],_,rfl,(aL s5).trans ((dF c).trans rfl),_,_,_,rfl⟩) [some (.d (gn names R S)),some (.d (aY names A)),o2,none,none,none] ⟨none,none,none,rfl⟩
 subst he2
 unfold iJ wu
 rw[Qj]
 rw[show ([some (W.d (gn names R S)),some (W.d (aY names A))]++List.replicate (6 - 2) none)=[some (W.d (gn names R S)),some (W.d (aY names A)),none,none,none,none] from rfl]
 have cA:(mU (gJ (cB (m1 (IW ["tuple"]) (mV 0)))) (mU (cB (m2 Am (mN fX [(mV 0)]) (mC (.int 3)))) (mU (gJ (cB (m1 (IW ["tuple"]) (m2 bz (mV 0) (mC (.int 0)))))) (cB (m2 Am (m2 bz (mV 0) (mC (.int 0))) (m2 bz (mV 1) (mC (.int 0)))))))) [some (W.d (gn names R S)),some (W.d (aY names A)),none,none,none,none]=.ok false :=
  fP (p:=false) (q:=false) (fW (p:=true) rfl) fun _=>fP (p:=false) (q:=false) rfl fun _=>fP (p:=false) (q:=false) (fW (p:=true) (bF (by unfold m1;rw[x0];rfl))) fun _=>bF (aJ (x0 _ _ _ _) (y0 _ _ _ _) ((TY names names).trans (by simp)))
 have cC:(mU (gJ (cB (aW fL [(wD (m2 bz (mV 0) (mC (.int 1)))),(wD (m2 bz (mV 1) (mC (.int 0))))]))) (gJ (cB (aW fL [(wD (m2 bz (mV 0) (mC (.int 2)))),(wD (m2 bz (mV 1) (mC (.int 0))))])))) [some (W.d (gn names R S)),some (W.d (aY names A)),none,none,none,none]=.ok false :=
  fP (p:=false) (q:=false) (fW (p:=true) (bF (call2 (bK (x1 _ _ _ _)) (bK (y0 _ _ _ _)) lp1))) fun _=>fW (p:=true) (bF (call2 (bK (x2 _ _ _ _)) (bK (y0 _ _ _ _)) lp2))
 rw[aL ((dF cA).trans rfl),aL ((dF cC).trans rfl)]
 rw[aL ((gf (dZ (x1 _ _ _ _) rfl)).trans f1)]
 rw[aL ((gf (dZ (pP (f:=jt) (a:=wD (mV 1)) rfl (HH G.le)) rfl)).trans f2)]
 rw[cR (bK (aJ (aJ ((jQ (x1 _ _ _ _)).trans (Fo _)) ((jQ (x2 _ _ _ _)).trans (Fo _)) (zp _ _)) ((jQ (y1 _ _ _ _)).trans (Fo _)) ((uF _ _).trans (by
  rw[List.length_map,List.length_map,List.length_map,decide_eq_true (by omega)]))))]
 rfl
end Mr
namespace Mr
open PySem Mi
end Mr
namespace Mr
open PySem Mi
open My (words tX cF)
end Mr
namespace Mr
open PySem Mi
open My (words tX cF)
theorem TF(names:List Str)(R S:List Ar):(gn names R S).dep≤16:=by
 unfold gn eY j8
 rw[w6,jL,jL,jL,w6,w6,w6,Ik,tQ]
 have:=kI R
 have:=kI S
 omega
theorem Qx{x:D}(h:x.dep≤16):qW x x=.ok (.bl true):=by
 unfold qW;rw[au h,L2.kE]
end Mr
namespace Mr
open PySem Mi
theorem Za(n:Nat)(b:S)(a0 a1 a2 a3 a4 a5:W):wM 6 n b [a0,a1,a2,a3,a4,a5]=(b ([some a0,some a1,some a2,some a3,some a4,some a5]++List.replicate (n - 6) none)).bind rT:=au rfl
theorem QM{f:Fn}{a b c d g k:EW}{e:Mi.Env}{x y z u v w:W}{o:D}(h1:a e=.ok x)(h2:b e=.ok y)(h3:c e=.ok z)(h4:d e=.ok u)(h5:g e=.ok v)(h6:k e=.ok w)(hf:f [x,y,z,u,v,w]=.ok (.d o)):aW f [a,b,c,d,g,k] e=.ok o:=by
 unfold aW jm
 rw[bc,h1,aC,bc,h2,aC,bc,h3,aC,bc,h4,aC,bc,h5,aC,bc,h6]
 simp only[aC,bc,hf,Bk]
theorem W6{f:Fn}{a b:EW}{e:Mi.Env}{x y:W}{rows:List D}(h1:a e=.ok x)(h2:b e=.ok y)(hf:f [x,y]=.ok (.d (.lst rows)))(hi:ux rows=true):qm f [a,b] e=.ok (.lst rows):=by
 unfold qm jm
 rw[bc,h1,aC,bc,h2]
 simp only[aC,bc,hf,Ja,au hi]
theorem Dn(names:List Str)(A:List Ar)(a m b:Str):f9 [.d (aY names A),.d (.str a),.d (.str m),.d (.str b)]=.ok (.d (.bl (!decide (a=b) && Aq A a m b))):=by
 unfold f9 Gn
 rw[aar]
 rw[show ([some (W.d (aY names A)),some (W.d (.str a)),some (W.d (.str m)),some (W.d (.str b))]++List.replicate (4 - 4) none)=[some (W.d (aY names A)),some (W.d (.str a)),some (W.d (.str m)),some (W.d (.str b))] from rfl]
 have c:(mU (cB (m2 qW (mV 1) (mV 3))) (cB (aW bT [(wD (mV 0)),(wD (mV 1)),(wD (mV 3))]))) [some (W.d (aY names A)),some (W.d (.str a)),some (W.d (.str m)),some (W.d (.str b))]=.ok (decide (a=b) || tie A a b) :=
  fP (bF (aJ rfl rfl (pD a b))) fun _=>bF (pO rfl rfl rfl (oH a b))
 have y1:m2 bz (mV 0) (mC (.int 1)) [some (W.d (aY names A)),some (W.d (.str a)),some (W.d (.str m)),some (W.d (.str b))]=.ok (j8 A):=aJ rfl rfl (Xq names A)
 cases h:(decide (a=b) || tie A a b) with
 | true =>
  rw[h] at c
  have e:(!decide (a=b) && Aq A a m b)=false:=by
   rcases Bool.or_eq_true_iff.mp h with z|z
   ·rw[z];rfl
   ·unfold tie at z
    unfold Aq
    rw[z];simp
  rw[e]
  rw[qb ((lu c).trans (cR rfl))]
  rfl
 | false =>
  rw[h] at c
  rw[aL ((dF c).trans rfl)]
  rw[cR (bK (iZ (aJ (fO rfl rfl) y1 (nY A (a,m))) fun _=>aJ (fO rfl rfl) y1 (nY A (b,m))))]
  have e:(!decide (a=b) && Aq A a m b)=(decide ((a,m)∈A) && decide ((b,m)∈A)):=by
   obtain⟨z1,z2⟩:=Bool.or_eq_false_iff.mp h
   unfold tie at z2
   unfold Aq
   rw[z1,z2];simp
  rw[e];rfl
theorem Rl.inn{names:List Str}{A P:List Ar}{t h s:Str}{x:List Str}(r:Rl names A P t h s x):∀ y∈x,y∈names:=by
 intro y hy
 cases r with
 | Dk zn=>cases List.mem_singleton.mp hy;exact zn
 | on zn=>cases List.mem_singleton.mp hy;exact zn
 | over zn=>cases List.mem_singleton.mp hy;exact zn
 | both zn wn =>
  rcases List.mem_cons.mp hy with rfl|hy
  ·exact zn
  ·cases List.mem_singleton.mp hy;exact wn
section
variable{names:List Str}{A P:List Ar}{t h:Str}
abbrev Ii(names:List Str)(A P:List Ar)(t h s z:Str):Mi.Env:=[some (W.d (aY names A)),some (W.d (dD P)),some (W.d (.str t)),some (W.d (.str h)),some (W.d (.str s)),some (W.d (.str z))]
theorem Wg{s z:Str}(r:Rl names A P t h s [z]):pA [.d (aY names A),.d (dD P),.d (.str t),.d (.str h),.d (.str s),.d (.str z)]=.ok (.d (.bl true)):=by
 unfold pA Kc
 rw[Za]
 rw[show ([some (W.d (aY names A)),some (W.d (dD P)),some (W.d (.str t)),some (W.d (.str h)),some (W.d (.str s)),some (W.d (.str z))]++List.replicate (6 - 6) none)=Ii names A P t h s z from rfl]
 have c1:cB (m2 qW (mV 4) (mC (.str "corner"))) (Ii names A P t h s z)=.ok (decide (s = "corner")):=bF (aJ rfl rfl (pD _ _))
 have c2:cB (m2 qW (mV 4) (mC (.str "on"))) (Ii names A P t h s z)=.ok (decide (s = "on")):=bF (aJ rfl rfl (pD _ _))
 cases r with
 | Dk zn ne c =>
  rw[show decide (("corner" : Str) = "corner")=true from decide_eq_true rfl] at c1
  rw[qb ((lu c1).trans (cR (bK (QR (f:=f9) (a:=wD (mV 0)) (b:=wD (mV 2)) (c:=wD (mV 3)) (g:=wD (mV 5)) rfl rfl rfl rfl (Dn names A t h z)))))]
  rw[decide_eq_false ne,c];rfl
 | on zn ne nt nc p =>
  rw[show decide (("on" : Str) = "corner")=false by decide] at c1
  rw[show decide (("on" : Str) = "on")=true from decide_eq_true rfl] at c2
  rw[aL ((dF c1).trans rfl)]
  have c3:(mU (cB (m2 qW (mV 5) (mV 3))) (mU (cB (aW bT [(wD (mV 0)),(wD (mV 5)),(wD (mV 3))])) (cB (aW f9 [(wD (mV 0)),(wD (mV 5)),(wD (mV 2)),(wD (mV 3))])))) (Ii names A P t h "on" z)=.ok false :=
   fP (p:=false) (q:=false) (bF (aJ rfl rfl ((pD z h).trans (by rw[decide_eq_false ne])))) fun _=>fP (p:=false) (q:=false) (bF (pO rfl rfl rfl ((oH z h).trans (by rw[nt])))) fun _=>bF (QR rfl rfl rfl rfl ((Dn names A z t h).trans (by rw[nc,Bool.and_false])))
  rw[qb ((lu c2).trans ((aL ((dF c3).trans rfl)).trans (cR (bK (aJ (fO rfl rfl) rfl (ju P (z,t)))))))]
  rw[decide_eq_true p];rfl
 | over zn p q =>
  rw[show decide (("over" : Str) = "corner")=false by decide] at c1
  rw[show decide (("over" : Str) = "on")=false by decide] at c2
  rw[aL ((dF c1).trans rfl),aL ((dF c2).trans rfl)]
  rw[cR (bK (iZ (p:=true) (q:=true) (aJ rfl rfl ((pD "over" "over").trans (by rw[decide_eq_true rfl]))) fun _=>iZ (p:=true) (q:=true) (aJ (fO rfl rfl) rfl ((ju P (t,z)).trans (by rw[decide_eq_true p]))) fun _=>aJ (fO rfl rfl) rfl ((ju P (z,h)).trans (by rw[decide_eq_true q]))))]
  rfl
theorem QT{z w:Str}(r:Rl names A P t h "both" [z,w]):nC [.d (aY names A),.d (dD P),.d (.str t),.d (.str h),.d (.str z),.d (.str w)]=.ok (.d (.bl true)):=by
 generalize hs:("both" : Str)=s at r
 cases r with
 | both zn wn ne nt nc t1 t2 p q =>
 unfold nC Gm
 rw[Za]
 rw[show ([some (W.d (aY names A)),some (W.d (dD P)),some (W.d (.str t)),some (W.d (.str h)),some (W.d (.str z)),some (W.d (.str w))]++List.replicate (6 - 6) none)=Ii names A P t h z w from rfl]
 have c3:(mU (cB (m2 qW (mV 4) (mV 5))) (mU (cB (aW bT [(wD (mV 0)),(wD (mV 4)),(wD (mV 5))])) (cB (aW f9 [(wD (mV 0)),(wD (mV 4)),(wD (mV 2)),(wD (mV 5))])))) (Ii names A P t h z w)=.ok false :=
  fP (p:=false) (q:=false) (bF (aJ rfl rfl ((pD z w).trans (by rw[decide_eq_false ne])))) fun _=>fP (p:=false) (q:=false) (bF (pO rfl rfl rfl ((oH z w).trans (by rw[nt])))) fun _=>bF (QR rfl rfl rfl rfl ((Dn names A z t w).trans (by rw[nc,Bool.and_false])))
 have c4:(mU (gJ (cB (aW bT [(wD (mV 0)),(wD (mV 4)),(wD (mV 2))]))) (gJ (cB (aW bT [(wD (mV 0)),(wD (mV 5)),(wD (mV 2))])))) (Ii names A P t h z w)=.ok false :=
  fP (p:=false) (q:=false) (fW (p:=true) (bF (pO rfl rfl rfl ((oH z t).trans (by rw[t1]))))) fun _=>fW (p:=true) (bF (pO rfl rfl rfl ((oH w t).trans (by rw[t2]))))
 rw[aL ((dF c3).trans rfl),aL ((dF c4).trans rfl)]
 rw[cR (bK (iZ (p:=true) (q:=true) (aJ (fO rfl rfl) rfl ((ju P (z,h)).trans (by rw[decide_eq_true p]))) fun _=>aJ (fO rfl rfl) rfl ((ju P (w,h)).trans (by rw[decide_eq_true q]))))]
 rfl
end
end Mr
namespace Mr
open PySem Mi
open My (words tX cF)
section
variable{names:List Str}{A P:List Ar}{t h s:Str}{x:List Str}
theorem rw0:bz (lN t h s x) (.int 0)=.ok (.str t):=by show pR (pF [D.str t,.str h,.str s,.tup (x.map D.str)] 0)=_;rw[at0];rfl
theorem rw1:bz (lN t h s x) (.int 1)=.ok (.str h):=by show pR (pF [D.str t,.str h,.str s,.tup (x.map D.str)] 1)=_;rw[at1];rfl
theorem Z3:bz (lN t h s x) (.int 2)=.ok (.str s):=by
 show pR (pF [D.str t,.str h,.str s,.tup (x.map D.str)] 2)=_
 simp[pF,De]
theorem Z2:bz (lN t h s x) (.int 3)=.ok (.tup (x.map D.str)):=by
 show pR (pF [D.str t,.str h,.str s,.tup (x.map D.str)] 3)=_
 simp[pF,De]
theorem KJ(N:Nt names A)(tn:t∈names)(hn:h∈names)(th:tie A t h=true)(np:(t,h)∉P)(r:Rl names A P t h s x):iz [.d (aY names A),.d (dD P),.d (lN t h s x)]=.ok (.d (.bl true)):=by
 have i0:∀ o3:Option W,m2 bz (mV 2) (mC (.int 0)) [some (W.d (aY names A)),some (W.d (dD P)),some (W.d (lN t h s x)),o3]=.ok (.str t):=fun _=>aJ rfl rfl rw0
 have i1:∀ o3:Option W,m2 bz (mV 2) (mC (.int 1)) [some (W.d (aY names A)),some (W.d (dD P)),some (W.d (lN t h s x)),o3]=.ok (.str h):=fun _=>aJ rfl rfl rw1
 have i2:∀ o3:Option W,m2 bz (mV 2) (mC (.int 2)) [some (W.d (aY names A)),some (W.d (dD P)),some (W.d (lN t h s x)),o3]=.ok (.str s):=fun _=>aJ rfl rfl Z3
 have i3:∀ o3:Option W,m2 bz (mV 2) (mC (.int 3)) [some (W.d (aY names A)),some (W.d (dD P)),some (W.d (lN t h s x)),o3]=.ok (.tup (x.map D.str)):=fun _=>aJ rfl rfl Z2
 have y0:∀ o3:Option W,m2 bz (mV 0) (mC (.int 0)) [some (W.d (aY names A)),some (W.d (dD P)),some (W.d (lN t h s x)),o3]=.ok (eY names):=fun _=>aJ rfl rfl (Vc names A)
 have xl:x.length≤2:=by cases r<;>simp
 have inn:∀ y∈[t,h]++x,y∈names:=fun y hy=>by
  rcases List.mem_append.mp hy with z|z
  ·rcases List.mem_cons.mp z with rfl|z
   ·exact tn
   ·cases List.mem_singleton.mp z;exact hn
  ·exact r.inn y z
 obtain⟨e1,f1,o3,he1⟩:=fV (tg:=.n 3) (body:=(iM (cB (m2 dz (mV 3) (m2 bz (mV 0) (mC (.int 0)))))
 (bZ (wD (mC (.bl false))))
 bG))
  (fun i e=>∃ o3:Option W,e=[some (W.d (aY names A)),some (W.d (dD P)),some (W.d (lN t h s x)),o3]) (([t,h]++x).map D.str) 0 (fun i d e hi ⟨o3,he⟩=>by
   subst he
   rw[List.getElem?_map] at hi
   obtain⟨y,hp,rfl⟩:=Option.map_eq_some_iff.mp hi
   exact⟨[some (W.d (aY names A)),some (W.d (dD P)),some (W.d (lN t h s x)),some (.d (.str y))],_,rfl,(dF (bF (aJ (b:=m2 bz (mV 0) (mC (.int 0))) rfl (y0 _) ((lU names y).trans (by rw[decide_eq_true (inn y (List.mem_of_getElem? hp))];rfl))))).trans rfl,_,rfl⟩) [some (W.d (aY names A)),some (W.d (dD P)),some (W.d (lN t h s x)),none] ⟨none,rfl⟩
 subst he1
 unfold iz zb
 rw[Tt]
 rw[show ([some (W.d (aY names A)),some (W.d (dD P)),some (W.d (lN t h s x))]++List.replicate (4 - 3) none)=[some (W.d (aY names A)),some (W.d (dD P)),some (W.d (lN t h s x)),none] from rfl]
 have cA:(mU (gJ (cB (m1 (IW ["tuple"]) (mV 2)))) (mU (cB (m2 Am (mN fX [(mV 2)]) (mC (.int 4)))) (gJ (cB (m1 (IW ["tuple"]) (m2 bz (mV 2) (mC (.int 3)))))))) [some (W.d (aY names A)),some (W.d (dD P)),some (W.d (lN t h s x)),none]=.ok false :=
  fP (p:=false) (q:=false) (fW (p:=true) rfl) fun _=>fP (p:=false) (q:=false) rfl fun _=>fW (p:=true) (bF (by unfold m1;rw[i3];rfl))
 have it:pN (m2 cV (mN pC [(m2 bz (mV 2) (mC (.int 0))),(m2 bz (mV 2) (mC (.int 1)))]) (mN QZ [(m2 bz (mV 2) (mC (.int 3)))])) [some (W.d (aY names A)),some (W.d (dD P)),some (W.d (lN t h s x)),none]=.ok (([t,h]++x).map D.str):=by
  refine dZ (x:=.lst (([t,h]++x).map D.str)) (aJ (x:=.lst [.str t,.str h]) (y:=.lst (x.map D.str)) ((JK (i0 _) (i1 _)).trans (au (by show (2:Nat)≤_;decide))) ((jQ (i3 _)).trans rfl) ?_) rfl
  show aR _ _=_
  rw[au (by simp only[List.length_cons,List.length_nil,List.length_map];omega)]
  rfl
 have cC:(mU (cB (m2 nZ (mN dTup [(m2 bz (mV 2) (mC (.int 0))),(m2 bz (mV 2) (mC (.int 1)))]) (mV 1))) (gJ (cB (aW bT [(wD (mV 0)),(wD (m2 bz (mV 2) (mC (.int 0)))),(wD (m2 bz (mV 2) (mC (.int 1))))])))) [some (W.d (aY names A)),some (W.d (dD P)),some (W.d (lN t h s x)),o3]=.ok false :=
  fP (p:=false) (q:=false) (bF (aJ (fO (i0 _) (i1 _)) rfl ((ju P (t,h)).trans (by rw[decide_eq_false np])))) fun _=>fW (p:=true) (bF (pO rfl (bK (i0 _)) (bK (i1 _)) ((oH t h).trans (by rw[th]))))
 rw[aL ((dF cA).trans rfl),aL ((gf it).trans f1),aL ((dF cC).trans rfl)]
 have cD:cB (m2 qW (m2 bz (mV 2) (mC (.int 2))) (mC (.str "both"))) [some (W.d (aY names A)),some (W.d (dD P)),some (W.d (lN t h s x)),o3]=.ok (decide (s = "both")):=bF (aJ (i2 _) rfl (pD _ _))
 have j0:∀ y r',x=y::r'→m2 bz (m2 bz (mV 2) (mC (.int 3))) (mC (.int 0)) [some (W.d (aY names A)),some (W.d (dD P)),some (W.d (lN t h s x)),o3]=.ok (.str y):=fun y r' e=>aJ (i3 _) rfl (by rw[e];show pR (pF (D.str y::r'.map D.str) 0)=_;rw[at0];rfl)
 have j1:∀ y w,x=[y,w]→m2 bz (m2 bz (mV 2) (mC (.int 3))) (mC (.int 1)) [some (W.d (aY names A)),some (W.d (dD P)),some (W.d (lN t h s x)),o3]=.ok (.str w):=fun y w e=>aJ (i3 _) rfl (by rw[e];show pR (pF [D.str y,.str w] 1)=_;rw[at1];rfl)
 have ln:∀ k:Int,(x.length:Int)=k→m2 qW (mN fX [(m2 bz (mV 2) (mC (.int 3)))]) (mC (.int k)) [some (W.d (aY names A)),some (W.d (dD P)),some (W.d (lN t h s x)),o3]=.ok (.bl true):=fun n e=>aJ ((jQ (i3 _)).trans (Fo _)) rfl ((uF _ _).trans (by rw[List.length_map,e];simp))
 have single:∀ z,x=[z]→s ≠ "both" → (bj (iM (cB (m2 qW (m2 bz (mV 2) (mC (.int 2))) (mC (.str "both"))))
 (bZ (wD (rA (m2 qW (mN fX [(m2 bz (mV 2) (mC (.int 3)))]) (mC (.int 2))) (aW nC [(wD (mV 0)),(wD (mV 1)),(wD (m2 bz (mV 2) (mC (.int 0)))),(wD (m2 bz (mV 2) (mC (.int 1)))),(wD (m2 bz (m2 bz (mV 2) (mC (.int 3))) (mC (.int 0)))),(wD (m2 bz (m2 bz (mV 2) (mC (.int 3))) (mC (.int 1))))]))))
 bG)
 (bZ (wD (rA (m2 qW (mN fX [(m2 bz (mV 2) (mC (.int 3)))]) (mC (.int 1))) (aW pA [(wD (mV 0)),(wD (mV 1)),(wD (m2 bz (mV 2) (mC (.int 0)))),(wD (m2 bz (mV 2) (mC (.int 1)))),(wD (m2 bz (mV 2) (mC (.int 2)))),(wD (m2 bz (m2 bz (mV 2) (mC (.int 3))) (mC (.int 0))))])))) [some (W.d (aY names A)),some (W.d (dD P)),some (W.d (lN t h s x)),o3]).bind rT=.ok (.d (.bl true)):=fun z e ne=>by
  rw[decide_eq_false ne] at cD
  have one:pA [.d (aY names A),.d (dD P),.d (.str t),.d (.str h),.d (.str s),.d (.str z)]=.ok (.d (.bl true)):=Wg (by rw[← e];exact r)
  rw[aL ((dF cD).trans rfl)]
  rw[cR (bK (iZ (p:=true) (q:=true) (ln 1 (by rw[e];rfl)) fun _=>QM rfl rfl (bK (i0 _)) (bK (i1 _)) (bK (i2 _)) (bK (j0 z [] e)) one))]
  rfl
 obtain⟨rx,hrx⟩ : ∃ y,y=x:=⟨_,rfl⟩
 have r0:=r
 cases r with
 | @Dk z zn ne c=>exact single z rfl (by decide)
 | @on z zn ne nt nc p=>exact single z rfl (by decide)
 | @over z zn p q=>exact single z rfl (by decide)
 | @both z w zn wn ne nt nc t1 t2 p q =>
  rw[show decide (("both" : Str) = "both")=true from decide_eq_true rfl] at cD
  rw[qb ((lu cD).trans (cR (bK (iZ (p:=true) (q:=true) (ln 2 rfl) fun _=>QM rfl rfl (bK (i0 _)) (bK (i1 _)) (bK (j0 z [w] rfl)) (bK (j1 z w rfl)) (QT r0)))))]
  rfl
end
theorem HJ{names:List Str}{A:List Ar}(N:Nt names A){told:zW}(g:Gt names A told):dO [.d (aY names A),.d (.lst (told.map (·.2)))]=.ok (.d (dD (fG told))):=by
 have tl:=g.len N.al
 obtain⟨e1,f1,o3,he1⟩:=fV (tg:=.n 3) (body:=(bj (iM (gJ (cB (vq iz [(wD (mV 0)),(wD (mV 2)),(wD (mV 3))])))
 vf
 bG)
 (dH 2 (mN dTup [(m2 bz (mV 3) (mC (.int 0))),(m2 bz (mV 3) (mC (.int 1)))]))))
  (fun i e=>∃ o3:Option W,e=[some (W.d (aY names A)),some (W.d (.lst (told.map (·.2)))),some (W.d (dD (fG (told.take i)))),o3]) (told.map (·.2)) 0 (fun i d e hi ⟨o3,he⟩=>by
   subst he
   rw[Nat.zero_add]
   rw[List.getElem?_map] at hi
   obtain⟨q,hp,rfl⟩:=Option.map_eq_some_iff.mp hi
   obtain⟨s,x,eq,rl⟩:=g.ord i q hp
   obtain⟨⟨t,h⟩,d⟩:=q
   have eq:d=lN t h s x:=eq
   subst eq
   have il:=(List.getElem?_eq_some_iff.mp hp).1
   have snoc:told.take (i+1)=told.take i++[((t,h),lN t h s x)]:=by rw[List.take_succ,hp];rfl
   have ma:(t,h)∈A:=g.sub _ (List.mem_map_of_mem (f:=(·.1)) (List.mem_of_getElem? hp))
   have np:(t,h)∉fG (told.take i):=fun z=>by
    have nd:=g.nd
    have e2:told=told.take i++((t,h),lN t h s x)::told.drop (i+1):=by
     conv=>lhs;rw[← List.take_append_drop (i+1) told,snoc,List.append_assoc]
     rfl
    unfold fG at nd z
    rw[e2,List.map_append,List.nodup_append] at nd
    exact nd.2.2 _ z _ (List.mem_cons_self) rfl
   have rs:=KJ N (N.inn _ ma).1 (N.inn _ ma).2 (jz.mpr (.inl ma)) np rl
   have c:gJ (cB (vq iz [(wD (mV 0)),(wD (mV 2)),(wD (mV 3))])) [some (W.d (aY names A)),some (W.d (.lst (told.map (·.2)))),some (W.d (dD (fG (told.take i)))),some (.d (lN t h s x))]=.ok false :=
    fW (p:=true) (bF (W7 rfl rfl rfl rs rfl))
   have ap:=vM (i:=2) (a:=mN dTup [(m2 bz (mV 3) (mC (.int 0))),(m2 bz (mV 3) (mC (.int 1)))]) (e:=[some (W.d (aY names A)),some (W.d (.lst (told.map (·.2)))),some (W.d (dD (fG (told.take i)))),some (.d (lN t h s x))]) (d:=pairD (t,h)) (ds:=(fG (told.take i)).map pairD) (fO (aJ rfl rfl rw0) (aJ rfl rfl rw1)) rfl (by unfold fG;rw[List.length_map,List.length_map,List.length_take];omega)
   refine⟨_,_,rfl,(aL ((dF c).trans rfl)).trans ap,some (.d (lN t h s x)),?_⟩
   rw[snoc]
   unfold dD fG
   rw[List.map_append,List.map_append];rfl) [some (W.d (aY names A)),some (W.d (.lst (told.map (·.2)))),some (W.d (dD [])),none] ⟨none,rfl⟩
 subst he1
 unfold dO uM
 rw[Qi]
 rw[show ([some (W.d (aY names A)),some (W.d (.lst (told.map (·.2))))]++List.replicate (4 - 2) none)=[some (W.d (aY names A)),some (W.d (.lst (told.map (·.2)))),none,none] from rfl]
 rw[aL ((dF (show gJ (cB (m1 (IW ["list"]) (mV 1))) _=.ok false from rfl)).trans rfl)]
 rw[aL (e':=[some (W.d (aY names A)),some (W.d (.lst (told.map (·.2)))),some (W.d (dD [])),none]) (bB (Fj _))]
 rw[aL ((gf (dZ (x:=.lst (told.map (·.2))) rfl rfl)).trans f1)]
 rw[Nat.zero_add,List.length_map,List.take_length]
 rfl
theorem Cg{names:List Str}{A:List Ar}(G:Gd names A){x:D}(h:cJ [.d (eY names),.d (dD (mj names A)),.d (.lst ((gR names A).map eG))]=.ok (.d x)):dM [.d (aY names A)]=.ok (.d x):=by
 unfold dM uI
 rw[Lw]
 rw[show ([some (W.d (aY names A))]++List.replicate (1 - 1) none)=[some (W.d (aY names A))] from rfl]
 rw[cR (bK (pO (f:=cJ) (bK (aJ rfl rfl (Vc names A))) (bK (pP (f:=gC) (a:=wD (mV 0)) rfl (Jo G.le))) (bK (pP (f:=dw) (a:=wD (mV 0)) rfl (yV G.nt))) h))]
 rfl
theorem rP(ns:List Int)(hl:ns.length≤63):vp [.d (.lst (ns.map D.int))]=.ok (.d (.bl true)):=by
 obtain⟨names,A0,r,Tp,IN,cw,mw,hm8,hnm⟩:=O6 ns 8 (by decide) (by decide)
 rw[show ((8:Nat):Int)=8 from rfl] at Tp
 have hw:∀ x∈names,nF [.d (.str x)]=.ok (.d (.bl true)):=fun x hx=>by
  rw[hnm] at hx
  obtain⟨l,hl,rfl⟩:=List.mem_map.mp hx
  exact Rq (cF cw mw hm8 l hl)
 have G:=IN.gd hw
 generalize A0.map (arrOf names)=A at Tp G
 obtain⟨told,hr,g⟩:=Ci G.nt
 have hpo:=Cq G (Cr G hr g)
 have hro:=Cg G hr
 have hwk:=HJ G.nt g
 have hlp:=Fp G g.nd g.sub
 have sl:=xQ G g.nd g.sub
 obtain⟨S,hS⟩ : ∃ S,S=zQ (mj names A) (fG told):=⟨_,rfl⟩
 obtain⟨R,hR⟩ : ∃ R,R=uc names (fG told):=⟨_,rfl⟩
 have mR:∀ p∈fG told,p∈R:=fun p hp=>by rw[hR,um];exact⟨hp,G.inn p (g.sub p hp)⟩
 rw[← hS,← hR] at hpo hlp
 rw[← hR] at sl
 obtain⟨L,hL⟩ : ∃ L,L=D.lst (ns.map D.int):=⟨_,rfl⟩
 obtain⟨Rw,hRw⟩ : ∃ Rw,Rw=told.map (·.2):=⟨_,rfl⟩
 rw[← hRw] at hwk hro
 have p1:∀ o0 o1 o2 o3 o5 o6:Option W,m2 bz (mV 4) (mC (.int 1)) [o0,o1,o2,o3,some (.d (gn names R S)),o5,o6]=.ok (j8 R):=fun _ _ _ _ _ _=>aJ rfl rfl (YC names R S)
 obtain⟨e',f1,o5,he⟩:=fV (tg:=.n 5) (body:=(iM (cB (m2 dz (mV 5) (m2 bz (mV 4) (mC (.int 1)))))
 (bZ (wD (mC (.bl false))))
 bG))
  (fun i e=>∃ o5:Option W,e=[some (W.d L),some (W.d (aY names A)),some (W.d (.lst Rw)),some (W.d (dD (fG told))),some (.d (gn names R S)),o5,none]) ((fG told).map pairD) 0 (fun i x e hx ⟨o5,he⟩=>by
   subst he
   rw[List.getElem?_map] at hx
   obtain⟨p,hp,rfl⟩:=Option.map_eq_some_iff.mp hx
   exact⟨[some (W.d L),some (W.d (aY names A)),some (W.d (.lst Rw)),some (W.d (dD (fG told))),some (.d (gn names R S)),some (.d (pairD p)),none],_,rfl,(dF (bF (aJ (b:=m2 bz (mV 4) (mC (.int 1))) rfl (p1 _ _ _ _ _ _) ((uD R p).trans (by rw[decide_eq_true (mR p (List.mem_of_getElem? hp))];rfl))))).trans rfl,_,rfl⟩) [some (W.d L),some (W.d (aY names A)),some (W.d (.lst Rw)),some (W.d (dD (fG told))),some (.d (gn names R S)),none,none] ⟨none,rfl⟩
 subst he
 unfold vp Bd
 rw[Tu,← hL]
 rw[← hL] at Tp
 rw[show ([some (W.d L)]++List.replicate (7 - 1) none)=[some (W.d L),none,none,none,none,none,none] from rfl]
 rw[aL (e':=[some (W.d L),some (W.d (aY names A)),none,none,none,none,none]) (bB (call2 rfl rfl Tp))]
 rw[aL (e':=[some (W.d L),some (W.d (aY names A)),some (W.d (.lst Rw)),none,none,none,none]) (bB (pP (f:=dM) rfl hro))]
 rw[aL (e':=[some (W.d L),some (W.d (aY names A)),some (W.d (.lst Rw)),some (W.d (dD (fG told))),none,none,none]) (bB (W6 (f:=dO) rfl rfl hwk (yK _)))]
 rw[aL (e':=[some (W.d L),some (W.d (aY names A)),some (W.d (.lst Rw)),some (W.d (dD (fG told))),some (.d (gn names R S)),none,none]) (bB (pP (f:=dN) rfl hpo))]
 have c:(mU (cB (m2 dIs (mV 3) (mC .non))) (mU (gJ (cB (aW iJ [(wD (mV 4)),(wD (mV 1))]))) (cB (m2 Am (mN fX [(m2 bz (mV 4) (mC (.int 1)))]) (mN fX [(mV 3)]))))) [some (W.d L),some (W.d (aY names A)),some (W.d (.lst Rw)),some (W.d (dD (fG told))),some (.d (gn names R S)),none,none]=.ok false :=
  fP (p:=false) (q:=false) rfl fun _=>fP (p:=false) (q:=false) (fW (p:=true) (bF (call2 rfl rfl hlp))) fun _=>bF (aJ ((jQ (p1 _ _ _ _ _ _)).trans (Fo _)) ((jQ (x:=dD (fG told)) rfl).trans (Pz _)) ((T3 _ _).trans (by rw[List.length_map,List.length_map,sl];simp)))
 rw[aL ((dF c).trans rfl)]
 rw[aL ((gf (dZ (x:=dD (fG told)) rfl rfl)).trans f1)]
 rw[aL (show Hg 2 [some (W.d L),some (W.d (aY names A)),some (W.d (.lst Rw)),some (W.d (dD (fG told))),some (.d (gn names R S)),o5,none]=.ok (.nx [some (W.d L),some (W.d (aY names A)),some (W.d (.lst [])),some (W.d (dD (fG told))),some (.d (gn names R S)),o5,none]) from rfl)]
 rw[aL (e':=[some (W.d L),some (W.d (aY names A)),some (W.d (.lst [])),some (W.d (dD (fG told))),some (.d (gn names R S)),o5,some (W.d (dD (fG told)))]) (bB (call2 (f:=dO) rfl (bK (pP (f:=dM) (a:=wD (mV 1)) rfl hro)) hwk))]
 rw[cR (bK (iZ (p:=true) (q:=true) rfl fun _=>iZ (p:=true) (q:=true) (aJ ((jQ (x:=dD (fG told)) rfl).trans (Pz _)) ((jQ (x:=dD (fG told)) rfl).trans (Pz _)) ((uF _ _).trans (by rw[decide_eq_true rfl]))) fun _=>aJ (pP (f:=dN) (a:=wD (mV 1)) rfl hpo) rfl (Qx (TF _ _ _))))]
 rfl
end Mr
namespace Jj
open PySem L2 PyProof.Rows
abbrev cN:Addr:=52
abbrev tN:Addr:=48
instance aaK:A.eZ:=⟨[(tN,S5 "sorted_rows")],fun c=>0⟩
theorem walk{l:PySem.W.OpenLaw}{q:Program}{loose:List Str}{XP:(Str→Option Value)→Heap→Prop}{YP:World→Heap→Prop}{d:DefRec}{K:Params→PySem.W.Frag}(hn:l.most=some 63)(hdf:d.params.defaults=[])
 (hY:∀ (w:World) (h:Heap),YP w h→(K w.params).In h) (hL:∀ w:World,U9 (K w.params)=true) (hK:∀ w:World,(K w.params).lookup tN=none) (hrec:∃ d,(recsOf q).find? (fun e=>e.name == ("sorted_rows" : Str))=some d) (htab:∀ w:World,PySem.W.tabIn (K w.params) "sorted_rows" = some (cN,tN))
 (F:∀ (w:World) (mg:Str→Option Value) (fa:Addr) (h:Heap),(K w.params).In h→h.Ns mainGlobals mg→mg d.name=some (.ref fa) →
  ∃ fd:FuncData,(∀ (s:Shared) (u:Value),BindsTo s fd ⟨[u],[]⟩ [("_law_script", u)])∧∀ base:Heap,(K w.params).In base→base.Ns mainGlobals mg→BM mg base→PySem.W.CodeHd base cN tN→dG l.prog w (K w.params) mg base dm 7 fa fd ["_law_script"] A.Ed) :
 PySem.W.WalkO q loose XP YP l.row.toRowW d [] (fun f vs=>PySem.call f vs) :=
 L2.MF (x := "_law_script") (dn := "sorted_rows") (qn:=S5 "sorted_rows") (k:=7) rfl hn hdf ⟨rfl,by decide,by decide⟩ hY (fun w a o e c=>O4 (hL w) e c) hK hrec htab F
theorem Vs{K:PySem.W.Frag}{h:Heap}{mg:Str→Option Value}(X:K.In h)(G:h.Ns mainGlobals mg)(Bx:PySem.W.nsIn K mainGlobals "len" = some none)(uY:PySem.W.nsIn K mainGlobals "range" = some none)(Bw:PySem.W.nsIn K mainGlobals "max" = some none)(Bv:PySem.W.nsIn K mainGlobals "min" = some none)(uX:PySem.W.nsIn K mainGlobals "tuple" = some none)(xr:PySem.W.nsIn K mainGlobals "list" = some none)(kW:PySem.W.nsIn K mainGlobals "isinstance" = some none)(BK:PySem.W.nsIn K mainGlobals "all" = some none)(BJ:PySem.W.nsIn K mainGlobals "any" = some none)(xu:PySem.W.nsIn K mainGlobals "bool" = some none)(Bt:PySem.W.nsIn K mainGlobals "str" = some none)(By:PySem.W.nsIn K mainGlobals "int" = some none)(Bs:PySem.W.nsIn K mainGlobals "zip" = some none)(lY:PySem.W.nsIn K mainGlobals "enumerate" = some none)(sH:PySem.W.nsIn K mainGlobals "sorted" = some none)(oG:PySem.W.nsIn K mainGlobals "reversed" = some none)(Bu:PySem.W.nsIn K mainGlobals "set" = some none)  : Txt mg :=
 ⟨PySem.W.mg_none_of X G Bx,PySem.W.mg_none_of X G uY,PySem.W.mg_none_of X G Bw,PySem.W.mg_none_of X G Bv,PySem.W.mg_none_of X G uX,PySem.W.mg_none_of X G xr,PySem.W.mg_none_of X G kW,PySem.W.mg_none_of X G BK,PySem.W.mg_none_of X G BJ,PySem.W.mg_none_of X G xu,PySem.W.mg_none_of X G Bt,PySem.W.mg_none_of X G By,PySem.W.mg_none_of X G Bs,PySem.W.mg_none_of X G lY,PySem.W.mg_none_of X G sH,PySem.W.mg_none_of X G oG,PySem.W.mg_none_of X G Bu⟩
theorem Xe{l:PySem.W.OpenLaw}{w:World}{K:PySem.W.Frag}{mg:Str→Option Value}{fa:Addr}(hfa:mg "law" = some (.ref fa))(T:Txt mg)(lK:rF K mg "refuse_strangers" ik ["names", "asked"])(zB:rF K mg "are_tied" sV ["net", "one", "other"])(zy:rF K mg "pairs_of" sO ["names"])(Bo:rF K mg "ties_of" u5 ["net"])(mQ:Us K mg "sorted_rows" my ["names", "rows"] cN)(uW:rF K mg "corners_of" oR ["net"])(wC:rF K mg "ties_left" qi ["ties", "arrows"])(sG:rF K mg "is_straight" mz ["one", "middle", "other", "tied", "bent"])(zx:rF K mg "rows_for" sJ ["tail", "head", "names", "tied", "bent", "told"])(wG:rF K mg "both_ways" ql ["rows"])(uT:rF K mg "reasons_by" oM ["names", "ties", "corners"])(uV:rF K mg "picture_by" oO ["names", "ties", "corners"])(uU:rF K mg "picture_of" oN ["net"])(uR:rF K mg "reasons_of" oK ["net"])(GJ:rF K mg "_law_cell" xZ ["_law_script", "_law_k"])(Bp:rF K mg "_law_words" u6 ["_law_cell_here", "_law_many"])(Bq:rF K mg "_law_ranks" u9 ["_law_cell_here", "_law_many"])(Kp:rF K mg "_law_net" Cd ["_law_script", "_law_most"])(GF:rF K mg "_law_tied" xY ["_law_net_here", "_law_one_here", "_law_other"])(GD:rF K mg "_law_ties" xX ["_law_net_here"])(Br:rF K mg "_law_pairs" vd ["_law_found", "_law_names"])(wF:rF K mg "_law_picture" qj ["_law_found", "_law_net_here"])(GP:rF K mg "_law_bent" yd ["_law_net_here", "_law_one_here", "_law_middle", "_law_other"])(Ko:rF K mg "_law_one" Ca ["_law_net_here", "_law_told", "_law_tail", "_law_head", "_law_rule", "_law_third"])(GK:rF K mg "_law_both" yc ["_law_net_here", "_law_told", "_law_tail", "_law_head", "_law_third", "_law_fourth"])(zA:rF K mg "_law_reason" sU ["_law_net_here", "_law_told", "_law_row"])(zz:rF K mg "_law_walked" sS ["_law_net_here", "_law_rows"])(Vp:rF K mg "law" Ng ["_law_script"]) :
 ∃ fd:FuncData,(∀ (s:Shared) (u:Value),BindsTo s fd ⟨[u],[]⟩ [("_law_script", u)])∧∀ base:Heap,K.In base→base.Ns mainGlobals mg→BM mg base→PySem.W.CodeHd base cN tN→dG l.prog w K mg base dm 7 fa fd ["_law_script"] A.Ed :=
 rF.aad Vp hfa fun base kb nb hB hC f fd F=>by
  have iG:=lK.cal (P:=l.prog) (w:=w) (base:=base) (CX:=dm) fun f fd F=>rn F T
  have jy:=zB.cal (P:=l.prog) (w:=w) (base:=base) (CX:=dm) fun f fd F=>EY F T iG
  have fH:=zy.cal (P:=l.prog) (w:=w) (base:=base) (CX:=dm) fun f fd F=>Ew F T
  have kO:=Bo.cal (P:=l.prog) (w:=w) (base:=base) (CX:=dm) fun f fd F=>Hu F T jy fH
  have fM:=mQ.cal (P:=l.prog) (w:=w) (base:=base) (CX:=dm) fun f fd F=>yq F T hB hC (List.mem_singleton.mpr rfl)
  have gP:=uW.cal (P:=l.prog) (w:=w) (base:=base) (CX:=dm) fun f fd F=>zP F T jy fM fH
  have qH:=wC.cal (P:=l.prog) (w:=w) (base:=base) (CX:=dm) fun f fd F=>Cv F T
  have jF:=sG.cal (P:=l.prog) (w:=w) (base:=base) (CX:=dm) fun f fd F=>yr F T
  have tZ:=zx.cal (P:=l.prog) (w:=w) (base:=base) (CX:=dm) fun f fd F=>Eu F T fH jF
  have lX:=wG.cal (P:=l.prog) (w:=w) (base:=base) (CX:=dm) fun f fd F=>Cy F T
  have gO:=uT.cal (P:=l.prog) (w:=w) (base:=base) (CX:=dm) fun f fd F=>zM F T tZ lX
  have pK:=uV.cal (P:=l.prog) (w:=w) (base:=base) (CX:=dm) fun f fd F=>zO F T fM qH gO
  have kh:=uU.cal (P:=l.prog) (w:=w) (base:=base) (CX:=dm) fun f fd F=>zN F T kO gP pK
  have j9:=uR.cal (P:=l.prog) (w:=w) (base:=base) (CX:=dm) fun f fd F=>zL F T kO gP gO
  have lL:=GJ.cal (P:=l.prog) (w:=w) (base:=base) (CX:=dm) fun f fd F=>K7 F T
  have vN:=Bp.cal (P:=l.prog) (w:=w) (base:=base) (CX:=dm) fun f fd F=>Hw F T
  have vO:=Bq.cal (P:=l.prog) (w:=w) (base:=base) (CX:=dm) fun f fd F=>Hx F T
  have Dz:=Kp.cal (P:=l.prog) (w:=w) (base:=base) (CX:=dm) fun f fd F=>Ov F T lL vN vO
  have cY:=GF.cal (P:=l.prog) (w:=w) (base:=base) (CX:=dm) fun f fd F=>K6 F T
  have zF:=GD.cal (P:=l.prog) (w:=w) (base:=base) (CX:=dm) fun f fd F=>K5 F T cY
  have qY:=Br.cal (P:=l.prog) (w:=w) (base:=base) (CX:=dm) fun f fd F=>Hy F T
  have qI:=wF.cal (P:=l.prog) (w:=w) (base:=base) (CX:=dm) fun f fd F=>Cw F T zF qY
  have lM:=GP.cal (P:=l.prog) (w:=w) (base:=base) (CX:=dm) fun f fd F=>K9 F T cY
  have Dy:=Ko.cal (P:=l.prog) (w:=w) (base:=base) (CX:=dm) fun f fd F=>Ou F T cY lM
  have zG:=GK.cal (P:=l.prog) (w:=w) (base:=base) (CX:=dm) fun f fd F=>K8 F T cY lM
  have t6:=zA.cal (P:=l.prog) (w:=w) (base:=base) (CX:=dm) fun f fd F=>Ez F T cY Dy zG
  have pL:=zz.cal (P:=l.prog) (w:=w) (base:=base) (CX:=dm) fun f fd F=>Ey F T t6
  exact A.Wr (Wh F T kh j9 Dz qI pL) fun ns hl=>by first|exact Mr.rP ns|exact Mr.rP ns hl
end Jj
open PySem PySem.W PyProof.Rows
set_option maxRecDepth 100000 in
set_option maxHeartbeats 0 in
theorem PySem.Challenge.cw_arrowfind_k40_reasons_walked_holds : PySem.Challenge.rw_arrowfind_k40_reasons_walked.Holds := by
 w_on;o_law;k_head;(case hw=>w_witness2)
 k_fill
 refine Jj.walk (l:=PySem.Challenge.rw_arrowfind_k40_reasons_walked) rfl rfl (fun w h Y=>PySem.W.km_in_of Y) ?L ?K ⟨_,rfl⟩ ?H ?F
 case L =>
  intro w
  kernel_rfl
 case K =>
  intro w
  kernel_rfl
 case H =>
  intro w
  kernel_rfl
 case F =>
  intro w mg fa h KX G hmg
  refine' Jj.Xe hmg ?T ?lK ?zB ?zy ?Bo ?mQ ?uW ?wC ?sG ?zx ?wG ?uT ?uV ?uU ?uR ?GJ ?Bp ?Bq ?Kp ?GF ?GD ?Br ?wF ?GP ?Ko ?GK ?zA ?zz ?Vp
  case T =>
   refine' Jj.Vs KX G ?Bx ?uY ?Bw ?Bv ?uX ?xr ?kW ?BK ?BJ ?xu ?Bt ?By ?Bs ?lY ?sH ?oG ?Bu
   (case Bx=>k_is)
   (case uY=>k_is)
   (case Bw=>k_is)
   (case Bv=>k_is)
   (case uX=>k_is)
   (case xr=>k_is)
   (case kW=>k_is)
   (case BK=>k_is)
   (case BJ=>k_is)
   (case xu=>k_is)
   (case Bt=>k_is)
   (case By=>k_is)
   (case Bs=>k_is)
   (case lY=>k_is)
   (case sH=>k_is)
   (case oG=>k_is)
   (case Bu=>k_is)
  case mQ =>
   refine' L2.Tv (c:=Jj.cN) KX G (fun _ _ _ _ _ _ us hl=>match us,hl with|[_,_],_=>rfl) ?a ?l ?c ?k
   (case a=>k_is);(case l=>k_is);(case c=>k_is);(case k=>k_is)
  all_goals
   first
    | (refine' L2.vC KX G (fun _ _ _ _ _ _ us hl=>match us,hl with|[_],_=>rfl) ?a ?l ?c ?k;(case a=>k_is);(case l=>k_is);(case c=>k_is);(case k=>k_is))
    | (refine' L2.vC KX G (fun _ _ _ _ _ _ us hl=>match us,hl with|[_,_],_=>rfl) ?a ?l ?c ?k;(case a=>k_is);(case l=>k_is);(case c=>k_is);(case k=>k_is))
    | (refine' L2.vC KX G (fun _ _ _ _ _ _ us hl=>match us,hl with|[_,_,_],_=>rfl) ?a ?l ?c ?k;(case a=>k_is);(case l=>k_is);(case c=>k_is);(case k=>k_is))
    | (refine' L2.vC KX G (fun _ _ _ _ _ _ us hl=>match us,hl with|[_,_,_,_],_=>rfl) ?a ?l ?c ?k;(case a=>k_is);(case l=>k_is);(case c=>k_is);(case k=>k_is))
    | (refine' L2.vC KX G (fun _ _ _ _ _ _ us hl=>match us,hl with|[_,_,_,_,_],_=>rfl) ?a ?l ?c ?k;(case a=>k_is);(case l=>k_is);(case c=>k_is);(case k=>k_is))
    | (refine' L2.vC KX G (fun _ _ _ _ _ _ us hl=>match us,hl with|[_,_,_,_,_,_],_=>rfl) ?a ?l ?c ?k;(case a=>k_is);(case l=>k_is);(case c=>k_is);(case k=>k_is))
